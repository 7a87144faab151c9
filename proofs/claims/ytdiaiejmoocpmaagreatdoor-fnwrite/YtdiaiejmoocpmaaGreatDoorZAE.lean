import Derived.Test.YtdiaiejmoocpmaaGreatDoorZAD
import Derived.Laws.CopyRow
import Derived.Laws.CopyOwn
import Derived.Deep.RegionLaw
set_option maxRecDepth 100000
set_option maxHeartbeats 4000000
namespace Go.Proofs.YtdiaiejmoocpmaaGreatDoor
open Go.RowKit
theorem ybaa{zs:List Int}{n:Int}{k:Nat}(hk:k<zs.length)(h:n=zs[k]):zey zs n=true:=by
 unfold zey;rw[List.contains_eq_any_beq,List.any_eq_true];exact⟨zs[k],List.getElem_mem _,by rw[h];simp⟩
theorem zzm(v:Value)(zs:List Int)(n:Int)(w:World)(h:RdI w v zs)(hn:zs.length<=1048576) :
  zC 178 #[v,.I n] w fun e w'=>∃ r:Int,e=.returned (.I r)/\(decide (0<=r)=zey zs n)/\w'=w:=by
 obtain⟨aZ,cZ,rfl,_,hcZ⟩:=h.shape;have HZ:=zaa hcZ;clear h hcZ;go_enter Tryz.func178,Tryz.ntmps178;go_wp2
 go_loop [5,8] (fun _ i=>∃ k:Nat,k<=zs.length/\i=.I k/\Hid (∀ j (h:j<zs.length),j<k->¬ zs[j]=n)) (fun _ i=>zs.length-(intOf i).toNat)
 case atStart=>exact⟨0,by omega,rfl,fun j h a=>absurd a (by omega)⟩
 case round =>
  obtain⟨k,hk,rfl,H⟩:=hrel
  by_cases hlt:k<zs.length
  ·obtain⟨b,o,rfl,hbl,hcell⟩:=HZ.o (by omega);have hck:=hcell k hlt;clear hcell
   by_cases q:n=zs[k]
   ·have q':(n == zs[k])=true:=by rw[beq_iff_eq];exact q
    have E:=zaa (ybaa hlt q);clear q H;generalize zs[k]=z at *;go_wp2;go_ret;exact⟨_,rfl,by rw[E.o];exact decide_eq_true (by omega),rfl⟩
   ·have q':(n == zs[k])=false:=by rw[beq_eq_false_iff_ne];exact q
    have H':Hid (∀ j (h:j<zs.length),j<k+1->¬ zs[j]=n):=fun j h a=>by
     by_cases e:j=k
     ·subst e;exact fun e=>q e.symm
     ·exact H.o j h (by omega)
    clear q H;generalize zs[k]=z at hck q';go_wp2
    go_round
    case rel=>exact⟨k+1,by omega,by go_num,H'⟩
    case measure=>simp[intOf];omega
  ·have E:=zaa (yako (fun j h=>H.o j h (by omega)));clear H;go_wp2;go_ret;exact⟨_,rfl,by rw[E.o];rfl,rfl⟩
theorem zgn(v:Value)(zs:List Int)(n:Int)(w:World)(h:RdI w v zs)(hn:zs.length<=1048576) :
  zC 147 #[v,.I n] w fun e w'=>e=.returned (.bool (zey zs n))/\w'=w:=by
 have HZ:=zaa h;obtain⟨aZ,cZ,rfl,_,_⟩:=h.shape;clear h;go_enter Tryz.func147,Tryz.ntmps147;go_wp2_with fail;refine(zzm _ zs n _ HZ.o hn).mono ?_;rintro e w' ⟨r,rfl,hr,hw'⟩;subst w';have R:=zaa hr;clear hr;go_wp2;go_ret;exact⟨zag R.o,rfl⟩
theorem Rd.take{w:World}{size:Nat}{ao:Option Addr}{n c:Nat}{xs:List Value}{m:Nat}(h:Rd w size (.slice ao n c) n xs)(hm:m<=n):Rd w size (.slice ao m c) m (xs.take (m*size)):=by
 obtain⟨h1,ao',cap,e,h2,h3⟩:=h
 cases e
 have hms:m*size<=n*size:=Nat.mul_le_mul_right _ hm;refine⟨by rw[List.length_take,h1];omega,ao,c,rfl,⟨by omega,h2.2⟩,fun hp=>?_⟩;obtain⟨b,o,e1,e2,e3⟩:=h3 (by omega);exact⟨b,o,e1,e2,fun j hj=>by rw[e3 j (by omega),List.getElem?_take,if_pos hj]⟩
theorem RdI.take{w:World}{ao:Option Addr}{c:Nat}{zs:List Int}{m:Nat}(h:RdI w (.slice ao zs.length c) zs)(hm:m<=zs.length):RdI w (.slice ao m c) (zs.take m):=by
 have:=Rd.take h hm;unfold RdI
 have e:(zs.take m).length=m:=by rw[List.length_take];omega
 have e2:zcl (zs.take m)=(zcl zs).take (m*1):=by rw[Nat.mul_one];simp[zcl,List.map_take]
 rw[e,e2];exact this
def zgr(zs:List Int):Bool:=decide (∀ k (h:k<zs.length),zey (zs.take k) zs[k]=false)
theorem yaed{zs:List Int}(h:∀ k (h:k<zs.length),zey (zs.take k) zs[k]=false):zgr zs=true:=decide_eq_true h
theorem yaah{zs:List Int}{k:Nat}(hk:k<zs.length)(h:zey (zs.take k) zs[k]=true):zgr zs=false:=decide_eq_false (fun x=>by have:=x k hk;rw[h]at this;cases this)
theorem zpi(v:Value)(zs:List Int)(w:World)(h:RdI w v zs)(hn:zs.length<=1048576) :
  zC 144 #[v] w fun e w'=>e=.returned (.bool (zgr zs))/\w'=w:=by
 have HR:=zaa h;obtain⟨aZ,cZ,rfl,hcap,hcZ⟩:=h.shape;have HZ:=zaa hcZ;clear h hcZ;go_enter Tryz.func144,Tryz.ntmps144;go_wp2
 go_loop [3,4,7] (fun _ _ i=>∃ k:Nat,k<=zs.length/\i=.I k/\Hid (∀ j (h:j<zs.length),j<k->zey (zs.take j) zs[j]=false)) (fun _ _ i=>zs.length-(intOf i).toNat)
 case atStart=>exact⟨0,by omega,rfl,fun j h a=>absurd a (by omega)⟩
 case round =>
  obtain⟨k,hk,rfl,H⟩:=hrel
  by_cases hlt:k<zs.length
  ·obtain⟨b,o,rfl,hbl,hcell⟩:=HZ.o (by omega);have hck:=hcell k hlt;have RT:=zaa (RdI.take HR.o hk);have LT:=zaa (show(zs.take k).length<=1048576 by rw[List.length_take];omega);clear hcell
   cases q:zey (zs.take k) zs[k] with
   | false =>
    have H':Hid (∀ j (h:j<zs.length),j<k+1->zey (zs.take j) zs[j]=false):=fun j h a=>by
     by_cases e:j=k
     ·subst e;exact q
     ·exact H.o j h (by omega)
    have Q:=zaa q;clear q H;generalize zs[k]=z at hck Q;go_wp2_with (go_at_call 147;refine(zgn _ (zs.take k) z _ RT.o LT.o).mono ?_;rw[Q.o];rintro e w' ⟨rfl,rfl⟩)
    go_round
    case rel=>exact⟨k+1,by omega,by go_num,H'⟩
    case measure=>simp[intOf];omega
   | true =>
    have E:=zaa (yaah hlt q);have Q:=zaa q;clear q H;generalize zs[k]=z at hck Q;go_wp2_with (go_at_call 147;refine(zgn _ (zs.take k) z _ RT.o LT.o).mono ?_;rw[Q.o];rintro e w' ⟨rfl,rfl⟩);go_ret;exact⟨zag E.o.symm,rfl⟩
  ·have E:=zaa (yaed (fun j h=>H.o j h (by omega)));clear H;go_wp2;go_ret;exact⟨zag E.o.symm,rfl⟩
theorem eq8(a0 a1 a2 a3 a4 a5 a6 a7 b0 b1 b2 b3 b4 b5 b6 b7:Int)(w:World):(Op.equalIn 9999 57 (.agg #[.I a0,.I a1,.I a2,.I a3,.I a4,.I a5,.I a6,.I a7]) (.agg #[.I b0,.I b1,.I b2,.I b3,.I b4,.I b5,.I b6,.I b7])).run Tryz.prog w=.ok (decide ([a0,a1,a2,a3,a4,a5,a6,a7]=[b0,b1,b2,b3,b4,b5,b6,b7])) w:=by
 have U3:=Tryz.underlying3;have A3:=Tryz.isAgg3;have Z3:=Tryz.sizeOf3;rw[show(9999:Nat)=9998+1 from rfl,Op.equalIn];simp only[Sem.run_bind,run_underlying Tryz.underlying57,Result.andThen_ok];simp only[Std.Legacy.Range.forIn_eq_forIn_range',Std.Legacy.Range.size,Nat.sub_zero,Nat.add_sub_cancel,Nat.div_one,List.range'_succ,List.range'_zero,List.forIn_cons,List.forIn_nil];go_simp
 by_cases h0:a0=b0
 case neg=>simp[h0]
 by_cases h1:a1=b1
 case neg=>simp[h0,h1]
 by_cases h2:a2=b2
 case neg=>simp[h0,h1,h2]
 by_cases h3:a3=b3
 case neg=>simp[h0,h1,h2,h3]
 by_cases h4:a4=b4
 case neg=>simp[h0,h1,h2,h3,h4]
 by_cases h5:a5=b5
 case neg=>simp[h0,h1,h2,h3,h4,h5]
 by_cases h6:a6=b6
 case neg=>simp[h0,h1,h2,h3,h4,h5,h6]
 by_cases h7:a7=b7
 case neg=>simp[h0,h1,h2,h3,h4,h5,h6,h7]
 simp[h0,h1,h2,h3,h4,h5,h6,h7]
def zyl(xs ys:List Int):Bool:=decide (xs=ys)
theorem yang{xs ys:List Int}(h:xs=ys):zyl xs ys=true:=decide_eq_true h
theorem yaki{xs ys:List Int}(h:¬ xs=ys):zyl xs ys=false:=decide_eq_false h
@[go_sem ↓] theorem ybcx(k s l a0 a1 a2 a3 a4 a5 a6 a7 k' s' l' b0 b1 b2 b3 b4 b5 b6 b7:Int)(w:World):(Op.equalIn 10000 59 (.agg #[.I k,.I s,.I l,.I a0,.I a1,.I a2,.I a3,.I a4,.I a5,.I a6,.I a7]) (.agg #[.I k',.I s',.I l',.I b0,.I b1,.I b2,.I b3,.I b4,.I b5,.I b6,.I b7])).run Tryz.prog w=.ok (zyl [k,s,l,a0,a1,a2,a3,a4,a5,a6,a7] [k',s',l',b0,b1,b2,b3,b4,b5,b6,b7]) w:=by
 have e8:=eq8 a0 a1 a2 a3 a4 a5 a6 a7 b0 b1 b2 b3 b4 b5 b6 b7 w;unfold zyl
 by_cases g0:k=k'
 case neg=>go_simp
 by_cases g1:s=s'
 case neg=>go_simp
 by_cases g2:l=l'
 case neg=>go_simp
 subst g0 g1 g2;go_simp
 split
 ·rename_i h;rw[h]
 ·rename_i h;rw[Bool.not_eq_false]at h;rw[h]
theorem yadi(x:Ino)(w:World)(hT:TS w)(hE:ED w)(hr:x.R):zC 172 #[x.v] w fun e w'=>e=.returned (.bool (zer x))/\zB w w':=by
 have hv:x.v=.agg x.cs.toArray:=rfl;have BW:Hid (zB w (w.alloc (.cells x.cs.toArray 59))):=zR.alloc zL _
 have CA:Hid (∀ j,(w.alloc (.cells x.cs.toArray 59)).cell? ⟨w.heap.size,j,none⟩=x.cs[j]?):=fun j=>(zak (xs:=x.cs) (zaf rfl) j).1
 have T:Hid (TS (w.alloc (.cells x.cs.toArray 59))):=hT.below BW.o;obtain⟨d0,d1,d2,d3,d4,d5,d6,d7,d8,d9,d10⟩:=ED.cells (hE.below BW.o);obtain⟨p0,p1,p2,p3,p4,p5,p6,p7,p8,p9,p10⟩:=Ino.all CA.o;have LF:=zaa (fun w1 (h:TS w1)=>yaht x w1 h hr);rw[hv];clear hT hE hr CA
 by_cases h0:x.ns=[0,0,0,0,0,0,0,0,0,0,0]
 ·have E:=zaa (yaoh h0);have q1:zyl [x.kind,x.size,x.links,x.m0,x.m1,x.m2,x.m3,x.m4,x.m5,x.m6,x.m7] [0,0,0,0,0,0,0,0,0,0,0]=true:=yang h0;clear h0;go_enter Tryz.func172,Tryz.ntmps172;go_wp2;go_ret;exact⟨zag E.o.symm,BW.o⟩
 have q1:zyl [x.kind,x.size,x.links,x.m0,x.m1,x.m2,x.m3,x.m4,x.m5,x.m6,x.m7] [0,0,0,0,0,0,0,0,0,0,0]=false:=yaki h0
 by_cases h1:x.ns=[2,0,1,0,0,0,0,0,0,0,0]
 ·have E:=zaa (yayr h1);have q2:zyl [x.kind,x.size,x.links,x.m0,x.m1,x.m2,x.m3,x.m4,x.m5,x.m6,x.m7] [2,0,1,0,0,0,0,0,0,0,0]=true:=yang h1;clear h0 h1;go_enter Tryz.func172,Tryz.ntmps172;go_wp2;go_ret;exact⟨zag E.o.symm,BW.o⟩
 have q2:zyl [x.kind,x.size,x.links,x.m0,x.m1,x.m2,x.m3,x.m4,x.m5,x.m6,x.m7] [2,0,1,0,0,0,0,0,0,0,0]=false:=yaki h1;have E:=zaa (yarq h0 h1);clear h0 h1;go_enter Tryz.func172,Tryz.ntmps172;go_wp2_with fail;refine(LF.o _ T.o).mono ?_;rw[E.o];rintro e w1 ⟨rfl,hb1⟩;have B1:=zaa (zab BW.o hb1 BW.o.size);clear hb1;go_wp2;go_ret;exact⟨rfl,B1.o⟩
def FD(w:World):Prop:=∃ t fr,w.heap[3]?=some (.cells #[.I 0,.string ⟨#[]⟩,.I (-1)] t fr)
theorem FD.lt{w:World}(h:FD w):3<w.heap.size:=by
 obtain⟨t,fr,h⟩:=h;exact(Array.getElem?_eq_some_iff.1 h).1
theorem FD.below{w w':World}(h:FD w)(hb:zB w w'):FD w':=by
 have hl:=h.lt;obtain⟨t,fr,h⟩:=h;exact⟨t,fr,(hb.block _ hl).trans h⟩
theorem FD.cells{w:World}(h:FD w):w.cell? ⟨3,0,none⟩=some (.I 0)/\w.cell? ⟨3,1,none⟩=some (.string ⟨#[]⟩)/\w.cell? ⟨3,2,none⟩=some (.I (-1)):=by
 obtain⟨t,fr,h⟩:=h;simp[World.cell?,h]
def zoy(a:Int)(s:ByteArray)(c a':Int)(s':ByteArray)(c':Int):Bool:=(a == a')&&((s.toList == s'.toList)&&(c == c'))
@[go_sem ↓] theorem ybcv(a:Int)(s:ByteArray)(c a':Int)(s':ByteArray)(c':Int)(w:World):(Op.equalIn 10000 158 (.agg #[.I a,.string s,.I c]) (.agg #[.I a',.string s',.I c'])).run Tryz.prog w=.ok (zoy a s c a' s' c') w:=by
 unfold zoy
 cases g0:(a == a')
 ·go_simp
 cases g1:(s.toList == s'.toList)
 ·go_simp
 cases g2:(c == c')
 ·go_simp
 ·go_simp
theorem yacg:(⟨#[]⟩:ByteArray).toList=[]:=(yakw _).2 rfl
theorem zus(x:Den):zoy x.dir x.name x.child 0 ⟨#[]⟩ (-1)=x.freeB:=by
 unfold zoy Den.freeB
 congr 2
 rw[yacg,Bool.eq_iff_iff,beq_iff_eq,beq_iff_eq];exact yakw x.name
theorem Den.okB_free{x:Den}(h:x.freeB=true):x.okB=true:=by unfold Den.okB;rw[h];rfl
theorem Den.okB_not{x:Den}(h:x.freeB=false):x.okB=(decide (1<=x.child/\x.child<=15)&&(decide (0<=x.dir/\x.dir<=15)&&nmB x.name)):=by unfold Den.okB;rw[h,Bool.false_or]
theorem yahq(s:ByteArray):(ztc s == 0)=nmB s:=by
 unfold ztc
 cases h:nmB s with
 | true =>
  have:=(of_decide_eq_true h:1<=s.size/\s.size<=6/\_)
  rw[if_neg (by omega),if_pos rfl];rfl
 | false =>
  split
  ·rfl
  ·rw[if_neg (by decide)];rfl
theorem zjj(s:ByteArray)(w:World)(hs:s.size<=maxLen):zC 170 #[.string s] w fun e w'=>e=.returned (.bool (nmB s))/\zB w w':=by
 have P:=zaa (yahq s);have LP:=zaa (fun w1=>zox s w1 hs);generalize zob s=pv at *;generalize ztc s=pc at *;clear hs;go_enter Tryz.func170,Tryz.ntmps170;go_wp2_with fail;refine(LP.o _).mono ?_;rintro e w1 ⟨rfl,hb1⟩;go_wp2;go_ret;exact⟨zag P.o,hb1⟩
theorem zyh(x:Den)(w:World)(hF:FD w)(hs:x.name.size<=maxLen):zC 174 #[x.v] w fun e w'=>e=.returned (.bool x.okB)/\zB w w':=by
 have LN:=zaa (fun w1=>zjj x.name w1 hs);have DF:=zus x;have OF:=@Den.okB_free x;have ON:=@Den.okB_not x;obtain⟨d,s,c⟩:=x;simp only at LN DF ON hs;unfold Den.v;simp only;have BW:=zaa ((Below.refl w.heap.size w).alloc zL (.cells #[.I d,.string s,.I c] 158))
 have CB:Hid (∀ w',Below (w.alloc (.cells #[.I d,.string s,.I c] 158)).heap.size (w.alloc (.cells #[.I d,.string s,.I c] 158)) w'->w'.cell? ⟨w.heap.size,0,none⟩=some (.I d)/\w'.cell? ⟨w.heap.size,1,none⟩=some (.string s)/\w'.cell? ⟨w.heap.size,2,none⟩=some (.I c)):=fun w' hb=>zay ((hb.block _ (by simp)).trans (zaf rfl))
 obtain⟨x0,x1,x2⟩:=CB.o _ zR;obtain⟨f0,f1,f2⟩:=FD.cells (hF.below BW.o);clear hF hs
 cases h0:(Den.mk d s c).freeB with
 | true =>
  rw[h0]at DF;have E:=zaa (OF h0);clear OF ON LN CB h0;go_enter Tryz.func174,Tryz.ntmps174;go_wp2;go_ret;exact⟨zag E.o.symm,BW.o⟩
 | false =>
  rw[h0]at DF;have E:=zaa (ON h0);clear OF ON h0
  cases h1:nmB s with
  | false =>
   rw[h1]at E;have N1:=zaa h1;clear h1 CB;go_enter Tryz.func174,Tryz.ntmps174;go_wp2_with fail;refine(LN.o _).mono ?_;rw[N1.o];rintro e w1 ⟨rfl,hb1⟩;have B1:=zaa (zab BW.o hb1 BW.o.size);clear hb1 x0 x1 x2 f0 f1 f2;go_wp2;go_ret;exact⟨zag (by rw[E.o,Bool.and_false,Bool.and_false]),B1.o⟩
  | true =>
   rw[h1]at E;have N1:=zaa h1;clear h1
   by_cases h2:0<=d/\d<16
   case neg =>
    have E2:=zaa (show(Den.mk d s c).okB=false by rw[E.o,decide_eq_false (show ¬ (0<=d/\d<=15) by omega),Bool.false_and,Bool.and_false]);have H2:=zaa h2;clear h2 E;go_enter Tryz.func174,Tryz.ntmps174;go_wp2_with fail;refine(LN.o _).mono ?_;rw[N1.o];rintro e w1 ⟨rfl,hb1⟩;have B1:=zaa (zab BW.o hb1 BW.o.size);clear x0 x1 x2 f0 f1 f2;obtain⟨x0,x1,x2⟩:=CB.o _ hb1;clear hb1 CB;go_wp2_with fail;refine(zbe _ _ _ H2.o).mono ?_;rintro e w' ⟨rfl,hw'⟩;subst w';go_wp2;go_ret;exact⟨zag E2.o.symm,B1.o⟩
   by_cases h3:0<=c/\c<16
   case neg =>
    have E2:=zaa (show(Den.mk d s c).okB=false by rw[E.o,decide_eq_false (show ¬ (1<=c/\c<=15) by omega),Bool.false_and]);have H2:=zaa h2;have H3:=zaa h3;clear h2 h3 E;go_enter Tryz.func174,Tryz.ntmps174;go_wp2_with fail;refine(LN.o _).mono ?_;rw[N1.o];rintro e w1 ⟨rfl,hb1⟩;have B1:=zaa (zab BW.o hb1 BW.o.size);clear x0 x1 x2 f0 f1 f2;obtain⟨x0,x1,x2⟩:=CB.o _ hb1;clear hb1 CB;go_wp2_with fail;refine(zaq _ _ _ H2.o).mono ?_;rintro e w' ⟨rfl,hw'⟩;subst w';go_wp2_with fail;refine(zbe _ _ _ H3.o).mono ?_;rintro e w' ⟨rfl,hw'⟩;subst w';go_wp2;go_ret;exact⟨zag E2.o.symm,B1.o⟩
   have E2:=zaa (show(Den.mk d s c).okB=(c != 0) by
    rw[E.o,decide_eq_true (show 0<=d/\d<=15 by omega)]
    by_cases h:c=0
    ·rw[h];rfl
    ·rw[decide_eq_true (show 1<=c/\c<=15 by omega),eq_comm];simpa using h)
   have H2:=zaa h2;have H3:=zaa h3;clear h2 h3 E;go_enter Tryz.func174,Tryz.ntmps174;go_wp2_with fail;refine(LN.o _).mono ?_;rw[N1.o];rintro e w1 ⟨rfl,hb1⟩;have B1:=zaa (zab BW.o hb1 BW.o.size);clear x0 x1 x2 f0 f1 f2;obtain⟨x0,x1,x2⟩:=CB.o _ hb1;clear hb1 CB;go_wp2_with fail;refine(zaq _ _ _ H2.o).mono ?_;rintro e w' ⟨rfl,hw'⟩;subst w';go_wp2_with fail;refine(zaq _ _ _ H3.o).mono ?_;rintro e w' ⟨rfl,hw'⟩;subst w';go_wp2;go_ret;exact⟨zag E2.o.symm,B1.o⟩
theorem yaxi{s:ByteArray}(h:s.size=0):pk s s.size=0:=by
 rw[h];rfl
structure InI(W w:World)(vL:Value)(zs:List Int):Prop where
 l:w.ownsRow W.heap.size 3 1 vL zs.length (zcl zs)
 b:zB W w
theorem InI.z{W w:World}{vL:Value}{zs:List Int}(h:InI W w vL zs):W.heap.size<=w.heap.size:=h.b.size
theorem InI.below{W w w':World}{vL:Value}{zs:List Int}(h:InI W w vL zs)(hb:zB w w'):InI W w' vL zs :=
 ⟨((zad h.l).below hb zL).1,zab h.b hb h.z⟩
theorem InI.grow{W w w':World}{vL v':Value}{zs:List Int}(h:InI W w vL zs)(x:Int)(ho:w'.ownsRow W.heap.size 3 1 v' (zs.length+1) (zcl zs++[.I x]))(hg:w.grownBy w' vL.ownBlock):InI W w' v' (zs++[x]) :=
 ⟨by rw[yaon,List.length_append];exact ho,h.b.grown hg h.z (fun q hq=>(h.l.lt q hq).1)⟩
theorem zsg(x:Int):∀ u∈[Value.I x],u.oneCell'=true:=by
 intro u hu;rw[List.mem_singleton.1 hu];rfl
def zea(zs:List Int):List Int:=zs.filter fun z=>z != 0
def zao(ws:List Ino):List Int:=ws.flatMap fun x=>zea x.map
def zxh(ws:List Ino)(k:Nat)(j:Nat):List Int:=zao (ws.take k)++zea (((ws[k]?).map Ino.map).getD [] |>.take j)
theorem zxz(ws:List Ino)(k:Nat):zxh ws k 0=zao (ws.take k):=by simp[zxh,zea]
theorem yaab{ws:List Ino}{k:Nat}(hk:k<ws.length){j:Nat}(hj:j<8):zxh ws k (j+1)=if ws[k].map.getD j 0=0 then zxh ws k j else zxh ws k j++[ws[k].map.getD j 0]:=by
 have hl:j<ws[k].map.length:=hj
 have e:ws[k].map.getD j 0=ws[k].map[j]:=by rw[List.getD_eq_getElem?_getD,List.getElem?_eq_getElem hl];rfl
 unfold zxh zea;rw[List.getElem?_eq_getElem hk];simp only[Option.map_some,Option.getD_some];rw[List.take_succ_eq_append_getElem hl,List.filter_append,e]
 by_cases h:ws[k].map[j]=0
 ·rw[if_pos h,h];simp
 ·rw[if_neg h];simp[h]
theorem yaaj{ws:List Ino}{k:Nat}(hk:k<ws.length):zxh ws k 8=zao (ws.take (k+1)):=by
 unfold zxh zao;rw[List.getElem?_eq_getElem hk,List.take_succ_eq_append_getElem hk,List.flatMap_append];simp[Ino.map]
theorem zzb(zs:List Int):(zea zs).length<=zs.length:=List.length_filter_le _ _
theorem zgd(ws:List Ino):(zao ws).length<=8*ws.length:=by
 induction ws with
 | nil=>simp[zao]
 | cons x ws ih =>
  have h1:=zzb x.map;have h2:x.map.length=8:=rfl;unfold zao at *;rw[List.flatMap_cons,List.length_append,List.length_cons];omega
theorem yaeq(ws:List Ino)(k j:Nat)(hk:k<ws.length)(hj:j<=8):(zxh ws k j).length<=8*ws.length:=by
 have h1:=zgd (ws.take k);have h2:=zzb (((ws[k]?).map Ino.map).getD [] |>.take j)
 have h3:(((ws[k]?).map Ino.map).getD [] |>.take j).length<=j:=by rw[List.length_take];omega
 unfold zxh;rw[List.length_append];rw[List.length_take]at h1;omega
theorem idx8(x:Ino)(j:Nat)(hj:j<8)(w:World):(Instr.index 57 (.agg #[.I x.m0,.I x.m1,.I x.m2,.I x.m3,.I x.m4,.I x.m5,.I x.m6,.I x.m7]) (.I (j:Int))).run Tryz.prog w=.ok (.I (x.map.getD j 0)) w:=by
 rcases(show j=0\/j=1\/j=2\/j=3\/j=4\/j=5\/j=6\/j=7 by omega)with rfl|rfl|rfl|rfl|rfl|rfl|rfl|rfl<;>simp[Instr.index,run_underlying Tryz.underlying57,asIntOf,Ino.map,go_sem]
theorem zhf(v:Value)(ws:List Ino)(w:World)(h:RdN w v ws)(hn:ws.length<=4096) :
  zC 145 #[v] w fun e w'=>∃ v',e=.returned v'/\Row w' 3 1 w.heap.size w'.heap.size v' (zao ws).length (zcl (zao ws))/\zB w w':=by
 obtain⟨aW,cW,rfl,_,hcW⟩:=h.shape;have HW:=zaa hcW;clear h hcW;go_enter Tryz.func145,Tryz.ntmps145;go_wp2
 go_loopw [3,5,7,10] (fun vL _ _ i wr=>∃ k:Nat,k<=ws.length/\i=.I k/\Hid (InI w wr vL (zao (ws.take k)))/\w.heap.size<=wr.heap.size) (fun _ _ _ i _=>ws.length-(intOf i).toNat)
 case atStart=>exact⟨0,by omega,rfl,⟨World.ownsRow_nil _ _ _ _,zR⟩,Nat.le_refl _⟩
 case round =>
  obtain⟨k,hk,rfl,I,hz⟩:=hrel
  by_cases hlt:k<ws.length
  ·obtain⟨b,o,rfl,hbl,hcell⟩:=HW.o (by omega);obtain⟨a0,a1,a2,a3,a4,a5,a6,a7,a8,a9,a10⟩:=hcell k hlt;have d0:=(I.o.b.cell (p:=⟨b,o+k*11,none⟩) hbl).trans a0;have d1:=(I.o.b.cell (p:=⟨b,o+k*11+1,none⟩) hbl).trans a1;have d2:=(I.o.b.cell (p:=⟨b,o+k*11+2,none⟩) hbl).trans a2;have d3:=(I.o.b.cell (p:=⟨b,o+k*11+3,none⟩) hbl).trans a3;have d4:=(I.o.b.cell (p:=⟨b,o+k*11+4,none⟩) hbl).trans a4;have d5:=(I.o.b.cell (p:=⟨b,o+k*11+5,none⟩) hbl).trans a5;have d6:=(I.o.b.cell (p:=⟨b,o+k*11+6,none⟩) hbl).trans a6;have d7:=(I.o.b.cell (p:=⟨b,o+k*11+7,none⟩) hbl).trans a7;have d8:=(I.o.b.cell (p:=⟨b,o+k*11+8,none⟩) hbl).trans a8;have d9:=(I.o.b.cell (p:=⟨b,o+k*11+9,none⟩) hbl).trans a9;have d10:=(I.o.b.cell (p:=⟨b,o+k*11+10,none⟩) hbl).trans a10
   have k0:(0:Int)<=(k:Int):=by omega
   have k1:(k:Int)<(ws.length:Int):=by omega
   have MZ:=zaa (zxz ws k);have MF:=zaa (yaaj hlt);have MS:=zaa (fun j (hj:j<8)=>yaab hlt hj);have ML:=zaa (fun j (hj:j<=8)=>yaeq ws k j hlt hj);have HM:=zaa (fun j (hj:j<8)=>ws[k].at j hj);clear a0 a1 a2 a3 a4 a5 a6 a7 a8 a9 a10 hcell;generalize ws[k]=x at *
   have START:Hid (InI w (wr.alloc (.cells x.cs.toArray 59)) u3 (zxh ws k 0)):=by
    have:=I.o.below ((Below.refl wr.heap.size wr).alloc zL (.cells x.cs.toArray 59));unfold Hid;rw[MZ.o];exact this
   unfold Ino.cs at START;have hz0:=START.o.z;clear I;go_wp2
   go_loopw [3,7,16] (fun vL _ i wq=>∃ j:Nat,j<=8/\i=.I j/\Hid (InI w wq vL (zxh ws k j))/\w.heap.size<=wq.heap.size) (fun _ _ i _=>8-(intOf i).toNat)
   case atStart=>exact⟨0,by omega,rfl,START,hz0⟩
   case round =>
    obtain⟨j,hj,rfl,J,hzj⟩:=hrel;clear START hz0 d0 d1 d2 d3 d4 d5 d6 d7 d8 d9 d10
    have j0:(0:Int)<=(j:Int):=by omega
    by_cases hlj:j<8
    ·have j1:(j:Int)<8:=by omega
     have ix:=idx8 x j hlj;have MJ:=zaa (MS.o j hlj);have hlen:=ML.o j (by omega);generalize x.map.getD j 0=z at ix MJ
     by_cases q:z=0
     ·have q':(z != 0)=false:=by rw[q];rfl
      have G:Hid (InI w wr u3 (zxh ws k (j+1))):=by unfold Hid;rw[MJ.o,if_pos q];exact J.o
      clear q J MJ;go_wp2
      go_roundw
      case rel=>exact⟨j+1,by omega,by go_num,G,hzj⟩
      case measure=>simp[intOf];omega
     ·have q':(z != 0)=true:=by rw[bne_iff_ne];exact q
      have JB:Hid (InI w (wr.alloc (.cells #[.I z] 3)) u3 (zxh ws k j)):=J.o.below (zR.alloc zL _);have RB:=zaa (zxv wr z);have hzb:=JB.o.z
      have MN:Hid (zxh ws k (j+1)=zxh ws k j++[z]):=by unfold Hid;rw[MJ.o,if_neg q]
      clear q J MJ;go_wp2_with (at_builtin;refine zae _ rfl (.tmp 21) (.tmp 23) 23 rfl w.heap.size 3 (.I 0) 1 8 Tryz.underlying23 zim rfl (by decide) _ _ _ rfl JB.o.l _ 1 _ rfl RB.o (zsg _) (by simp[maxLen];omega) (by omega) (by omega) ?_);intro vN wN hownN hgrN;have G:=zaa (JB.o.grow z hownN hgrN);rw[<- MN.o]at G;have hzN:=G.o.z;clear hownN hgrN JB RB;go_wp2
      go_roundw
      case rel=>exact⟨j+1,by omega,by go_num,G,hzN⟩
      case measure=>simp[intOf];omega
    ·obtain rfl:j=8:=by omega
     have G:Hid (InI w wr u3 (zao (ws.take (k+1)))):=by unfold Hid;rw[<- MF.o];exact J.o
     clear J;go_wp2
     go_roundw
     case rel=>exact⟨k+1,by omega,by go_num,G,hzj⟩
     case measure=>simp[intOf];omega
  ·obtain rfl:k=ws.length:=by omega
   have E:=zaa (show zao (ws.take ws.length)=zao ws by rw[List.take_length]);rw[E.o]at I;obtain⟨-,aL,cL,hvL,-⟩:=(zad I.o.l).rd;subst hvL;go_wp2;go_ret;exact⟨_,rfl,zad I.o.l,I.o.b⟩
theorem yaew(w1:World)(x:Den):Rd (w1.alloc (.cells #[.I x.dir,.string x.name,.I x.child] 158)) 3 (.slice (some ⟨w1.heap.size,0,none⟩) 1 1) 1 (dens [x]):=by
 refine⟨rfl,_,_,rfl,⟨Nat.le_refl _,fun e=>by cases e⟩,fun _=>⟨w1.heap.size,0,rfl,by simp,fun j hj=>?_⟩⟩;obtain⟨e0,e1,e2⟩:=zay (zaf (w:=w1) (o:=.cells #[.I x.dir,.string x.name,.I x.child] 158) rfl)
 rcases(show j=0\/j=1\/j=2 by omega)with rfl|rfl|rfl
 ·exact e0
 ·exact e1
 ·exact e2
theorem zip(l:List Den):∀ u∈dens l,u.oneCell'=true:=by
 intro u hu;simp only[dens,List.mem_flatMap]at hu;obtain⟨m,_,hm⟩:=hu;simp[Den.cells]at hm
 rcases hm with rfl|rfl|rfl<;>rfl
theorem zmt(l l':List Den):dens (l++l')=dens l++dens l':=by simp[dens]
structure DnI(W w:World)(vL:Value)(ds:List Den):Prop where
 l:w.ownsRow W.heap.size 158 3 vL ds.length (dens ds)
 b:zB W w
theorem DnI.z{W w:World}{vL:Value}{ds:List Den}(h:DnI W w vL ds):W.heap.size<=w.heap.size:=h.b.size
theorem DnI.below{W w w':World}{vL:Value}{ds:List Den}(h:DnI W w vL ds)(hb:zB w w'):DnI W w' vL ds :=
 ⟨((zad h.l).below hb zL).1,zab h.b hb h.z⟩
theorem DnI.grow{W w w':World}{vL v':Value}{ds:List Den}(h:DnI W w vL ds)(ms:List Den)(ho:w'.ownsRow W.heap.size 158 3 v' (ds.length+ms.length) (dens ds++dens ms))(hg:w.grownBy w' vL.ownBlock):DnI W w' v' (ds++ms) :=
 ⟨by rw[zmt,List.length_append];exact ho,h.b.grown hg h.z (fun q hq=>(h.l.lt q hq).1)⟩
def zav(ps:List Den):List Den:=ps.filter fun x=>!x.freeB
theorem yahc{ps:List Den}{k:Nat}(h:k<ps.length):zav (ps.take (k+1))=if ps[k].freeB=true then zav (ps.take k)else zav (ps.take k)++[ps[k]]:=by
 unfold zav;rw[List.take_succ_eq_append_getElem h,List.filter_append]
 cases hf:ps[k].freeB<;>simp[hf]
theorem yaag(ps:List Den):(zav ps).length<=ps.length:=List.length_filter_le _ _
theorem zoz(v:Value)(ps:List Den)(w:World)(h:RdD w v ps)(hn:ps.length<=4096)(hF:FD w) :
  zC 139 #[v] w fun e w'=>∃ v',e=.returned v'/\Row w' 158 3 w.heap.size w'.heap.size v' (zav ps).length (dens (zav ps))/\zB w w':=by
 obtain⟨aP,cP,rfl,_,hcP⟩:=h.shape;have HP:=zaa hcP;have F:=zaa hF;clear h hcP hF;go_enter Tryz.func139,Tryz.ntmps139;go_wp2
 go_loopw [3,5,8] (fun vL _ i wr=>∃ k:Nat,k<=ps.length/\i=.I k/\Hid (DnI w wr vL (zav (ps.take k)))/\w.heap.size<=wr.heap.size) (fun _ _ i _=>ps.length-(intOf i).toNat)
 case atStart=>exact⟨0,by omega,rfl,⟨World.ownsRow_nil _ _ _ _,zR⟩,Nat.le_refl _⟩
 case round =>
  obtain⟨k,hk,rfl,I,hz⟩:=hrel
  by_cases hlt:k<ps.length
  ·obtain⟨b,o,rfl,hbl,hcell⟩:=HP.o (by omega);obtain⟨a0,a1,a2⟩:=hcell k hlt;have d0:=(I.o.b.cell (p:=⟨b,o+k*3,none⟩) hbl).trans a0;have d1:=(I.o.b.cell (p:=⟨b,o+k*3+1,none⟩) hbl).trans a1;have d2:=(I.o.b.cell (p:=⟨b,o+k*3+2,none⟩) hbl).trans a2
   have k0:(0:Int)<=(k:Int):=by omega
   have k1:(k:Int)<(ps.length:Int):=by omega
   have TS:=zaa (yahc hlt);have TL:=yaag (ps.take k);rw[List.length_take]at TL;have DF:=zus ps[k];clear a0 a1 a2 hcell;generalize ps[k]=x at *;have IB:Hid (DnI w (wr.alloc (.cells #[.I x.dir,.string x.name,.I x.child] 158)) u3 (zav (ps.take k))):=I.o.below (zR.alloc zL _);obtain⟨f0,f1,f2⟩:=FD.cells (F.o.below IB.o.b);have hzb:=IB.o.z
   cases hf:x.freeB with
   | true =>
    have G:Hid (DnI w (wr.alloc (.cells #[.I x.dir,.string x.name,.I x.child] 158)) u3 (zav (ps.take (k+1)))):=by unfold Hid;rw[TS.o,if_pos hf];exact IB.o
    rw[hf]at DF;clear IB I TS hf TL;go_wp2
    go_roundw
    case rel=>exact⟨k+1,by omega,by go_num,G,hzb⟩
    case measure=>simp[intOf];omega
   | false =>
    have IC:Hid (DnI w ((wr.alloc (.cells #[.I x.dir,.string x.name,.I x.child] 158)).alloc (.cells #[.I x.dir,.string x.name,.I x.child] 158)) u3 (zav (ps.take k))):=IB.o.below (zR.alloc zL _);have RC:=zaa (yaew (wr.alloc (.cells #[.I x.dir,.string x.name,.I x.child] 158)) x);have hzc:=IC.o.z
    have TN:Hid (zav (ps.take (k+1))=zav (ps.take k)++[x]):=by unfold Hid;rw[TS.o,if_neg (by rw[hf];decide)]
    rw[hf]at DF;rw[World.size_alloc]at RC;clear IB I TS hf;go_wp2_with (at_builtin;refine zae _ rfl (.tmp 15) (.tmp 17) 65 rfl w.heap.size 158 (.agg #[.I 0,.string ⟨#[]⟩,.I 0]) 3 32 Tryz.underlying65 zqj rfl (by decide) _ _ _ rfl IC.o.l _ 1 _ rfl RC.o (zip _) (by simp[maxLen];omega) (by omega) (by omega) ?_);intro vN wN hownN hgrN;have G:=zaa (IC.o.grow [x] hownN hgrN);rw[<- TN.o]at G;have hzN:=G.o.z;clear hownN hgrN IC RC;go_wp2
    go_roundw
    case rel=>exact⟨k+1,by omega,by go_num,G,hzN⟩
    case measure=>simp[intOf];omega
  ·obtain rfl:k=ps.length:=by omega
   have E:=zaa (show zav (ps.take ps.length)=zav ps by rw[List.take_length]);rw[E.o]at I;obtain⟨-,aL,cL,hvL,-⟩:=(zad I.o.l).rd;subst hvL;go_wp2;go_ret;exact⟨_,rfl,zad I.o.l,I.o.b⟩
end Go.Proofs.YtdiaiejmoocpmaaGreatDoor
