import Derived.Test.YtogcbbkhnpmgeaaGreatDoorZAE
import Derived.Deep.RegionLaw
set_option maxRecDepth 100000
set_option maxHeartbeats 4000000
namespace Go.Proofs.YtogcbbkhnpmgeaaGreatDoor
open Go.RowKit
def FD(w:World):Prop:=∃ t fr,w.heap[0]?=some (.cells #[.I 0,.string ⟨#[]⟩,.I (-1)] t fr)
theorem FD.lt{w:World}(h:FD w):0<w.heap.size:=by
 obtain⟨t,fr,h⟩:=h;exact(Array.getElem?_eq_some_iff.1 h).1
theorem FD.below{w w':World}(h:FD w)(hb:zB w w'):FD w':=by
 have hl:=h.lt;obtain⟨t,fr,h⟩:=h;exact⟨t,fr,(hb.block _ hl).trans h⟩
theorem FD.cells{w:World}(h:FD w):w.cell? ⟨0,0,none⟩=some (.I 0)/\w.cell? ⟨0,1,none⟩=some (.string ⟨#[]⟩)/\w.cell? ⟨0,2,none⟩=some (.I (-1)):=by
 obtain⟨t,fr,h⟩:=h;simp[World.cell?,h]
def zlp(a:Int)(s:ByteArray)(c a':Int)(s':ByteArray)(c':Int):Bool:=(a == a')&&((s.toList == s'.toList)&&(c == c'))
@[go_sem ↓] theorem yawm(a:Int)(s:ByteArray)(c a':Int)(s':ByteArray)(c':Int)(w:World):(Op.equalIn 10000 90 (.agg #[.I a,.string s,.I c]) (.agg #[.I a',.string s',.I c'])).run Tryz.prog w=.ok (zlp a s c a' s' c') w:=by
 unfold zlp
 cases g0:(a == a')
 ·go_simp
 cases g1:(s.toList == s'.toList)
 ·go_simp
 cases g2:(c == c')
 ·go_simp
 ·go_simp
theorem zxy:(⟨#[]⟩:ByteArray).toList=[]:=(yaki _).2 rfl
theorem zrn(x:Den):zlp x.dir x.name x.child 0 ⟨#[]⟩ (-1)=x.freeB:=by
 unfold zlp Den.freeB
 congr 2
 rw[zxy,Bool.eq_iff_iff,beq_iff_eq,beq_iff_eq];exact yaki x.name
theorem Den.okB_free{x:Den}(h:x.freeB=true):x.okB=true:=by unfold Den.okB;rw[h];rfl
theorem Den.okB_not{x:Den}(h:x.freeB=false):x.okB=(decide (1<=x.child/\x.child<=15)&&(decide (0<=x.dir/\x.dir<=15)&&nmB x.name)):=by unfold Den.okB;rw[h,Bool.false_or]
theorem yabq(s:ByteArray):(zpc s == 0)=nmB s:=by
 unfold zpc
 cases h:nmB s with
 | true =>
  have:=(of_decide_eq_true h:1<=s.size/\s.size<=6/\_)
  rw[if_neg (by omega),if_pos rfl];rfl
 | false =>
  split
  ·rfl
  ·rw[if_neg (by decide)];rfl
theorem zhd(s:ByteArray)(w:World)(hs:s.size<=maxLen):zC 169 #[.string s] w fun e w'=>e=.returned (.bool (nmB s))/\zB w w':=by
 have P:=zaa (yabq s);have LP:=zaa (fun w1=>zlt s w1 hs);generalize zkp s=pv at *;generalize zpc s=pc at *;clear hs;go_enter Tryz.func169,Tryz.ntmps169;go_wp2_with fail;refine(LP.o _).mono ?_;rintro e w1 ⟨rfl,hb1⟩;go_wp2;go_ret;exact⟨zag P.o,hb1⟩
theorem zun(x:Den)(w:World)(hF:FD w)(hs:x.name.size<=maxLen):zC 115 #[x.v] w fun e w'=>e=.returned (.bool x.okB)/\zB w w':=by
 have LN:=zaa (fun w1=>zhd x.name w1 hs);have DF:=zrn x;have OF:=@Den.okB_free x;have ON:=@Den.okB_not x;obtain⟨d,s,c⟩:=x;simp only at LN DF ON hs;unfold Den.v;simp only;have BW:=zaa ((Below.refl w.heap.size w).alloc zL (.cells #[.I d,.string s,.I c] 90))
 have CB:Hid (∀ w',Below (w.alloc (.cells #[.I d,.string s,.I c] 90)).heap.size (w.alloc (.cells #[.I d,.string s,.I c] 90)) w'->w'.cell? ⟨w.heap.size,0,none⟩=some (.I d)/\w'.cell? ⟨w.heap.size,1,none⟩=some (.string s)/\w'.cell? ⟨w.heap.size,2,none⟩=some (.I c)):=fun w' hb=>zba ((hb.block _ (by simp)).trans (zah rfl))
 obtain⟨x0,x1,x2⟩:=CB.o _ zR;obtain⟨f0,f1,f2⟩:=FD.cells (hF.below BW.o);clear hF hs
 cases h0:(Den.mk d s c).freeB with
 | true =>
  rw[h0]at DF;have E:=zaa (OF h0);clear OF ON LN CB h0;go_enter Tryz.func115,Tryz.ntmps115;go_wp2;go_ret;exact⟨zag E.o.symm,BW.o⟩
 | false =>
  rw[h0]at DF;have E:=zaa (ON h0);clear OF ON h0
  cases h1:nmB s with
  | false =>
   rw[h1]at E;have N1:=zaa h1;clear h1 CB;go_enter Tryz.func115,Tryz.ntmps115;go_wp2_with fail;refine(LN.o _).mono ?_;rw[N1.o];rintro e w1 ⟨rfl,hb1⟩;have B1:=zaa (zab BW.o hb1 BW.o.size);clear hb1 x0 x1 x2 f0 f1 f2;go_wp2;go_ret;exact⟨zag (by rw[E.o,Bool.and_false,Bool.and_false]),B1.o⟩
  | true =>
   rw[h1]at E;have N1:=zaa h1;clear h1
   by_cases h2:0<=d/\d<16
   case neg =>
    have E2:=zaa (show(Den.mk d s c).okB=false by rw[E.o,decide_eq_false (show ¬ (0<=d/\d<=15) by omega),Bool.false_and,Bool.and_false]);have H2:=zaa h2;clear h2 E;go_enter Tryz.func115,Tryz.ntmps115;go_wp2_with fail;refine(LN.o _).mono ?_;rw[N1.o];rintro e w1 ⟨rfl,hb1⟩;have B1:=zaa (zab BW.o hb1 BW.o.size);clear x0 x1 x2 f0 f1 f2;obtain⟨x0,x1,x2⟩:=CB.o _ hb1;clear hb1 CB;go_wp2_with fail;refine(zdm _ _ _ H2.o).mono ?_;rintro e w' ⟨rfl,hw'⟩;subst w';go_wp2;go_ret;exact⟨zag E2.o.symm,B1.o⟩
   by_cases h3:0<=c/\c<16
   case neg =>
    have E2:=zaa (show(Den.mk d s c).okB=false by rw[E.o,decide_eq_false (show ¬ (1<=c/\c<=15) by omega),Bool.false_and]);have H2:=zaa h2;have H3:=zaa h3;clear h2 h3 E;go_enter Tryz.func115,Tryz.ntmps115;go_wp2_with fail;refine(LN.o _).mono ?_;rw[N1.o];rintro e w1 ⟨rfl,hb1⟩;have B1:=zaa (zab BW.o hb1 BW.o.size);clear x0 x1 x2 f0 f1 f2;obtain⟨x0,x1,x2⟩:=CB.o _ hb1;clear hb1 CB;go_wp2_with fail;refine(zbw _ _ _ H2.o).mono ?_;rintro e w' ⟨rfl,hw'⟩;subst w';go_wp2_with fail;refine(zdm _ _ _ H3.o).mono ?_;rintro e w' ⟨rfl,hw'⟩;subst w';go_wp2;go_ret;exact⟨zag E2.o.symm,B1.o⟩
   have E2:=zaa (show(Den.mk d s c).okB=(c != 0) by
    rw[E.o,decide_eq_true (show 0<=d/\d<=15 by omega)]
    by_cases h:c=0
    ·rw[h];rfl
    ·rw[decide_eq_true (show 1<=c/\c<=15 by omega),eq_comm];simpa using h)
   have H2:=zaa h2;have H3:=zaa h3;clear h2 h3 E;go_enter Tryz.func115,Tryz.ntmps115;go_wp2_with fail;refine(LN.o _).mono ?_;rw[N1.o];rintro e w1 ⟨rfl,hb1⟩;have B1:=zaa (zab BW.o hb1 BW.o.size);clear x0 x1 x2 f0 f1 f2;obtain⟨x0,x1,x2⟩:=CB.o _ hb1;clear hb1 CB;go_wp2_with fail;refine(zbw _ _ _ H2.o).mono ?_;rintro e w' ⟨rfl,hw'⟩;subst w';go_wp2_with fail;refine(zbw _ _ _ H3.o).mono ?_;rintro e w' ⟨rfl,hw'⟩;subst w';go_wp2;go_ret;exact⟨zag E2.o.symm,B1.o⟩
theorem yaqy{s:ByteArray}(h:s.size=0):pk s s.size=0:=by
 rw[h];rfl
structure InI(W w:World)(vL:Value)(zs:List Int):Prop where
 l:w.ownsRow W.heap.size 3 1 vL zs.length (zdb zs)
 b:zB W w
theorem InI.z{W w:World}{vL:Value}{zs:List Int}(h:InI W w vL zs):W.heap.size<=w.heap.size:=h.b.size
theorem InI.below{W w w':World}{vL:Value}{zs:List Int}(h:InI W w vL zs)(hb:zB w w'):InI W w' vL zs :=
 ⟨((zad h.l).below hb zL).1,zab h.b hb h.z⟩
theorem InI.grow{W w w':World}{vL v':Value}{zs:List Int}(h:InI W w vL zs)(x:Int)(ho:w'.ownsRow W.heap.size 3 1 v' (zs.length+1) (zdb zs++[.I x]))(hg:w.grownBy w' vL.ownBlock):InI W w' v' (zs++[x]) :=
 ⟨by rw[yajv,List.length_append];exact ho,h.b.grown hg h.z (fun q hq=>(h.l.lt q hq).1)⟩
theorem zsx(x:Int):∀ u∈[Value.I x],u.oneCell'=true:=by
 intro u hu;rw[List.mem_singleton.1 hu];rfl
def zdd(zs:List Int):List Int:=zs.filter fun z=>z != 0
def zap(ws:List Ino):List Int:=ws.flatMap fun x=>zdd x.map
def ztg(ws:List Ino)(k:Nat)(j:Nat):List Int:=zap (ws.take k)++zdd (((ws[k]?).map Ino.map).getD [] |>.take j)
theorem zuq(ws:List Ino)(k:Nat):ztg ws k 0=zap (ws.take k):=by simp[ztg,zdd]
theorem zvs{ws:List Ino}{k:Nat}(hk:k<ws.length){j:Nat}(hj:j<8):ztg ws k (j+1)=if ws[k].map.getD j 0=0 then ztg ws k j else ztg ws k j++[ws[k].map.getD j 0]:=by
 have hl:j<ws[k].map.length:=hj
 have e:ws[k].map.getD j 0=ws[k].map[j]:=by rw[List.getD_eq_getElem?_getD,List.getElem?_eq_getElem hl];rfl
 unfold ztg zdd;rw[List.getElem?_eq_getElem hk];simp only[Option.map_some,Option.getD_some];rw[List.take_succ_eq_append_getElem hl,List.filter_append,e]
 by_cases h:ws[k].map[j]=0
 ·rw[if_pos h,h];simp
 ·rw[if_neg h];simp[h]
theorem zub{ws:List Ino}{k:Nat}(hk:k<ws.length):ztg ws k 8=zap (ws.take (k+1)):=by
 unfold ztg zap;rw[List.getElem?_eq_getElem hk,List.take_succ_eq_append_getElem hk,List.flatMap_append];simp[Ino.map]
theorem zuf(zs:List Int):(zdd zs).length<=zs.length:=List.length_filter_le _ _
theorem zhr(ws:List Ino):(zap ws).length<=8*ws.length:=by
 induction ws with
 | nil=>simp[zap]
 | cons x ws ih =>
  have h1:=zuf x.map;have h2:x.map.length=8:=rfl;unfold zap at *;rw[List.flatMap_cons,List.length_append,List.length_cons];omega
theorem yaac(ws:List Ino)(k j:Nat)(hk:k<ws.length)(hj:j<=8):(ztg ws k j).length<=8*ws.length:=by
 have h1:=zhr (ws.take k);have h2:=zuf (((ws[k]?).map Ino.map).getD [] |>.take j)
 have h3:(((ws[k]?).map Ino.map).getD [] |>.take j).length<=j:=by rw[List.length_take];omega
 unfold ztg;rw[List.length_append];rw[List.length_take]at h1;omega
theorem idx8(x:Ino)(j:Nat)(hj:j<8)(w:World):(Instr.index 85 (.agg #[.I x.m0,.I x.m1,.I x.m2,.I x.m3,.I x.m4,.I x.m5,.I x.m6,.I x.m7]) (.I (j:Int))).run Tryz.prog w=.ok (.I (x.map.getD j 0)) w:=by
 rcases(show j=0\/j=1\/j=2\/j=3\/j=4\/j=5\/j=6\/j=7 by omega)with rfl|rfl|rfl|rfl|rfl|rfl|rfl|rfl<;>simp[Instr.index,run_underlying Tryz.underlying85,asIntOf,Ino.map,go_sem]
theorem zkl(v:Value)(ws:List Ino)(w:World)(h:RdN w v ws)(hn:ws.length<=4096) :
  zC 65 #[v] w fun e w'=>∃ v',e=.returned v'/\Row w' 3 1 w.heap.size w'.heap.size v' (zap ws).length (zdb (zap ws))/\zB w w':=by
 obtain⟨aW,cW,rfl,_,hcW⟩:=h.shape;have HW:=zaa hcW;clear h hcW;go_enter Tryz.func65,Tryz.ntmps65;go_wp2
 go_loopw [3,5,7,10] (fun vL _ _ i wr=>∃ k:Nat,k<=ws.length/\i=.I k/\Hid (InI w wr vL (zap (ws.take k)))/\w.heap.size<=wr.heap.size) (fun _ _ _ i _=>ws.length-(intOf i).toNat)
 case atStart=>exact⟨0,by omega,rfl,⟨World.ownsRow_nil _ _ _ _,zR⟩,Nat.le_refl _⟩
 case round =>
  obtain⟨k,hk,rfl,I,hz⟩:=hrel
  by_cases hlt:k<ws.length
  ·obtain⟨b,o,rfl,hbl,hcell⟩:=HW.o (by omega);obtain⟨a0,a1,a2,a3,a4,a5,a6,a7,a8,a9,a10⟩:=hcell k hlt;have d0:=(I.o.b.cell (p:=⟨b,o+k*11,none⟩) hbl).trans a0;have d1:=(I.o.b.cell (p:=⟨b,o+k*11+1,none⟩) hbl).trans a1;have d2:=(I.o.b.cell (p:=⟨b,o+k*11+2,none⟩) hbl).trans a2;have d3:=(I.o.b.cell (p:=⟨b,o+k*11+3,none⟩) hbl).trans a3;have d4:=(I.o.b.cell (p:=⟨b,o+k*11+4,none⟩) hbl).trans a4;have d5:=(I.o.b.cell (p:=⟨b,o+k*11+5,none⟩) hbl).trans a5;have d6:=(I.o.b.cell (p:=⟨b,o+k*11+6,none⟩) hbl).trans a6;have d7:=(I.o.b.cell (p:=⟨b,o+k*11+7,none⟩) hbl).trans a7;have d8:=(I.o.b.cell (p:=⟨b,o+k*11+8,none⟩) hbl).trans a8;have d9:=(I.o.b.cell (p:=⟨b,o+k*11+9,none⟩) hbl).trans a9;have d10:=(I.o.b.cell (p:=⟨b,o+k*11+10,none⟩) hbl).trans a10
   have k0:(0:Int)<=(k:Int):=by omega
   have k1:(k:Int)<(ws.length:Int):=by omega
   have MZ:=zaa (zuq ws k);have MF:=zaa (zub hlt);have MS:=zaa (fun j (hj:j<8)=>zvs hlt hj);have ML:=zaa (fun j (hj:j<=8)=>yaac ws k j hlt hj);have HM:=zaa (fun j (hj:j<8)=>ws[k].at j hj);clear a0 a1 a2 a3 a4 a5 a6 a7 a8 a9 a10 hcell;generalize ws[k]=x at *
   have START:Hid (InI w (wr.alloc (.cells x.cs.toArray 87)) u3 (ztg ws k 0)):=by
    have:=I.o.below ((Below.refl wr.heap.size wr).alloc zL (.cells x.cs.toArray 87));unfold Hid;rw[MZ.o];exact this
   unfold Ino.cs at START;have hz0:=START.o.z;clear I;go_wp2
   go_loopw [3,7,16] (fun vL _ i wq=>∃ j:Nat,j<=8/\i=.I j/\Hid (InI w wq vL (ztg ws k j))/\w.heap.size<=wq.heap.size) (fun _ _ i _=>8-(intOf i).toNat)
   case atStart=>exact⟨0,by omega,rfl,START,hz0⟩
   case round =>
    obtain⟨j,hj,rfl,J,hzj⟩:=hrel;clear START hz0 d0 d1 d2 d3 d4 d5 d6 d7 d8 d9 d10
    have j0:(0:Int)<=(j:Int):=by omega
    by_cases hlj:j<8
    ·have j1:(j:Int)<8:=by omega
     have ix:=idx8 x j hlj;have MJ:=zaa (MS.o j hlj);have hlen:=ML.o j (by omega);generalize x.map.getD j 0=z at ix MJ
     by_cases q:z=0
     ·have q':(z != 0)=false:=by rw[q];rfl
      have G:Hid (InI w wr u3 (ztg ws k (j+1))):=by unfold Hid;rw[MJ.o,if_pos q];exact J.o
      clear q J MJ;go_wp2
      go_roundw
      case rel=>exact⟨j+1,by omega,by go_num,G,hzj⟩
      case measure=>simp[intOf];omega
     ·have q':(z != 0)=true:=by rw[bne_iff_ne];exact q
      have JB:Hid (InI w (wr.alloc (.cells #[.I z] 3)) u3 (ztg ws k j)):=J.o.below (zR.alloc zL _);have RB:=zaa (yaaw wr z);have hzb:=JB.o.z
      have MN:Hid (ztg ws k (j+1)=ztg ws k j++[z]):=by unfold Hid;rw[MJ.o,if_neg q]
      clear q J MJ;go_wp2_with (at_builtin;refine zae _ rfl (.tmp 21) (.tmp 23) 23 rfl w.heap.size 3 (.I 0) 1 8 Tryz.underlying23 zjs rfl (by decide) _ _ _ rfl JB.o.l _ 1 _ rfl RB.o (zsx _) (by simp[maxLen];omega) (by omega) (by omega) ?_);intro vN wN hownN hgrN;have G:=zaa (JB.o.grow z hownN hgrN);rw[<- MN.o]at G;have hzN:=G.o.z;clear hownN hgrN JB RB;go_wp2
      go_roundw
      case rel=>exact⟨j+1,by omega,by go_num,G,hzN⟩
      case measure=>simp[intOf];omega
    ·obtain rfl:j=8:=by omega
     have G:Hid (InI w wr u3 (zap (ws.take (k+1)))):=by unfold Hid;rw[<- MF.o];exact J.o
     clear J;go_wp2
     go_roundw
     case rel=>exact⟨k+1,by omega,by go_num,G,hzj⟩
     case measure=>simp[intOf];omega
  ·obtain rfl:k=ws.length:=by omega
   have E:=zaa (show zap (ws.take ws.length)=zap ws by rw[List.take_length]);rw[E.o]at I;obtain⟨-,aL,cL,hvL,-⟩:=(zad I.o.l).rd;subst hvL;go_wp2;go_ret;exact⟨_,rfl,zad I.o.l,I.o.b⟩
theorem yabk(w1:World)(x:Den):Rd (w1.alloc (.cells #[.I x.dir,.string x.name,.I x.child] 90)) 3 (.slice (some ⟨w1.heap.size,0,none⟩) 1 1) 1 (dens [x]):=by
 refine⟨rfl,_,_,rfl,⟨Nat.le_refl _,fun e=>by cases e⟩,fun _=>⟨w1.heap.size,0,rfl,by simp,fun j hj=>?_⟩⟩;obtain⟨e0,e1,e2⟩:=zba (zah (w:=w1) (o:=.cells #[.I x.dir,.string x.name,.I x.child] 90) rfl)
 rcases(show j=0\/j=1\/j=2 by omega)with rfl|rfl|rfl
 ·exact e0
 ·exact e1
 ·exact e2
theorem zhi(l:List Den):∀ u∈dens l,u.oneCell'=true:=by
 intro u hu;simp only[dens,List.mem_flatMap]at hu;obtain⟨m,_,hm⟩:=hu;simp[Den.cells]at hm
 rcases hm with rfl|rfl|rfl<;>rfl
theorem zjo(l l':List Den):dens (l++l')=dens l++dens l':=by simp[dens]
structure DnI(W w:World)(vL:Value)(ds:List Den):Prop where
 l:w.ownsRow W.heap.size 90 3 vL ds.length (dens ds)
 b:zB W w
theorem DnI.z{W w:World}{vL:Value}{ds:List Den}(h:DnI W w vL ds):W.heap.size<=w.heap.size:=h.b.size
theorem DnI.below{W w w':World}{vL:Value}{ds:List Den}(h:DnI W w vL ds)(hb:zB w w'):DnI W w' vL ds :=
 ⟨((zad h.l).below hb zL).1,zab h.b hb h.z⟩
theorem DnI.grow{W w w':World}{vL v':Value}{ds:List Den}(h:DnI W w vL ds)(ms:List Den)(ho:w'.ownsRow W.heap.size 90 3 v' (ds.length+ms.length) (dens ds++dens ms))(hg:w.grownBy w' vL.ownBlock):DnI W w' v' (ds++ms) :=
 ⟨by rw[zjo,List.length_append];exact ho,h.b.grown hg h.z (fun q hq=>(h.l.lt q hq).1)⟩
def zas(ps:List Den):List Den:=ps.filter fun x=>!x.freeB
theorem yabv{ps:List Den}{k:Nat}(h:k<ps.length):zas (ps.take (k+1))=if ps[k].freeB=true then zas (ps.take k)else zas (ps.take k)++[ps[k]]:=by
 unfold zas;rw[List.take_succ_eq_append_getElem h,List.filter_append]
 cases hf:ps[k].freeB<;>simp[hf]
theorem zva(ps:List Den):(zas ps).length<=ps.length:=List.length_filter_le _ _
theorem zlq(v:Value)(ps:List Den)(w:World)(h:RdD w v ps)(hn:ps.length<=4096)(hF:FD w) :
  zC 59 #[v] w fun e w'=>∃ v',e=.returned v'/\Row w' 90 3 w.heap.size w'.heap.size v' (zas ps).length (dens (zas ps))/\zB w w':=by
 obtain⟨aP,cP,rfl,_,hcP⟩:=h.shape;have HP:=zaa hcP;have F:=zaa hF;clear h hcP hF;go_enter Tryz.func59,Tryz.ntmps59;go_wp2
 go_loopw [3,5,8] (fun vL _ i wr=>∃ k:Nat,k<=ps.length/\i=.I k/\Hid (DnI w wr vL (zas (ps.take k)))/\w.heap.size<=wr.heap.size) (fun _ _ i _=>ps.length-(intOf i).toNat)
 case atStart=>exact⟨0,by omega,rfl,⟨World.ownsRow_nil _ _ _ _,zR⟩,Nat.le_refl _⟩
 case round =>
  obtain⟨k,hk,rfl,I,hz⟩:=hrel
  by_cases hlt:k<ps.length
  ·obtain⟨b,o,rfl,hbl,hcell⟩:=HP.o (by omega);obtain⟨a0,a1,a2⟩:=hcell k hlt;have d0:=(I.o.b.cell (p:=⟨b,o+k*3,none⟩) hbl).trans a0;have d1:=(I.o.b.cell (p:=⟨b,o+k*3+1,none⟩) hbl).trans a1;have d2:=(I.o.b.cell (p:=⟨b,o+k*3+2,none⟩) hbl).trans a2
   have k0:(0:Int)<=(k:Int):=by omega
   have k1:(k:Int)<(ps.length:Int):=by omega
   have TS:=zaa (yabv hlt);have TL:=zva (ps.take k);rw[List.length_take]at TL;have DF:=zrn ps[k];clear a0 a1 a2 hcell;generalize ps[k]=x at *;have IB:Hid (DnI w (wr.alloc (.cells #[.I x.dir,.string x.name,.I x.child] 90)) u3 (zas (ps.take k))):=I.o.below (zR.alloc zL _);obtain⟨f0,f1,f2⟩:=FD.cells (F.o.below IB.o.b);have hzb:=IB.o.z
   cases hf:x.freeB with
   | true =>
    have G:Hid (DnI w (wr.alloc (.cells #[.I x.dir,.string x.name,.I x.child] 90)) u3 (zas (ps.take (k+1)))):=by unfold Hid;rw[TS.o,if_pos hf];exact IB.o
    rw[hf]at DF;clear IB I TS hf TL;go_wp2
    go_roundw
    case rel=>exact⟨k+1,by omega,by go_num,G,hzb⟩
    case measure=>simp[intOf];omega
   | false =>
    have IC:Hid (DnI w ((wr.alloc (.cells #[.I x.dir,.string x.name,.I x.child] 90)).alloc (.cells #[.I x.dir,.string x.name,.I x.child] 90)) u3 (zas (ps.take k))):=IB.o.below (zR.alloc zL _);have RC:=zaa (yabk (wr.alloc (.cells #[.I x.dir,.string x.name,.I x.child] 90)) x);have hzc:=IC.o.z
    have TN:Hid (zas (ps.take (k+1))=zas (ps.take k)++[x]):=by unfold Hid;rw[TS.o,if_neg (by rw[hf];decide)]
    rw[hf]at DF;rw[World.size_alloc]at RC;clear IB I TS hf;go_wp2_with (at_builtin;refine zae _ rfl (.tmp 15) (.tmp 17) 49 rfl w.heap.size 90 (.agg #[.I 0,.string ⟨#[]⟩,.I 0]) 3 32 Tryz.underlying49 zmy rfl (by decide) _ _ _ rfl IC.o.l _ 1 _ rfl RC.o (zhi _) (by simp[maxLen];omega) (by omega) (by omega) ?_);intro vN wN hownN hgrN;have G:=zaa (IC.o.grow [x] hownN hgrN);rw[<- TN.o]at G;have hzN:=G.o.z;clear hownN hgrN IC RC;go_wp2
    go_roundw
    case rel=>exact⟨k+1,by omega,by go_num,G,hzN⟩
    case measure=>simp[intOf];omega
  ·obtain rfl:k=ps.length:=by omega
   have E:=zaa (show zas (ps.take ps.length)=zas ps by rw[List.take_length]);rw[E.o]at I;obtain⟨-,aL,cL,hvL,-⟩:=(zad I.o.l).rd;subst hvL;go_wp2;go_ret;exact⟨_,rfl,zad I.o.l,I.o.b⟩
end Go.Proofs.YtogcbbkhnpmgeaaGreatDoor
