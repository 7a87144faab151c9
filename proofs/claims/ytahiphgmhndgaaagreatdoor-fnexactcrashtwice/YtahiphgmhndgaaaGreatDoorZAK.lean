/- Several texts laid together: PiD, PiF, PiI, StA, FsC, FsD. -/
import Derived.Test.YtahiphgmhndgaaaGreatDoorZAJ
import Derived.Laws.CopyRow
import Derived.Laws.CopyOwn
import Derived.Deep.RegionHeld3
import Derived.Laws.OwnMore
import Derived.Deep.RegionLaw
import Derived.Test.YtahiphgmhndgaaaGreatDoorZAI
import Derived.Deep.DeepCutAuto
import Derived.Deep.RegionWith
import Derived.Lib.Strings
import Derived.Test.YtahiphgmhndgaaaGreatDoorZAD
import Derived.Test.YtahiphgmhndgaaaGreatDoorZAH
set_option maxRecDepth 100000
set_option maxHeartbeats 4000000
namespace Go.Proofs.YtahiphgmhndgaaaGreatDoor
open Go.RowKit
theorem eq8 (a0 a1 a2 a3 a4 a5 a6 a7 b0 b1 b2 b3 b4 b5 b6 b7:Int) (w:World):(Op.equalIn 9999 185 (.agg #[.int .i64 a0,.int .i64 a1,.int .i64 a2,.int .i64 a3,.int .i64 a4,.int .i64 a5,.int .i64 a6,.int .i64 a7]) (.agg #[.int .i64 b0,.int .i64 b1,.int .i64 b2,.int .i64 b3,.int .i64 b4,.int .i64 b5,.int .i64 b6,.int .i64 b7])).run Tryz.prog w=.ok (decide ([a0,a1,a2,a3,a4,a5,a6,a7]=[b0,b1,b2,b3,b4,b5,b6,b7])) w:=by
 have U3:=Tryz.underlying3;have A3:=Tryz.isAgg3;have Z3:=Tryz.sizeOf3;rw[show (9999:Nat)=9998+1 from rfl,Op.equalIn];simp only[Sem.run_bind,run_underlying Tryz.underlying185,Result.andThen_ok];simp only[Std.Legacy.Range.forIn_eq_forIn_range',Std.Legacy.Range.size,Nat.sub_zero,Nat.add_sub_cancel,Nat.div_one,List.range'_succ,List.range'_zero,List.forIn_cons,List.forIn_nil];go_simp
 by_cases h0:a0=b0
 case neg=>simp[h0]
 by_cases h1:a1=b1
 case neg=>simp[h0,h1]
 by_cases h2:a2=b2
 case neg=>simp[h0,h1,h2]
 by_cases h3:a3=b3
 case neg=>simp[h0,h1,h2,h3]
 by_cases h4:a4=b4
 case neg=>simp[h0,h1,h2,h3,h4]
 by_cases h5:a5=b5
 case neg=>simp[h0,h1,h2,h3,h4,h5]
 by_cases h6:a6=b6
 case neg=>simp[h0,h1,h2,h3,h4,h5,h6]
 by_cases h7:a7=b7
 case neg=>simp[h0,h1,h2,h3,h4,h5,h6,h7]
 simp[h0,h1,h2,h3,h4,h5,h6,h7]
def zwk (xs ys:List Int):Bool:=decide (xs=ys)
theorem yalf {xs ys:List Int} (h:xs=ys):zwk xs ys=true:=decide_eq_true h
theorem yajh {xs ys:List Int} (h:¬ xs=ys):zwk xs ys=false:=decide_eq_false h
@[go_sem ↓] theorem yawr (k s l a0 a1 a2 a3 a4 a5 a6 a7 k' s' l' b0 b1 b2 b3 b4 b5 b6 b7:Int) (w:World):(Op.equalIn 10000 187 (.agg #[.int .i64 k,.int .i64 s,.int .i64 l,.int .i64 a0,.int .i64 a1,.int .i64 a2,.int .i64 a3,.int .i64 a4,.int .i64 a5,.int .i64 a6,.int .i64 a7]) (.agg #[.int .i64 k',.int .i64 s',.int .i64 l',.int .i64 b0,.int .i64 b1,.int .i64 b2,.int .i64 b3,.int .i64 b4,.int .i64 b5,.int .i64 b6,.int .i64 b7])).run Tryz.prog w=.ok (zwk [k,s,l,a0,a1,a2,a3,a4,a5,a6,a7] [k',s',l',b0,b1,b2,b3,b4,b5,b6,b7]) w:=by
 have e8:=eq8 a0 a1 a2 a3 a4 a5 a6 a7 b0 b1 b2 b3 b4 b5 b6 b7 w;unfold zwk
 by_cases g0:k=k'
 case neg=>go_simp
 by_cases g1:s=s'
 case neg=>go_simp
 by_cases g2:l=l'
 case neg=>go_simp
 subst g0 g1 g2;go_simp
 split
 ·rename_i h;rw[h]
 ·rename_i h;rw[Bool.not_eq_false] at h;rw[h]
theorem yabc (x:Ino) (w:World) (hT:TS w) (hE:ED w) (hr:x.R):Calls Tryz.prog 201 #[x.v] w fun e w'=>e=.returned (.bool (zit x))∧Below w.heap.size w w':=by
 have hv:x.v=.agg x.cs.toArray:=rfl;have BW:Hid (Below w.heap.size w (w.alloc (.cells x.cs.toArray 187))):=(Below.refl _ _).alloc (Nat.le_refl _) _
 have CA:Hid (∀ j,(w.alloc (.cells x.cs.toArray 187)).cell? ⟨w.heap.size,j,none⟩=x.cs[j]?):=fun j=>(zbe (xs:=x.cs) (zag rfl) j).1
 have T:Hid (TS (w.alloc (.cells x.cs.toArray 187))):=hT.below BW.o;obtain ⟨d0,d1,d2,d3,d4,d5,d6,d7,d8,d9,d10⟩:=ED.cells (hE.below BW.o);obtain ⟨p0,p1,p2,p3,p4,p5,p6,p7,p8,p9,p10⟩:=Ino.all CA.o;have LF:=zaa (fun w1 (h:TS w1)=>yagr x w1 h hr);rw[hv];clear hT hE hr CA
 by_cases h0:x.ns=[0,0,0,0,0,0,0,0,0,0,0]
 ·have E:=zaa (yamg h0);have q1:zwk [x.kind,x.size,x.links,x.m0,x.m1,x.m2,x.m3,x.m4,x.m5,x.m6,x.m7] [0,0,0,0,0,0,0,0,0,0,0]=true:=yalf h0;clear h0;go_enter Tryz.func201,Tryz.ntmps201;go_wp2;go_ret;exact ⟨zae E.o.symm,BW.o⟩
 have q1:zwk [x.kind,x.size,x.links,x.m0,x.m1,x.m2,x.m3,x.m4,x.m5,x.m6,x.m7] [0,0,0,0,0,0,0,0,0,0,0]=false:=yajh h0
 by_cases h1:x.ns=[2,0,1,0,0,0,0,0,0,0,0]
 ·have E:=zaa (yarn h1);have q2:zwk [x.kind,x.size,x.links,x.m0,x.m1,x.m2,x.m3,x.m4,x.m5,x.m6,x.m7] [2,0,1,0,0,0,0,0,0,0,0]=true:=yalf h1;clear h0 h1;go_enter Tryz.func201,Tryz.ntmps201;go_wp2;go_ret;exact ⟨zae E.o.symm,BW.o⟩
 have q2:zwk [x.kind,x.size,x.links,x.m0,x.m1,x.m2,x.m3,x.m4,x.m5,x.m6,x.m7] [2,0,1,0,0,0,0,0,0,0,0]=false:=yajh h1;have E:=zaa (yapg h0 h1);clear h0 h1;go_enter Tryz.func201,Tryz.ntmps201;go_wp2_with fail;refine (LF.o _ T.o).mono ?_;rw[E.o];rintro e w1 ⟨rfl,hb1⟩;have B1:=zaa (zab BW.o hb1 BW.o.size);clear hb1;go_wp2;go_ret;exact ⟨rfl,B1.o⟩
def FD (w:World):Prop:=∃ t fr,w.heap[2]?=some (.cells #[.int .i64 0,.string ⟨#[]⟩,.int .i64 (-1)] t fr)
theorem FD.lt {w:World} (h:FD w):2 < w.heap.size:=by
 obtain ⟨t,fr,h⟩:=h;exact (Array.getElem?_eq_some_iff.1 h).1
theorem FD.below {w w':World} (h:FD w) (hb:Below w.heap.size w w'):FD w':=by
 have hl:=h.lt;obtain ⟨t,fr,h⟩:=h;exact ⟨t,fr,(hb.block _ hl).trans h⟩
theorem FD.cells {w:World} (h:FD w):w.cell? ⟨2,0,none⟩=some (.int .i64 0)∧w.cell? ⟨2,1,none⟩=some (.string ⟨#[]⟩)∧w.cell? ⟨2,2,none⟩=some (.int .i64 (-1)):=by
 obtain ⟨t,fr,h⟩:=h;simp[World.cell?,h]
def znq (a:Int) (s:ByteArray) (c a':Int) (s':ByteArray) (c':Int):Bool:=(a == a') && ((s.toList == s'.toList) && (c == c'))
@[go_sem ↓] theorem yawq (a:Int) (s:ByteArray) (c a':Int) (s':ByteArray) (c':Int) (w:World):(Op.equalIn 10000 189 (.agg #[.int .i64 a,.string s,.int .i64 c]) (.agg #[.int .i64 a',.string s',.int .i64 c'])).run Tryz.prog w=.ok (znq a s c a' s' c') w:=by
 unfold znq
 cases g0:(a == a')
 ·go_simp
 cases g1:(s.toList == s'.toList)
 ·go_simp
 cases g2:(c == c')
 ·go_simp
 ·go_simp
theorem yaal:(⟨#[]⟩:ByteArray).toList=[]:=(yaia _).2 rfl
theorem zvh (x:Den):znq x.dir x.name x.child 0 ⟨#[]⟩ (-1)=x.freeB:=by
 unfold znq Den.freeB
 congr 2
 rw[yaal,Bool.eq_iff_iff,beq_iff_eq,beq_iff_eq];exact yaia x.name
theorem Den.okB_free {x:Den} (h:x.freeB=true):x.okB=true:=by unfold Den.okB;rw[h];rfl
theorem Den.okB_not {x:Den} (h:x.freeB=false):x.okB=(decide (1≤x.child∧x.child≤15) && (decide (0≤x.dir∧x.dir≤15) && nmB x.name)):=by unfold Den.okB;rw[h,Bool.false_or]
theorem yagc (s:ByteArray):(zrp s == 0)=nmB s:=by
 unfold zrp
 cases h:nmB s with
 | true =>
  have:=(of_decide_eq_true h:1≤s.size∧s.size≤6∧_)
  rw[if_neg (by omega),if_pos rfl];rfl
 | false =>
  split
  ·rfl
  ·rw[if_neg (by decide)];rfl
theorem zox (s:ByteArray) (w:World) (hs:s.size≤maxLen):Calls Tryz.prog 212 #[.string s] w fun e w'=>e=.returned (.bool (nmB s))∧Below w.heap.size w w':=by
 have P:=zaa (yagc s);have LP:=zaa (fun w1=>znh s w1 hs);generalize zxj s=pv at *;generalize zrp s=pc at *;clear hs;go_enter Tryz.func212,Tryz.ntmps212;go_wp2_with fail;refine (LP.o _).mono ?_;rintro e w1 ⟨rfl,hb1⟩;go_wp2;go_ret;exact ⟨zae P.o,hb1⟩
theorem zxx (x:Den) (w:World) (hF:FD w) (hs:x.name.size≤maxLen):Calls Tryz.prog 203 #[x.v] w fun e w'=>e=.returned (.bool x.okB)∧Below w.heap.size w w':=by
 have LN:=zaa (fun w1=>zox x.name w1 hs);have DF:=zvh x;have OF:=@Den.okB_free x;have ON:=@Den.okB_not x;obtain ⟨d,s,c⟩:=x;simp only at LN DF ON hs;unfold Den.v;simp only;have BW:=zaa ((Below.refl w.heap.size w).alloc (Nat.le_refl _) (.cells #[.int .i64 d,.string s,.int .i64 c] 189))
 have CB:Hid (∀ w',Below (w.alloc (.cells #[.int .i64 d,.string s,.int .i64 c] 189)).heap.size (w.alloc (.cells #[.int .i64 d,.string s,.int .i64 c] 189)) w'→w'.cell? ⟨w.heap.size,0,none⟩=some (.int .i64 d)∧w'.cell? ⟨w.heap.size,1,none⟩=some (.string s)∧w'.cell? ⟨w.heap.size,2,none⟩=some (.int .i64 c)):=fun w' hb=>zas ((hb.block _ (by simp)).trans (zag rfl))
 obtain ⟨x0,x1,x2⟩:=CB.o _ (Below.refl _ _);obtain ⟨f0,f1,f2⟩:=FD.cells (hF.below BW.o);clear hF hs
 cases h0:(Den.mk d s c).freeB with
 | true =>
  rw[h0] at DF;have E:=zaa (OF h0);clear OF ON LN CB h0;go_enter Tryz.func203,Tryz.ntmps203;go_wp2;go_ret;exact ⟨zae E.o.symm,BW.o⟩
 | false =>
  rw[h0] at DF;have E:=zaa (ON h0);clear OF ON h0
  cases h1:nmB s with
  | false =>
   rw[h1] at E;have N1:=zaa h1;clear h1 CB;go_enter Tryz.func203,Tryz.ntmps203;go_wp2_with fail;refine (LN.o _).mono ?_;rw[N1.o];rintro e w1 ⟨rfl,hb1⟩;have B1:=zaa (zab BW.o hb1 BW.o.size);clear hb1 x0 x1 x2 f0 f1 f2;go_wp2;go_ret;exact ⟨zae (by rw[E.o,Bool.and_false,Bool.and_false]),B1.o⟩
  | true =>
   rw[h1] at E;have N1:=zaa h1;clear h1
   by_cases h2:0≤d∧d < 16
   case neg =>
    have E2:=zaa (show (Den.mk d s c).okB=false by rw[E.o,decide_eq_false (show ¬ (0≤d∧d≤15) by omega),Bool.false_and,Bool.and_false]);have H2:=zaa h2;clear h2 E;go_enter Tryz.func203,Tryz.ntmps203;go_wp2_with fail;refine (LN.o _).mono ?_;rw[N1.o];rintro e w1 ⟨rfl,hb1⟩;have B1:=zaa (zab BW.o hb1 BW.o.size);clear x0 x1 x2 f0 f1 f2;obtain ⟨x0,x1,x2⟩:=CB.o _ hb1;clear hb1 CB;go_wp2_with fail;refine (zbc _ _ _ H2.o).mono ?_;rintro e w' ⟨rfl,hw'⟩;subst w';go_wp2;go_ret;exact ⟨zae E2.o.symm,B1.o⟩
   by_cases h3:0≤c∧c < 16
   case neg =>
    have E2:=zaa (show (Den.mk d s c).okB=false by rw[E.o,decide_eq_false (show ¬ (1≤c∧c≤15) by omega),Bool.false_and]);have H2:=zaa h2;have H3:=zaa h3;clear h2 h3 E;go_enter Tryz.func203,Tryz.ntmps203;go_wp2_with fail;refine (LN.o _).mono ?_;rw[N1.o];rintro e w1 ⟨rfl,hb1⟩;have B1:=zaa (zab BW.o hb1 BW.o.size);clear x0 x1 x2 f0 f1 f2;obtain ⟨x0,x1,x2⟩:=CB.o _ hb1;clear hb1 CB;go_wp2_with fail;refine (zaq _ _ _ H2.o).mono ?_;rintro e w' ⟨rfl,hw'⟩;subst w';go_wp2_with fail;refine (zbc _ _ _ H3.o).mono ?_;rintro e w' ⟨rfl,hw'⟩;subst w';go_wp2;go_ret;exact ⟨zae E2.o.symm,B1.o⟩
   have E2:=zaa (show (Den.mk d s c).okB=(c != 0) by
    rw[E.o,decide_eq_true (show 0≤d∧d≤15 by omega)]
    by_cases h:c=0
    ·rw[h];rfl
    ·rw[decide_eq_true (show 1≤c∧c≤15 by omega),eq_comm];simpa using h)
   have H2:=zaa h2;have H3:=zaa h3;clear h2 h3 E;go_enter Tryz.func203,Tryz.ntmps203;go_wp2_with fail;refine (LN.o _).mono ?_;rw[N1.o];rintro e w1 ⟨rfl,hb1⟩;have B1:=zaa (zab BW.o hb1 BW.o.size);clear x0 x1 x2 f0 f1 f2;obtain ⟨x0,x1,x2⟩:=CB.o _ hb1;clear hb1 CB;go_wp2_with fail;refine (zaq _ _ _ H2.o).mono ?_;rintro e w' ⟨rfl,hw'⟩;subst w';go_wp2_with fail;refine (zaq _ _ _ H3.o).mono ?_;rintro e w' ⟨rfl,hw'⟩;subst w';go_wp2;go_ret;exact ⟨zae E2.o.symm,B1.o⟩
theorem yacl (w1:World) (x:Den):Rd (w1.alloc (.cells #[.int .i64 x.dir,.string x.name,.int .i64 x.child] 189)) 3 (.slice (some ⟨w1.heap.size,0,none⟩) 1 1) 1 (zhh [x]):=by
 refine ⟨rfl,_,_,rfl,⟨Nat.le_refl _,fun e=>by cases e⟩,fun _=>⟨w1.heap.size,0,rfl,by simp,fun j hj=>?_⟩⟩;obtain ⟨e0,e1,e2⟩:=zas (zag (w:=w1) (o:=.cells #[.int .i64 x.dir,.string x.name,.int .i64 x.child] 189) rfl)
 rcases (show j=0∨j=1∨j=2 by omega) with rfl | rfl | rfl
 ·exact e0
 ·exact e1
 ·exact e2
theorem zho (l:List Den):∀ u∈zhh l,u.oneCell'=true:=by
 intro u hu;simp only[zhh,List.mem_flatMap] at hu;obtain ⟨m,_,hm⟩:=hu;simp[Den.cells] at hm
 rcases hm with rfl | rfl | rfl <;> rfl
theorem zkd (l l':List Den):zhh (l ++ l')=zhh l ++ zhh l':=by simp[zhh]
structure DnI (W w:World) (vL:Value) (ds:List Den):Prop where
 l:w.ownsRow W.heap.size 189 3 vL ds.length (zhh ds)
 b:Below W.heap.size W w
theorem DnI.z {W w:World} {vL:Value} {ds:List Den} (h:DnI W w vL ds):W.heap.size≤w.heap.size:=h.b.size
theorem DnI.below {W w w':World} {vL:Value} {ds:List Den} (h:DnI W w vL ds) (hb:Below w.heap.size w w'):DnI W w' vL ds :=
 ⟨((zai h.l).below hb (Nat.le_refl _)).1,zab h.b hb h.z⟩
theorem DnI.grow {W w w':World} {vL v':Value} {ds:List Den} (h:DnI W w vL ds) (ms:List Den) (ho:w'.ownsRow W.heap.size 189 3 v' (ds.length+ms.length) (zhh ds ++ zhh ms)) (hg:w.grownBy w' vL.ownBlock):DnI W w' v' (ds ++ ms) :=
 ⟨by rw[zkd,List.length_append];exact ho,h.b.grown hg h.z (fun q hq=>(h.l.lt q hq).1)⟩
def zap (ps:List Den):List Den:=ps.filter fun x=>!x.freeB
theorem yafj {ps:List Den} {k:Nat} (h:k < ps.length):zap (ps.take (k+1))=if ps[k].freeB=true then zap (ps.take k) else zap (ps.take k) ++ [ps[k]]:=by
 unfold zap;rw[List.take_succ_eq_append_getElem h,List.filter_append]
 cases hf:ps[k].freeB <;> simp[hf]
theorem zyq (ps:List Den):(zap ps).length≤ps.length:=List.length_filter_le _ _
theorem znp (v:Value) (ps:List Den) (w:World) (h:RdD w v ps) (hn:ps.length≤4096) (hF:FD w) :
  Calls Tryz.prog 186 #[v] w fun e w'=>∃ v',e=.returned v'∧Row w' 189 3 w.heap.size w'.heap.size v' (zap ps).length (zhh (zap ps))∧Below w.heap.size w w':=by
 obtain ⟨aP,cP,rfl,_,hcP⟩:=h.shape;have HP:=zaa hcP;have F:=zaa hF;clear h hcP hF;go_enter Tryz.func186,Tryz.ntmps186;go_wp2
 go_loopw [3,5,8] (fun vL _ i wr=>∃ k:Nat,k≤ps.length∧i=.int .i64 k∧Hid (DnI w wr vL (zap (ps.take k)))∧w.heap.size≤wr.heap.size) (fun _ _ i _=>ps.length - (intOf i).toNat)
 case atStart=>exact ⟨0,by omega,rfl,⟨World.ownsRow_nil _ _ _ _,Below.refl _ _⟩,Nat.le_refl _⟩
 case round =>
  obtain ⟨k,hk,rfl,I,hz⟩:=hrel
  by_cases hlt:k < ps.length
  ·obtain ⟨b,o,rfl,hbl,hcell⟩:=HP.o (by omega);obtain ⟨a0,a1,a2⟩:=hcell k hlt;have d0:=(I.o.b.cell (p:=⟨b,o+k*3,none⟩) hbl).trans a0;have d1:=(I.o.b.cell (p:=⟨b,o+k*3+1,none⟩) hbl).trans a1;have d2:=(I.o.b.cell (p:=⟨b,o+k*3+2,none⟩) hbl).trans a2
   have k0:(0:Int)≤(k:Int):=by omega
   have k1:(k:Int) < (ps.length:Int):=by omega
   have TS:=zaa (yafj hlt);have TL:=zyq (ps.take k);rw[List.length_take] at TL;have DF:=zvh ps[k];clear a0 a1 a2 hcell;generalize ps[k]=x at *;have IB:Hid (DnI w (wr.alloc (.cells #[.int .i64 x.dir,.string x.name,.int .i64 x.child] 189)) u3 (zap (ps.take k))):=I.o.below ((Below.refl _ _).alloc (Nat.le_refl _) _);obtain ⟨f0,f1,f2⟩:=FD.cells (F.o.below IB.o.b);have hzb:=IB.o.z
   cases hf:x.freeB with
   | true =>
    have G:Hid (DnI w (wr.alloc (.cells #[.int .i64 x.dir,.string x.name,.int .i64 x.child] 189)) u3 (zap (ps.take (k+1)))):=by unfold Hid;rw[TS.o,if_pos hf];exact IB.o
    rw[hf] at DF;clear IB I TS hf TL;go_wp2
    go_roundw
    case rel=>exact ⟨k+1,by omega,by go_num,G,hzb⟩
    case measure=>simp[intOf];omega
   | false =>
    have IC:Hid (DnI w ((wr.alloc (.cells #[.int .i64 x.dir,.string x.name,.int .i64 x.child] 189)).alloc (.cells #[.int .i64 x.dir,.string x.name,.int .i64 x.child] 189)) u3 (zap (ps.take k))):=IB.o.below ((Below.refl _ _).alloc (Nat.le_refl _) _);have RC:=zaa (yacl (wr.alloc (.cells #[.int .i64 x.dir,.string x.name,.int .i64 x.child] 189)) x);have hzc:=IC.o.z
    have TN:Hid (zap (ps.take (k+1))=zap (ps.take k) ++ [x]):=by unfold Hid;rw[TS.o,if_neg (by rw[hf];decide)]
    rw[hf] at DF;rw[World.size_alloc] at RC;clear IB I TS hf;go_wp2_with (at_builtin;refine zak _ rfl (.tmp 15) (.tmp 17) 100 rfl w.heap.size 189 (.agg #[.int .i64 0,.string ⟨#[]⟩,.int .i64 0]) 3 32 Tryz.underlying100 zoo rfl (by decide) _ _ _ rfl IC.o.l _ 1 _ rfl RC.o (zho _) (by simp[maxLen];omega) (by omega) (by omega) ?_);intro vN wN hownN hgrN;have G:=zaa (IC.o.grow [x] hownN hgrN);rw[← TN.o] at G;have hzN:=G.o.z;clear hownN hgrN IC RC;go_wp2
    go_roundw
    case rel=>exact ⟨k+1,by omega,by go_num,G,hzN⟩
    case measure=>simp[intOf];omega
  ·obtain rfl:k=ps.length:=by omega
   have E:=zaa (show zap (ps.take ps.length)=zap ps by rw[List.take_length]);rw[E.o] at I;obtain ⟨-,aL,cL,hvL,-⟩:=(zai I.o.l).rd;subst hvL;go_wp2;go_ret;exact ⟨_,rfl,zai I.o.l,I.o.b⟩
def zlf (ss:List ByteArray):List Value:=ss.map Value.string
theorem yads (ss:List ByteArray):(zlf ss).length=ss.length:=by simp[zlf]
theorem zvb (ss:List ByteArray) (k:Nat) (h:k < ss.length):(zlf ss)[k]?=some (.string ss[k]):=by simp[zlf,h]
theorem yand (ss:List ByteArray):∀ u∈zlf ss,u.oneCell'=true:=by
 intro u hu;simp only[zlf,List.mem_map] at hu;obtain ⟨s,_,rfl⟩:=hu;rfl
def RdT (w:World) (v:Value) (ss:List ByteArray):Prop:=Rd w 1 v ss.length (zlf ss)
theorem RdT.shape {w:World} {v:Value} {ss:List ByteArray} (h:RdT w v ss):∃ ao cap,v=.slice ao ss.length cap∧ss.length≤cap∧(0 < ss.length→∃ b o,ao=some ⟨b,o,none⟩∧b < w.heap.size∧∀ k (h:k < ss.length),w.cell? ⟨b,o+k,none⟩=some (.string ss[k])):=by
 obtain ⟨_,ao,cap,rfl,h2,h3⟩:=h;refine ⟨ao,cap,rfl,h2.1,fun hn=>?_⟩;obtain ⟨b,o,e,hb,hc⟩:=h3 hn;exact ⟨b,o,e,hb,fun k hk=>(hc k (by omega)).trans (zvb ss k hk)⟩
theorem yauv:(Tryz.prog.info? 9).map (fun i=>(i.zero,i.size,i.bytes))=some (some (.string ⟨#[]⟩),1,16):=by kernel_rfl
theorem yaaa {B:Nat} {a w:World} (h:Below B a w) (n:Nat):Below B a (w.drewN n):=by
 induction n with
 | zero=>exact h
 | succ n ih=>exact ⟨ih.os,ih.tape,ih.output,ih.size,ih.block⟩
theorem zrb (va vb:Value) (ss:List ByteArray) (w:World) (ha:RdT w va ss) (hb:RdT w vb ss) (hn:ss.length≤2147483648) :
  Calls Tryz.prog 75 #[va,vb] w fun e w'=>e=.returned (.bool true)∧Below w.heap.size w w':=by
 obtain ⟨ao,cap,rfl,hcap,hc⟩:=ha.shape;obtain ⟨ao2,cap2,rfl,hcap2,hc2⟩:=hb.shape;clear ha hb;go_enter Tryz.func75,Tryz.ntmps75;go_wp2
 go_loopw [5] (fun i wr=>∃ k:Nat,k≤ss.length∧i=.int .i64 k∧Below w.heap.size w wr) (fun i _=>ss.length - (intOf i).toNat)
 case atStart=>exact ⟨0,by omega,rfl,Below.refl _ _⟩
 case round =>
  obtain ⟨k,hk,rfl,hbw⟩:=hrel
  by_cases hlt:k < ss.length
  ·obtain ⟨b,o,rfl,hbl,hcell⟩:=hc (by omega);obtain ⟨b2,o2,rfl,hbl2,hcell2⟩:=hc2 (by omega);have hck:wr.cell? ⟨b,o+k,none⟩=some (.string ss[k]):=(hbw.cell (p:=⟨b,o+k,none⟩) hbl).trans (hcell k hlt);have hck2:wr.cell? ⟨b2,o2+k,none⟩=some (.string ss[k]):=(hbw.cell (p:=⟨b2,o2+k,none⟩) hbl2).trans (hcell2 k hlt)
   have hlt':(k:Int) < (ss.length:Int):=by omega
   have hge:(0:Int)≤(k:Int):=by omega
   clear hcell hcell2 hc hc2;generalize ss[k]=x at hck hck2;go_wp2
   go_quiet (fail)
   go_wp2
   go_roundw
   case rel=>exact ⟨k+1,by omega,by go_num,yaaa hbw _⟩
   case measure=>simp[intOf];omega
  ·go_wp2;go_ret;exact ⟨rfl,hbw⟩
def zex (k:Int) (n:Nat):List ByteArray:=(List.range n).map fun i:Nat=>mtx (k+(i:Int)).toNat
theorem zcw (k:Int) (n:Nat):(zex k n).length=n:=by simp[zex]
theorem yajj (k:Int) (n i:Nat) (h:i < (zex k n).length):(zex k n)[i]=mtx (k+(i:Int)).toNat:=by simp[zex]
theorem yaar (k:Int) (n:Nat):zex k (n+1)=zex k n ++ [mtx (k+(n:Int)).toNat]:=by unfold zex;rw[List.range_succ,List.map_append];rfl
def zlp (k0:Int) (k:Nat) (ss:List ByteArray):List ByteArray:=zex k0 k ++ ss.drop k
theorem yals {k0:Int} {k:Nat} {ss:List ByteArray} (h:k≤ss.length):(zlp k0 k ss).length=ss.length:=by unfold zlp;rw[List.length_append,zcw,List.length_drop];omega
theorem yafi {k0:Int} {ss:List ByteArray} {k:Nat} (h:k < ss.length):(zlf (zlp k0 k ss)).set k (.string (mtx (k0+(k:Int)).toNat))=zlf (zlp k0 (k+1) ss):=by
 have l1:(zlf (zex k0 k)).length=k:=by rw[yads,zcw]
 unfold zlp;rw[List.drop_eq_getElem_cons h,yaar];unfold zlf at *;rw[List.map_append,List.map_append,List.map_append,List.set_append_right _ _ (by omega),l1,Nat.sub_self,List.append_assoc];rfl
theorem zoq (v:Value) (ss:List ByteArray) (k0:Int) (lo hi:Nat) (w:World) (h:Row w 9 1 lo hi v ss.length (zlf ss)) (hz:hi≤w.heap.size) (hn:ss.length≤16777216) (h0:0≤k0) (h1:k0≤1099511627776) :
  Calls Tryz.prog 76 #[v,.int .i64 k0] w fun e w'=>e=.returned (.int .i64 (k0+ss.length))∧Row w' 9 1 lo hi v ss.length (zlf (zex k0 ss.length))∧w.grownBy w' v.ownBlock∧True:=by
 obtain ⟨_,ao,cap,rfl,hcap,hc⟩:=h.rd;go_enter Tryz.func76,Tryz.ntmps76;go_wp2
 go_loopw [1,5] (fun c i wr=>∃ k:Nat,k≤ss.length∧i=.int .i64 k∧c=.int .i64 (k0+k)∧Hid (Row wr 9 1 lo hi (.slice ao ss.length cap) ss.length (zlf (zlp k0 k ss))∧w.grownBy wr (Value.slice ao ss.length cap).ownBlock)∧w.heap.size≤wr.heap.size) (fun _ i _=>ss.length - (intOf i).toNat)
 case atStart=>exact ⟨0,by omega,rfl,by simp,⟨by rw[show zlp k0 0 ss=ss by simp[zlp,zex]];exact h,World.grownBy.refl _ _⟩,Nat.le_refl _⟩
 case round =>
  obtain ⟨k,hk,rfl,rfl,I,hzr⟩:=hrel;clear h hc
  have k0':(0:Int)≤(k:Int):=by omega
  by_cases hlt:k < ss.length
  ·have k1:(k:Int) < (ss.length:Int):=by omega
   have MS:=zaa (yafi (k0:=k0) hlt);have ML:=yals (k0:=k0) hk;have LM:=zaa (fun w1=>zmw (k0+(k:Int)).toNat w1 (by omega));rw[show (((k0+(k:Int)).toNat:Nat):Int)=k0+(k:Int) by omega] at LM;generalize mtx (k0+(k:Int)).toNat=tx at *;go_wp2_with fail;refine (LM.o _).mono ?_;rintro e w2 ⟨rfl,hb⟩;have R2:=zaa (I.o.1.below hb (by omega));have G2:=zaa (zqh I.o.2 (yaba (row:=(Value.slice ao ss.length cap).ownBlock) hb));have hz2:wr.heap.size≤w2.heap.size:=hb.size;clear I hb LM;obtain ⟨_,ao',cap',e',_,hc⟩:=R2.o.rd
   cases e'
   obtain ⟨b,o,rfl,hbl,_⟩:=hc (by omega)
   obtain ⟨rfl,hb1,hb2,_,hfr,hcl⟩:=R2.o.at
   have f0:=hfr k;have e0:=(hcl k (by omega)).trans (zvb (zlp k0 k ss) k (by omega))
   have R3:Hid (Row (w2.setCell ⟨b,k,none⟩ (.string tx)) 9 1 lo hi (.slice (some ⟨b,0,none⟩) ss.length cap) ss.length (zlf (zlp k0 (k+1) ss))∧w.grownBy (w2.setCell ⟨b,k,none⟩ (.string tx)) (Value.slice (some ⟨b,0,none⟩) ss.length cap).ownBlock):=by
    refine ⟨?_,zct G2.o (a:=⟨b,k,none⟩) rfl _⟩;rw[← MS.o];exact R2.o.stored _ _
   generalize (zlp k0 k ss)[k]'(by omega)=y at e0;clear R2 G2 hc hfr hcl;go_wp2
   go_roundw
   case rel=>exact ⟨k+1,by omega,by go_num,by go_num,R3,by simp;omega⟩
   case measure=>simp[intOf];omega
  ·obtain rfl:k=ss.length:=by omega
   have E:=zaa (show zlp k0 ss.length ss=zex k0 ss.length by simp[zlp]);go_wp2;go_ret;exact ⟨rfl,by have:=I.o.1;rw[E.o] at this;exact this,I.o.2,trivial⟩
theorem zpy (v:Value) (n:Nat) (k0:Int) (w:World) (h:RdT w v (zex k0 n)) (hn:n≤16777216) (h0:0≤k0) (h1:k0≤1099511627776) :
  Calls Tryz.prog 104 #[v,.int .i64 k0] w fun e w'=>e=.returned (.int .i64 (k0+n))∧Below w.heap.size w w':=by
 obtain ⟨ao,cap,hv,hcap,hc⟩:=h.shape;rw[zcw] at hv hcap;subst hv;have HC:=zaa hc;clear h hc;go_enter Tryz.func104,Tryz.ntmps104;go_wp2
 go_loopw [1,5] (fun c i wr=>∃ k:Nat,k≤n∧i=.int .i64 k∧c=.int .i64 (k0+k)∧Hid (Below w.heap.size w wr)) (fun _ i _=>n - (intOf i).toNat)
 case atStart=>exact ⟨0,by omega,rfl,by simp,Below.refl _ _⟩
 case round =>
  obtain ⟨k,hk,rfl,rfl,B⟩:=hrel
  have k0':(0:Int)≤(k:Int):=by omega
  by_cases hlt:k < n
  ·obtain ⟨b,o,rfl,hbl,hcell⟩:=HC.o (by rw[zcw];omega)
   have k1:(k:Int) < (n:Int):=by omega
   have c0:=hcell k (by rw[zcw];exact hlt);rw[yajj] at c0;have LM:=zaa (fun w1=>zmw (k0+(k:Int)).toNat w1 (by omega));rw[show (((k0+(k:Int)).toNat:Nat):Int)=k0+(k:Int) by omega] at LM;generalize mtx (k0+(k:Int)).toNat=tx at *
   have hblr:b < wr.heap.size:=by have:=B.o.size;omega
   have d0:=(B.o.cell (p:=⟨b,o+k,none⟩) hbl).trans c0
   have SK:Hid (∀ w',Below wr.heap.size wr w'→w'.cell? ⟨b,o+k,none⟩=some (.string tx)):=fun w' hb=>(hb.cell (p:=⟨b,o+k,none⟩) hblr).trans d0
   have hzr:w.heap.size≤wr.heap.size:=B.o.size;clear hcell c0;go_wp2_with fail
   go_region_held3 (fun w'=>w'.cell? ⟨b,o+k,none⟩=some (.string tx))
    (exact SK.o _ (by repeat (first | exact BF.o | exact Below.refl _ _ | refine Below.drew ?_)))
    (first
     | (go_at_call 118;refine (LM.o _).mono ?_;rintro e w1 ⟨rfl,hb1⟩;have BF:Hid (Below wr.heap.size wr w1):=(by first | exact hb1 | exact zab (by repeat (first | exact Below.refl _ _ | refine Below.drew ?_)) hb1 (Nat.le_refl _));clear hb1))
   all_goals
    have B3:=zaa (zab B.o BF.o hzr);clear SK d0;go_wp2
    go_roundw
    case rel=>exact ⟨k+1,by omega,by go_num,by go_num,(by repeat (first | exact B3.o | refine Below.drew ?_))⟩
    case measure=>simp[intOf];omega
  ·obtain rfl:k=n:=by omega
   go_wp2;go_ret;exact ⟨rfl,B.o⟩
def isIB:Value→Bool
 | .int _ _=>true
 | _=>false
def isSB:Value→Bool
 | .string _=>true
 | _=>false
def zll:List Value→Bool
 | []=>true
 | [a]=>!isSB a
 | [a,b]=>!isSB a && !isSB b
 | a :: b :: c :: t=>!isSB a && !(isIB a && isIB b && isIB c) && zll (b :: c :: t)
theorem zqf {a:Value} {l:List Value} (h:zll (a :: l)=true):isSB a=false∧zll l=true:=by
 match l with
 | []=>simp[zll] at h;exact ⟨h,rfl⟩
 | [b]=>simp[zll] at h;exact ⟨h.1,by simp[zll,h.2]⟩
 | b :: c :: t =>
  simp only[zll,Bool.and_eq_true,Bool.not_eq_true'] at h;exact ⟨h.1.1,h.2⟩
theorem zyw:∀ {l:List Value},zll l=true→∀ (j:Nat) (v:Value),l[j]?=some v→isSB v=false
 | [],_,j,v,e=>by cases e
 | a :: l,h,0,v,e=>by
  simp only[List.getElem?_cons_zero,Option.some.injEq] at e;rw[← e];exact (zqf h).1
 | a :: l,h,j+1,v,e=>zyw (zqf h).2 j v (by simpa using e)
theorem zsf:∀ {l:List Value},zll l=true→∀ (j:Nat) (a b c:Value),l[j]?=some a→l[j+1]?=some b→l[j+2]?=some c→¬ (isIB a=true∧isIB b=true∧isIB c=true)
 | [],_,j,_,_,_,e,_,_=>by cases e
 | x :: l,h,0,a,b,c,e1,e2,e3=>by
  match l,h,e2,e3 with
  | [],_,e2,_=>simp at e2
  | [y],_,_,e3=>simp at e3
  | y :: z :: t,h,e2,e3 =>
   simp only[List.getElem?_cons_zero,List.getElem?_cons_succ,Option.some.injEq] at e1 e2 e3;subst e1 e2 e3;simp only[zll,Bool.and_eq_true,Bool.not_eq_true'] at h;intro q;have:=h.1.2;rw[q.1,q.2.1,q.2.2] at this
   cases this
 | x :: l,h,j+1,a,b,c,e1,e2,e3=>zsf (zqf h).2 j a b c (by simpa using e1) (by simpa using e2) (by simpa using e3)
def Hard (xs:List Value):Prop:=(∃ (j:Nat) (v:Value),xs[j]?=some v∧isSB v=true)∨∃ (j:Nat) (a b c:Value),xs[j]?=some a∧xs[j+1]?=some b∧xs[j+2]?=some c∧isIB a=true∧isIB b=true∧isIB c=true
structure Soft (w w':World):Prop where
 size:w.heap.size≤w'.heap.size
 blk:∀ j,j < w.heap.size→w'.heap[j]?=w.heap[j]?∨∃ cs t fr,w.heap[j]?=some (.cells cs t fr)∧zll cs.toList=true
theorem Soft.trans {a b c:World} (h:Soft a b) (k:Soft b c):Soft a c :=
 ⟨Nat.le_trans h.size k.size,fun j hj=>by
  rcases h.blk j hj with e | e
  ·rcases k.blk j (Nat.lt_of_lt_of_le hj h.size) with f | f
   ·exact .inl (f.trans e)
   ·rw[e] at f;exact .inr f
  ·exact .inr e⟩
theorem Soft.of_below {w w':World} (h:Below w.heap.size w w'):Soft w w':=⟨h.size,fun j hj=>.inl (h.block j hj)⟩
theorem Soft.outside {w w':World} {b:Nat} {cs:Array Value} {t:TypeId} {fr:Nat×Nat} (h:Outside b (b+1) w w') (hb:w.heap[b]?=some (.cells cs t fr)) (hs:zll cs.toList=true):Soft w w' :=
 ⟨h.size,fun k hk=>by
  by_cases e:k=b
  ·subst e;exact .inr ⟨cs,t,fr,hb,hs⟩
  ·exact .inl (h.block k hk (by omega))⟩
theorem Rd.soft {w w':World} {size:Nat} {v:Value} {n:Nat} {xs:List Value} (h:Rd w size v n xs) (hs:Soft w w') (hd:0 < n*size→Hard xs):Rd w' size v n xs:=by
 by_cases hn:0 < n*size
 ·refine h.same hs.size (fun j hj he=>?_)
  rcases hs.blk j hj with e | ⟨cs,t,fr,hb,sf⟩
  ·exact e
  ·exfalso;obtain ⟨hl,ao,cap,rfl,_,hc⟩:=h
   have hn':0 < n:=by
    rcases Nat.eq_zero_or_pos n with e | e
    ·subst e;simp at hn
    ·exact e
   obtain ⟨b',o,rfl,_,hc⟩:=hc hn';simp only[Value.ownBlock,Option.some.injEq] at he;subst he
   have C:∀ k u,xs[k]?=some u→cs.toList[o+k]?=some u:=fun k u e=>by
    have hk:k < n*size:=by
     have:=(List.getElem?_eq_some_iff.1 e).1;omega
    have:=hc k hk;rw[e] at this;simp only[World.cell?,hb] at this;simpa using this
   rcases hd hn with ⟨k,u,e,f⟩ | ⟨k,a,b,c,e1,e2,e3,f1,f2,f3⟩
   ·have:=zyw sf _ _ (C k u e);rw[f] at this
    cases this
   ·exact zsf sf (o+k) a b c (C k a e1) (C (k+1) b e2) (C (k+2) c e3) ⟨f1,f2,f3⟩
 ·obtain ⟨h3,ao,cap,rfl,h4,h5⟩:=h;refine ⟨h3,ao,cap,rfl,h4,fun hp=>?_⟩;obtain ⟨b',o,e,hlt,hc⟩:=h5 hp;exact ⟨b',o,e,Nat.lt_of_lt_of_le hlt hs.size,fun j hj=>absurd (Nat.lt_of_le_of_lt (Nat.zero_le _) hj) hn⟩
theorem yaja {zs:List Int} (h:3≤zs.length):Hard (zav zs):=.inr ⟨0,_,_,_,zay zs 0 (by omega),zay zs 1 (by omega),zay zs 2 (by omega),rfl,rfl,rfl⟩
theorem RdI.soft {w w':World} {v:Value} {zs:List Int} (h:RdI w v zs) (hs:Soft w w') (h3:3≤zs.length):RdI w' v zs:=Rd.soft h hs (fun _=>yaja h3)
theorem Rd.softNil {w w':World} {size:Nat} {v:Value} (h:Rd w size v 0 []) (hs:Soft w w'):Rd w' size v 0 []:=Rd.soft h hs (fun hn=>by simp at hn)
theorem RdDev.soft {w w':World} {v:Value} {ws es:List Int} (h:RdDev w v ws [] es []) (hs:Soft w w') (h1:3≤ws.length) (h2:3≤es.length):RdDev w' v ws [] es []:=by
 obtain ⟨vW,vP,vS,vQ,rfl,⟨_,_,e1,a,b⟩,⟨_,_,e2,c,d⟩⟩:=h
 cases e1
 cases e2
 exact ⟨_,_,_,_,rfl,⟨_,_,rfl,RdI.soft a hs h1,Rd.softNil b hs⟩,⟨_,_,rfl,RdI.soft c hs h2,Rd.softNil d hs⟩⟩
theorem yank {w:World} {b:Nat} {t:TypeId} {x y z u a b' c d:Value} (h:w.heap[b]?=some (.cells #[x,y,z,u] t (0,0))):(zix w b a b' c d).heap[b]?=some (.cells #[a,b',c,d] t (0,0)):=by
 simp[zix,World.setCell,Array.getElem?_modify,h]
theorem belY {a b c:World} (h1:Below a.heap.size a b) (h2:Below b.heap.size b c):Below a.heap.size a c:=zab h1 h2 h1.size
theorem RdDev.put {w:World} {b:Nat} {ws:List Int} {ps:List St} {es:List Int} {qs:List Se} {v:Value} {x y z u:Value} {t:TypeId} {fr:Nat×Nat} (h:RdDev w v ws ps es qs) (hb:w.heap[b]?=some (.cells #[x,y,z,u] t fr)) (hx:∀ n,¬ x=.int .i64 n) (hy:∀ n,¬ y=.int .i64 n) (hz:∀ n,¬ z=.int .i64 n) (hu:∀ n,¬ u=.int .i64 n) (p q r s:Value):RdDev (zix w b p q r s) v ws ps es qs:=by
 obtain ⟨vW,vP,vS,vQ,rfl,h1,h2⟩:=h;have O:=zbb w b p q r s;have N:=zdi hx hy hz hu;exact ⟨_,_,_,_,rfl,h1.boxless hb N O.size (fun j hj hn=>O.block j hj (by omega)),h2.boxless hb N O.size (fun j hj hn=>O.block j hj (by omega))⟩
theorem yapa {l:List Mi} {ws:List Int} {ps:List St} {es:List Int} {qs:List Se} (h:(mr l ws ps es qs).c=0) {k:Nat} (hk:k < l.length) {W:List Int} {P:List St} {E:List Int} {Q:List Se} (r:mr (l.take k) ws ps es qs=⟨0,W,P,E,Q⟩):zgl l[k] P Q=false:=by
 cases f:zgl l[k] P Q with
 | false=>rfl
 | true =>
  rw[yamb hk r f] at h
  cases h
end Go.Proofs.YtahiphgmhndgaaaGreatDoor
