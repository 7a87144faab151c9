/- Several texts laid together: PiD, PiF, PiI. -/
import Derived.Test.YtbohndgbfbfldaaGreatDoorZAH
import Derived.Test.YtbohndgbfbfldaaGreatDoorZAE
import Derived.Test.YtbohndgbfbfldaaGreatDoorZAF
import Derived.Laws.CopyRow
import Derived.Laws.CopyOwn
import Derived.Deep.RegionHeld3
import Derived.Laws.OwnMore
import Derived.Deep.RegionLaw
set_option maxRecDepth 100000
set_option maxHeartbeats 4000000
namespace Go.Proofs.YtbohndgbfbfldaaGreatDoor
open Go.RowKit
theorem eq8 (a0 a1 a2 a3 a4 a5 a6 a7 b0 b1 b2 b3 b4 b5 b6 b7:Int) (w:World):(Op.equalIn 9999 147 (.agg #[.int .i64 a0,.int .i64 a1,.int .i64 a2,.int .i64 a3,.int .i64 a4,.int .i64 a5,.int .i64 a6,.int .i64 a7]) (.agg #[.int .i64 b0,.int .i64 b1,.int .i64 b2,.int .i64 b3,.int .i64 b4,.int .i64 b5,.int .i64 b6,.int .i64 b7])).run Tryz.prog w=.ok (decide ([a0,a1,a2,a3,a4,a5,a6,a7]=[b0,b1,b2,b3,b4,b5,b6,b7])) w:=by
 have U3:=Tryz.underlying3;have A3:=Tryz.isAgg3;have Z3:=Tryz.sizeOf3;rw[show (9999:Nat)=9998+1 from rfl,Op.equalIn];simp only[Sem.run_bind,run_underlying Tryz.underlying147,Result.andThen_ok];simp only[Std.Legacy.Range.forIn_eq_forIn_range',Std.Legacy.Range.size,Nat.sub_zero,Nat.add_sub_cancel,Nat.div_one,List.range'_succ,List.range'_zero,List.forIn_cons,List.forIn_nil];go_simp
 by_cases h0:a0=b0
 case neg=>simp[h0]
 by_cases h1:a1=b1
 case neg=>simp[h0,h1]
 by_cases h2:a2=b2
 case neg=>simp[h0,h1,h2]
 by_cases h3:a3=b3
 case neg=>simp[h0,h1,h2,h3]
 by_cases h4:a4=b4
 case neg=>simp[h0,h1,h2,h3,h4]
 by_cases h5:a5=b5
 case neg=>simp[h0,h1,h2,h3,h4,h5]
 by_cases h6:a6=b6
 case neg=>simp[h0,h1,h2,h3,h4,h5,h6]
 by_cases h7:a7=b7
 case neg=>simp[h0,h1,h2,h3,h4,h5,h6,h7]
 simp[h0,h1,h2,h3,h4,h5,h6,h7]
def zlz (xs ys:List Int):Bool:=decide (xs=ys)
theorem zvu {xs ys:List Int} (h:xs=ys):zlz xs ys=true:=decide_eq_true h
theorem ztz {xs ys:List Int} (h:¬ xs=ys):zlz xs ys=false:=decide_eq_false h
@[go_sem ↓] theorem yaew (k s l a0 a1 a2 a3 a4 a5 a6 a7 k' s' l' b0 b1 b2 b3 b4 b5 b6 b7:Int) (w:World):(Op.equalIn 10000 149 (.agg #[.int .i64 k,.int .i64 s,.int .i64 l,.int .i64 a0,.int .i64 a1,.int .i64 a2,.int .i64 a3,.int .i64 a4,.int .i64 a5,.int .i64 a6,.int .i64 a7]) (.agg #[.int .i64 k',.int .i64 s',.int .i64 l',.int .i64 b0,.int .i64 b1,.int .i64 b2,.int .i64 b3,.int .i64 b4,.int .i64 b5,.int .i64 b6,.int .i64 b7])).run Tryz.prog w=.ok (zlz [k,s,l,a0,a1,a2,a3,a4,a5,a6,a7] [k',s',l',b0,b1,b2,b3,b4,b5,b6,b7]) w:=by
 have e8:=eq8 a0 a1 a2 a3 a4 a5 a6 a7 b0 b1 b2 b3 b4 b5 b6 b7 w;unfold zlz
 by_cases g0:k=k'
 case neg=>go_simp
 by_cases g1:s=s'
 case neg=>go_simp
 by_cases g2:l=l'
 case neg=>go_simp
 subst g0 g1 g2;go_simp
 split
 ·rename_i h;rw[h]
 ·rename_i h;rw[Bool.not_eq_false] at h;rw[h]
theorem zpa (x:Ino) (w:World) (hT:TS w) (hE:ED w) (hr:x.R):Calls Tryz.prog 154 #[x.v] w fun e w'=>e=.returned (.bool (zdt x))∧Below w.heap.size w w':=by
 have hv:x.v=.agg x.cs.toArray:=rfl;have BW:Hid (Below w.heap.size w (w.alloc (.cells x.cs.toArray 149))):=(Below.refl _ _).alloc (Nat.le_refl _) _
 have CA:Hid (∀ j,(w.alloc (.cells x.cs.toArray 149)).cell? ⟨w.heap.size,j,none⟩=x.cs[j]?):=fun j=>(zat (xs:=x.cs) (zah rfl) j).1
 have T:Hid (TS (w.alloc (.cells x.cs.toArray 149))):=hT.below BW.o;obtain ⟨d0,d1,d2,d3,d4,d5,d6,d7,d8,d9,d10⟩:=ED.cells (hE.below BW.o);obtain ⟨p0,p1,p2,p3,p4,p5,p6,p7,p8,p9,p10⟩:=Ino.all CA.o;have LF:=zaa (fun w1 (h:TS w1)=>zsl x w1 h hr);rw[hv];clear hT hE hr CA
 by_cases h0:x.ns=[0,0,0,0,0,0,0,0,0,0,0]
 ·have E:=zaa (ztt h0);have q1:zlz [x.kind,x.size,x.links,x.m0,x.m1,x.m2,x.m3,x.m4,x.m5,x.m6,x.m7] [0,0,0,0,0,0,0,0,0,0,0]=true:=zvu h0;clear h0;go_enter Tryz.func154,Tryz.ntmps154;go_wp2;go_ret;exact ⟨zac E.o.symm,BW.o⟩
 have q1:zlz [x.kind,x.size,x.links,x.m0,x.m1,x.m2,x.m3,x.m4,x.m5,x.m6,x.m7] [0,0,0,0,0,0,0,0,0,0,0]=false:=ztz h0
 by_cases h1:x.ns=[2,0,1,0,0,0,0,0,0,0,0]
 ·have E:=zaa (yabv h1);have q2:zlz [x.kind,x.size,x.links,x.m0,x.m1,x.m2,x.m3,x.m4,x.m5,x.m6,x.m7] [2,0,1,0,0,0,0,0,0,0,0]=true:=zvu h1;clear h0 h1;go_enter Tryz.func154,Tryz.ntmps154;go_wp2;go_ret;exact ⟨zac E.o.symm,BW.o⟩
 have q2:zlz [x.kind,x.size,x.links,x.m0,x.m1,x.m2,x.m3,x.m4,x.m5,x.m6,x.m7] [2,0,1,0,0,0,0,0,0,0,0]=false:=ztz h1;have E:=zaa (zzm h0 h1);clear h0 h1;go_enter Tryz.func154,Tryz.ntmps154;go_wp2_with fail;refine (LF.o _ T.o).mono ?_;rw[E.o];rintro e w1 ⟨rfl,hb1⟩;have B1:=zaa (zab BW.o hb1 BW.o.size);clear hb1;go_wp2;go_ret;exact ⟨rfl,B1.o⟩
def FD (w:World):Prop:=∃ t fr,w.heap[2]?=some (.cells #[.int .i64 0,.string ⟨#[]⟩,.int .i64 (-1)] t fr)
theorem FD.lt {w:World} (h:FD w):2 < w.heap.size:=by
 obtain ⟨t,fr,h⟩:=h;exact (Array.getElem?_eq_some_iff.1 h).1
theorem FD.below {w w':World} (h:FD w) (hb:Below w.heap.size w w'):FD w':=by
 have hl:=h.lt;obtain ⟨t,fr,h⟩:=h;exact ⟨t,fr,(hb.block _ hl).trans h⟩
theorem FD.cells {w:World} (h:FD w):w.cell? ⟨2,0,none⟩=some (.int .i64 0)∧w.cell? ⟨2,1,none⟩=some (.string ⟨#[]⟩)∧w.cell? ⟨2,2,none⟩=some (.int .i64 (-1)):=by
 obtain ⟨t,fr,h⟩:=h;simp[World.cell?,h]
def zgs (a:Int) (s:ByteArray) (c a':Int) (s':ByteArray) (c':Int):Bool:=(a == a') && ((s.toList == s'.toList) && (c == c'))
@[go_sem ↓] theorem yaet (a:Int) (s:ByteArray) (c a':Int) (s':ByteArray) (c':Int) (w:World):(Op.equalIn 10000 143 (.agg #[.int .i64 a,.string s,.int .i64 c]) (.agg #[.int .i64 a',.string s',.int .i64 c'])).run Tryz.prog w=.ok (zgs a s c a' s' c') w:=by
 unfold zgs
 cases g0:(a == a')
 ·go_simp
 cases g1:(s.toList == s'.toList)
 ·go_simp
 cases g2:(c == c')
 ·go_simp
 ·go_simp
theorem zqe:(⟨#[]⟩:ByteArray).toList=[]:=(zhu _).2 rfl
theorem zkh (x:Den):zgs x.dir x.name x.child 0 ⟨#[]⟩ (-1)=x.freeB:=by
 unfold zgs Den.freeB
 congr 2
 rw[zqe,Bool.eq_iff_iff,beq_iff_eq,beq_iff_eq];exact zhu x.name
theorem Den.okB_free {x:Den} (h:x.freeB=true):x.okB=true:=by unfold Den.okB;rw[h];rfl
theorem Den.okB_not {x:Den} (h:x.freeB=false):x.okB=(decide (1≤x.child∧x.child≤15) && (decide (0≤x.dir∧x.dir≤15) && nmB x.name)):=by unfold Den.okB;rw[h,Bool.false_or]
theorem zsa (s:ByteArray):(zjc s == 0)=nmB s:=by
 unfold zjc
 cases h:nmB s with
 | true =>
  have:=(of_decide_eq_true h:1≤s.size∧s.size≤6∧_)
  rw[if_neg (by omega),if_pos rfl];rfl
 | false =>
  split
  ·rfl
  ·rw[if_neg (by decide)];rfl
theorem ziq (s:ByteArray) (w:World) (hs:s.size≤maxLen):Calls Tryz.prog 206 #[.string s] w fun e w'=>e=.returned (.bool (nmB s))∧Below w.heap.size w w':=by
 have P:=zaa (zsa s);have LP:=zaa (fun w1=>zgz s w1 hs);generalize zmi s=pv at *;generalize zjc s=pc at *;clear hs;go_enter Tryz.func206,Tryz.ntmps206;go_wp2_with fail;refine (LP.o _).mono ?_;rintro e w1 ⟨rfl,hb1⟩;go_wp2;go_ret;exact ⟨zac P.o,hb1⟩
theorem znv (x:Den) (w:World) (hF:FD w) (hs:x.name.size≤maxLen):Calls Tryz.prog 185 #[x.v] w fun e w'=>e=.returned (.bool x.okB)∧Below w.heap.size w w':=by
 have LN:=zaa (fun w1=>ziq x.name w1 hs);have DF:=zkh x;have OF:=@Den.okB_free x;have ON:=@Den.okB_not x;obtain ⟨d,s,c⟩:=x;simp only at LN DF ON hs;unfold Den.v;simp only;have BW:=zaa ((Below.refl w.heap.size w).alloc (Nat.le_refl _) (.cells #[.int .i64 d,.string s,.int .i64 c] 143))
 have CB:Hid (∀ w',Below (w.alloc (.cells #[.int .i64 d,.string s,.int .i64 c] 143)).heap.size (w.alloc (.cells #[.int .i64 d,.string s,.int .i64 c] 143)) w'→w'.cell? ⟨w.heap.size,0,none⟩=some (.int .i64 d)∧w'.cell? ⟨w.heap.size,1,none⟩=some (.string s)∧w'.cell? ⟨w.heap.size,2,none⟩=some (.int .i64 c)):=fun w' hb=>zbq ((hb.block _ (by simp)).trans (zah rfl))
 obtain ⟨x0,x1,x2⟩:=CB.o _ (Below.refl _ _);obtain ⟨f0,f1,f2⟩:=FD.cells (hF.below BW.o);clear hF hs
 cases h0:(Den.mk d s c).freeB with
 | true =>
  rw[h0] at DF;have E:=zaa (OF h0);clear OF ON LN CB h0;go_enter Tryz.func185,Tryz.ntmps185;go_wp2;go_ret;exact ⟨zac E.o.symm,BW.o⟩
 | false =>
  rw[h0] at DF;have E:=zaa (ON h0);clear OF ON h0
  cases h1:nmB s with
  | false =>
   rw[h1] at E;have N1:=zaa h1;clear h1 CB;go_enter Tryz.func185,Tryz.ntmps185;go_wp2_with fail;refine (LN.o _).mono ?_;rw[N1.o];rintro e w1 ⟨rfl,hb1⟩;have B1:=zaa (zab BW.o hb1 BW.o.size);clear hb1 x0 x1 x2 f0 f1 f2;go_wp2;go_ret;exact ⟨zac (by rw[E.o,Bool.and_false,Bool.and_false]),B1.o⟩
  | true =>
   rw[h1] at E;have N1:=zaa h1;clear h1
   by_cases h2:0≤d∧d < 16
   case neg =>
    have E2:=zaa (show (Den.mk d s c).okB=false by rw[E.o,decide_eq_false (show ¬ (0≤d∧d≤15) by omega),Bool.false_and,Bool.and_false]);have H2:=zaa h2;clear h2 E;go_enter Tryz.func185,Tryz.ntmps185;go_wp2_with fail;refine (LN.o _).mono ?_;rw[N1.o];rintro e w1 ⟨rfl,hb1⟩;have B1:=zaa (zab BW.o hb1 BW.o.size);clear x0 x1 x2 f0 f1 f2;obtain ⟨x0,x1,x2⟩:=CB.o _ hb1;clear hb1 CB;go_wp2_with fail;refine (zar _ _ _ H2.o).mono ?_;rintro e w' ⟨rfl,hw'⟩;subst w';go_wp2;go_ret;exact ⟨zac E2.o.symm,B1.o⟩
   by_cases h3:0≤c∧c < 16
   case neg =>
    have E2:=zaa (show (Den.mk d s c).okB=false by rw[E.o,decide_eq_false (show ¬ (1≤c∧c≤15) by omega),Bool.false_and]);have H2:=zaa h2;have H3:=zaa h3;clear h2 h3 E;go_enter Tryz.func185,Tryz.ntmps185;go_wp2_with fail;refine (LN.o _).mono ?_;rw[N1.o];rintro e w1 ⟨rfl,hb1⟩;have B1:=zaa (zab BW.o hb1 BW.o.size);clear x0 x1 x2 f0 f1 f2;obtain ⟨x0,x1,x2⟩:=CB.o _ hb1;clear hb1 CB;go_wp2_with fail;refine (zam _ _ _ H2.o).mono ?_;rintro e w' ⟨rfl,hw'⟩;subst w';go_wp2_with fail;refine (zar _ _ _ H3.o).mono ?_;rintro e w' ⟨rfl,hw'⟩;subst w';go_wp2;go_ret;exact ⟨zac E2.o.symm,B1.o⟩
   have E2:=zaa (show (Den.mk d s c).okB=(c != 0) by
    rw[E.o,decide_eq_true (show 0≤d∧d≤15 by omega)]
    by_cases h:c=0
    ·rw[h];rfl
    ·rw[decide_eq_true (show 1≤c∧c≤15 by omega),eq_comm];simpa using h)
   have H2:=zaa h2;have H3:=zaa h3;clear h2 h3 E;go_enter Tryz.func185,Tryz.ntmps185;go_wp2_with fail;refine (LN.o _).mono ?_;rw[N1.o];rintro e w1 ⟨rfl,hb1⟩;have B1:=zaa (zab BW.o hb1 BW.o.size);clear x0 x1 x2 f0 f1 f2;obtain ⟨x0,x1,x2⟩:=CB.o _ hb1;clear hb1 CB;go_wp2_with fail;refine (zam _ _ _ H2.o).mono ?_;rintro e w' ⟨rfl,hw'⟩;subst w';go_wp2_with fail;refine (zam _ _ _ H3.o).mono ?_;rintro e w' ⟨rfl,hw'⟩;subst w';go_wp2;go_ret;exact ⟨zac E2.o.symm,B1.o⟩
theorem zqh (w1:World) (x:Den):Rd (w1.alloc (.cells #[.int .i64 x.dir,.string x.name,.int .i64 x.child] 143)) 3 (.slice (some ⟨w1.heap.size,0,none⟩) 1 1) 1 (zcv [x]):=by
 refine ⟨rfl,_,_,rfl,⟨Nat.le_refl _,fun e=>by cases e⟩,fun _=>⟨w1.heap.size,0,rfl,by simp,fun j hj=>?_⟩⟩;obtain ⟨e0,e1,e2⟩:=zbq (zah (w:=w1) (o:=.cells #[.int .i64 x.dir,.string x.name,.int .i64 x.child] 143) rfl)
 rcases (show j=0∨j=1∨j=2 by omega) with rfl | rfl | rfl
 ·exact e0
 ·exact e1
 ·exact e2
theorem zdv (l:List Den):∀ u∈zcv l,u.oneCell'=true:=by
 intro u hu;simp only[zcv,List.mem_flatMap] at hu;obtain ⟨m,_,hm⟩:=hu;simp[Den.cells] at hm
 rcases hm with rfl | rfl | rfl <;> rfl
theorem zfe (l l':List Den):zcv (l ++ l')=zcv l ++ zcv l':=by simp[zcv]
structure DnI (W w:World) (vL:Value) (ds:List Den):Prop where
 l:w.ownsRow W.heap.size 143 3 vL ds.length (zcv ds)
 b:Below W.heap.size W w
theorem DnI.z {W w:World} {vL:Value} {ds:List Den} (h:DnI W w vL ds):W.heap.size≤w.heap.size:=h.b.size
theorem DnI.below {W w w':World} {vL:Value} {ds:List Den} (h:DnI W w vL ds) (hb:Below w.heap.size w w'):DnI W w' vL ds :=
 ⟨((zai h.l).below hb (Nat.le_refl _)).1,zab h.b hb h.z⟩
theorem DnI.grow {W w w':World} {vL v':Value} {ds:List Den} (h:DnI W w vL ds) (ms:List Den) (ho:w'.ownsRow W.heap.size 143 3 v' (ds.length+ms.length) (zcv ds ++ zcv ms)) (hg:w.grownBy w' vL.ownBlock):DnI W w' v' (ds ++ ms) :=
 ⟨by rw[zfe,List.length_append];exact ho,h.b.grown hg h.z (fun q hq=>(h.l.lt q hq).1)⟩
def zal (ps:List Den):List Den:=ps.filter fun x=>!x.freeB
theorem zse {ps:List Den} {k:Nat} (h:k < ps.length):zal (ps.take (k+1))=if ps[k].freeB=true then zal (ps.take k) else zal (ps.take k) ++ [ps[k]]:=by
 unfold zal;rw[List.take_succ_eq_append_getElem h,List.filter_append]
 cases hf:ps[k].freeB <;> simp[hf]
theorem zmo (ps:List Den):(zal ps).length≤ps.length:=List.length_filter_le _ _
theorem zha (v:Value) (ps:List Den) (w:World) (h:RdD w v ps) (hn:ps.length≤4096) (hF:FD w) :
  Calls Tryz.prog 144 #[v] w fun e w'=>∃ v',e=.returned v'∧Row w' 143 3 w.heap.size w'.heap.size v' (zal ps).length (zcv (zal ps))∧Below w.heap.size w w':=by
 obtain ⟨aP,cP,rfl,_,hcP⟩:=h.shape;have HP:=zaa hcP;have F:=zaa hF;clear h hcP hF;go_enter Tryz.func144,Tryz.ntmps144;go_wp2
 go_loopw [3,5,8] (fun vL _ i wr=>∃ k:Nat,k≤ps.length∧i=.int .i64 k∧Hid (DnI w wr vL (zal (ps.take k)))∧w.heap.size≤wr.heap.size) (fun _ _ i _=>ps.length - (intOf i).toNat)
 case atStart=>exact ⟨0,by omega,rfl,⟨World.ownsRow_nil _ _ _ _,Below.refl _ _⟩,Nat.le_refl _⟩
 case round =>
  obtain ⟨k,hk,rfl,I,hz⟩:=hrel
  by_cases hlt:k < ps.length
  ·obtain ⟨b,o,rfl,hbl,hcell⟩:=HP.o (by omega);obtain ⟨a0,a1,a2⟩:=hcell k hlt;have d0:=(I.o.b.cell (p:=⟨b,o+k*3,none⟩) hbl).trans a0;have d1:=(I.o.b.cell (p:=⟨b,o+k*3+1,none⟩) hbl).trans a1;have d2:=(I.o.b.cell (p:=⟨b,o+k*3+2,none⟩) hbl).trans a2
   have k0:(0:Int)≤(k:Int):=by omega
   have k1:(k:Int) < (ps.length:Int):=by omega
   have TS:=zaa (zse hlt);have TL:=zmo (ps.take k);rw[List.length_take] at TL;have DF:=zkh ps[k];clear a0 a1 a2 hcell;generalize ps[k]=x at *;have IB:Hid (DnI w (wr.alloc (.cells #[.int .i64 x.dir,.string x.name,.int .i64 x.child] 143)) u3 (zal (ps.take k))):=I.o.below ((Below.refl _ _).alloc (Nat.le_refl _) _);obtain ⟨f0,f1,f2⟩:=FD.cells (F.o.below IB.o.b);have hzb:=IB.o.z
   cases hf:x.freeB with
   | true =>
    have G:Hid (DnI w (wr.alloc (.cells #[.int .i64 x.dir,.string x.name,.int .i64 x.child] 143)) u3 (zal (ps.take (k+1)))):=by unfold Hid;rw[TS.o,if_pos hf];exact IB.o
    rw[hf] at DF;clear IB I TS hf TL;go_wp2
    go_roundw
    case rel=>exact ⟨k+1,by omega,by go_num,G,hzb⟩
    case measure=>simp[intOf];omega
   | false =>
    have IC:Hid (DnI w ((wr.alloc (.cells #[.int .i64 x.dir,.string x.name,.int .i64 x.child] 143)).alloc (.cells #[.int .i64 x.dir,.string x.name,.int .i64 x.child] 143)) u3 (zal (ps.take k))):=IB.o.below ((Below.refl _ _).alloc (Nat.le_refl _) _);have RC:=zaa (zqh (wr.alloc (.cells #[.int .i64 x.dir,.string x.name,.int .i64 x.child] 143)) x);have hzc:=IC.o.z
    have TN:Hid (zal (ps.take (k+1))=zal (ps.take k) ++ [x]):=by unfold Hid;rw[TS.o,if_neg (by rw[hf];decide)]
    rw[hf] at DF;rw[World.size_alloc] at RC;clear IB I TS hf;go_wp2_with (at_builtin;refine zao _ rfl (.tmp 15) (.tmp 17) 38 rfl w.heap.size 143 (.agg #[.int .i64 0,.string ⟨#[]⟩,.int .i64 0]) 3 32 Tryz.underlying38 zgd rfl (by decide) _ _ _ rfl IC.o.l _ 1 _ rfl RC.o (zdv _) (by simp[maxLen];omega) (by omega) (by omega) ?_);intro vN wN hownN hgrN;have G:=zaa (IC.o.grow [x] hownN hgrN);rw[← TN.o] at G;have hzN:=G.o.z;clear hownN hgrN IC RC;go_wp2
    go_roundw
    case rel=>exact ⟨k+1,by omega,by go_num,G,hzN⟩
    case measure=>simp[intOf];omega
  ·obtain rfl:k=ps.length:=by omega
   have E:=zaa (show zal (ps.take ps.length)=zal ps by rw[List.take_length]);rw[E.o] at I;obtain ⟨-,aL,cL,hvL,-⟩:=(zai I.o.l).rd;subst hvL;go_wp2;go_ret;exact ⟨_,rfl,zai I.o.l,I.o.b⟩
end Go.Proofs.YtbohndgbfbfldaaGreatDoor
