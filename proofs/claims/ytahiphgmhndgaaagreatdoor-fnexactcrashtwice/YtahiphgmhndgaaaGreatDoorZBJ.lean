/- Several texts laid together: BlkCopy, BlkWriteI, BlkBarI. -/
import Derived.Test.YtahiphgmhndgaaaGreatDoorZAG
import Derived.Deep.MidRow
import Derived.Deep.WholeRow
set_option maxRecDepth 100000
set_option maxHeartbeats 4000000
namespace Go.Proofs.YtahiphgmhndgaaaGreatDoor
open Go.RowKit
def CopyInvB (w a:World) (x y:Value):Prop:=Below w.heap.size w a∧a.heap[w.heap.size]?=some (.cells #[x,y] 43 (0,0))∧a.heap[w.heap.size+1]?=some (.cells #[.slice none 0 0,.slice none 0 0] 43 (0,0))
theorem CopyInvB.grown {w a b:World} {x y:Value} (h:CopyInvB w a x y) (hg:a.grownBy b none):CopyInvB w b x y:=by
 obtain ⟨h1,h2,h3⟩:=h;have l2:=(Array.getElem?_eq_some_iff.1 h2).1;have l3:=(Array.getElem?_eq_some_iff.1 h3).1;exact ⟨h1.grown hg h1.size (fun k hk=>by cases hk),(hg.block _ l2 (by simp)).trans h2,(hg.block _ l3 (by simp)).trans h3⟩
theorem CopyInvB.rd {w a:World} {x y:Value} (h:CopyInvB w a x y) {size:Nat} {v:Value} {n:Nat} {xs:List Value} (hr:Rd w size v n xs):Rd a size v n xs:=hr.below h.1
theorem CopyInvB.base {w a:World} {x y:Value} (h:CopyInvB w a x y):w.heap.size+2≤a.heap.size:=(Array.getElem?_eq_some_iff.1 h.2.2).1
theorem Row.grownNoneB {a b:World} {e:TypeId} {size lo:Nat} {v:Value} {n:Nat} {xs:List Value} (h:Row a e size lo a.heap.size v n xs) (hg:a.grownBy b none):Row b e size lo b.heap.size v n xs :=
 (h.same (fun k _ hk=>hg.block k hk (by simp))).wide (Nat.le_refl _) hg.size
theorem zwt {w b:World} {x y v1 v2:Value} {ws:List Int} {ps:List Se} (hI:CopyInvB w b x y) (r1:Row b 3 1 (w.heap.size+2) b.heap.size v1 ws.length (zav ws)) (r2:Row b 150 2 (w.heap.size+2) b.heap.size v2 ps.length (ses ps)) :
  RowBlk3 ((b.setCell ⟨w.heap.size+1,0,none⟩ v1).setCell ⟨w.heap.size+1,1,none⟩ v2) w.heap.size ((b.setCell ⟨w.heap.size+1,0,none⟩ v1).setCell ⟨w.heap.size+1,1,none⟩ v2).heap.size (.agg #[v1,v2]) ws ps ∧
   Below w.heap.size w ((b.setCell ⟨w.heap.size+1,0,none⟩ v1).setCell ⟨w.heap.size+1,1,none⟩ v2):=by
 refine ⟨⟨_,_,rfl,(r1.same fun k h1 h2=>?_).wide (by omega) (by simp),(r2.same fun k h1 h2=>?_).wide (by omega) (by simp)⟩,(hI.1.setCell (by simp only;omega) _).setCell (by simp only;omega) _⟩
 ·rw[Below.heap_setCell _ _ _ _ (by simp only;omega),Below.heap_setCell _ _ _ _ (by simp only;omega)]
 ·rw[Below.heap_setCell _ _ _ _ (by simp only;omega),Below.heap_setCell _ _ _ _ (by simp only;omega)]
theorem zjl (v:Value) (ws:List Int) (ps:List Se) (w:World) (h:RdBlk w v ws ps) (hw:ws.length≤2147483648) (hp:ps.length≤2147483648) :
  Calls Tryz.prog 145 #[v] w fun e w'=>∃ v',e=.returned v'∧RowBlk3 w' w.heap.size w'.heap.size v' ws ps∧Below w.heap.size w w':=by
 obtain ⟨vW,vP,rfl,h1,h2⟩:=h;have H1:=zaa h1;have H2:=zaa h2;obtain ⟨aW,cW,rfl,_⟩:=h1.shape;obtain ⟨aP,cP,rfl,_⟩:=h2.shape;clear h1 h2
 have I0:CopyInvB w ((w.alloc (.cells #[.slice aW ws.length cW,.slice aP ps.length cP] 43)).alloc (.cells #[.slice none 0 0,.slice none 0 0] 43)).drew (.slice aW ws.length cW) (.slice aP ps.length cP):=by
  refine ⟨Below.drew ?_,zal (zag rfl),zag (by simp)⟩
  repeat (refine Below.alloc ?_ (by simp <;> omega) _)
  exact Below.refl _ _
 have HI:=zaa I0;clear I0;go_enter Tryz.func145,Tryz.ntmps145;go_wp2_with fail
 go_region_law (first
  | (refine zbx rfl (.const (.slice none 0 0)) (.tmp 4) 22 rfl (w.heap.size+2) 3 (.int .i64 0) 1 8 Tryz.underlying22 zfz rfl (by decide) (.slice none 0 0) 0 [] rfl (World.ownsRow_nil _ _ _ _) (.slice aW ws.length cW) ws.length (zav ws) rfl (by first | exact HI.o.rd H1.o | exact CopyInvB.rd (Hid.o ‹_›) H1.o) (zdw ws) (by simp[maxLen];omega) (by omega) (by first | exact HI.o.base | exact CopyInvB.base (Hid.o ‹_›)) ?_;intro v1 w1 hown1 hgr1;have hown1:w1.ownsRow (w.heap.size+2) 3 1 v1 ws.length (zav ws):=(by simpa using hown1);have I1:=zaa (CopyInvB.grown (by first | exact HI.o | exact Hid.o ‹_›) hgr1);obtain ⟨_,a1,c1,rfl,_⟩:=(zai hown1).rd;obtain ⟨x1,x2,x3,x4⟩:=zad I1.o.2.1;obtain ⟨y1,y2,y3,y4⟩:=zad I1.o.2.2)
  | (refine zbx rfl (.const (.slice none 0 0)) (.tmp 7) 41 rfl (w.heap.size+2) 150 (.agg #[.int .i64 0,.int .i64 0]) 2 16 Tryz.underlying41 zmk rfl (by decide) (.slice none 0 0) 0 [] rfl (World.ownsRow_nil _ _ _ _) (.slice aP ps.length cP) ps.length (ses ps) rfl (by first | exact HI.o.rd H2.o | exact CopyInvB.rd (Hid.o ‹_›) H2.o) (yabr ps) (by simp[maxLen];omega) (by omega) (by first | exact HI.o.base | exact CopyInvB.base (Hid.o ‹_›)) ?_;intro v2 w2 hown2 hgr2;have hown2:w2.ownsRow (w.heap.size+2) 150 2 v2 ps.length (ses ps):=(by simpa using hown2);have I2:=zaa (CopyInvB.grown (by first | exact HI.o | exact Hid.o ‹_›) hgr2);obtain ⟨_,a2,c2,rfl,_⟩:=(zai hown2).rd;obtain ⟨z1,z2,z3,z4⟩:=zad I2.o.2.1;obtain ⟨t1,t2,t3,t4⟩:=zad I2.o.2.2))
 all_goals
  go_wp2;refine bodyPost_ret (v:=.agg #[.slice a1 ws.length c1,.slice a2 ps.length c2]) (by first | (simp[results,Tryz.results145,go_sem,t1,t2];done) | (simp[results,Tryz.results145,go_sem,y1,y2];done)) rfl ?_;refine ⟨_,rfl,?_⟩
  first
   | exact zwt I2.o (Row.grownNoneB (zai hown1) hgr2) (zai hown2)
   | exact zwt I1.o (zai hown1) (Row.grownNoneB (zai hown2) hgr1)
theorem znm (v:Value) (ws:List Int) (ps:List Se) (at_ x:Int) (w:World) (h:RdBlk w v ws ps) (hw:ws.length≤1048576) (hp:ps.length≤1048576) :
  Calls Tryz.prog 149 #[v,.int .i64 at_,.int .i64 x] w fun e w'=>∃ v',e=.returned (.tuple #[v',.int .i64 (zdx ws ps at_ x)])∧RowBlk w' w.heap.size w'.heap.size v' (zcz ws ps at_ x) (zdc ws ps at_ x)∧Below w.heap.size w w':=by
 have HR:=zaa h;obtain ⟨vW,vP,rfl,h1,h2⟩:=h;obtain ⟨aW,cW,rfl,_⟩:=h1.shape;obtain ⟨aP,cP,rfl,_⟩:=h2.shape;clear h1 h2
 have hb0:Below w.heap.size w ((w.alloc (.cells #[.slice aW ws.length cW,.slice aP ps.length cP] 43)).alloc (.cells #[.slice none 0 0,.slice none 0 0] 43)):=by
  repeat (refine Below.alloc ?_ (by simp <;> omega) _)
  exact Below.refl _ _
 rcases zjh ws ps at_ x with ⟨hc,e1,e2,e3⟩ | ⟨hc,hx,e1,e2,e3⟩ | ⟨hc,hx,hl,e1,e2,e3⟩ | ⟨hc,hx,hl,e1,e2,e3⟩
 ·rw[e1,e2,e3];clear e1 e2 e3
  have hne:(zrc ws ps at_ != 0)=true:=by rcases hc with hc | hc <;> simp[hc]
  clear hc;go_enter Tryz.func149,Tryz.ntmps149;go_wp2_with fail;refine (zdt _ ws ps _ _ (HR.o.below hb0) hw hp).mono ?_;rintro e w1 ⟨rfl,hb1⟩;have V1:=(hb1.block (w.heap.size+1) (by simp)).trans (zag (by simp));obtain ⟨t1,t2,t3,t4⟩:=zad V1;have B1:=zaa (zab hb0 hb1 (by simp <;> omega));clear hb0 hb1 V1;go_wp2;refine bodyPost_ret (v:=.tuple #[.agg #[.slice none 0 0,.slice none 0 0],.int .i64 (zrc ws ps at_)]) (by simp[results,Tryz.results149,go_sem,t1,t2]) rfl ?_;exact ⟨_,rfl,RowBlk.zero _ _ _,(B1.o.setCell (by simp only;omega) _).setCell (by simp only;omega) _⟩
 ·rw[e1,e2,e3];clear e1 e2 e3;have C:=zaa hc;clear hc;go_enter Tryz.func149,Tryz.ntmps149;go_wp2_with fail;refine (zdt _ ws ps _ _ (HR.o.below hb0) hw hp).mono ?_;rw[C.o];rintro e w1 ⟨rfl,hb1⟩
  have hz1:w.heap.size+2≤w1.heap.size:=by have:=hb1.size;simp at this;omega
  have V0:=(hb1.block w.heap.size (by simp <;> omega)).trans (zal (zag rfl));have V1:=(hb1.block (w.heap.size+1) (by simp)).trans (zag (by simp));obtain ⟨x1,x2,x3,x4⟩:=zad V0;obtain ⟨t1,t2,t3,t4⟩:=zad V1;have B1:=zaa (zab hb0 hb1 (by simp <;> omega));have VH:=zaa (And.intro V0 V1);clear hb0 hb1 V0 V1;go_wp2_with (go_at_call 166;refine (zcm _ _).mono ?_;rintro e w1 ⟨rfl,rfl⟩);refine bodyPost_ret (v:=.tuple #[.agg #[.slice none 0 0,.slice none 0 0],.int .i64 4]) (by simp[results,Tryz.results149,go_sem,t1,t2]) rfl ?_;exact ⟨_,rfl,RowBlk.zero _ _ _,(B1.o.setCell (by simp only;omega) _).setCell (by simp only;omega) _⟩
 ·rw[e1,e2,e3];clear e1 e2 e3;have C:=zaa hc
  have hl':((ps.length:Int) == 400)=true:=by simp[hl]
  clear hc hl;go_enter Tryz.func149,Tryz.ntmps149;go_wp2_with fail;refine (zdt _ ws ps _ _ (HR.o.below hb0) hw hp).mono ?_;rw[C.o];rintro e w1 ⟨rfl,hb1⟩
  have hz1:w.heap.size+2≤w1.heap.size:=by have:=hb1.size;simp at this;omega
  have V0:=(hb1.block w.heap.size (by simp <;> omega)).trans (zal (zag rfl));have V1:=(hb1.block (w.heap.size+1) (by simp)).trans (zag (by simp));obtain ⟨x1,x2,x3,x4⟩:=zad V0;have B1:=zaa (zab hb0 hb1 (by simp <;> omega));have VH:=zaa (And.intro V0 V1);clear hb0 hb1 V0 V1;go_wp2_with (go_at_call 166;refine (zcm _ _).mono ?_;rintro e w1 ⟨rfl,rfl⟩);refine (zjl _ ws ps _ (HR.o.below B1.o) (by omega) (by omega)).mono ?_;rintro e w2 ⟨v2,rfl,hr2,hb2⟩;obtain ⟨vW2,vP2,rfl,hI2,hS2⟩:=hr2;obtain ⟨aW2,cW2,rfl⟩:=RdI.form hI2.rd rfl;obtain ⟨aP2,cP2,rfl⟩:=RdE.form hS2.rd rfl;have hz2:=hb2.size;have B2:=zaa (zab B1.o hb2 (by omega));have V2:=zaa ((hb2.block _ hz1).trans VH.o.2);have RI:=zaa hI2;have RS:=zaa hS2;clear hb2 hI2 hS2 x1 x2 x3 x4;obtain ⟨t5,t6,t7,t8⟩:=zad (zal (o:=.cells #[.slice aW2 ws.length cW2,.slice aP2 ps.length cP2] 43) V2.o);go_wp2;refine bodyPost_ret (v:=.tuple #[.agg #[.slice aW2 ws.length cW2,.slice aP2 ps.length cP2],.int .i64 7]) (by simp[results,Tryz.results149,go_sem,t5,t6]) rfl ?_
  have hrow:RowBlk w2 w1.heap.size w2.heap.size (.agg #[.slice aW2 ws.length cW2,.slice aP2 ps.length cP2]) ws ps:=⟨_,_,rfl,RI.o.z,RS.o⟩
  exact ⟨_,rfl,(((hrow.alloc (Nat.le_refl _) _).setCell (by simp only;omega) _).setCell (by simp only;omega) _).wide (by omega) (by simp),((B2.o.alloc (by omega) _).setCell (by simp only;omega) _).setCell (by simp only;omega) _⟩
 ·rw[e1,e2,e3];clear e1 e2 e3;have C:=zaa hc
  have hl':((ps.length:Int) == 400)=false:=by simp;omega
  clear hc hl;go_enter Tryz.func149,Tryz.ntmps149;go_wp2_with fail;refine (zdt _ ws ps _ _ (HR.o.below hb0) hw hp).mono ?_;rw[C.o];rintro e w1 ⟨rfl,hb1⟩
  have hz1:w.heap.size+2≤w1.heap.size:=by have:=hb1.size;simp at this;omega
  have V0:=(hb1.block w.heap.size (by simp <;> omega)).trans (zal (zag rfl));have V1:=(hb1.block (w.heap.size+1) (by simp)).trans (zag (by simp));obtain ⟨x1,x2,x3,x4⟩:=zad V0;have B1:=zaa (zab hb0 hb1 (by simp <;> omega));have VH:=zaa (And.intro V0 V1);clear hb0 hb1 V0 V1;go_wp2_with (go_at_call 166;refine (zcm _ _).mono ?_;rintro e w1 ⟨rfl,rfl⟩);refine (zjl _ ws ps _ (HR.o.below B1.o) (by omega) (by omega)).mono ?_;rintro e w2 ⟨v2,rfl,hr2,hb2⟩;obtain ⟨vW2,vP2,rfl,hI2,hS2⟩:=hr2;obtain ⟨aW2,cW2,rfl⟩:=RdI.form hI2.rd rfl;obtain ⟨aP2,cP2,rfl⟩:=RdE.form hS2.rd rfl;have hz2:=hb2.size;have B2:=zaa (zab B1.o hb2 (by omega));have V2:=zaa ((hb2.block _ hz1).trans VH.o.2);have RI:=zaa hI2;have RS:=zaa hS2;clear hb2 hI2 hS2 x1 x2 x3 x4;have V9:Hid (((w2.alloc (.cells #[.slice aW2 ws.length cW2,.slice aP2 ps.length cP2] 43)).alloc (.cells #[.int .i64 at_,.int .i64 x] 150)).heap[w2.heap.size]?=some (.cells #[.slice aW2 ws.length cW2,.slice aP2 ps.length cP2] 43 (0,0))):=zal (zag rfl);have V3:=zaa (zal (o:=.cells #[.int .i64 at_,.int .i64 x] 150) (zal (o:=.cells #[.slice aW2 ws.length cW2,.slice aP2 ps.length cP2] 43) V2.o));have B3:=zaa ((B2.o.alloc (by omega) (.cells #[.slice aW2 ws.length cW2,.slice aP2 ps.length cP2] 43)).alloc (by simp;omega) (.cells #[.int .i64 at_,.int .i64 x] 150))
  have bb:Below w2.heap.size w2 ((w2.alloc (.cells #[.slice aW2 ws.length cW2,.slice aP2 ps.length cP2] 43)).alloc (.cells #[.int .i64 at_,.int .i64 x] 150)):=by
   repeat (refine Below.alloc ?_ (by simp <;> omega) _)
   exact Below.refl _ _
  have RI3:=zaa (RI.o.below bb (Nat.le_refl _));have RS3:=zaa (RS.o.below bb (Nat.le_refl _))
  have hr2:Rd ((w2.alloc (.cells #[.slice aW2 ws.length cW2,.slice aP2 ps.length cP2] 43)).alloc (.cells #[.int .i64 at_,.int .i64 x] 150)) 2 (.slice (some ⟨w2.heap.size+1,0,none⟩) 1 1) 1 (Se.cells ⟨at_,x⟩):=by
   refine ⟨rfl,_,_,rfl,⟨Nat.le_refl _,fun e=>by cases e⟩,fun _=>⟨w2.heap.size+1,0,rfl,by simp,fun j hj=>?_⟩⟩;obtain ⟨e0,e1,-,-⟩:=zad (zag (w:=w2.alloc (.cells #[.slice aW2 ws.length cW2,.slice aP2 ps.length cP2] 43)) (o:=.cells #[.int .i64 at_,.int .i64 x] 150) (k:=w2.heap.size+1) (by simp));rw[Nat.zero_add]
   rcases (show j=0∨j=1 from by omega) with rfl | rfl
   ·exact e0
   ·exact e1
  have HR2:=zaa hr2;clear hr2 bb;go_wp2_with (at_builtin;refine zak _ rfl (.tmp 29) (.tmp 33) 41 rfl w1.heap.size 150 (.agg #[.int .i64 0,.int .i64 0]) 2 16 Tryz.underlying41 zmk rfl (by decide) _ ps.length (ses ps) rfl RS3.o.1 _ 1 (Se.cells ⟨at_,x⟩) rfl HR2.o (fun u hu=>by simp[Se.cells] at hu;rcases hu with rfl | rfl <;> rfl) (by simp[maxLen];omega) (by omega) (by simp;omega) ?_);intro v3 w3 hown3 hgr3
  have hr3:Row w3 150 2 w1.heap.size w3.heap.size v3 (ps ++ [(⟨at_,x⟩:Se)]).length (ses (ps ++ [⟨at_,x⟩])):=by
   rw[yacg,List.length_append];exact zai hown3
  obtain ⟨aP3,cP3,rfl⟩:=RdE.form hr3.rd (n:=ps.length+1) (by simp)
  have hz3:w2.heap.size+2≤w3.heap.size:=by have:=hgr3.size;simp at this;omega
  have hne:∀ b,(b < w1.heap.size∨w2.heap.size≤b)→¬ some b=(Value.slice aP2 ps.length cP2).ownBlock:=by
   intro b hb e;have h1:=(RS3.o.1.lt b e.symm).1;have h2:=RS3.o.2 b e.symm;omega
  have W0:=(hgr3.block w2.heap.size (by simp <;> omega) (hne _ (.inr (Nat.le_refl _)))).trans V9.o;have W1:=(hgr3.block (w.heap.size+1) (by simp <;> omega) (hne _ (.inl (by omega)))).trans V3.o;have N4:=zaa (hr3.ne_type W0 (by decide));have RI4:=zaa (RI3.o.apart RS3.o (by decide) hgr3);have RS4:=zaa hr3;have B4:=zaa (B3.o.grown hgr3 (by simp <;> omega) (fun k hk=>by have:=(RS3.o.1.lt k hk).1;omega));obtain ⟨x5,x6,x7,x8⟩:=zad W0;obtain ⟨t5,t6,t7,t8⟩:=zad W1;clear hown3 hgr3 hr3 W0 W1;go_wp2;refine bodyPost_ret (v:=.tuple #[.agg #[.slice aW2 ws.length cW2,.slice aP3 (ps.length+1) cP3],.int .i64 0]) (by simp[results,Tryz.results149,go_sem,t5,t6]) rfl ?_;refine ⟨_,rfl,⟨_,_,rfl,Row.z ?_,?_⟩,((B4.o.setCell (by simp only;omega) _).setCell (by simp only;omega) _).setCell (by simp only;omega) _⟩
  ·refine (RI4.o.same fun b h1 h2=>?_).wide (by omega) (by simp;omega);rw[Below.heap_setCell _ _ _ _ (by simp only;omega),Below.heap_setCell _ _ _ _ (by simp only;omega),Below.heap_setCell _ _ _ _ (by simp only;omega)]
  ·refine Row.wide (((RS4.o.setOther (a:=⟨w2.heap.size,1,none⟩) N4.o (.slice aP3 (ps.length+1) cP3)).same fun b h1 h2=>?_)) (by omega) (by simp);rw[Below.heap_setCell _ _ _ _ (by simp only;omega),Below.heap_setCell _ _ _ _ (by simp only;omega)]
theorem zhc {P:Program} {ops:Array Oper} {rest:List Oper} {o:Oper} {a:Act} {w0:World} {Q:Exit→Act→World→Prop} (hgd:o.guard=none) (t:TypeId) (x y:Operand) (ho:o.op=.store t x y) (c c':Array Value)
  (hx:a.eval x=.pointer (some ⟨w0.heap.size,0,none⟩)) (hy:a.eval y=.agg c') (hi:(P.info? t).map (·.size)=some c'.size) (hold:c.size=c'.size) (h1:c'.all (·.oneCell')=true)
  (h:wpList P ops Q rest (a.put o.dst undef) (w0.alloc (.cells c' t))):wpList P ops Q (o :: rest) a (w0.alloc (.cells c t)) :=
 wpList_plain hgd fun _ hK=>wp_store_row t x y ho w0.heap.size c' hx hy t c (heap_alloc_last w0 _) hi hold h1 (by rw[World.setRow_alloc_new];exact hK _ _ h)
theorem zrt {w:World} {b o:Nat} {zs:List Int} (h:∀ k (h:k < zs.length),w.cell? ⟨b,o+k,none⟩=some (.int .i64 zs[k])):w.rangeAt b o (zav zs):=by
 intro j v hv
 have hj:j < zs.length:=by have:=(List.getElem?_eq_some_iff.1 hv).1;rwa [zdg] at this
 rw[zay zs j hj] at hv
 cases hv
 exact h j hj
def zfw:Array Value:=(List.replicate 32 (Value.int .i64 0)).toArray
theorem zjy (w:World):(zeroValue 169).run Tryz.prog w=.ok (.agg zfw) w:=by kernel_rfl
theorem ziy:zfw.size=32:=by unfold zfw;rw[List.size_toArray,List.length_replicate]
theorem yace:(Tryz.prog.info? 169).map (·.size)=some 32:=by kernel_rfl
theorem yave (w:World) (ws:List Int) (hl:ws.length=32):Row (w.alloc (.cells (zav ws).toArray 169)) 169 1 w.heap.size (w.heap.size+1) (.slice (some ⟨w.heap.size,0,none⟩) 32 32) 32 (zav ws):=by
 have:=World.ownsRow_lit (base:=w.heap.size) (e:=169) (size:=1) w (zav ws).toArray 32 (Nat.le_refl _) (by simp[maxLen]) (by simp[zav,hl]);exact ⟨by simpa using this,fun k hk=>by cases hk;exact Nat.lt_succ_self _⟩
theorem zpf (a:Option Addr) (n cap:Nat) (hn:32≤n) (w:World):(Instr.arrayAt 169 (.slice a n cap)).run Tryz.prog w=.ok (.pointer a) w:=by
 have h:¬ n < 32:=by omega
 simp[Instr.arrayAt,run_underlying Tryz.underlying169,h,go_sem]
theorem yacv (zs:List Int):(zav zs).toArray.all (·.oneCell')=true:=all_oneCell_toArray (zdw zs)
theorem zkq (v:Value) (ws:List Int) (ps:List Se) (w:World) (h:RdBlk w v ws ps) (hw:ws.length≤1048576) (hp:ps.length≤1048576) :
  Calls Tryz.prog 150 #[v] w fun e w'=>∃ v',e=.returned (.tuple #[v',.int .i64 (barC ws ps)])∧RowBlk w' w.heap.size w'.heap.size v' (ziu ws ps) []∧Below w.heap.size w w':=by
 have HR:=zaa h;obtain ⟨vW,vP,rfl,h1,h2⟩:=h;obtain ⟨aW,cW,rfl,_,hcW⟩:=h1.shape;obtain ⟨aP,cP,rfl,_,hcP⟩:=h2.shape;have HP:=zaa hcP;have HW:=zaa hcW;clear h1 h2 hcP hcW
 have hb0:Below w.heap.size w ((w.alloc (.cells #[.slice aW ws.length cW,.slice aP ps.length cP] 43)).alloc (.cells #[.slice none 0 0,.slice none 0 0] 43)):=by
  repeat (refine Below.alloc ?_ (by simp <;> omega) _)
  exact Below.refl _ _
 by_cases hc:zbp ws ps=true
 ·obtain ⟨e1,e2⟩:=yavr hc;rw[e1,e2];have OK:=zaa (yasq hc);have L32:=zaa (zbt hc).1;obtain ⟨bW,oW,rfl,hbW,hcellW⟩:=HW.o (by have:=L32.o;omega);have HCW:=zaa hcellW;have C:=zaa hc
  have hge32:¬ (ws.length:Int) < 32:=by have:=L32.o;omega
  clear e1 e2 hc hcellW;go_enter Tryz.func150,Tryz.ntmps150;go_wp2_with fail;refine (zbr _ ws ps _ (HR.o.below hb0) hw hp).mono ?_;rw[C.o];rintro e w1 ⟨rfl,hb1⟩
  have hz1:w.heap.size+2≤w1.heap.size:=by have:=hb1.size;simp at this;omega
  have V0:=(hb1.block w.heap.size (by simp <;> omega)).trans (zal (zag rfl));have V1:=(hb1.block (w.heap.size+1) (by simp)).trans (zag (by simp));have B1:=zaa (zab hb0 hb1 (by simp <;> omega));obtain ⟨x1,x2,x3,x4⟩:=zad V0;obtain ⟨z1,z2,z3,z4⟩:=zad (zal (o:=.cells (zav ws).toArray 169) V0);have VR:=zaa (zal (o:=.cells (zav ws).toArray 169) V1);have RNG:=zaa (zrt (w:=w1) (b:=bW) (o:=oW) (zs:=ws) (fun k hk=>(B1.o.cell (p:=⟨bW,oW+k,none⟩) hbW).trans (HCW.o k hk)));have SZ:=zaa (show (Tryz.prog.info? 169).map (·.size)=some (zav ws).length by rw[zdg,L32.o];exact yace);have SZ2:=zaa (show (Tryz.prog.info? 169).map (·.size)=some (zav ws).toArray.size by rw[List.size_toArray,zdg,L32.o];exact yace);have SZ3:=zaa (show zfw.size=(zav ws).toArray.size by rw[ziy,List.size_toArray,zdg,L32.o]);have START:=zaa (yave w1 ws L32.o);have BS:=zaa (B1.o.alloc (by omega) (.cells (zav ws).toArray 169));have hal:=zjy;have har:=zpf (some ⟨bW,oW,none⟩) ws.length cW (by have:=L32.o;omega);clear hb0 hb1 V0 V1
  go_wp2_with (first
   | (refine wpList_load_mid rfl 169 (.tmp 13) rfl bW oW rfl (zav ws) _ RNG.o Tryz.underlying169 rfl SZ.o ?_)
   | (refine zhc rfl 169 (.tmp 4) (.tmp 14) rfl zfw (zav ws).toArray rfl rfl SZ2.o SZ3.o (yacv ws) ?_))
  clear hal har
  go_loopw [6,18] (fun _ i wr=>∃ m:Nat,m≤ps.length∧i=.int .i64 m∧Row wr 169 1 w1.heap.size (w1.heap.size+1) (.slice (some ⟨w1.heap.size,0,none⟩) 32 32) 32 (zav (ztd ws (ps.take m)))∧(Below w.heap.size w wr∧wr.heap[w.heap.size+1]?=some (.cells #[.slice none 0 0,.slice none 0 0] 43 (0,0)))∧w1.heap.size+1≤wr.heap.size) (fun _ i _=>ps.length - (intOf i).toNat)
  case atStart=>exact ⟨0,by omega,rfl,START.o,⟨BS.o,VR.o⟩,by simp⟩
  case round =>
   obtain ⟨m,hm,rfl,hrow,⟨hb,hv⟩,hz⟩:=hrel
   by_cases hlt:m < ps.length
   ·obtain ⟨b,o,rfl,hbl,hcell⟩:=HP.o (by omega);obtain ⟨e0,e1⟩:=hcell m hlt;have d0:=(hb.cell (p:=⟨b,o+m*2,none⟩) hbl).trans e0;have d1:=(hb.cell (p:=⟨b,o+m*2+1,none⟩) hbl).trans e1;obtain ⟨q0,q1⟩:=OK.o m hlt;have hl32:=L32.o
    obtain ⟨_,_,_,_,hfrw,hclw⟩:=(hrow.alloc hz (.cells #[.int .i64 ps[m].at_,.int .i64 ps[m].val] 150)).at
    have hj:ps[m].at_.toNat < (ztd ws (ps.take m)).length:=by rw[zir];omega
    have g0:=hfrw ps[m].at_.toNat;have g1:=(hclw ps[m].at_.toNat (by omega)).trans (zay _ _ hj)
    have F:Hid (Row ((wr.alloc (.cells #[.int .i64 ps[m].at_,.int .i64 ps[m].val] 150)).setCell ⟨w1.heap.size,ps[m].at_.toNat,none⟩ (.int .i64 ps[m].val)) 169 1 w1.heap.size (w1.heap.size+1) (.slice (some ⟨w1.heap.size,0,none⟩) 32 32) 32 (zav (ztd ws (ps.take (m+1))))):=by
     rw[zbd ps m hlt,zwl,← zeo];exact (hrow.alloc hz _).stored _ _
    have G:=zaa ((hb.alloc (by omega) (.cells #[.int .i64 ps[m].at_,.int .i64 ps[m].val] 150)).setCell (p:=⟨w1.heap.size,ps[m].at_.toNat,none⟩) (by simp only;omega) (.int .i64 ps[m].val))
    have V:Hid (((wr.alloc (.cells #[.int .i64 ps[m].at_,.int .i64 ps[m].val] 150)).setCell ⟨w1.heap.size,ps[m].at_.toNat,none⟩ (.int .i64 ps[m].val)).heap[w.heap.size+1]?=some (.cells #[.slice none 0 0,.slice none 0 0] 43 (0,0))):=by
     rw[Below.heap_setCell _ _ _ _ (by simp only;omega)];exact zal hv
    clear hrow hcell e0 e1 hfrw hclw hl32;go_wp2
    go_roundw
    case rel=>exact ⟨m+1,by omega,by go_num,F.o,⟨G.o,V.o⟩,by simp;omega⟩
    case measure=>simp[intOf];omega
   ·have e:m=ps.length:=by omega
    subst e;have R:=zaa hrow;obtain ⟨t1,t2,t3,t4⟩:=zad hv;clear hrow hv;go_wp2;refine bodyPost_ret (v:=.tuple #[.agg #[.slice (some ⟨w1.heap.size,0,none⟩) 32 32,.slice none 0 0],.int .i64 0]) (by simp[results,Tryz.results150,go_sem,t1,t2]) rfl ?_;refine ⟨_,rfl,⟨_,_,rfl,⟨169,by decide,?_⟩,Row.nil _ _ _ _ _⟩,(hb.setCell (by simp only;omega) _).setCell (by simp only;omega) _⟩;have:=R.o;rw[List.take_length] at this;rw[zir,L32.o];refine (this.same fun b h1 h2=>?_).wide (by omega) (by simp;omega);rw[Below.heap_setCell _ _ _ _ (by simp only;omega),Below.heap_setCell _ _ _ _ (by simp only;omega)]
 ·have hc':zbp ws ps=false:=by simpa using hc
  clear hc;obtain ⟨e1,e2⟩:=yatp hc';rw[e1,e2];have C:=zaa hc';clear e1 e2 hc';go_enter Tryz.func150,Tryz.ntmps150;go_wp2_with fail;refine (zbr _ ws ps _ (HR.o.below hb0) hw hp).mono ?_;rw[C.o];rintro e w1 ⟨rfl,hb1⟩;have V1:=(hb1.block (w.heap.size+1) (by simp)).trans (zag (by simp));obtain ⟨t1,t2,t3,t4⟩:=zad V1;have B1:=zaa (zab hb0 hb1 (by simp <;> omega));clear hb0 hb1 V1;go_wp2;refine bodyPost_ret (v:=.tuple #[.agg #[.slice none 0 0,.slice none 0 0],.int .i64 1]) (by simp[results,Tryz.results150,go_sem,t1,t2]) rfl ?_;exact ⟨_,rfl,RowBlk.zero _ _ _,(B1.o.setCell (by simp only;omega) _).setCell (by simp only;omega) _⟩
end Go.Proofs.YtahiphgmhndgaaaGreatDoor
