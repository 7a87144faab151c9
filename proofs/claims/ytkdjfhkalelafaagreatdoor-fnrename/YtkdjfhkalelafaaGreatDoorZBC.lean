/- Several texts laid together: AuA, RmM, NmM, MkM. -/
import Derived.Test.YtkdjfhkalelafaaGreatDoorZAQ
import Derived.Test.YtkdjfhkalelafaaGreatDoorZBB
import Derived.Test.YtkdjfhkalelafaaGreatDoorZAR
import Derived.Test.YtkdjfhkalelafaaGreatDoorZAP
import Derived.Deep.LoopGhost
import Derived.Deep.RegionHeld3
import Derived.Test.YtkdjfhkalelafaaGreatDoorZAS
import Derived.Test.YtkdjfhkalelafaaGreatDoorZAY
import Derived.Test.YtkdjfhkalelafaaGreatDoorZBA
import Derived.Test.YtkdjfhkalelafaaGreatDoorZAJ
namespace Go.Proofs.YtkdjfhkalelafaaGreatDoor
open Go.RowKit
def apW (ws:List Int) (us:List Se):List Int:=us.foldl (fun l u => l.set u.at_.toNat u.val) ws
theorem yang (ws:List Int) (us:List Se) (k:Nat) (h:k < us.length):apW ws (us.take (k + 1)) = (apW ws (us.take k)).set us[k].at_.toNat us[k].val:=by
 unfold apW
 rw [List.take_succ_eq_append_getElem h,List.foldl_append]
 rfl
theorem yafb (ws:List Int):∀ (us:List Se),(apW ws us).length = ws.length:=by
 intro us
 unfold apW
 induction us generalizing ws with
 | nil => rfl
 | cons u us ih => rw [List.foldl_cons,ih,List.length_set]
def auB (ws:List Int) (ps:List St) (us:List Se):Bool:=pmB ws ps && upsB us
def auC (ws:List Int) (ps:List St) (us:List Se):Int:=if 4096 < us.length then 2 else if auB ws ps us = true then (if ps.length = 0 then 0 else 15) else 1
def auW (ws:List Int) (ps:List St) (us:List Se):List Int:=if 4096 < us.length then [] else if auB ws ps us = true then (if ps.length = 0 then apW ws us else ws) else []
def auP (ws:List Int) (ps:List St) (us:List Se):List St:=if 4096 < us.length then [] else if auB ws ps us = true then ps else []
theorem yaob (ws:List Int) (ps:List St) (us:List Se):(4096 < us.length ∧ auC ws ps us = 2 ∧ auW ws ps us = [] ∧ auP ws ps us = []) ∨
  (¬ 4096 < us.length ∧ pmB ws ps = false ∧ auC ws ps us = 1 ∧ auW ws ps us = [] ∧ auP ws ps us = []) ∨
  (¬ 4096 < us.length ∧ pmB ws ps = true ∧ upsB us = false ∧ auC ws ps us = 1 ∧ auW ws ps us = [] ∧ auP ws ps us = []) ∨
  (¬ 4096 < us.length ∧ pmB ws ps = true ∧ upsB us = true ∧ ¬ ps.length = 0 ∧ auC ws ps us = 15 ∧ auW ws ps us = ws ∧ auP ws ps us = ps) ∨
  (¬ 4096 < us.length ∧ pmB ws ps = true ∧ upsB us = true ∧ ps.length = 0 ∧ auC ws ps us = 0 ∧ auW ws ps us = apW ws us ∧ auP ws ps us = []):=by
 unfold auC auW auP auB
 by_cases c:4096 < us.length
 ·simp [c]
 ·cases h1:pmB ws ps with
  | false => simp [c]
  | true =>
   cases h2:upsB us with
   | false => simp [c]
   | true =>
    by_cases h3:ps.length = 0
    ·have:ps = []:=List.eq_nil_of_length_eq_zero h3
     simp [c,this]
    ·have h4:¬ ps = []:=fun e => h3 (by rw [e]; rfl)
     simp [c,h4]
theorem yaoc (us:List Se):yaet us = upsB us:=by
 unfold yaet upsB upB
 simp only [decide_eq_true_eq]
structure ApI (w wr:World) (X lo:Nat) (vW vP:Value) (n:Nat) (xs:List Int):Prop where
 words:Row wr 3 1 lo X vW n (zdh xs)
 pend:Row wr 114 3 lo X vP 0 []
 box:wr.heap[X]? = some (.cells #[vW,vP] 26 (0,0))
 res:wr.heap[w.heap.size + 1]? = some (.cells #[.slice none 0 0,.slice none 0 0] 26 (0,0))
 below:Below w.heap.size w wr
 size:X + 1 ≤ wr.heap.size
theorem ApI.grow {w wr w':World} {X lo:Nat} {vW vP:Value} {n:Nat} {xs:List Int} (h:ApI w wr X lo vW vP n xs) (hb:Below wr.heap.size wr w'):ApI w w' X lo vW vP n xs:=by
 obtain ⟨h1,h2,h3,h4,h5,h6⟩:=h
 have hs:=hb.size
 exact ⟨h1.below hb (by omega),h2.below hb (by omega),(hb.block _ (by omega)).trans h3,(hb.block _ ((Array.getElem?_eq_some_iff.1 h4).1)).trans h4,zab h5 hb h5.size,by omega⟩
theorem ApI.hit {w wr:World} {X lo:Nat} {b n cap:Nat} {vP:Value} {m:Nat} {xs:List Int} (h:ApI w wr X lo (.slice (some ⟨b,0,none⟩) n cap) vP m xs) (hlo:w.heap.size + 2 ≤ lo) (hm:n = m) (j:Nat) (x:Int) :
  ApI w (wr.setCell ⟨b,j,none⟩ (.int .i64 x)) X lo (.slice (some ⟨b,0,none⟩) n cap) vP m (xs.set j x):=by
 subst hm
 obtain ⟨h1,h2,h3,h4,h5,h6⟩:=h
 obtain ⟨_,hb1,hb2,_⟩:=h1.at
 refine ⟨?_,?_,?_,?_,?_,?_⟩
 ·rw [← zif]
  exact h1.stored _ _
 ·rcases h2.shape with ⟨rfl,_,_⟩ | ⟨b',c',rfl,_,_⟩
  ·exact Row.nil _ _ _ _ _
  ·refine h2.setOther ?_ _
   intro e
   simp [Value.ownBlock] at e
   subst e
   have e1:=h1.1
   have e2:=h2.1
   rcases e1.2 with ⟨q,_⟩ | ⟨g,cp,cur,q,_,hg,_⟩
   ·cases q
   ·rcases e2.2 with ⟨q',_⟩ | ⟨g',cp',cur',q',_,hg',_⟩
    ·cases q'
    ·cases q
     cases q'
     rw [hg] at hg'
     injection hg' with hg'
     injection hg' with _ hg' _
     exact absurd hg' (by decide)
 ·rw [Below.heap_setCell _ _ _ _ (by simp only; omega)]; exact h3
 ·rw [Below.heap_setCell _ _ _ _ (by simp only; omega)]; exact h4
 ·exact h5.setCell (by simp only; omega) _
 ·simpa [World.setCell] using h6
set_option maxRecDepth 100000 in
set_option maxHeartbeats 8000000 in
theorem zeu (v vL:Value) (ws:List Int) (ps:List St) (us:List Se) (w:World) (h:RdPm w v ws ps) (hL:RdE w vL us) (hw:ws.length ≤ 1048576) (hp:ps.length ≤ 1048576) (hu:us.length ≤ 1048576) :
  Calls Tryz.prog 12 #[v,vL] w fun e w' => ∃ v',e = .returned (.tuple #[v',.int .i64 (auC ws ps us)]) ∧ RowPm w' w.heap.size w'.heap.size v' (auW ws ps us) (auP ws ps us) ∧ Below w.heap.size w w':=by
 have HR:=zaa h
 have HL:=zaa hL
 have LO:=zaa (fun w1 (hb:Below w.heap.size w w1) => zdn v ws ps w1 (h.below hb) hw hp)
 have LU:=zaa (fun w1 (hb:Below w.heap.size w w1) => zof vL us w1 (Rd.below hL hb) hu)
 have LC:=zaa (fun w1 (hb:Below w.heap.size w w1) => yado v ws ps w1 (h.below hb) (by omega) (by omega))
 rw [yaoc] at LU
 have LUB:Hid (∀ {a b:World},Below a.heap.size a b → Below a.heap.size a b):=fun h => h
 obtain ⟨vW,vP,rfl,h1,h2⟩:=h
 obtain ⟨aW,cW,rfl,_⟩:=h1.shape
 obtain ⟨aP,cP,rfl,_⟩:=h2.shape
 obtain ⟨aL,cL,rfl,_,hcL⟩:=hL.shape
 have HC:=zaa hcL
 clear h1 h2 hL hcL
 obtain ⟨W,hW⟩:∃ W,W = (w.alloc (.cells #[.slice aW ws.length cW,.slice aP ps.length cP] 26)).alloc (.cells #[.slice none 0 0,.slice none 0 0] 26):=⟨_,rfl⟩
 have BW:Hid (Below w.heap.size w W):=by
  rw [hW]
  repeat (refine Below.alloc ?_ (by simp <;> omega) _)
  exact Below.refl _ _
 have hz:W.heap.size = w.heap.size + 2:=by rw [hW]; simp
 have VA:Hid (W.heap[w.heap.size]? = some (.cells #[.slice aW ws.length cW,.slice aP ps.length cP] 26 (0,0))):=by rw [hW]; exact zak (zah rfl)
 have VR:Hid (W.heap[w.heap.size + 1]? = some (.cells #[.slice none 0 0,.slice none 0 0] 26 (0,0))):=by rw [hW]; exact zah (by simp)
 rcases yaob ws ps us with ⟨c1,e1,e2,e3⟩ | ⟨c1,c2,e1,e2,e3⟩ | ⟨c1,c2,c3,e1,e2,e3⟩ | ⟨c1,c2,c3,c4,e1,e2,e3⟩ | ⟨c1,c2,c3,c4,e1,e2,e3⟩
 ·rw [e1,e2,e3]
  have c1':(us.length:Int) > 4096:=by omega
  clear e1 e2 e3 c1
  go_enter Tryz.func12,Tryz.ntmps12
  go_wp2
  refine bodyPost_ret (v:=.tuple #[.agg #[.slice none 0 0,.slice none 0 0],.int .i64 2]) (by simp [results,Tryz.results12,go_sem]) rfl ?_
  refine ⟨_,rfl,RowPm.zero _ _ _,?_⟩
  repeat (first | exact Below.refl _ _ | refine Below.alloc ?_ (by simp <;> omega) _ | refine Below.setCell ?_ (by simp only; omega) _)
 ·rw [e1,e2,e3]
  have c1':¬ (us.length:Int) > 4096:=by omega
  rw [c2] at LO
  clear e1 e2 e3 c1 c2
  go_enter Tryz.func12,Tryz.ntmps12
  obtain ⟨x0,x1,_,_⟩:=zac VA.out
  rw [hW] at x0 x1
  go_wp2_with fail
  rw [← hW]
  clear hW x0 x1
  refine (LO.out _ BW.out).mono ?_
  rintro e w1 ⟨rfl,hb1⟩
  have B1:=zaa (zab BW.out hb1 (by omega))
  have V1:=zaa ((hb1.block (w.heap.size + 1) (by omega)).trans VR.out)
  have z1:W.heap.size ≤ w1.heap.size:=hb1.size
  clear hb1
  obtain ⟨t1,t2,t3,t4⟩:=zac V1.out
  go_wp2
  refine bodyPost_ret (v:=.tuple #[.agg #[.slice none 0 0,.slice none 0 0],.int .i64 1]) (by simp [results,Tryz.results12,go_sem,t1,t2]) rfl ?_
  exact ⟨_,rfl,RowPm.zero _ _ _,(B1.out.setCell (by simp only; omega) _).setCell (by simp only; omega) _⟩
 ·rw [e1,e2,e3]
  have c1':¬ (us.length:Int) > 4096:=by omega
  rw [c2] at LO
  rw [c3] at LU
  clear e1 e2 e3 c1 c2 c3
  go_enter Tryz.func12,Tryz.ntmps12
  obtain ⟨x0,x1,_,_⟩:=zac VA.out
  rw [hW] at x0 x1
  go_wp2_with fail
  rw [← hW]
  clear hW x0 x1
  refine (LO.out _ BW.out).mono ?_
  rintro e w1 ⟨rfl,hb1⟩
  have B1:=zaa (zab BW.out hb1 (by omega))
  have V1:=zaa ((hb1.block (w.heap.size + 1) (by omega)).trans VR.out)
  have z1:W.heap.size ≤ w1.heap.size:=hb1.size
  clear hb1
  go_wp2_with fail
  refine (LU.out _ B1.out).mono ?_
  rintro e w2 ⟨rfl,hb2⟩
  have B2:=zaa (zab B1.out (LUB.out hb2) B1.out.size)
  have V2:=zaa (((LUB.out hb2).block (w.heap.size + 1) (by omega)).trans V1.out)
  clear hb2 B1 V1
  have B1:=B2
  have V1:=V2
  clear B2 V2
  obtain ⟨t1,t2,t3,t4⟩:=zac V1.out
  go_wp2
  refine bodyPost_ret (v:=.tuple #[.agg #[.slice none 0 0,.slice none 0 0],.int .i64 1]) (by simp [results,Tryz.results12,go_sem,t1,t2]) rfl ?_
  exact ⟨_,rfl,RowPm.zero _ _ _,(B1.out.setCell (by simp only; omega) _).setCell (by simp only; omega) _⟩
 ·rw [e1,e2,e3]
  have c1':¬ (us.length:Int) > 4096:=by omega
  rw [c2] at LO
  rw [c3] at LU
  obtain ⟨l336,l400⟩:=zes c2
  have UP:=zaa (of_decide_eq_true c3:∀ k (h:k < us.length),(48 ≤ us[k].at_ ∧ us[k].at_ < 336) ∧ 0 ≤ us[k].val ∧ us[k].val < 1099511627776)
  have L336:=zaa l336
  clear e1 e2 e3 c2 c3 l336
  go_enter Tryz.func12,Tryz.ntmps12
  obtain ⟨x0,x1,_,_⟩:=zac VA.out
  rw [hW] at x0 x1
  go_wp2_with fail
  rw [← hW]
  clear hW x0 x1
  refine (LO.out _ BW.out).mono ?_
  rintro e w1 ⟨rfl,hb1⟩
  have B1:=zaa (zab BW.out hb1 (by omega))
  have U1:=zaa ((hb1.block w.heap.size (by omega)).trans VA.out)
  have V1:=zaa ((hb1.block (w.heap.size + 1) (by omega)).trans VR.out)
  have z1:W.heap.size ≤ w1.heap.size:=hb1.size
  clear hb1
  go_wp2_with fail
  refine (LU.out _ B1.out).mono ?_
  rintro e w2 ⟨rfl,hb2⟩
  have B2:=zaa (zab B1.out (LUB.out hb2) B1.out.size)
  have U2:=zaa (((LUB.out hb2).block w.heap.size (by omega)).trans U1.out)
  have V2:=zaa (((LUB.out hb2).block (w.heap.size + 1) (by omega)).trans V1.out)
  have z2:w1.heap.size ≤ w2.heap.size:=(LUB.out hb2).size
  clear hb2 B1 V1 U1
  obtain ⟨x0,x1,_,_⟩:=zac U2.out
  go_wp2_with fail
  refine (LC.out _ B2.out).mono ?_
  rintro e w3 ⟨v3,rfl,hr3,hb3⟩
  obtain ⟨vW3,vP3,rfl,r1,r2⟩:=hr3
  obtain ⟨aW3,cW3,rfl⟩:=RdI.form (show RdI _ _ ws from r1.rd) rfl
  obtain ⟨aP3,cP3,rfl⟩:=RdS.form (show RdS _ _ ps from r2.rd) rfl
  have R1:=zaa r1
  have R2:=zaa r2
  have B3:=zaa (zab B2.out hb3 B2.out.size)
  have V3:=zaa ((hb3.block (w.heap.size + 1) (by omega)).trans V2.out)
  have z3:w2.heap.size ≤ w3.heap.size:=hb3.size
  clear hb3 r1 r2 B2 V2 U2 x0 x1
  have pp:(ps.length:Int) > 0:=by omega
  obtain ⟨t1,t2,t3,t4⟩:=zac (zak (o:=.cells #[.slice aW3 ws.length cW3,.slice aP3 ps.length cP3] 26) V3.out)
  go_wp2
  refine bodyPost_ret (v:=.tuple #[.agg #[.slice aW3 ws.length cW3,.slice aP3 ps.length cP3],.int .i64 15]) (by simp [results,Tryz.results12,go_sem,t1,t2]) rfl ?_
  refine ⟨_,rfl,⟨_,_,rfl,?_,?_⟩,?_⟩
  ·refine ((R1.out.alloc (Nat.le_refl _) (.cells #[.slice aW3 ws.length cW3,.slice aP3 ps.length cP3] 26)).same fun b h1 h2 => ?_).wide (by omega) (by simp [World.setCell])
   rw [Below.heap_setCell _ _ _ _ (by simp only; omega),Below.heap_setCell _ _ _ _ (by simp only; omega)]
  ·refine ((R2.out.alloc (Nat.le_refl _) (.cells #[.slice aW3 ws.length cW3,.slice aP3 ps.length cP3] 26)).same fun b h1 h2 => ?_).wide (by omega) (by simp [World.setCell])
   rw [Below.heap_setCell _ _ _ _ (by simp only; omega),Below.heap_setCell _ _ _ _ (by simp only; omega)]
  ·repeat (first | exact B3.out | exact B3.out.alloc B3.out.size _ | refine Below.setCell ?_ (by simp only; omega) _)
 ·rw [e1,e2,e3]
  have c1':¬ (us.length:Int) > 4096:=by omega
  have C4:=zaa c4
  clear c4
  rw [c2] at LO
  rw [c3] at LU
  obtain ⟨l336,l400⟩:=zes c2
  have UP:=zaa (of_decide_eq_true c3:∀ k (h:k < us.length),(48 ≤ us[k].at_ ∧ us[k].at_ < 336) ∧ 0 ≤ us[k].val ∧ us[k].val < 1099511627776)
  have L336:=zaa l336
  clear e1 e2 e3 c2 c3 l336
  go_enter Tryz.func12,Tryz.ntmps12
  obtain ⟨x0,x1,_,_⟩:=zac VA.out
  rw [hW] at x0 x1
  go_wp2_with fail
  rw [← hW]
  clear hW x0 x1
  refine (LO.out _ BW.out).mono ?_
  rintro e w1 ⟨rfl,hb1⟩
  have B1:=zaa (zab BW.out hb1 (by omega))
  have U1:=zaa ((hb1.block w.heap.size (by omega)).trans VA.out)
  have V1:=zaa ((hb1.block (w.heap.size + 1) (by omega)).trans VR.out)
  have z1:W.heap.size ≤ w1.heap.size:=hb1.size
  clear hb1
  go_wp2_with fail
  refine (LU.out _ B1.out).mono ?_
  rintro e w2 ⟨rfl,hb2⟩
  have B2:=zaa (zab B1.out (LUB.out hb2) B1.out.size)
  have U2:=zaa (((LUB.out hb2).block w.heap.size (by omega)).trans U1.out)
  have V2:=zaa (((LUB.out hb2).block (w.heap.size + 1) (by omega)).trans V1.out)
  have z2:w1.heap.size ≤ w2.heap.size:=(LUB.out hb2).size
  clear hb2 B1 V1 U1
  obtain ⟨x0,x1,_,_⟩:=zac U2.out
  go_wp2_with fail
  refine (LC.out _ B2.out).mono ?_
  rintro e w3 ⟨v3,rfl,hr3,hb3⟩
  obtain ⟨vW3,vP3,rfl,r1,r2⟩:=hr3
  obtain ⟨aW3,cW3,rfl⟩:=RdI.form (show RdI _ _ ws from r1.rd) rfl
  obtain ⟨aP3,cP3,rfl⟩:=RdS.form (show RdS _ _ ps from r2.rd) rfl
  have R1:=zaa r1
  have R2:=zaa r2
  have B3:=zaa (zab B2.out hb3 B2.out.size)
  have V3:=zaa ((hb3.block (w.heap.size + 1) (by omega)).trans V2.out)
  have z3:w2.heap.size ≤ w3.heap.size:=hb3.size
  clear hb3 r1 r2 B2 V2 U2 x0 x1
  have e0:ps = []:=List.eq_nil_of_length_eq_zero C4.out
  subst e0
  rcases R1.out.shape with ⟨_,e5,_⟩ | ⟨b,c5,e5,hc5,_⟩
  ·have:=L336.out
   omega
  cases e5
  have START:Hid (ApI w (w3.alloc (.cells #[.slice (some ⟨b,0,none⟩) ws.length cW3,.slice aP3 0 cP3] 26)) w3.heap.size w2.heap.size (.slice (some ⟨b,0,none⟩) ws.length cW3) (.slice aP3 0 cP3) ws.length (apW ws (us.take 0))) :=
   ⟨R1.out.alloc (Nat.le_refl _) _,R2.out.alloc (Nat.le_refl _) _,zah rfl,zak V3.out,B3.out.alloc B3.out.size _,by simp⟩
  obtain ⟨x5,x6,x7,x8⟩:=zac START.out.box
  simp only [List.length_nil]
  clear R1 R2 V3 B3 C4
  go_wp2
  go_loopg [8,31] us.length (fun g _ i wr => ∃ k:Nat,k + g = us.length ∧ i = .int .i64 k ∧ Hid (ApI w wr w3.heap.size w2.heap.size (.slice (some ⟨b,0,none⟩) ws.length cW3) (.slice aP3 0 cP3) ws.length (apW ws (us.take k))))
  case atStart => exact ⟨0,by omega,rfl,START⟩
  case round =>
   obtain ⟨k,hk,rfl,I⟩:=hrel
   clear START x5 x6 x7 x8
   have k0:(0:Int) ≤ (k:Int):=by omega
   have NX:Hid (∀ h:k < us.length,apW ws (us.take (k + 1)) = (apW ws (us.take k)).set us[k].at_.toNat us[k].val):=fun h => yang ws us k h
   have AL:=yafb ws (us.take k)
   by_cases hlt:k < us.length
   ·obtain ⟨bL,oL,rfl,hblL,hcellL⟩:=HC.out (by omega)
    obtain ⟨a0,a1⟩:=hcellL k hlt
    have d0:=(I.out.below.cell (p:=⟨bL,oL + k * 2,none⟩) hblL).trans a0
    have d1:=(I.out.below.cell (p:=⟨bL,oL + k * 2 + 1,none⟩) hblL).trans a1
    have k1:(k:Int) < (us.length:Int):=by omega
    obtain ⟨⟨u0,u1⟩,-⟩:=UP.out k hlt
    have NXk:=zaa (NX.out hlt)
    have g24:gk - 1 < gk:=by omega
    have hk':(k + 1) + (gk - 1) = us.length:=by omega
    clear a0 a1 hcellL NX
    generalize us[k] = x at *
    obtain ⟨xa,xv⟩:=x
    simp only at d0 d1 u0 u1 NXk
    obtain ⟨j,rfl⟩:∃ j:Nat,xa = (j:Int):=⟨xa.toNat,by omega⟩
    have j0:(0:Int) ≤ (j:Int):=by omega
    have j1:(j:Int) < (ws.length:Int):=by have:=L336.out; omega
    obtain ⟨-,_,_,_,hfr,hcl⟩:=I.out.words.at
    have g0:=hfr j
    have g1:=(hcl j (by omega)).trans (zcu _ j (by omega))
    obtain ⟨s1,s2,_,_⟩:=zac I.out.box
    rw [Int.toNat_natCast] at NXk
    have I1:=zaa ((I.out.hit (by omega) rfl j xv).grow ((Below.refl _ _).alloc (Nat.le_refl _) (.cells #[.int .i64 (j:Int),.int .i64 xv] 83)))
    rw [← NXk.out] at I1
    obtain ⟨q1,q2,_,_⟩:=zac (zak (o:=.cells #[.int .i64 (j:Int),.int .i64 xv] 83) I.out.box)
    obtain ⟨-,_,_,_,hfr2,hcl2⟩:=(I.out.words.alloc (by have:=I.out.size; omega) (.cells #[.int .i64 (j:Int),.int .i64 xv] 83)).at
    have o0:=hfr2 j
    have o1:=(hcl2 j (by omega)).trans (zcu _ j (by omega))
    clear hfr hcl hfr2 hcl2 I NXk
    go_wp2
    go_roundg (gk - 1)
    case measure => exact g24
    case rel => exact ⟨k + 1,hk',by go_num,I1⟩
   ·obtain rfl:k = us.length:=by omega
    rw [List.take_length] at I
    obtain ⟨t1,t2,t3,t4⟩:=zac I.out.res
    obtain ⟨s1,s2,_,_⟩:=zac I.out.box
    have hsz:=I.out.size
    clear NX AL
    go_wp2
    have I2:=I.out
    refine bodyPost_ret (v:=.tuple #[.agg #[.slice (some ⟨b,0,none⟩) ws.length cW3,.slice aP3 0 cP3],.int .i64 0]) (by simp [results,Tryz.results12,go_sem,t1,t2]) rfl ?_
    refine ⟨_,rfl,⟨_,_,rfl,?_,?_⟩,(I2.below.setCell (by simp only; omega) _).setCell (by simp only; omega) _⟩
    ·rw [yafb]
     refine (I2.words.same fun b h1 h2 => ?_).wide (by omega) (by simp; omega)
     rw [Below.heap_setCell _ _ _ _ (by simp only; omega),Below.heap_setCell _ _ _ _ (by simp only; omega)]
    ·refine (I2.pend.same fun b h1 h2 => ?_).wide (by omega) (by simp; omega)
     rw [Below.heap_setCell _ _ _ _ (by simp only; omega),Below.heap_setCell _ _ _ _ (by simp only; omega)]
end Go.Proofs.YtkdjfhkalelafaaGreatDoor

namespace Go.Proofs.YtkdjfhkalelafaaGreatDoor
theorem zyl (ws:List Ino) (ps:List Den) (x:ByteArray):∀ (xs:List ByteArray) (z:Int),wk ws ps z (xs ++ [x]) = if (wk ws ps z xs).2 = 0 then (if zai ws (wk ws ps z xs).1 = 2 then (match zax ps (wk ws ps z xs).1 x with | none => (0,5) | some k => (zal ps k,0)) else (0,10)) else wk ws ps z xs
 | [],z => by
  rw [List.nil_append,yapv,if_pos rfl]
  by_cases k:zai ws z = 2
  ·rw [if_pos k]
   cases e:zax ps z x with
   | none => rw [zgs k e]
   | some j => rw [zfu k e,yapv]
  ·rw [if_neg k,zfa k]
 | n :: xs,z => by
  rw [List.cons_append]
  by_cases k:zai ws z = 2
  ·cases e:zax ps z n with
   | none => rw [zgs k e,zgs k e,if_neg (by decide)]
   | some j => rw [zfu k e,zfu k e]; exact zyl ws ps x xs (zal ps j)
  ·rw [zfa k,zfa k,if_neg (by decide)]
theorem yadt:(oneP ++ twoP).all (fun p => spB p && !(spL p).isEmpty) = true:=by kernel_rfl
theorem PathD.down {p:ByteArray} (h:PathD p):spB p = true ∧ ∃ xs x,spL p = xs ++ [x]:=by
 have q:=List.all_eq_true.1 yadt p (List.mem_append.2 h)
 rw [Bool.and_eq_true] at q
 refine ⟨q.1,?_⟩
 cases e:spL p with
 | nil => rw [e] at q; simp at q
 | cons a t => exact ⟨(a :: t).dropLast,(a :: t).getLast (by simp),(List.dropLast_concat_getLast (by simp)).symm⟩
theorem zuh:∀ (us:List Se) (ls:List Int),(∀ x ∈ ls,zbd x = true) → (∀ u ∈ us,0 ≤ u.val ∧ u.val < 1099511627776) → ∀ x ∈ zbk ls us,zbd x = true
 | [],ls,h,_ => h
 | u :: us,ls,h,k => by
  rw [zht]
  refine zuh us _ (fun x hx => ?_) (fun v hv => k v (List.mem_cons_of_mem _ hv))
  rcases List.mem_or_eq_of_mem_set hx with q | rfl
  ·exact h x q
  ·exact decide_eq_true (k u List.mem_cons_self)
end Go.Proofs.YtkdjfhkalelafaaGreatDoor

namespace Go.Proofs.YtkdjfhkalelafaaGreatDoor
theorem ztb {ls es:List Int} {ns ns':List Ino} {ds ds':List Den} {us:List Se} (h:Idle ls es ns ds) (ui:UpIn us) (ul:us.length ≤ 16) (uv:Wv us) (W:Wi (zbk ls us) ns' ds') :
  auC ls [] us = 0 ∧ auW ls [] us = zbk ls us ∧ auP ls [] us = [] ∧ pmB (zbk ls us) [] = true ∧ riC (zbk ls us) [] = 0 ∧ riN (zbk ls us) [] = ns' ∧ riD (zbk ls us) [] = ds':=by
 have up:upsB us = true:=decide_eq_true (fun j hj => by have a:=ui _ (List.getElem_mem hj); have b:=uv _ (List.getElem_mem hj); omega)
 have ab:auB ls [] us = true:=by unfold auB; rw [h.pm,up]; rfl
 have pw:pmB (zbk ls us) [] = true:=zjb.2 ⟨W.len,by simp,zuh us ls (zjb.1 h.pm).2.2.1 uv,fun p hp => by cases hp⟩
 have c:riC (zbk ls us) [] = 0:=by unfold riC; rw [if_pos pw,if_pos (show riB (zcg (zbk ls us) []) = true from W.ri)]
 refine ⟨?_,?_,?_,pw,c,?_,?_⟩
 ·unfold auC; rw [if_neg (by omega),if_pos ab]; rfl
 ·unfold auW; rw [if_neg (by omega),if_pos ab]; rfl
 ·unfold auP; rw [if_neg (by omega),if_pos ab]
 ·unfold riN; rw [if_pos c]; exact W.inos
 ·unfold riD; rw [if_pos c]; exact W.dens
theorem zxb {ps:List Den} {d:Int} {nm:ByteArray}:zax ps d nm = none ↔ ∀ x ∈ ps,zbg d nm x = false:=by
 unfold zax
 rw [List.findIdx?_eq_none_iff]
theorem zhj {ps:List Den} {d:Int} {nm:ByteArray} {k:Nat}:zax ps d nm = some k ↔ ∃ h:k < ps.length,zbg d nm ps[k] = true ∧ ∀ j (hj:j < k),zbg d nm (ps[j]'(by omega)) = false:=by
 unfold zax
 rw [List.findIdx?_eq_some_iff_getElem]
 constructor
 ·rintro ⟨h,a,b⟩
  exact ⟨h,a,fun j hj => by simpa using b j hj⟩
 ·rintro ⟨h,a,b⟩
  exact ⟨h,a,fun j hj => by simpa using b j hj⟩
theorem yard {ps:List Den} {d:Int} {nm:ByteArray} {k:Nat} {c:Int} (hk:k < ps.length) (hc:0 ≤ c) (e:zax ps d nm = none):zax (ps.set k ⟨d,nm,c⟩) d nm = some k:=by
 have q:=zxb.1 e
 refine zhj.2 ⟨by rw [List.length_set]; exact hk,?_,fun j hj => ?_⟩
 ·rw [List.getElem_set_self]
  unfold zbg
  simp [hc]
 ·rw [List.getElem_set_ne (by omega)]
  exact q _ (List.getElem_mem _)
theorem yaaj {ps:List Den} {d d2:Int} {nm n2:ByteArray} {k j:Nat} {c:Int} (e:zax ps d nm = none) (ej:zax ps d2 n2 = some j) (ne:¬ k = j):zax (ps.set k ⟨d,nm,c⟩) d2 n2 = some j:=by
 obtain ⟨hj,a,b⟩:=zhj.1 ej
 have q:=zxb.1 e
 have nh:zbg d2 n2 ⟨d,nm,c⟩ = false:=by
  by_cases t:zbg d2 n2 ⟨d,nm,c⟩ = true
  ·exfalso
   unfold zbg at t
   simp only [Bool.and_eq_true,decide_eq_true_eq,beq_iff_eq] at t
   have z:=q _ (List.getElem_mem hj)
   unfold zbg at z a
   simp only [Bool.and_eq_true,decide_eq_true_eq,beq_iff_eq] at a
   rw [← t.2.1,← t.2.2] at a
   rw [a.2.1,a.2.2] at z
   simp at z
   omega
  ·simpa using t
 refine zhj.2 ⟨by rw [List.length_set]; exact hj,?_,fun i hi => ?_⟩
 ·rw [List.getElem_set_ne ne]
  exact a
 ·by_cases ik:k = i
  ·subst ik
   rw [List.getElem_set_self]
   exact nh
  ·rw [List.getElem_set_ne ik]
   exact b i hi
theorem yajc {ps:List Den} {k:Nat} {x:Den} (hk:k < ps.length):zal (ps.set k x) k = x.child:=by
 rw [zbh (by rw [List.length_set]; exact hk),List.getElem_set_self]
theorem zql {ps:List Den} {k j:Nat} {x:Den} (ne:¬ k = j):zal (ps.set k x) j = zal ps j:=by
 unfold zal
 rw [List.getD_eq_getElem?_getD,List.getD_eq_getElem?_getD,List.getElem?_set_ne ne]
theorem yaum {ws:List Ino} {i:Nat} {x:Ino} (hx:x.kind = (zan ws i).kind) (z:Int):zai (ws.set i x) z = zai ws z:=by
 unfold zai
 rw [List.getD_eq_getElem?_getD,List.getD_eq_getElem?_getD]
 by_cases e:i = z.toNat
 ·subst e
  by_cases h:z.toNat < ws.length
  ·rw [List.getElem?_set_self h,List.getElem?_eq_getElem h]
   show x.kind = _
   rw [hx,zca h]
   rfl
  ·rw [List.getElem?_eq_none (by rw [List.length_set]; omega),List.getElem?_eq_none (by omega)]
 ·rw [List.getElem?_set_ne e]
theorem zyc {ws:List Ino} {ps:List Den} {t:ByteArray} {d:Int} {nm:ByteArray} (ht:PathD t) (p:paI ws ps t = (d,nm,0)):∃ xs,spL t = xs ++ [nm] ∧ wk ws ps 0 xs = (d,0) ∧ zai ws d = 2:=by
 obtain ⟨b,xs,x,e⟩:=ht.down
 have q:paI ws ps t = paN ws ps xs x:=by unfold paI; rw [if_pos b,e,zid]
 rw [q] at p
 unfold paN at p
 by_cases c:(wk ws ps 0 xs).2 = 0
 ·rw [if_pos c] at p
  by_cases k:zai ws (wk ws ps 0 xs).1 = 2
  ·rw [if_pos k] at p
   cases p
   exact ⟨xs,e,Prod.ext rfl c,k⟩
  ·rw [if_neg k] at p; cases p
 ·rw [if_neg c] at p
  simp only [Prod.mk.injEq] at p
  exact absurd p.2.2 c
end Go.Proofs.YtkdjfhkalelafaaGreatDoor

namespace Go.Proofs.YtkdjfhkalelafaaGreatDoor
theorem yaip:∀ (us:List Se) (ls:List Int),UpIn us → wdI (zbk ls us) 8 = wdI ls 8
 | [],_,_ => rfl
 | u :: us,ls,h => by
  rw [zht,yaip us _ (fun v hv => h v (List.mem_cons_of_mem _ hv))]
  have q:=h u List.mem_cons_self
  unfold wdI
  rw [List.getD_eq_getElem?_getD,List.getD_eq_getElem?_getD,List.getElem?_set_ne (by omega)]
theorem yand {ls es:List Int} {ns ns':List Ino} {ds ds':List Den} {us:List Se} (h:Idle ls es ns ds) (ui:UpIn us) (ul:us.length ≤ 16) (uv:Wv us) (W:Wi (zbk ls us) ns' ds'):Idle (zbk ls us) es ns' ds' :=
 ⟨W,(yaip us ls ui).trans h.c0,(ztb h ui ul uv W).2.2.2.1,h.bk⟩
theorem yarr {ws:List Ino} {ps:List Den} {t:ByteArray} {d:Int} {nm:ByteArray} (ht:PathD t) (p:paI ws ps t = (d,nm,0)) (e:zax ps d nm = none):lkI ws ps t = (0,5):=by
 obtain ⟨xs,el,ew,ek⟩:=zyc ht p
 unfold lkI
 rw [if_pos ht.down.1,el,zyl,ew]
 simp only [if_true]
 rw [if_pos ek,e]
end Go.Proofs.YtkdjfhkalelafaaGreatDoor
