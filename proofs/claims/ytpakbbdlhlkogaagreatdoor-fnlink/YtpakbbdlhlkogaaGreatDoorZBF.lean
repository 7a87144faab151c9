/- Several texts laid together: AuA, RmM. -/
import Derived.Test.YtpakbbdlhlkogaaGreatDoorZAS
import Derived.Test.YtpakbbdlhlkogaaGreatDoorZBE
import Derived.Test.YtpakbbdlhlkogaaGreatDoorZAT
import Derived.Test.YtpakbbdlhlkogaaGreatDoorZAR
import Derived.Deep.LoopGhost
import Derived.Deep.RegionHeld3
import Derived.Test.YtpakbbdlhlkogaaGreatDoorZAU
import Derived.Test.YtpakbbdlhlkogaaGreatDoorZBB
import Derived.Test.YtpakbbdlhlkogaaGreatDoorZBD
import Derived.Test.YtpakbbdlhlkogaaGreatDoorZAK
namespace Go.Proofs.YtpakbbdlhlkogaaGreatDoor
open Go.RowKit
def apW (ws : List Int) (us : List Se) : List Int := us.foldl (fun l u => l.set u.at_.toNat u.val) ws
theorem yaoa (ws : List Int) (us : List Se) (k : Nat) (h : k < us.length) : apW ws (us.take (k + 1)) = (apW ws (us.take k)).set us[k].at_.toNat us[k].val := by
 unfold apW
 rw [List.take_succ_eq_append_getElem h, List.foldl_append]
 rfl
theorem yakd (ws : List Int) : ∀ (us : List Se), (apW ws us).length = ws.length := by
 intro us
 unfold apW
 induction us generalizing ws with
 | nil => rfl
 | cons u us ih => rw [List.foldl_cons, ih, List.length_set]
def auB (ws : List Int) (ps : List St) (us : List Se) : Bool := pmB ws ps && upsB us
def auC (ws : List Int) (ps : List St) (us : List Se) : Int := if 4096 < us.length then 2 else if auB ws ps us = true then (if ps.length = 0 then 0 else 15) else 1
def auW (ws : List Int) (ps : List St) (us : List Se) : List Int := if 4096 < us.length then [] else if auB ws ps us = true then (if ps.length = 0 then apW ws us else ws) else []
def auP (ws : List Int) (ps : List St) (us : List Se) : List St := if 4096 < us.length then [] else if auB ws ps us = true then ps else []
theorem yaof (ws : List Int) (ps : List St) (us : List Se) : (4096 < us.length ∧ auC ws ps us = 2 ∧ auW ws ps us = [] ∧ auP ws ps us = []) ∨
  (¬ 4096 < us.length ∧ pmB ws ps = false ∧ auC ws ps us = 1 ∧ auW ws ps us = [] ∧ auP ws ps us = []) ∨
  (¬ 4096 < us.length ∧ pmB ws ps = true ∧ upsB us = false ∧ auC ws ps us = 1 ∧ auW ws ps us = [] ∧ auP ws ps us = []) ∨
  (¬ 4096 < us.length ∧ pmB ws ps = true ∧ upsB us = true ∧ ¬ ps.length = 0 ∧ auC ws ps us = 15 ∧ auW ws ps us = ws ∧ auP ws ps us = ps) ∨
  (¬ 4096 < us.length ∧ pmB ws ps = true ∧ upsB us = true ∧ ps.length = 0 ∧ auC ws ps us = 0 ∧ auW ws ps us = apW ws us ∧ auP ws ps us = []) := by
 unfold auC auW auP auB
 by_cases c : 4096 < us.length
 ·simp [c]
 ·cases h1 : pmB ws ps with
  | false => simp [c]
  | true =>
   cases h2 : upsB us with
   | false => simp [c]
   | true =>
    by_cases h3 : ps.length = 0
    ·have : ps = [] := List.eq_nil_of_length_eq_zero h3
     simp [c, this]
    ·have h4 : ¬ ps = [] := fun e => h3 (by rw [e]; rfl)
     simp [c, h4]
theorem yamr (us : List Se) : yaip us = upsB us := by
 unfold yaip upsB upB
 simp only [decide_eq_true_eq]
structure ApI (w wr : World) (X lo : Nat) (vW vP : Value) (n : Nat) (xs : List Int) : Prop where
 words : Row wr 3 1 lo X vW n (zdd xs)
 pend : Row wr 108 3 lo X vP 0 []
 box : wr.heap[X]? = some (.cells #[vW, vP] 26 (0, 0))
 res : wr.heap[w.heap.size + 1]? = some (.cells #[.slice none 0 0, .slice none 0 0] 26 (0, 0))
 below : Below w.heap.size w wr
 size : X + 1 ≤ wr.heap.size
theorem ApI.grow {w wr w' : World} {X lo : Nat} {vW vP : Value} {n : Nat} {xs : List Int} (h : ApI w wr X lo vW vP n xs) (hb : Below wr.heap.size wr w') : ApI w w' X lo vW vP n xs := by
 obtain ⟨h1, h2, h3, h4, h5, h6⟩ := h
 have hs := hb.size
 exact ⟨h1.below hb (by omega), h2.below hb (by omega), (hb.block _ (by omega)).trans h3, (hb.block _ ((Array.getElem?_eq_some_iff.1 h4).1)).trans h4, zab h5 hb h5.size, by omega⟩
theorem ApI.hit {w wr : World} {X lo : Nat} {b n cap : Nat} {vP : Value} {m : Nat} {xs : List Int} (h : ApI w wr X lo (.slice (some ⟨b, 0, none⟩) n cap) vP m xs) (hlo : w.heap.size + 2 ≤ lo) (hm : n = m) (j : Nat) (x : Int) :
  ApI w (wr.setCell ⟨b, j, none⟩ (.int .i64 x)) X lo (.slice (some ⟨b, 0, none⟩) n cap) vP m (xs.set j x) := by
 subst hm
 obtain ⟨h1, h2, h3, h4, h5, h6⟩ := h
 obtain ⟨_, hb1, hb2, _⟩ := h1.at
 refine ⟨?_, ?_, ?_, ?_, ?_, ?_⟩
 ·rw [← zie]
  exact h1.stored _ _
 ·rcases h2.shape with ⟨rfl, _, _⟩ | ⟨b', c', rfl, _, _⟩
  ·exact Row.nil _ _ _ _ _
  ·refine h2.setOther ?_ _
   intro e
   simp [Value.ownBlock] at e
   subst e
   have e1 := h1.1
   have e2 := h2.1
   rcases e1.2 with ⟨q, _⟩ | ⟨g, cp, cur, q, _, hg, _⟩
   ·cases q
   ·rcases e2.2 with ⟨q', _⟩ | ⟨g', cp', cur', q', _, hg', _⟩
    ·cases q'
    ·cases q
     cases q'
     rw [hg] at hg'
     injection hg' with hg'
     injection hg' with _ hg' _
     exact absurd hg' (by decide)
 ·rw [Below.heap_setCell _ _ _ _ (by simp only; omega)]; exact h3
 ·rw [Below.heap_setCell _ _ _ _ (by simp only; omega)]; exact h4
 ·exact h5.setCell (by simp only; omega) _
 ·simpa [World.setCell] using h6
set_option maxRecDepth 100000 in
set_option maxHeartbeats 8000000 in
theorem zeu (v vL : Value) (ws : List Int) (ps : List St) (us : List Se) (w : World) (h : RdPm w v ws ps) (hL : RdE w vL us) (hw : ws.length ≤ 1048576) (hp : ps.length ≤ 1048576) (hu : us.length ≤ 1048576) :
  Calls Tryz.prog 13 #[v, vL] w fun e w' => ∃ v', e = .returned (.tuple #[v', .int .i64 (auC ws ps us)]) ∧ RowPm w' w.heap.size w'.heap.size v' (auW ws ps us) (auP ws ps us) ∧ Below w.heap.size w w' := by
 have HR := zaa h
 have HL := zaa hL
 have LO := zaa (fun w1 (hb : Below w.heap.size w w1) => zhn v ws ps w1 (h.below hb) hw hp)
 have LU := zaa (fun w1 (hb : Below w.heap.size w w1) => zoz vL us w1 (Rd.below hL hb) hu)
 have LC := zaa (fun w1 (hb : Below w.heap.size w w1) => yadi v ws ps w1 (h.below hb) (by omega) (by omega))
 rw [yamr] at LU
 have LUB : Hid (∀ {a b : World}, Below a.heap.size a b → Below a.heap.size a b) := fun h => h
 obtain ⟨vW, vP, rfl, h1, h2⟩ := h
 obtain ⟨aW, cW, rfl, _⟩ := h1.shape
 obtain ⟨aP, cP, rfl, _⟩ := h2.shape
 obtain ⟨aL, cL, rfl, _, hcL⟩ := hL.shape
 have HC := zaa hcL
 clear h1 h2 hL hcL
 obtain ⟨W, hW⟩ : ∃ W, W = (w.alloc (.cells #[.slice aW ws.length cW, .slice aP ps.length cP] 26)).alloc (.cells #[.slice none 0 0, .slice none 0 0] 26) := ⟨_, rfl⟩
 have BW : Hid (Below w.heap.size w W) := by
  rw [hW]
  repeat (refine Below.alloc ?_ (by simp <;> omega) _)
  exact Below.refl _ _
 have hz : W.heap.size = w.heap.size + 2 := by rw [hW]; simp
 have VA : Hid (W.heap[w.heap.size]? = some (.cells #[.slice aW ws.length cW, .slice aP ps.length cP] 26 (0, 0))) := by rw [hW]; exact zak (zah rfl)
 have VR : Hid (W.heap[w.heap.size + 1]? = some (.cells #[.slice none 0 0, .slice none 0 0] 26 (0, 0))) := by rw [hW]; exact zah (by simp)
 rcases yaof ws ps us with ⟨c1, e1, e2, e3⟩ | ⟨c1, c2, e1, e2, e3⟩ | ⟨c1, c2, c3, e1, e2, e3⟩ | ⟨c1, c2, c3, c4, e1, e2, e3⟩ | ⟨c1, c2, c3, c4, e1, e2, e3⟩
 ·rw [e1, e2, e3]
  have c1' : (us.length : Int) > 4096 := by omega
  clear e1 e2 e3 c1
  go_enter Tryz.func13, Tryz.ntmps13
  go_wp2
  refine bodyPost_ret (v := .tuple #[.agg #[.slice none 0 0, .slice none 0 0], .int .i64 2]) (by simp [results, Tryz.results13, go_sem]) rfl ?_
  refine ⟨_, rfl, RowPm.zero _ _ _, ?_⟩
  repeat (first | exact Below.refl _ _ | refine Below.alloc ?_ (by simp <;> omega) _ | refine Below.setCell ?_ (by simp only; omega) _)
 ·rw [e1, e2, e3]
  have c1' : ¬ (us.length : Int) > 4096 := by omega
  rw [c2] at LO
  clear e1 e2 e3 c1 c2
  go_enter Tryz.func13, Tryz.ntmps13
  obtain ⟨x0, x1, _, _⟩ := zac VA.out
  rw [hW] at x0 x1
  go_wp2_with fail
  rw [← hW]
  clear hW x0 x1
  refine (LO.out _ BW.out).mono ?_
  rintro e w1 ⟨rfl, hb1⟩
  have B1 := zaa (zab BW.out hb1 (by omega))
  have V1 := zaa ((hb1.block (w.heap.size + 1) (by omega)).trans VR.out)
  have z1 : W.heap.size ≤ w1.heap.size := hb1.size
  clear hb1
  obtain ⟨t1, t2, t3, t4⟩ := zac V1.out
  go_wp2
  refine bodyPost_ret (v := .tuple #[.agg #[.slice none 0 0, .slice none 0 0], .int .i64 1]) (by simp [results, Tryz.results13, go_sem, t1, t2]) rfl ?_
  exact ⟨_, rfl, RowPm.zero _ _ _, (B1.out.setCell (by simp only; omega) _).setCell (by simp only; omega) _⟩
 ·rw [e1, e2, e3]
  have c1' : ¬ (us.length : Int) > 4096 := by omega
  rw [c2] at LO
  rw [c3] at LU
  clear e1 e2 e3 c1 c2 c3
  go_enter Tryz.func13, Tryz.ntmps13
  obtain ⟨x0, x1, _, _⟩ := zac VA.out
  rw [hW] at x0 x1
  go_wp2_with fail
  rw [← hW]
  clear hW x0 x1
  refine (LO.out _ BW.out).mono ?_
  rintro e w1 ⟨rfl, hb1⟩
  have B1 := zaa (zab BW.out hb1 (by omega))
  have V1 := zaa ((hb1.block (w.heap.size + 1) (by omega)).trans VR.out)
  have z1 : W.heap.size ≤ w1.heap.size := hb1.size
  clear hb1
  go_wp2_with fail
  refine (LU.out _ B1.out).mono ?_
  rintro e w2 ⟨rfl, hb2⟩
  have B2 := zaa (zab B1.out (LUB.out hb2) B1.out.size)
  have V2 := zaa (((LUB.out hb2).block (w.heap.size + 1) (by omega)).trans V1.out)
  clear hb2 B1 V1
  have B1 := B2
  have V1 := V2
  clear B2 V2
  obtain ⟨t1, t2, t3, t4⟩ := zac V1.out
  go_wp2
  refine bodyPost_ret (v := .tuple #[.agg #[.slice none 0 0, .slice none 0 0], .int .i64 1]) (by simp [results, Tryz.results13, go_sem, t1, t2]) rfl ?_
  exact ⟨_, rfl, RowPm.zero _ _ _, (B1.out.setCell (by simp only; omega) _).setCell (by simp only; omega) _⟩
 ·rw [e1, e2, e3]
  have c1' : ¬ (us.length : Int) > 4096 := by omega
  rw [c2] at LO
  rw [c3] at LU
  obtain ⟨l336, l400⟩ := zfk c2
  have UP := zaa (of_decide_eq_true c3 : ∀ k (h : k < us.length), (48 ≤ us[k].at_ ∧ us[k].at_ < 336) ∧ 0 ≤ us[k].val ∧ us[k].val < 1099511627776)
  have L336 := zaa l336
  clear e1 e2 e3 c2 c3 l336
  go_enter Tryz.func13, Tryz.ntmps13
  obtain ⟨x0, x1, _, _⟩ := zac VA.out
  rw [hW] at x0 x1
  go_wp2_with fail
  rw [← hW]
  clear hW x0 x1
  refine (LO.out _ BW.out).mono ?_
  rintro e w1 ⟨rfl, hb1⟩
  have B1 := zaa (zab BW.out hb1 (by omega))
  have U1 := zaa ((hb1.block w.heap.size (by omega)).trans VA.out)
  have V1 := zaa ((hb1.block (w.heap.size + 1) (by omega)).trans VR.out)
  have z1 : W.heap.size ≤ w1.heap.size := hb1.size
  clear hb1
  go_wp2_with fail
  refine (LU.out _ B1.out).mono ?_
  rintro e w2 ⟨rfl, hb2⟩
  have B2 := zaa (zab B1.out (LUB.out hb2) B1.out.size)
  have U2 := zaa (((LUB.out hb2).block w.heap.size (by omega)).trans U1.out)
  have V2 := zaa (((LUB.out hb2).block (w.heap.size + 1) (by omega)).trans V1.out)
  have z2 : w1.heap.size ≤ w2.heap.size := (LUB.out hb2).size
  clear hb2 B1 V1 U1
  obtain ⟨x0, x1, _, _⟩ := zac U2.out
  go_wp2_with fail
  refine (LC.out _ B2.out).mono ?_
  rintro e w3 ⟨v3, rfl, hr3, hb3⟩
  obtain ⟨vW3, vP3, rfl, r1, r2⟩ := hr3
  obtain ⟨aW3, cW3, rfl⟩ := RdI.form (show RdI _ _ ws from r1.rd) rfl
  obtain ⟨aP3, cP3, rfl⟩ := RdS.form (show RdS _ _ ps from r2.rd) rfl
  have R1 := zaa r1
  have R2 := zaa r2
  have B3 := zaa (zab B2.out hb3 B2.out.size)
  have V3 := zaa ((hb3.block (w.heap.size + 1) (by omega)).trans V2.out)
  have z3 : w2.heap.size ≤ w3.heap.size := hb3.size
  clear hb3 r1 r2 B2 V2 U2 x0 x1
  have pp : (ps.length : Int) > 0 := by omega
  obtain ⟨t1, t2, t3, t4⟩ := zac (zak (o := .cells #[.slice aW3 ws.length cW3, .slice aP3 ps.length cP3] 26) V3.out)
  go_wp2
  refine bodyPost_ret (v := .tuple #[.agg #[.slice aW3 ws.length cW3, .slice aP3 ps.length cP3], .int .i64 15]) (by simp [results, Tryz.results13, go_sem, t1, t2]) rfl ?_
  refine ⟨_, rfl, ⟨_, _, rfl, ?_, ?_⟩, ?_⟩
  ·refine ((R1.out.alloc (Nat.le_refl _) (.cells #[.slice aW3 ws.length cW3, .slice aP3 ps.length cP3] 26)).same fun b h1 h2 => ?_).wide (by omega) (by simp [World.setCell])
   rw [Below.heap_setCell _ _ _ _ (by simp only; omega), Below.heap_setCell _ _ _ _ (by simp only; omega)]
  ·refine ((R2.out.alloc (Nat.le_refl _) (.cells #[.slice aW3 ws.length cW3, .slice aP3 ps.length cP3] 26)).same fun b h1 h2 => ?_).wide (by omega) (by simp [World.setCell])
   rw [Below.heap_setCell _ _ _ _ (by simp only; omega), Below.heap_setCell _ _ _ _ (by simp only; omega)]
  ·repeat (first | exact B3.out | exact B3.out.alloc B3.out.size _ | refine Below.setCell ?_ (by simp only; omega) _)
 ·rw [e1, e2, e3]
  have c1' : ¬ (us.length : Int) > 4096 := by omega
  have C4 := zaa c4
  clear c4
  rw [c2] at LO
  rw [c3] at LU
  obtain ⟨l336, l400⟩ := zfk c2
  have UP := zaa (of_decide_eq_true c3 : ∀ k (h : k < us.length), (48 ≤ us[k].at_ ∧ us[k].at_ < 336) ∧ 0 ≤ us[k].val ∧ us[k].val < 1099511627776)
  have L336 := zaa l336
  clear e1 e2 e3 c2 c3 l336
  go_enter Tryz.func13, Tryz.ntmps13
  obtain ⟨x0, x1, _, _⟩ := zac VA.out
  rw [hW] at x0 x1
  go_wp2_with fail
  rw [← hW]
  clear hW x0 x1
  refine (LO.out _ BW.out).mono ?_
  rintro e w1 ⟨rfl, hb1⟩
  have B1 := zaa (zab BW.out hb1 (by omega))
  have U1 := zaa ((hb1.block w.heap.size (by omega)).trans VA.out)
  have V1 := zaa ((hb1.block (w.heap.size + 1) (by omega)).trans VR.out)
  have z1 : W.heap.size ≤ w1.heap.size := hb1.size
  clear hb1
  go_wp2_with fail
  refine (LU.out _ B1.out).mono ?_
  rintro e w2 ⟨rfl, hb2⟩
  have B2 := zaa (zab B1.out (LUB.out hb2) B1.out.size)
  have U2 := zaa (((LUB.out hb2).block w.heap.size (by omega)).trans U1.out)
  have V2 := zaa (((LUB.out hb2).block (w.heap.size + 1) (by omega)).trans V1.out)
  have z2 : w1.heap.size ≤ w2.heap.size := (LUB.out hb2).size
  clear hb2 B1 V1 U1
  obtain ⟨x0, x1, _, _⟩ := zac U2.out
  go_wp2_with fail
  refine (LC.out _ B2.out).mono ?_
  rintro e w3 ⟨v3, rfl, hr3, hb3⟩
  obtain ⟨vW3, vP3, rfl, r1, r2⟩ := hr3
  obtain ⟨aW3, cW3, rfl⟩ := RdI.form (show RdI _ _ ws from r1.rd) rfl
  obtain ⟨aP3, cP3, rfl⟩ := RdS.form (show RdS _ _ ps from r2.rd) rfl
  have R1 := zaa r1
  have R2 := zaa r2
  have B3 := zaa (zab B2.out hb3 B2.out.size)
  have V3 := zaa ((hb3.block (w.heap.size + 1) (by omega)).trans V2.out)
  have z3 : w2.heap.size ≤ w3.heap.size := hb3.size
  clear hb3 r1 r2 B2 V2 U2 x0 x1
  have e0 : ps = [] := List.eq_nil_of_length_eq_zero C4.out
  subst e0
  rcases R1.out.shape with ⟨_, e5, _⟩ | ⟨b, c5, e5, hc5, _⟩
  ·have := L336.out
   omega
  cases e5
  have START : Hid (ApI w (w3.alloc (.cells #[.slice (some ⟨b, 0, none⟩) ws.length cW3, .slice aP3 0 cP3] 26)) w3.heap.size w2.heap.size (.slice (some ⟨b, 0, none⟩) ws.length cW3) (.slice aP3 0 cP3) ws.length (apW ws (us.take 0))) :=
   ⟨R1.out.alloc (Nat.le_refl _) _, R2.out.alloc (Nat.le_refl _) _, zah rfl, zak V3.out, B3.out.alloc B3.out.size _, by simp⟩
  obtain ⟨x5, x6, x7, x8⟩ := zac START.out.box
  simp only [List.length_nil]
  clear R1 R2 V3 B3 C4
  go_wp2
  go_loopg [8, 31] us.length (fun g _ i wr => ∃ k : Nat, k + g = us.length ∧ i = .int .i64 k ∧ Hid (ApI w wr w3.heap.size w2.heap.size (.slice (some ⟨b, 0, none⟩) ws.length cW3) (.slice aP3 0 cP3) ws.length (apW ws (us.take k))))
  case atStart => exact ⟨0, by omega, rfl, START⟩
  case round =>
   obtain ⟨k, hk, rfl, I⟩ := hrel
   clear START x5 x6 x7 x8
   have k0 : (0 : Int) ≤ (k : Int) := by omega
   have NX : Hid (∀ h : k < us.length, apW ws (us.take (k + 1)) = (apW ws (us.take k)).set us[k].at_.toNat us[k].val) := fun h => yaoa ws us k h
   have AL := yakd ws (us.take k)
   by_cases hlt : k < us.length
   ·obtain ⟨bL, oL, rfl, hblL, hcellL⟩ := HC.out (by omega)
    obtain ⟨a0, a1⟩ := hcellL k hlt
    have d0 := (I.out.below.cell (p := ⟨bL, oL + k * 2, none⟩) hblL).trans a0
    have d1 := (I.out.below.cell (p := ⟨bL, oL + k * 2 + 1, none⟩) hblL).trans a1
    have k1 : (k : Int) < (us.length : Int) := by omega
    obtain ⟨⟨u0, u1⟩, -⟩ := UP.out k hlt
    have NXk := zaa (NX.out hlt)
    have g24 : gk - 1 < gk := by omega
    have hk' : (k + 1) + (gk - 1) = us.length := by omega
    clear a0 a1 hcellL NX
    generalize us[k] = x at *
    obtain ⟨xa, xv⟩ := x
    simp only at d0 d1 u0 u1 NXk
    obtain ⟨j, rfl⟩ : ∃ j : Nat, xa = (j : Int) := ⟨xa.toNat, by omega⟩
    have j0 : (0 : Int) ≤ (j : Int) := by omega
    have j1 : (j : Int) < (ws.length : Int) := by have := L336.out; omega
    obtain ⟨-, _, _, _, hfr, hcl⟩ := I.out.words.at
    have g0 := hfr j
    have g1 := (hcl j (by omega)).trans (zct _ j (by omega))
    obtain ⟨s1, s2, _, _⟩ := zac I.out.box
    rw [Int.toNat_natCast] at NXk
    have I1 := zaa ((I.out.hit (by omega) rfl j xv).grow ((Below.refl _ _).alloc (Nat.le_refl _) (.cells #[.int .i64 (j : Int), .int .i64 xv] 83)))
    rw [← NXk.out] at I1
    obtain ⟨q1, q2, _, _⟩ := zac (zak (o := .cells #[.int .i64 (j : Int), .int .i64 xv] 83) I.out.box)
    obtain ⟨-, _, _, _, hfr2, hcl2⟩ := (I.out.words.alloc (by have := I.out.size; omega) (.cells #[.int .i64 (j : Int), .int .i64 xv] 83)).at
    have o0 := hfr2 j
    have o1 := (hcl2 j (by omega)).trans (zct _ j (by omega))
    clear hfr hcl hfr2 hcl2 I NXk
    go_wp2
    go_roundg (gk - 1)
    case measure => exact g24
    case rel => exact ⟨k + 1, hk', by go_num, I1⟩
   ·obtain rfl : k = us.length := by omega
    rw [List.take_length] at I
    obtain ⟨t1, t2, t3, t4⟩ := zac I.out.res
    obtain ⟨s1, s2, _, _⟩ := zac I.out.box
    have hsz := I.out.size
    clear NX AL
    go_wp2
    have I2 := I.out
    refine bodyPost_ret (v := .tuple #[.agg #[.slice (some ⟨b, 0, none⟩) ws.length cW3, .slice aP3 0 cP3], .int .i64 0]) (by simp [results, Tryz.results13, go_sem, t1, t2]) rfl ?_
    refine ⟨_, rfl, ⟨_, _, rfl, ?_, ?_⟩, (I2.below.setCell (by simp only; omega) _).setCell (by simp only; omega) _⟩
    ·rw [yakd]
     refine (I2.words.same fun b h1 h2 => ?_).wide (by omega) (by simp; omega)
     rw [Below.heap_setCell _ _ _ _ (by simp only; omega), Below.heap_setCell _ _ _ _ (by simp only; omega)]
    ·refine (I2.pend.same fun b h1 h2 => ?_).wide (by omega) (by simp; omega)
     rw [Below.heap_setCell _ _ _ _ (by simp only; omega), Below.heap_setCell _ _ _ _ (by simp only; omega)]
end Go.Proofs.YtpakbbdlhlkogaaGreatDoor

namespace Go.Proofs.YtpakbbdlhlkogaaGreatDoor
theorem zss (ws : List Ino) (ps : List Den) (x : ByteArray) : ∀ (xs : List ByteArray) (z : Int), wk ws ps z (xs ++ [x]) = if (wk ws ps z xs).2 = 0 then (if zai ws (wk ws ps z xs).1 = 2 then (match zay ps (wk ws ps z xs).1 x with | none => (0, 5) | some k => (zan ps k, 0)) else (0, 10)) else wk ws ps z xs
 | [], z => by
  rw [List.nil_append, yapq, if_pos rfl]
  by_cases k : zai ws z = 2
  ·rw [if_pos k]
   cases e : zay ps z x with
   | none => rw [zfy k e]
   | some j => rw [zff k e, yapq]
  ·rw [if_neg k, zel k]
 | n :: xs, z => by
  rw [List.cons_append]
  by_cases k : zai ws z = 2
  ·cases e : zay ps z n with
   | none => rw [zfy k e, zfy k e, if_neg (by decide)]
   | some j => rw [zff k e, zff k e]; exact zss ws ps x xs (zan ps j)
  ·rw [zel k, zel k, if_neg (by decide)]
theorem yaaw (ws : List Ino) (ps : List Den) : ∀ (xs : List ByteArray) (z : Int), (wk ws ps z xs).2 = 0 ∨ (wk ws ps z xs).2 = 5 ∨ (wk ws ps z xs).2 = 10
 | [], z => .inl rfl
 | n :: xs, z => by
  by_cases k : zai ws z = 2
  ·cases e : zay ps z n with
   | none => rw [zfy k e]; exact .inr (.inl rfl)
   | some j => rw [zff k e]; exact yaaw ws ps xs (zan ps j)
  ·rw [zel k]; exact .inr (.inr rfl)
theorem yach : (oneP ++ twoP).all (fun p => spB p && !(spL p).isEmpty) = true := by kernel_rfl
theorem PathD.down {p : ByteArray} (h : PathD p) : spB p = true ∧ ∃ xs x, spL p = xs ++ [x] := by
 have q := List.all_eq_true.1 yach p (List.mem_append.2 h)
 rw [Bool.and_eq_true] at q
 refine ⟨q.1, ?_⟩
 cases e : spL p with
 | nil => rw [e] at q; simp at q
 | cons a t => exact ⟨(a :: t).dropLast, (a :: t).getLast (by simp), (List.dropLast_concat_getLast (by simp)).symm⟩
theorem yavs {ws : List Ino} {ps : List Den} {s : ByteArray} (h : PathD s) :
  (¬ (lkI ws ps s).2 = 0 ∧ ¬ (rmI ws ps s).2 = 0 ∧ ¬ (rmI ws ps s).2 = 11 ∧ (rmI ws ps s).1 = []) ∨ ((lkI ws ps s).2 = 0 ∧ (rmI ws ps s).2 = 11 ∧ (rmI ws ps s).1 = []) ∨ (lkI ws ps s).2 = 0 ∧ ∃ us d nm k, rmI ws ps s = (us, 0) ∧ paI ws ps s = (d, nm, 0) ∧ zay ps d nm = some k ∧ lkI ws ps s = (zan ps k, 0) := by
 obtain ⟨b, xs, x, e⟩ := h.down
 have l : lkI ws ps s = wk ws ps 0 (xs ++ [x]) := by unfold lkI; rw [if_pos b, e]
 have p : paI ws ps s = paN ws ps xs x := by unfold paI; rw [if_pos b, e, zig]
 rw [zss] at l
 unfold paN at p
 unfold rmI
 by_cases c : (wk ws ps 0 xs).2 = 0
 ·rw [if_pos c] at l p
  by_cases k : zai ws (wk ws ps 0 xs).1 = 2
  ·rw [if_pos k] at l p
   rw [p, l]
   simp only [if_true]
   unfold rmN
   cases q : zay ps (wk ws ps 0 xs).1 x with
   | none => simp
   | some j =>
    simp only
    unfold rmC
    split
    ·exact .inr (.inl ⟨trivial, rfl, rfl⟩)
    ·exact .inr (.inr ⟨trivial, _, _, _, j, rfl, rfl, q, rfl⟩)
  ·rw [if_neg k] at l p
   rw [p, l]
   simp
 ·rw [if_neg c] at l p
  have w := yaaw ws ps xs 0
  rw [p, l]
  simp only
  rw [if_neg c]
  exact .inl ⟨c, c, by omega, rfl⟩
theorem zog : ∀ (us : List Se) (ls : List Int), (∀ x ∈ ls, zbc x = true) → (∀ u ∈ us, 0 ≤ u.val ∧ u.val < 1099511627776) → ∀ x ∈ zbe ls us, zbc x = true
 | [], ls, h, _ => h
 | u :: us, ls, h, k => by
  rw [zhl]
  refine zog us _ (fun x hx => ?_) (fun v hv => k v (List.mem_cons_of_mem _ hv))
  rcases List.mem_or_eq_of_mem_set hx with q | rfl
  ·exact h x q
  ·exact decide_eq_true (k u List.mem_cons_self)
theorem yark {ls es : List Int} {ns : List Ino} {ds : List Den} {s : ByteArray} {us : List Se} {d : Int} {nm : ByteArray} {k : Nat} (h : Idle ls es ns ds) (e : rmI ns ds s = (us, 0)) (pa : paI ns ds s = (d, nm, 0)) (en : zay ds d nm = some k) :
  us.length ≤ 16 ∧ auC ls [] us = 0 ∧ auW ls [] us = zbe ls us ∧ auP ls [] us = [] ∧ riC (zbe ls us) [] = 0 ∧ ∃ i : Nat, zan ds k = (i : Int) ∧ 1 ≤ i ∧ i < 16 ∧ riN (zbe ls us) [] = ns.set i (zbz (zal ns i)) ∧ riD (zbe ls us) [] = ds.set k freeD := by
 obtain ⟨ui, ul⟩ := yarc h.wi.img e
 obtain ⟨i, k', d', nm', pa', en', ch, i16, k24, -, W⟩ := zwh h.wi e
 rw [pa] at pa'
 cases pa'
 rw [en] at en'
 cases en'
 obtain ⟨hk, -⟩ := zmk en
 have cd : zan ds k = (i : Int) := by rw [zbf hk, ← ch, zbs hk]
 have i1 : 1 ≤ i := by
  rcases h.wi.img.ent k k24 with f | f
  ·rw [f] at ch; simp [freeD] at ch
  ·have := f.1; omega
 have uv := yauj h.wi.img e
 have up : upsB us = true := decide_eq_true (fun j hj => by have a := ui _ (List.getElem_mem hj); have b := uv _ (List.getElem_mem hj); omega)
 have ab : auB ls [] us = true := by unfold auB; rw [h.pm, up]; rfl
 have pw : pmB (zbe ls us) [] = true := zgo.2 ⟨W.len, by simp, zog us ls (zgo.1 h.pm).2.2.1 uv, fun p hp => by cases hp⟩
 have c : riC (zbe ls us) [] = 0 := by unfold riC; rw [if_pos pw, if_pos (show riB (zcr (zbe ls us) []) = true from W.ri)]
 refine ⟨ul, ?_, ?_, ?_, c, i, cd, i1, i16, ?_, ?_⟩
 ·unfold auC; rw [if_neg (by omega), if_pos ab]; rfl
 ·unfold auW; rw [if_neg (by omega), if_pos ab]; rfl
 ·unfold auP; rw [if_neg (by omega), if_pos ab]
 ·unfold riN; rw [if_pos c]; exact W.inos
 ·unfold riD; rw [if_pos c]; exact W.dens
end Go.Proofs.YtpakbbdlhlkogaaGreatDoor
