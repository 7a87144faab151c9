/- Updates applied at once: by the model and by the program. -/
import Derived.Test.YtpgdpachomdfhaaPmFenceI
import Derived.Test.YtpgdpachomdfhaaJiG
import Derived.Test.YtpgdpachomdfhaaJrP
import Derived.Test.YtpgdpachomdfhaaPmOwn
import Derived.Test.YtpgdpachomdfhaaPmCopy
import Derived.Deep.LoopGhost
import Derived.Deep.RegionHeld3
namespace Go.Proofs.Ytpgdpachomdfhaa
open Go.RowKit

/-- The words behind updates. -/
def apW (ws : List Int) (us : List Se) : List Int := us.foldl (fun l u => l.set u.at_.toNat u.val) ws
theorem apW_snoc (ws : List Int) (us : List Se) (k : Nat) (h : k < us.length) : apW ws (us.take (k + 1)) = (apW ws (us.take k)).set us[k].at_.toNat us[k].val := by
  unfold apW
  rw [List.take_succ_eq_append_getElem h, List.foldl_append]
  rfl
theorem apW_len (ws : List Int) : ∀ (us : List Se), (apW ws us).length = ws.length := by
  intro us
  unfold apW
  induction us generalizing ws with
  | nil => rfl
  | cons u us ih => rw [List.foldl_cons, ih, List.length_set]
def auB (ws : List Int) (ps : List St) (us : List Se) : Bool := pmB ws ps && upsB us
def auC (ws : List Int) (ps : List St) (us : List Se) : Int := if 4096 < us.length then 2 else if auB ws ps us = true then (if ps.length = 0 then 0 else 15) else 1
def auW (ws : List Int) (ps : List St) (us : List Se) : List Int := if 4096 < us.length then [] else if auB ws ps us = true then (if ps.length = 0 then apW ws us else ws) else []
def auP (ws : List Int) (ps : List St) (us : List Se) : List St := if 4096 < us.length then [] else if auB ws ps us = true then ps else []
theorem auW_len (ws : List Int) (ps : List St) (us : List Se) : (auW ws ps us).length ≤ ws.length := by
  unfold auW
  repeat' split
  · simp
  · rw [apW_len]; exact Nat.le_refl _
  · exact Nat.le_refl _
  · simp
theorem auP_len (ws : List Int) (ps : List St) (us : List Se) : (auP ws ps us).length ≤ ps.length := by
  unfold auP
  repeat' split
  · simp
  · exact Nat.le_refl _
  · simp
theorem au_cases (ws : List Int) (ps : List St) (us : List Se) : (4096 < us.length ∧ auC ws ps us = 2 ∧ auW ws ps us = [] ∧ auP ws ps us = []) ∨
    (¬ 4096 < us.length ∧ pmB ws ps = false ∧ auC ws ps us = 1 ∧ auW ws ps us = [] ∧ auP ws ps us = []) ∨
    (¬ 4096 < us.length ∧ pmB ws ps = true ∧ upsB us = false ∧ auC ws ps us = 1 ∧ auW ws ps us = [] ∧ auP ws ps us = []) ∨
    (¬ 4096 < us.length ∧ pmB ws ps = true ∧ upsB us = true ∧ ¬ ps.length = 0 ∧ auC ws ps us = 15 ∧ auW ws ps us = ws ∧ auP ws ps us = ps) ∨
    (¬ 4096 < us.length ∧ pmB ws ps = true ∧ upsB us = true ∧ ps.length = 0 ∧ auC ws ps us = 0 ∧ auW ws ps us = apW ws us ∧ auP ws ps us = []) := by
  unfold auC auW auP auB
  by_cases c : 4096 < us.length
  · simp [c]
  · cases h1 : pmB ws ps with
    | false => simp [c]
    | true =>
      cases h2 : upsB us with
      | false => simp [c]
      | true =>
        by_cases h3 : ps.length = 0
        · have : ps = [] := List.eq_nil_of_length_eq_zero h3
          simp [c, this]
        · have h4 : ¬ ps = [] := fun e => h3 (by rw [e]; rfl)
          simp [c, h4]
theorem ups_same (us : List Se) : upsBB us = upsB us := by
  unfold upsBB upsB upB
  simp only [decide_eq_true_eq]
/-- In the midst of the updates. -/
structure ApI (w wr : World) (X lo : Nat) (vW vP : Value) (n : Nat) (xs : List Int) : Prop where
  words : Row wr 3 1 lo X vW n (ints xs)
  pend : Row wr 62 3 lo X vP 0 []
  box : wr.heap[X]? = some (.cells #[vW, vP] 31 (0, 0))
  res : wr.heap[w.heap.size + 1]? = some (.cells #[.slice none 0 0, .slice none 0 0] 31 (0, 0))
  below : Below w.heap.size w wr
  size : X + 1 ≤ wr.heap.size
theorem ApI.grow {w wr w' : World} {X lo : Nat} {vW vP : Value} {n : Nat} {xs : List Int} (h : ApI w wr X lo vW vP n xs) (hb : Below wr.heap.size wr w') : ApI w w' X lo vW vP n xs := by
  obtain ⟨h1, h2, h3, h4, h5, h6⟩ := h
  have hs := hb.size
  exact ⟨h1.below hb (by omega), h2.below hb (by omega), (hb.block _ (by omega)).trans h3, (hb.block _ ((Array.getElem?_eq_some_iff.1 h4).1)).trans h4, below_trans h5 hb h5.size, by omega⟩
theorem ApI.hit {w wr : World} {X lo : Nat} {b n cap : Nat} {vP : Value} {m : Nat} {xs : List Int} (h : ApI w wr X lo (.slice (some ⟨b, 0, none⟩) n cap) vP m xs) (hlo : w.heap.size + 2 ≤ lo) (hm : n = m) (j : Nat) (x : Int) :
    ApI w (wr.setCell ⟨b, j, none⟩ (.int .i64 x)) X lo (.slice (some ⟨b, 0, none⟩) n cap) vP m (xs.set j x) := by
  subst hm
  obtain ⟨h1, h2, h3, h4, h5, h6⟩ := h
  obtain ⟨_, hb1, hb2, _⟩ := h1.at
  refine ⟨?_, ?_, ?_, ?_, ?_, ?_⟩
  · rw [← ints_set]
    exact h1.stored _ _
  · rcases h2.shape with ⟨rfl, _, _⟩ | ⟨b', c', rfl, _, _⟩
    · exact Row.nil _ _ _ _ _
    · refine h2.setOther ?_ _
      intro e
      simp [Value.ownBlock] at e
      subst e
      have e1 := h1.1
      have e2 := h2.1
      rcases e1.2 with ⟨q, _⟩ | ⟨g, cp, cur, q, _, hg, _⟩
      · cases q
      · rcases e2.2 with ⟨q', _⟩ | ⟨g', cp', cur', q', _, hg', _⟩
        · cases q'
        · cases q
          cases q'
          rw [hg] at hg'
          injection hg' with hg'
          injection hg' with _ hg' _
          exact absurd hg' (by decide)
  · rw [Below.heap_setCell _ _ _ _ (by simp only; omega)]; exact h3
  · rw [Below.heap_setCell _ _ _ _ (by simp only; omega)]; exact h4
  · exact h5.setCell (by simp only; omega) _
  · simpa [World.setCell] using h6

set_option maxRecDepth 100000 in
set_option maxHeartbeats 8000000 in
theorem specApplyUpdates_any (v vL : Value) (ws : List Int) (ps : List St) (us : List Se) (w : World) (h : RdPm w v ws ps) (hL : RdE w vL us) (hw : ws.length ≤ 1048576) (hp : ps.length ≤ 1048576) (hu : us.length ≤ 1048576) :
    Calls Try.prog 6 #[v, vL] w fun e w' => ∃ v', e = .returned (.tuple #[v', .int .i64 (auC ws ps us)]) ∧ RowPm w' w.heap.size w'.heap.size v' (auW ws ps us) (auP ws ps us) ∧ Below w.heap.size w w' := by
  have HR := hideIt h
  have HL := hideIt hL
  have LO := hideIt (fun w1 (hb : Below w.heap.size w w1) => specPmOK_any v ws ps w1 (h.below hb) hw hp)
  have LU := hideIt (fun w1 (hb : Below w.heap.size w w1) => l04Updates_any vL us w1 (Rd.below hL hb) hu)
  have LC := hideIt (fun w1 (hb : Below w.heap.size w w1) => l01Own_any v ws ps w1 (h.below hb) (by omega) (by omega))
  have LUB : Hid (∀ {a b : World}, b = a → Below a.heap.size a b) := fun h => by rw [h]; exact Below.refl _ _
  obtain ⟨vW, vP, rfl, h1, h2⟩ := h
  obtain ⟨aW, cW, rfl, _⟩ := h1.shape
  obtain ⟨aP, cP, rfl, _⟩ := h2.shape
  obtain ⟨aL, cL, rfl, _, hcL⟩ := hL.shape
  have HC := hideIt hcL
  clear h1 h2 hL hcL
  obtain ⟨W, hW⟩ : ∃ W, W = (w.alloc (.cells #[.slice aW ws.length cW, .slice aP ps.length cP] 31)).alloc (.cells #[.slice none 0 0, .slice none 0 0] 31) := ⟨_, rfl⟩
  have BW : Hid (Below w.heap.size w W) := by
    rw [hW]
    repeat (refine Below.alloc ?_ (by simp <;> omega) _)
    exact Below.refl _ _
  have hz : W.heap.size = w.heap.size + 2 := by rw [hW]; simp
  have VA : Hid (W.heap[w.heap.size]? = some (.cells #[.slice aW ws.length cW, .slice aP ps.length cP] 31 (0, 0))) := by rw [hW]; exact at_old (at_new rfl)
  have VR : Hid (W.heap[w.heap.size + 1]? = some (.cells #[.slice none 0 0, .slice none 0 0] 31 (0, 0))) := by rw [hW]; exact at_new (by simp)
  rcases au_cases ws ps us with ⟨c1, e1, e2, e3⟩ | ⟨c1, c2, e1, e2, e3⟩ | ⟨c1, c2, c3, e1, e2, e3⟩ | ⟨c1, c2, c3, c4, e1, e2, e3⟩ | ⟨c1, c2, c3, c4, e1, e2, e3⟩
  · rw [e1, e2, e3]
    have c1' : (us.length : Int) > 4096 := by omega
    clear e1 e2 e3 c1
    go_enter Try.func6, Try.ntmps6
    go_wp2
    refine bodyPost_ret (v := .tuple #[.agg #[.slice none 0 0, .slice none 0 0], .int .i64 2]) (by simp [results, Try.results6, go_sem]) rfl ?_
    refine ⟨_, rfl, RowPm.zero _ _ _, ?_⟩
    repeat (first | exact Below.refl _ _ | refine Below.alloc ?_ (by simp <;> omega) _ | refine Below.setCell ?_ (by simp only; omega) _)
  · rw [e1, e2, e3]
    have c1' : ¬ (us.length : Int) > 4096 := by omega
    rw [c2] at LO
    clear e1 e2 e3 c1 c2
    go_enter Try.func6, Try.ntmps6
    obtain ⟨x0, x1, _, _⟩ := two_cells VA.out
    rw [hW] at x0 x1
    go_wp2_with fail
    rw [← hW]
    clear hW x0 x1
    refine (LO.out _ BW.out).mono ?_
    rintro e w1 ⟨rfl, hb1⟩
    have B1 := hideIt (below_trans BW.out hb1 (by omega))
    have V1 := hideIt ((hb1.block (w.heap.size + 1) (by omega)).trans VR.out)
    have z1 : W.heap.size ≤ w1.heap.size := hb1.size
    clear hb1
    obtain ⟨t1, t2, t3, t4⟩ := two_cells V1.out
    go_wp2
    refine bodyPost_ret (v := .tuple #[.agg #[.slice none 0 0, .slice none 0 0], .int .i64 1]) (by simp [results, Try.results6, go_sem, t1, t2]) rfl ?_
    exact ⟨_, rfl, RowPm.zero _ _ _, (B1.out.setCell (by simp only; omega) _).setCell (by simp only; omega) _⟩
  · rw [e1, e2, e3]
    have c1' : ¬ (us.length : Int) > 4096 := by omega
    rw [c2] at LO
    rw [c3] at LU
    clear e1 e2 e3 c1 c2 c3
    go_enter Try.func6, Try.ntmps6
    obtain ⟨x0, x1, _, _⟩ := two_cells VA.out
    rw [hW] at x0 x1
    go_wp2_with fail
    rw [← hW]
    clear hW x0 x1
    refine (LO.out _ BW.out).mono ?_
    rintro e w1 ⟨rfl, hb1⟩
    have B1 := hideIt (below_trans BW.out hb1 (by omega))
    have V1 := hideIt ((hb1.block (w.heap.size + 1) (by omega)).trans VR.out)
    have z1 : W.heap.size ≤ w1.heap.size := hb1.size
    clear hb1
    go_wp2_with fail
    refine (LU.out _ B1.out).mono ?_
    rintro e w2 ⟨rfl, hb2⟩
    have B2 := hideIt (below_trans B1.out (LUB.out hb2) B1.out.size)
    have V2 := hideIt (((LUB.out hb2).block (w.heap.size + 1) (by omega)).trans V1.out)
    clear hb2 B1 V1
    have B1 := B2
    have V1 := V2
    clear B2 V2
    obtain ⟨t1, t2, t3, t4⟩ := two_cells V1.out
    go_wp2
    refine bodyPost_ret (v := .tuple #[.agg #[.slice none 0 0, .slice none 0 0], .int .i64 1]) (by simp [results, Try.results6, go_sem, t1, t2]) rfl ?_
    exact ⟨_, rfl, RowPm.zero _ _ _, (B1.out.setCell (by simp only; omega) _).setCell (by simp only; omega) _⟩
  · rw [e1, e2, e3]
    have c1' : ¬ (us.length : Int) > 4096 := by omega
    rw [c2] at LO
    rw [c3] at LU
    obtain ⟨l336, l400⟩ := pmB_len c2
    have UP := hideIt (of_decide_eq_true c3 : ∀ k (h : k < us.length), (48 ≤ us[k].at_ ∧ us[k].at_ < 336) ∧ 0 ≤ us[k].val ∧ us[k].val < 1099511627776)
    have L336 := hideIt l336
    clear e1 e2 e3 c2 c3 l336
    go_enter Try.func6, Try.ntmps6
    obtain ⟨x0, x1, _, _⟩ := two_cells VA.out
    rw [hW] at x0 x1
    go_wp2_with fail
    rw [← hW]
    clear hW x0 x1
    refine (LO.out _ BW.out).mono ?_
    rintro e w1 ⟨rfl, hb1⟩
    have B1 := hideIt (below_trans BW.out hb1 (by omega))
    have U1 := hideIt ((hb1.block w.heap.size (by omega)).trans VA.out)
    have V1 := hideIt ((hb1.block (w.heap.size + 1) (by omega)).trans VR.out)
    have z1 : W.heap.size ≤ w1.heap.size := hb1.size
    clear hb1
    go_wp2_with fail
    refine (LU.out _ B1.out).mono ?_
    rintro e w2 ⟨rfl, hb2⟩
    have B2 := hideIt (below_trans B1.out (LUB.out hb2) B1.out.size)
    have U2 := hideIt (((LUB.out hb2).block w.heap.size (by omega)).trans U1.out)
    have V2 := hideIt (((LUB.out hb2).block (w.heap.size + 1) (by omega)).trans V1.out)
    have z2 : w1.heap.size ≤ w2.heap.size := (LUB.out hb2).size
    clear hb2 B1 V1 U1
    obtain ⟨x0, x1, _, _⟩ := two_cells U2.out
    go_wp2_with fail
    refine (LC.out _ B2.out).mono ?_
    rintro e w3 ⟨v3, rfl, hr3, hb3⟩
    obtain ⟨vW3, vP3, rfl, r1, r2⟩ := hr3
    obtain ⟨aW3, cW3, rfl⟩ := RdI.form (show RdI _ _ ws from r1.rd) rfl
    obtain ⟨aP3, cP3, rfl⟩ := RdS.form (show RdS _ _ ps from r2.rd) rfl
    have R1 := hideIt r1
    have R2 := hideIt r2
    have B3 := hideIt (below_trans B2.out hb3 B2.out.size)
    have V3 := hideIt ((hb3.block (w.heap.size + 1) (by omega)).trans V2.out)
    have z3 : w2.heap.size ≤ w3.heap.size := hb3.size
    clear hb3 r1 r2 B2 V2 U2 x0 x1
    have pp : (ps.length : Int) > 0 := by omega
    obtain ⟨t1, t2, t3, t4⟩ := two_cells (at_old (o := .cells #[.slice aW3 ws.length cW3, .slice aP3 ps.length cP3] 31) V3.out)
    go_wp2
    refine bodyPost_ret (v := .tuple #[.agg #[.slice aW3 ws.length cW3, .slice aP3 ps.length cP3], .int .i64 15]) (by simp [results, Try.results6, go_sem, t1, t2]) rfl ?_
    refine ⟨_, rfl, ⟨_, _, rfl, ?_, ?_⟩, ?_⟩
    · refine ((R1.out.alloc (Nat.le_refl _) (.cells #[.slice aW3 ws.length cW3, .slice aP3 ps.length cP3] 31)).same fun b h1 h2 => ?_).wide (by omega) (by simp [World.setCell])
      rw [Below.heap_setCell _ _ _ _ (by simp only; omega), Below.heap_setCell _ _ _ _ (by simp only; omega)]
    · refine ((R2.out.alloc (Nat.le_refl _) (.cells #[.slice aW3 ws.length cW3, .slice aP3 ps.length cP3] 31)).same fun b h1 h2 => ?_).wide (by omega) (by simp [World.setCell])
      rw [Below.heap_setCell _ _ _ _ (by simp only; omega), Below.heap_setCell _ _ _ _ (by simp only; omega)]
    · repeat (first | exact B3.out | exact B3.out.alloc B3.out.size _ | refine Below.setCell ?_ (by simp only; omega) _)
  · rw [e1, e2, e3]
    have c1' : ¬ (us.length : Int) > 4096 := by omega
    have C4 := hideIt c4
    clear c4
    rw [c2] at LO
    rw [c3] at LU
    obtain ⟨l336, l400⟩ := pmB_len c2
    have UP := hideIt (of_decide_eq_true c3 : ∀ k (h : k < us.length), (48 ≤ us[k].at_ ∧ us[k].at_ < 336) ∧ 0 ≤ us[k].val ∧ us[k].val < 1099511627776)
    have L336 := hideIt l336
    clear e1 e2 e3 c2 c3 l336
    go_enter Try.func6, Try.ntmps6
    obtain ⟨x0, x1, _, _⟩ := two_cells VA.out
    rw [hW] at x0 x1
    go_wp2_with fail
    rw [← hW]
    clear hW x0 x1
    refine (LO.out _ BW.out).mono ?_
    rintro e w1 ⟨rfl, hb1⟩
    have B1 := hideIt (below_trans BW.out hb1 (by omega))
    have U1 := hideIt ((hb1.block w.heap.size (by omega)).trans VA.out)
    have V1 := hideIt ((hb1.block (w.heap.size + 1) (by omega)).trans VR.out)
    have z1 : W.heap.size ≤ w1.heap.size := hb1.size
    clear hb1
    go_wp2_with fail
    refine (LU.out _ B1.out).mono ?_
    rintro e w2 ⟨rfl, hb2⟩
    have B2 := hideIt (below_trans B1.out (LUB.out hb2) B1.out.size)
    have U2 := hideIt (((LUB.out hb2).block w.heap.size (by omega)).trans U1.out)
    have V2 := hideIt (((LUB.out hb2).block (w.heap.size + 1) (by omega)).trans V1.out)
    have z2 : w1.heap.size ≤ w2.heap.size := (LUB.out hb2).size
    clear hb2 B1 V1 U1
    obtain ⟨x0, x1, _, _⟩ := two_cells U2.out
    go_wp2_with fail
    refine (LC.out _ B2.out).mono ?_
    rintro e w3 ⟨v3, rfl, hr3, hb3⟩
    obtain ⟨vW3, vP3, rfl, r1, r2⟩ := hr3
    obtain ⟨aW3, cW3, rfl⟩ := RdI.form (show RdI _ _ ws from r1.rd) rfl
    obtain ⟨aP3, cP3, rfl⟩ := RdS.form (show RdS _ _ ps from r2.rd) rfl
    have R1 := hideIt r1
    have R2 := hideIt r2
    have B3 := hideIt (below_trans B2.out hb3 B2.out.size)
    have V3 := hideIt ((hb3.block (w.heap.size + 1) (by omega)).trans V2.out)
    have z3 : w2.heap.size ≤ w3.heap.size := hb3.size
    clear hb3 r1 r2 B2 V2 U2 x0 x1
    have e0 : ps = [] := List.eq_nil_of_length_eq_zero C4.out
    subst e0
    rcases R1.out.shape with ⟨_, e5, _⟩ | ⟨b, c5, e5, hc5, _⟩
    · have := L336.out
      omega
    cases e5
    have START : Hid (ApI w (w3.alloc (.cells #[.slice (some ⟨b, 0, none⟩) ws.length cW3, .slice aP3 0 cP3] 31)) w3.heap.size w2.heap.size (.slice (some ⟨b, 0, none⟩) ws.length cW3) (.slice aP3 0 cP3) ws.length (apW ws (us.take 0))) :=
      ⟨R1.out.alloc (Nat.le_refl _) _, R2.out.alloc (Nat.le_refl _) _, at_new rfl, at_old V3.out, B3.out.alloc B3.out.size _, by simp⟩
    obtain ⟨x5, x6, x7, x8⟩ := two_cells START.out.box
    simp only [List.length_nil]
    clear R1 R2 V3 B3 C4
    go_wp2
    go_loopg [7] us.length (fun g i wr => ∃ k : Nat, k + g = us.length ∧ i = .int .i64 k ∧ Hid (ApI w wr w3.heap.size w2.heap.size (.slice (some ⟨b, 0, none⟩) ws.length cW3) (.slice aP3 0 cP3) ws.length (apW ws (us.take k))))
    case atStart => exact ⟨0, by omega, rfl, START⟩
    case round =>
      obtain ⟨k, hk, rfl, I⟩ := hrel
      clear START x5 x6 x7 x8
      have k0 : (0 : Int) ≤ (k : Int) := by omega
      have NX : Hid (∀ h : k < us.length, apW ws (us.take (k + 1)) = (apW ws (us.take k)).set us[k].at_.toNat us[k].val) := fun h => apW_snoc ws us k h
      have AL := apW_len ws (us.take k)
      by_cases hlt : k < us.length
      · obtain ⟨bL, oL, rfl, hblL, hcellL⟩ := HC.out (by omega)
        obtain ⟨a0, a1⟩ := hcellL k hlt
        have d0 := (I.out.below.cell (p := ⟨bL, oL + k * 2, none⟩) hblL).trans a0
        have d1 := (I.out.below.cell (p := ⟨bL, oL + k * 2 + 1, none⟩) hblL).trans a1
        have k1 : (k : Int) < (us.length : Int) := by omega
        obtain ⟨⟨u0, u1⟩, -⟩ := UP.out k hlt
        have NXk := hideIt (NX.out hlt)
        have g24 : gk - 1 < gk := by omega
        have hk' : (k + 1) + (gk - 1) = us.length := by omega
        clear a0 a1 hcellL NX
        generalize us[k] = x at *
        obtain ⟨xa, xv⟩ := x
        simp only at d0 d1 u0 u1 NXk
        obtain ⟨j, rfl⟩ : ∃ j : Nat, xa = (j : Int) := ⟨xa.toNat, by omega⟩
        have j0 : (0 : Int) ≤ (j : Int) := by omega
        have j1 : (j : Int) < (ws.length : Int) := by have := L336.out; omega
        obtain ⟨-, _, _, _, hfr, hcl⟩ := I.out.words.at
        have g0 := hfr j
        have g1 := (hcl j (by omega)).trans (ints_at _ j (by omega))
        obtain ⟨s1, s2, _, _⟩ := two_cells I.out.box
        rw [Int.toNat_natCast] at NXk
        have I1 := hideIt (I.out.hit (by omega) rfl j xv)
        rw [← NXk.out] at I1
        have SK : Hid (∀ w', Below wr.heap.size wr w' → w'.cell? ⟨w3.heap.size, 0, none⟩ = some (.slice (some ⟨b, 0, none⟩) ws.length cW3) ∧ w'.cell? ⟨bL, oL + k * 2, none⟩ = some (.int .i64 (j : Int)) ∧ w'.cell? ⟨bL, oL + k * 2 + 1, none⟩ = some (.int .i64 xv)) := fun w' hb =>
          ⟨(hb.cell (p := ⟨w3.heap.size, 0, none⟩) ((Array.getElem?_eq_some_iff.1 I.out.box).1)).trans s1, (hb.cell (p := ⟨bL, oL + k * 2, none⟩) (Nat.lt_of_lt_of_le hblL I.out.below.size)).trans d0, (hb.cell (p := ⟨bL, oL + k * 2 + 1, none⟩) (Nat.lt_of_lt_of_le hblL I.out.below.size)).trans d1⟩
        clear hfr hcl NXk
        go_wp2_with fail
        go_region
        all_goals
          go_wp2
          go_roundg (gk - 1)
          case measure => exact g24
          case rel => exact ⟨k + 1, hk', by go_num, I1.out.grow (by repeat (first | exact Below.refl _ _ | refine Below.drew ?_))⟩
      · obtain rfl : k = us.length := by omega
        rw [List.take_length] at I
        obtain ⟨t1, t2, t3, t4⟩ := two_cells I.out.res
        obtain ⟨s1, s2, _, _⟩ := two_cells I.out.box
        have hsz := I.out.size
        clear NX AL
        go_wp2
        have I2 := I.out
        refine bodyPost_ret (v := .tuple #[.agg #[.slice (some ⟨b, 0, none⟩) ws.length cW3, .slice aP3 0 cP3], .int .i64 0]) (by simp [results, Try.results6, go_sem, t1, t2]) rfl ?_
        refine ⟨_, rfl, ⟨_, _, rfl, ?_, ?_⟩, (I2.below.setCell (by simp only; omega) _).setCell (by simp only; omega) _⟩
        · rw [apW_len]
          refine (I2.words.same fun b h1 h2 => ?_).wide (by omega) (by simp; omega)
          rw [Below.heap_setCell _ _ _ _ (by simp only; omega), Below.heap_setCell _ _ _ _ (by simp only; omega)]
        · refine (I2.pend.same fun b h1 h2 => ?_).wide (by omega) (by simp; omega)
          rw [Below.heap_setCell _ _ _ _ (by simp only; omega), Below.heap_setCell _ _ _ _ (by simp only; omega)]

set_option maxRecDepth 100000 in
set_option maxHeartbeats 8000000 in
theorem implApplyUpdates_any (v vL : Value) (ws : List Int) (ps : List St) (us : List Se) (w : World) (h : RdPm w v ws ps) (hL : RdE w vL us) (hw : ws.length ≤ 1048576) (hp : ps.length ≤ 1048576) (hu : us.length ≤ 1048576) :
    Calls Try.prog 9 #[v, vL] w fun e w' => ∃ v', e = .returned (.tuple #[v', .int .i64 (auC ws ps us)]) ∧ RowPm w' w.heap.size w'.heap.size v' (auW ws ps us) (auP ws ps us) ∧ Below w.heap.size w w' := by
  have HR := hideIt h
  have HL := hideIt hL
  have LO := hideIt (fun w1 (hb : Below w.heap.size w w1) => implPmOK_any v ws ps w1 (h.below hb) hw hp)
  have LU := hideIt (fun w1 (hb : Below w.heap.size w w1) => everyUpdate_any vL us w1 (Rd.below hL hb) hu)
  have LC := hideIt (fun w1 (hb : Below w.heap.size w w1) => copyPm_any v ws ps w1 (h.below hb) (by omega) (by omega))
  rw [ups_same] at LU
  have LUB : Hid (∀ {a b : World}, Below a.heap.size a b → Below a.heap.size a b) := fun h => h
  obtain ⟨vW, vP, rfl, h1, h2⟩ := h
  obtain ⟨aW, cW, rfl, _⟩ := h1.shape
  obtain ⟨aP, cP, rfl, _⟩ := h2.shape
  obtain ⟨aL, cL, rfl, _, hcL⟩ := hL.shape
  have HC := hideIt hcL
  clear h1 h2 hL hcL
  obtain ⟨W, hW⟩ : ∃ W, W = (w.alloc (.cells #[.slice aW ws.length cW, .slice aP ps.length cP] 31)).alloc (.cells #[.slice none 0 0, .slice none 0 0] 31) := ⟨_, rfl⟩
  have BW : Hid (Below w.heap.size w W) := by
    rw [hW]
    repeat (refine Below.alloc ?_ (by simp <;> omega) _)
    exact Below.refl _ _
  have hz : W.heap.size = w.heap.size + 2 := by rw [hW]; simp
  have VA : Hid (W.heap[w.heap.size]? = some (.cells #[.slice aW ws.length cW, .slice aP ps.length cP] 31 (0, 0))) := by rw [hW]; exact at_old (at_new rfl)
  have VR : Hid (W.heap[w.heap.size + 1]? = some (.cells #[.slice none 0 0, .slice none 0 0] 31 (0, 0))) := by rw [hW]; exact at_new (by simp)
  rcases au_cases ws ps us with ⟨c1, e1, e2, e3⟩ | ⟨c1, c2, e1, e2, e3⟩ | ⟨c1, c2, c3, e1, e2, e3⟩ | ⟨c1, c2, c3, c4, e1, e2, e3⟩ | ⟨c1, c2, c3, c4, e1, e2, e3⟩
  · rw [e1, e2, e3]
    have c1' : (us.length : Int) > 4096 := by omega
    clear e1 e2 e3 c1
    go_enter Try.func9, Try.ntmps9
    go_wp2
    refine bodyPost_ret (v := .tuple #[.agg #[.slice none 0 0, .slice none 0 0], .int .i64 2]) (by simp [results, Try.results9, go_sem]) rfl ?_
    refine ⟨_, rfl, RowPm.zero _ _ _, ?_⟩
    repeat (first | exact Below.refl _ _ | refine Below.alloc ?_ (by simp <;> omega) _ | refine Below.setCell ?_ (by simp only; omega) _)
  · rw [e1, e2, e3]
    have c1' : ¬ (us.length : Int) > 4096 := by omega
    rw [c2] at LO
    clear e1 e2 e3 c1 c2
    go_enter Try.func9, Try.ntmps9
    obtain ⟨x0, x1, _, _⟩ := two_cells VA.out
    rw [hW] at x0 x1
    go_wp2_with fail
    rw [← hW]
    clear hW x0 x1
    refine (LO.out _ BW.out).mono ?_
    rintro e w1 ⟨rfl, hb1⟩
    have B1 := hideIt (below_trans BW.out hb1 (by omega))
    have V1 := hideIt ((hb1.block (w.heap.size + 1) (by omega)).trans VR.out)
    have z1 : W.heap.size ≤ w1.heap.size := hb1.size
    clear hb1
    obtain ⟨t1, t2, t3, t4⟩ := two_cells V1.out
    go_wp2
    refine bodyPost_ret (v := .tuple #[.agg #[.slice none 0 0, .slice none 0 0], .int .i64 1]) (by simp [results, Try.results9, go_sem, t1, t2]) rfl ?_
    exact ⟨_, rfl, RowPm.zero _ _ _, (B1.out.setCell (by simp only; omega) _).setCell (by simp only; omega) _⟩
  · rw [e1, e2, e3]
    have c1' : ¬ (us.length : Int) > 4096 := by omega
    rw [c2] at LO
    rw [c3] at LU
    clear e1 e2 e3 c1 c2 c3
    go_enter Try.func9, Try.ntmps9
    obtain ⟨x0, x1, _, _⟩ := two_cells VA.out
    rw [hW] at x0 x1
    go_wp2_with fail
    rw [← hW]
    clear hW x0 x1
    refine (LO.out _ BW.out).mono ?_
    rintro e w1 ⟨rfl, hb1⟩
    have B1 := hideIt (below_trans BW.out hb1 (by omega))
    have V1 := hideIt ((hb1.block (w.heap.size + 1) (by omega)).trans VR.out)
    have z1 : W.heap.size ≤ w1.heap.size := hb1.size
    clear hb1
    go_wp2_with fail
    refine (LU.out _ B1.out).mono ?_
    rintro e w2 ⟨rfl, hb2⟩
    have B2 := hideIt (below_trans B1.out (LUB.out hb2) B1.out.size)
    have V2 := hideIt (((LUB.out hb2).block (w.heap.size + 1) (by omega)).trans V1.out)
    clear hb2 B1 V1
    have B1 := B2
    have V1 := V2
    clear B2 V2
    obtain ⟨t1, t2, t3, t4⟩ := two_cells V1.out
    go_wp2
    refine bodyPost_ret (v := .tuple #[.agg #[.slice none 0 0, .slice none 0 0], .int .i64 1]) (by simp [results, Try.results9, go_sem, t1, t2]) rfl ?_
    exact ⟨_, rfl, RowPm.zero _ _ _, (B1.out.setCell (by simp only; omega) _).setCell (by simp only; omega) _⟩
  · rw [e1, e2, e3]
    have c1' : ¬ (us.length : Int) > 4096 := by omega
    rw [c2] at LO
    rw [c3] at LU
    obtain ⟨l336, l400⟩ := pmB_len c2
    have UP := hideIt (of_decide_eq_true c3 : ∀ k (h : k < us.length), (48 ≤ us[k].at_ ∧ us[k].at_ < 336) ∧ 0 ≤ us[k].val ∧ us[k].val < 1099511627776)
    have L336 := hideIt l336
    clear e1 e2 e3 c2 c3 l336
    go_enter Try.func9, Try.ntmps9
    obtain ⟨x0, x1, _, _⟩ := two_cells VA.out
    rw [hW] at x0 x1
    go_wp2_with fail
    rw [← hW]
    clear hW x0 x1
    refine (LO.out _ BW.out).mono ?_
    rintro e w1 ⟨rfl, hb1⟩
    have B1 := hideIt (below_trans BW.out hb1 (by omega))
    have U1 := hideIt ((hb1.block w.heap.size (by omega)).trans VA.out)
    have V1 := hideIt ((hb1.block (w.heap.size + 1) (by omega)).trans VR.out)
    have z1 : W.heap.size ≤ w1.heap.size := hb1.size
    clear hb1
    go_wp2_with fail
    refine (LU.out _ B1.out).mono ?_
    rintro e w2 ⟨rfl, hb2⟩
    have B2 := hideIt (below_trans B1.out (LUB.out hb2) B1.out.size)
    have U2 := hideIt (((LUB.out hb2).block w.heap.size (by omega)).trans U1.out)
    have V2 := hideIt (((LUB.out hb2).block (w.heap.size + 1) (by omega)).trans V1.out)
    have z2 : w1.heap.size ≤ w2.heap.size := (LUB.out hb2).size
    clear hb2 B1 V1 U1
    obtain ⟨x0, x1, _, _⟩ := two_cells U2.out
    go_wp2_with fail
    refine (LC.out _ B2.out).mono ?_
    rintro e w3 ⟨v3, rfl, hr3, hb3⟩
    obtain ⟨vW3, vP3, rfl, r1, r2⟩ := hr3
    obtain ⟨aW3, cW3, rfl⟩ := RdI.form (show RdI _ _ ws from r1.rd) rfl
    obtain ⟨aP3, cP3, rfl⟩ := RdS.form (show RdS _ _ ps from r2.rd) rfl
    have R1 := hideIt r1
    have R2 := hideIt r2
    have B3 := hideIt (below_trans B2.out hb3 B2.out.size)
    have V3 := hideIt ((hb3.block (w.heap.size + 1) (by omega)).trans V2.out)
    have z3 : w2.heap.size ≤ w3.heap.size := hb3.size
    clear hb3 r1 r2 B2 V2 U2 x0 x1
    have pp : (ps.length : Int) > 0 := by omega
    obtain ⟨t1, t2, t3, t4⟩ := two_cells (at_old (o := .cells #[.slice aW3 ws.length cW3, .slice aP3 ps.length cP3] 31) V3.out)
    go_wp2
    refine bodyPost_ret (v := .tuple #[.agg #[.slice aW3 ws.length cW3, .slice aP3 ps.length cP3], .int .i64 15]) (by simp [results, Try.results9, go_sem, t1, t2]) rfl ?_
    refine ⟨_, rfl, ⟨_, _, rfl, ?_, ?_⟩, ?_⟩
    · refine ((R1.out.alloc (Nat.le_refl _) (.cells #[.slice aW3 ws.length cW3, .slice aP3 ps.length cP3] 31)).same fun b h1 h2 => ?_).wide (by omega) (by simp [World.setCell])
      rw [Below.heap_setCell _ _ _ _ (by simp only; omega), Below.heap_setCell _ _ _ _ (by simp only; omega)]
    · refine ((R2.out.alloc (Nat.le_refl _) (.cells #[.slice aW3 ws.length cW3, .slice aP3 ps.length cP3] 31)).same fun b h1 h2 => ?_).wide (by omega) (by simp [World.setCell])
      rw [Below.heap_setCell _ _ _ _ (by simp only; omega), Below.heap_setCell _ _ _ _ (by simp only; omega)]
    · repeat (first | exact B3.out | exact B3.out.alloc B3.out.size _ | refine Below.setCell ?_ (by simp only; omega) _)
  · rw [e1, e2, e3]
    have c1' : ¬ (us.length : Int) > 4096 := by omega
    have C4 := hideIt c4
    clear c4
    rw [c2] at LO
    rw [c3] at LU
    obtain ⟨l336, l400⟩ := pmB_len c2
    have UP := hideIt (of_decide_eq_true c3 : ∀ k (h : k < us.length), (48 ≤ us[k].at_ ∧ us[k].at_ < 336) ∧ 0 ≤ us[k].val ∧ us[k].val < 1099511627776)
    have L336 := hideIt l336
    clear e1 e2 e3 c2 c3 l336
    go_enter Try.func9, Try.ntmps9
    obtain ⟨x0, x1, _, _⟩ := two_cells VA.out
    rw [hW] at x0 x1
    go_wp2_with fail
    rw [← hW]
    clear hW x0 x1
    refine (LO.out _ BW.out).mono ?_
    rintro e w1 ⟨rfl, hb1⟩
    have B1 := hideIt (below_trans BW.out hb1 (by omega))
    have U1 := hideIt ((hb1.block w.heap.size (by omega)).trans VA.out)
    have V1 := hideIt ((hb1.block (w.heap.size + 1) (by omega)).trans VR.out)
    have z1 : W.heap.size ≤ w1.heap.size := hb1.size
    clear hb1
    go_wp2_with fail
    refine (LU.out _ B1.out).mono ?_
    rintro e w2 ⟨rfl, hb2⟩
    have B2 := hideIt (below_trans B1.out (LUB.out hb2) B1.out.size)
    have U2 := hideIt (((LUB.out hb2).block w.heap.size (by omega)).trans U1.out)
    have V2 := hideIt (((LUB.out hb2).block (w.heap.size + 1) (by omega)).trans V1.out)
    have z2 : w1.heap.size ≤ w2.heap.size := (LUB.out hb2).size
    clear hb2 B1 V1 U1
    obtain ⟨x0, x1, _, _⟩ := two_cells U2.out
    go_wp2_with fail
    refine (LC.out _ B2.out).mono ?_
    rintro e w3 ⟨v3, rfl, hr3, hb3⟩
    obtain ⟨vW3, vP3, rfl, r1, r2⟩ := hr3
    obtain ⟨aW3, cW3, rfl⟩ := RdI.form (show RdI _ _ ws from r1.rd) rfl
    obtain ⟨aP3, cP3, rfl⟩ := RdS.form (show RdS _ _ ps from r2.rd) rfl
    have R1 := hideIt r1
    have R2 := hideIt r2
    have B3 := hideIt (below_trans B2.out hb3 B2.out.size)
    have V3 := hideIt ((hb3.block (w.heap.size + 1) (by omega)).trans V2.out)
    have z3 : w2.heap.size ≤ w3.heap.size := hb3.size
    clear hb3 r1 r2 B2 V2 U2 x0 x1
    have e0 : ps = [] := List.eq_nil_of_length_eq_zero C4.out
    subst e0
    rcases R1.out.shape with ⟨_, e5, _⟩ | ⟨b, c5, e5, hc5, _⟩
    · have := L336.out
      omega
    cases e5
    have START : Hid (ApI w (w3.alloc (.cells #[.slice (some ⟨b, 0, none⟩) ws.length cW3, .slice aP3 0 cP3] 31)) w3.heap.size w2.heap.size (.slice (some ⟨b, 0, none⟩) ws.length cW3) (.slice aP3 0 cP3) ws.length (apW ws (us.take 0))) :=
      ⟨R1.out.alloc (Nat.le_refl _) _, R2.out.alloc (Nat.le_refl _) _, at_new rfl, at_old V3.out, B3.out.alloc B3.out.size _, by simp⟩
    obtain ⟨x5, x6, x7, x8⟩ := two_cells START.out.box
    simp only [List.length_nil]
    clear R1 R2 V3 B3 C4
    go_wp2
    go_loopg [8, 31] us.length (fun g _ i wr => ∃ k : Nat, k + g = us.length ∧ i = .int .i64 k ∧ Hid (ApI w wr w3.heap.size w2.heap.size (.slice (some ⟨b, 0, none⟩) ws.length cW3) (.slice aP3 0 cP3) ws.length (apW ws (us.take k))))
    case atStart => exact ⟨0, by omega, rfl, START⟩
    case round =>
      obtain ⟨k, hk, rfl, I⟩ := hrel
      clear START x5 x6 x7 x8
      have k0 : (0 : Int) ≤ (k : Int) := by omega
      have NX : Hid (∀ h : k < us.length, apW ws (us.take (k + 1)) = (apW ws (us.take k)).set us[k].at_.toNat us[k].val) := fun h => apW_snoc ws us k h
      have AL := apW_len ws (us.take k)
      by_cases hlt : k < us.length
      · obtain ⟨bL, oL, rfl, hblL, hcellL⟩ := HC.out (by omega)
        obtain ⟨a0, a1⟩ := hcellL k hlt
        have d0 := (I.out.below.cell (p := ⟨bL, oL + k * 2, none⟩) hblL).trans a0
        have d1 := (I.out.below.cell (p := ⟨bL, oL + k * 2 + 1, none⟩) hblL).trans a1
        have k1 : (k : Int) < (us.length : Int) := by omega
        obtain ⟨⟨u0, u1⟩, -⟩ := UP.out k hlt
        have NXk := hideIt (NX.out hlt)
        have g24 : gk - 1 < gk := by omega
        have hk' : (k + 1) + (gk - 1) = us.length := by omega
        clear a0 a1 hcellL NX
        generalize us[k] = x at *
        obtain ⟨xa, xv⟩ := x
        simp only at d0 d1 u0 u1 NXk
        obtain ⟨j, rfl⟩ : ∃ j : Nat, xa = (j : Int) := ⟨xa.toNat, by omega⟩
        have j0 : (0 : Int) ≤ (j : Int) := by omega
        have j1 : (j : Int) < (ws.length : Int) := by have := L336.out; omega
        obtain ⟨-, _, _, _, hfr, hcl⟩ := I.out.words.at
        have g0 := hfr j
        have g1 := (hcl j (by omega)).trans (ints_at _ j (by omega))
        obtain ⟨s1, s2, _, _⟩ := two_cells I.out.box
        rw [Int.toNat_natCast] at NXk
        have I1 := hideIt ((I.out.hit (by omega) rfl j xv).grow ((Below.refl _ _).alloc (Nat.le_refl _) (.cells #[.int .i64 (j : Int), .int .i64 xv] 48)))
        rw [← NXk.out] at I1
        obtain ⟨q1, q2, _, _⟩ := two_cells (at_old (o := .cells #[.int .i64 (j : Int), .int .i64 xv] 48) I.out.box)
        obtain ⟨-, _, _, _, hfr2, hcl2⟩ := (I.out.words.alloc (by have := I.out.size; omega) (.cells #[.int .i64 (j : Int), .int .i64 xv] 48)).at
        have o0 := hfr2 j
        have o1 := (hcl2 j (by omega)).trans (ints_at _ j (by omega))
        clear hfr hcl hfr2 hcl2 I NXk
        go_wp2
        go_roundg (gk - 1)
        case measure => exact g24
        case rel => exact ⟨k + 1, hk', by go_num, I1⟩
      · obtain rfl : k = us.length := by omega
        rw [List.take_length] at I
        obtain ⟨t1, t2, t3, t4⟩ := two_cells I.out.res
        obtain ⟨s1, s2, _, _⟩ := two_cells I.out.box
        have hsz := I.out.size
        clear NX AL
        go_wp2
        have I2 := I.out
        refine bodyPost_ret (v := .tuple #[.agg #[.slice (some ⟨b, 0, none⟩) ws.length cW3, .slice aP3 0 cP3], .int .i64 0]) (by simp [results, Try.results9, go_sem, t1, t2]) rfl ?_
        refine ⟨_, rfl, ⟨_, _, rfl, ?_, ?_⟩, (I2.below.setCell (by simp only; omega) _).setCell (by simp only; omega) _⟩
        · rw [apW_len]
          refine (I2.words.same fun b h1 h2 => ?_).wide (by omega) (by simp; omega)
          rw [Below.heap_setCell _ _ _ _ (by simp only; omega), Below.heap_setCell _ _ _ _ (by simp only; omega)]
        · refine (I2.pend.same fun b h1 h2 => ?_).wide (by omega) (by simp; omega)
          rw [Below.heap_setCell _ _ _ _ (by simp only; omega), Below.heap_setCell _ _ _ _ (by simp only; omega)]
end Go.Proofs.Ytpgdpachomdfhaa
