/- Several texts laid together: BlkOK, Dev. -/
import Derived.Test.YtmeiionabonhnaaGreatDoorZAG
import Derived.Test.YtmeiionabonhnaaGreatDoorZAE
namespace Go.Proofs.YtmeiionabonhnaaGreatDoor
open Go.RowKit
def blkB (ws : List Int) (ps : List Se) : Bool := decide (ws.length = 32 ∧ ps.length ≤ 400 ∧ (∀ k (h : k < ws.length), wordB ws[k] = true) ∧ ∀ k (h : k < ps.length), secB ps[k].at_ = true ∧ wordB ps[k].val = true)
theorem blkB_mk {ws : List Int} {ps : List Se} (h1 : ws.length = 32) (h2 : ps.length ≤ 400) (h3 : ∀ k (h : k < ws.length), wordB ws[k] = true) (h4 : ∀ k (h : k < ps.length), secB ps[k].at_ = true ∧ wordB ps[k].val = true) : blkB ws ps = true := decide_eq_true ⟨h1, h2, h3, h4⟩
theorem blkB_len {ws : List Int} {ps : List Se} (h : blkB ws ps = true) : ws.length = 32 ∧ ps.length ≤ 400 := ⟨(of_decide_eq_true h).1, (of_decide_eq_true h).2.1⟩
theorem blkB_word {ws : List Int} {ps : List Se} (h : blkB ws ps = true) (k : Nat) (hk : k < ws.length) : wordB ws[k] = true := (of_decide_eq_true h).2.2.1 k hk
theorem blkB_len1 {ws : List Int} {ps : List Se} (h : ¬ ws.length = 32) : blkB ws ps = false := decide_eq_false (fun x => h x.1)
theorem blkB_len2 {ws : List Int} {ps : List Se} (h : 400 < ps.length) : blkB ws ps = false := decide_eq_false (fun x => absurd x.2.1 (by omega))
theorem blkB_w {ws : List Int} {ps : List Se} {k : Nat} (hk : k < ws.length) (h : wordB ws[k] = false) : blkB ws ps = false := decide_eq_false (fun x => by have := x.2.2.1 k hk; rw [h] at this; cases this)
theorem blkB_a {ws : List Int} {ps : List Se} {k : Nat} (hk : k < ps.length) (h : secB ps[k].at_ = false) : blkB ws ps = false := decide_eq_false (fun x => by have := (x.2.2.2 k hk).1; rw [h] at this; cases this)
theorem blkB_v {ws : List Int} {ps : List Se} {k : Nat} (hk : k < ps.length) (h : wordB ps[k].val = false) : blkB ws ps = false := decide_eq_false (fun x => by have := (x.2.2.2 k hk).2; rw [h] at this; cases this)
set_option maxHeartbeats 4000000 in
theorem specBlkOK_any (v : Value) (ws : List Int) (ps : List Se) (w : World) (h : RdBlk w v ws ps) (hw : ws.length ≤ 1048576) (hp : ps.length ≤ 1048576) :
    Calls Tryz.prog 204 #[v] w fun e w' => e = .returned (.bool (blkB ws ps)) ∧ Below w.heap.size w w' := by
  obtain ⟨vW, vP, rfl, h1, h2⟩ := h
  obtain ⟨aW, cW, rfl, _, hcW⟩ := h1.shape
  obtain ⟨aP, cP, rfl, _, hcP⟩ := h2.shape
  clear h1 h2
  have hb0 : Below w.heap.size w (w.alloc (.cells #[.slice aW ws.length cW, .slice aP ps.length cP] 69)) := (Below.refl _ _).alloc (Nat.le_refl _) _
  by_cases c1 : ws.length = 32
  case neg =>
    have E := hideIt (blkB_len1 (ps := ps) c1)
    have c1' : ((ws.length : Int) != 32) = true := by simp; omega
    clear c1
    go_enter Tryz.func204, Tryz.ntmps204
    go_wp2
    go_ret
    exact ⟨ret_bool E.out.symm, hb0⟩
  have c1n : ((ws.length : Int) != 32) = false := by simp; omega
  have hpos : 0 < ws.length := by omega
  have C1 := hideIt c1
  clear c1
  by_cases c2 : 400 < ps.length
  · have E := hideIt (blkB_len2 (ws := ws) c2)
    go_enter Tryz.func204, Tryz.ntmps204
    go_wp2
    go_ret
    exact ⟨ret_bool E.out.symm, hb0⟩
  obtain ⟨b, o, rfl, hbl, hcell⟩ := hcW hpos
  clear hcW hpos
  go_enter Tryz.func204, Tryz.ntmps204
  go_wp2
  go_loop [3] (fun i => ∃ k : Nat, k ≤ ws.length ∧ i = .int .i64 k ∧ Hid (∀ j (h : j < ws.length), j < k → wordB ws[j] = true)) (fun i => ws.length - (intOf i).toNat)
  case atStart => exact ⟨0, by omega, rfl, fun j h a => absurd a (by omega)⟩
  case round =>
    obtain ⟨k, hk, rfl, H⟩ := hrel
    by_cases hlt : k < ws.length
    · have hck := (hb0.cell (p := ⟨b, o + k, none⟩) hbl).trans (hcell k hlt)
      clear hcell hcP
      by_cases q : wordB ws[k] = true
      · go_wp2_with (go_at_call 67; refine (l01Word_any _ _).mono ?_; rintro e w' ⟨rfl, rfl⟩)
        go_round
        case rel =>
          refine ⟨k + 1, by omega, by go_num, fun j h a => ?_⟩
          by_cases e : j = k
          · subst e; exact q
          · exact H.out j h (by omega)
        case measure => simp [intOf]; omega
      · have q' : wordB ws[k] = false := by simpa using q
        have E := hideIt (blkB_w (ps := ps) hlt q')
        go_wp2_with (go_at_call 67; refine (l01Word_any _ _).mono ?_; rintro e w' ⟨rfl, rfl⟩)
        go_ret
        exact ⟨ret_bool E.out.symm, hb0⟩
    · have HW := hideIt (fun j (h : j < ws.length) => H.out j h (by omega))
      clear H hcell
      go_wp2
      go_loop [4] (fun i => ∃ k : Nat, k ≤ ps.length ∧ i = .int .i64 k ∧ Hid (∀ j (h : j < ps.length), j < k → secB ps[j].at_ = true ∧ wordB ps[j].val = true)) (fun i => ps.length - (intOf i).toNat)
      case atStart => exact ⟨0, by omega, rfl, fun j h a => absurd a (by omega)⟩
      case round =>
        obtain ⟨m, hm, rfl, H⟩ := hrel
        by_cases hlt2 : m < ps.length
        · obtain ⟨b2, o2, rfl, hbl2, hcell2⟩ := hcP (by omega)
          obtain ⟨d0, d1⟩ := hcell2 m hlt2
          have e0 := (hb0.cell (p := ⟨b2, o2 + m * 2, none⟩) hbl2).trans d0
          have e1 := (hb0.cell (p := ⟨b2, o2 + m * 2 + 1, none⟩) hbl2).trans d1
          clear d0 d1 hcell2 hcP
          by_cases q : secB ps[m].at_ = true
          · by_cases q2 : wordB ps[m].val = true
            · go_wp2_with (first | (go_at_call 125; refine (l01InSec_any _ _).mono ?_; rintro e w' ⟨rfl, rfl⟩) | (go_at_call 67; refine (l01Word_any _ _).mono ?_; rintro e w' ⟨rfl, rfl⟩))
              go_round
              case rel =>
                refine ⟨m + 1, by omega, by go_num, fun j h a => ?_⟩
                by_cases e : j = m
                · subst e; exact ⟨q, q2⟩
                · exact H.out j h (by omega)
              case measure => simp [intOf]; omega
            · have q2' : wordB ps[m].val = false := by simpa using q2
              have E := hideIt (blkB_v (ws := ws) hlt2 q2')
              go_wp2_with (first | (go_at_call 125; refine (l01InSec_any _ _).mono ?_; rintro e w' ⟨rfl, rfl⟩) | (go_at_call 67; refine (l01Word_any _ _).mono ?_; rintro e w' ⟨rfl, rfl⟩))
              go_ret
              exact ⟨ret_bool E.out.symm, hb0⟩
          · have q' : secB ps[m].at_ = false := by simpa using q
            have E := hideIt (blkB_a (ws := ws) hlt2 q')
            go_wp2_with (first | (go_at_call 125; refine (l01InSec_any _ _).mono ?_; rintro e w' ⟨rfl, rfl⟩) | (go_at_call 67; refine (l01Word_any _ _).mono ?_; rintro e w' ⟨rfl, rfl⟩))
            go_ret
            exact ⟨ret_bool E.out.symm, hb0⟩
        · have E := hideIt (blkB_mk C1.out (by omega) HW.out (fun j h => H.out j h (by omega)))
          go_wp2
          go_ret
          exact ⟨ret_bool E.out.symm, hb0⟩
end Go.Proofs.YtmeiionabonhnaaGreatDoor

namespace Go.Proofs.YtmeiionabonhnaaGreatDoor
open Go.RowKit
theorem four_cells {w : World} {b : Nat} {t : TypeId} {x y z u : Value} (h : w.heap[b]? = some (.cells #[x, y, z, u] t (0, 0))) :
    w.cell? ⟨b, 0, none⟩ = some x ∧ w.cell? ⟨b, 1, none⟩ = some y ∧ w.cell? ⟨b, 2, none⟩ = some z ∧ w.cell? ⟨b, 3, none⟩ = some u ∧ w.frozen? ⟨b, 0, none⟩ = false ∧ w.frozen? ⟨b, 1, none⟩ = false ∧ w.frozen? ⟨b, 2, none⟩ = false ∧ w.frozen? ⟨b, 3, none⟩ = false := by
  simp [World.cell?, World.frozen?, h]
theorem four_set01 {w : World} {b : Nat} {t : TypeId} {x y z u : Value} (h : w.heap[b]? = some (.cells #[x, y, z, u] t (0, 0))) (x' y' : Value) : ((w.setCell ⟨b, 0, none⟩ x').setCell ⟨b, 1, none⟩ y').heap[b]? = some (.cells #[x', y', z, u] t (0, 0)) := by
  simp [World.setCell, Array.getElem?_modify, h]
theorem heap_set2 (w : World) (b i j : Nat) (x y : Value) (k : Nat) (hk : ¬ k = b) : ((w.setCell ⟨b, i, none⟩ x).setCell ⟨b, j, none⟩ y).heap[k]? = w.heap[k]? := by
  rw [Below.heap_setCell _ _ _ _ hk, Below.heap_setCell _ _ _ _ hk]
theorem size_set2 (w : World) (b i j : Nat) (x y : Value) : ((w.setCell ⟨b, i, none⟩ x).setCell ⟨b, j, none⟩ y).heap.size = w.heap.size := by simp [World.setCell]
def RdDev (w : World) (v : Value) (ws : List Int) (ps : List St) (es : List Int) (qs : List Se) : Prop := ∃ vW vP vS vQ, v = .agg #[vW, vP, vS, vQ] ∧ RdPm w (.agg #[vW, vP]) ws ps ∧ RdBlk w (.agg #[vS, vQ]) es qs
def RowDev (w : World) (lo hi : Nat) (v : Value) (ws : List Int) (ps : List St) (es : List Int) (qs : List Se) : Prop :=
  ∃ vW vP vS vQ l1 h1 l2 h2, v = .agg #[vW, vP, vS, vQ] ∧ RowPm w l1 h1 (.agg #[vW, vP]) ws ps ∧ RowBlk w l2 h2 (.agg #[vS, vQ]) es qs ∧ (lo ≤ l1 ∧ h1 ≤ hi ∧ lo ≤ l2 ∧ h2 ≤ hi ∧ (h1 ≤ l2 ∨ h2 ≤ l1))
theorem RowDev.rd {w : World} {lo hi : Nat} {v : Value} {ws : List Int} {ps : List St} {es : List Int} {qs : List Se} (h : RowDev w lo hi v ws ps es qs) : RdDev w v ws ps es qs := by
  obtain ⟨vW, vP, vS, vQ, _, _, _, _, e, h1, h2, _⟩ := h
  exact ⟨vW, vP, vS, vQ, e, h1.rd, h2.rd⟩
theorem RdDev.below {w w' : World} {v : Value} {ws : List Int} {ps : List St} {es : List Int} {qs : List Se} (h : RdDev w v ws ps es qs) (hb : Below w.heap.size w w') : RdDev w' v ws ps es qs := by
  obtain ⟨vW, vP, vS, vQ, e, h1, h2⟩ := h
  exact ⟨vW, vP, vS, vQ, e, h1.below hb, h2.below hb⟩
theorem RowDev.below {w w' : World} {lo hi : Nat} {v : Value} {ws : List Int} {ps : List St} {es : List Int} {qs : List Se} (h : RowDev w lo hi v ws ps es qs) {B : Nat} (hb : Below B w w') (hB : hi ≤ B) : RowDev w' lo hi v ws ps es qs := by
  obtain ⟨vW, vP, vS, vQ, l1, h1, l2, h2, e, r1, r2, c⟩ := h
  exact ⟨vW, vP, vS, vQ, l1, h1, l2, h2, e, r1.below hb (by omega), r2.below hb (by omega), c⟩
theorem RowDev.outside {w w' : World} {lo hi : Nat} {v : Value} {ws : List Int} {ps : List St} {es : List Int} {qs : List Se} (h : RowDev w lo hi v ws ps es qs) {lo' hi' : Nat} (ho : Outside lo' hi' w w') (hd : hi ≤ lo' ∨ hi' ≤ lo) (hz : hi ≤ w.heap.size) : RowDev w' lo hi v ws ps es qs := by
  obtain ⟨vW, vP, vS, vQ, l1, h1, l2, h2, e, r1, r2, c⟩ := h
  exact ⟨vW, vP, vS, vQ, l1, h1, l2, h2, e, r1.outside ho (by omega) (by omega), r2.outside ho (by omega) (by omega), c⟩
theorem RowDev.wide {w : World} {lo hi : Nat} {v : Value} {ws : List Int} {ps : List St} {es : List Int} {qs : List Se} (h : RowDev w lo hi v ws ps es qs) {lo' hi' : Nat} (a : lo' ≤ lo) (b : hi ≤ hi') : RowDev w lo' hi' v ws ps es qs := by
  obtain ⟨vW, vP, vS, vQ, l1, h1, l2, h2, e, r1, r2, c⟩ := h
  exact ⟨vW, vP, vS, vQ, l1, h1, l2, h2, e, r1, r2, by omega⟩
theorem RdDev.form {w : World} {v : Value} {ws : List Int} {ps : List St} {es : List Int} {qs : List Se} (h : RdDev w v ws ps es qs) : ∃ aW cW aP cP aS cS aQ cQ, v = .agg #[.slice aW ws.length cW, .slice aP ps.length cP, .slice aS es.length cS, .slice aQ qs.length cQ] ∧ RdPm w (.agg #[.slice aW ws.length cW, .slice aP ps.length cP]) ws ps ∧ RdBlk w (.agg #[.slice aS es.length cS, .slice aQ qs.length cQ]) es qs := by
  obtain ⟨vW, vP, vS, vQ, rfl, ⟨_, _, e1, h1, h2⟩, ⟨_, _, e2, h3, h4⟩⟩ := h
  cases e1
  cases e2
  obtain ⟨aW, cW, rfl, _⟩ := h1.shape
  obtain ⟨aP, cP, rfl, _⟩ := h2.shape
  obtain ⟨aS, cS, rfl, _⟩ := h3.shape
  obtain ⟨aQ, cQ, rfl, _⟩ := h4.shape
  exact ⟨aW, cW, aP, cP, aS, cS, aQ, cQ, rfl, ⟨_, _, rfl, h1, h2⟩, ⟨_, _, rfl, h3, h4⟩⟩
theorem RowPm.form {w : World} {lo hi : Nat} {v : Value} {ws : List Int} {ps : List St} (h : RowPm w lo hi v ws ps) : ∃ aW cW aP cP, v = .agg #[.slice aW ws.length cW, .slice aP ps.length cP] := by
  obtain ⟨vW, vP, rfl, h1, h2⟩ := h.rd
  obtain ⟨aW, cW, rfl, _⟩ := h1.shape
  obtain ⟨aP, cP, rfl, _⟩ := h2.shape
  exact ⟨aW, cW, aP, cP, rfl⟩
theorem RowBlk.form {w : World} {lo hi : Nat} {v : Value} {ws : List Int} {ps : List Se} (h : RowBlk w lo hi v ws ps) : ∃ aW cW aP cP, v = .agg #[.slice aW ws.length cW, .slice aP ps.length cP] := by
  obtain ⟨vW, vP, rfl, h1, h2⟩ := h.rd
  obtain ⟨aW, cW, rfl, _⟩ := h1.shape
  obtain ⟨aP, cP, rfl, _⟩ := h2.shape
  exact ⟨aW, cW, aP, cP, rfl⟩
set_option maxHeartbeats 2000000 in
theorem specDevicesOK_any (v : Value) (ws : List Int) (ps : List St) (es : List Int) (qs : List Se) (w : World) (h : RdDev w v ws ps es qs) (hw : ws.length ≤ 1048576) (hp : ps.length ≤ 1048576) (he : es.length ≤ 1048576) (hq : qs.length ≤ 1048576) :
    Calls Tryz.prog 141 #[v] w fun e w' => e = .returned (.bool (pmB ws ps && blkB es qs)) ∧ Below w.heap.size w w' := by
  obtain ⟨aW, cW, aP, cP, aS, cS, aQ, cQ, rfl, h1, h2⟩ := h.form
  have H1 := hideIt h1
  have H2 := hideIt h2
  clear h h1 h2
  have hb0 : Below w.heap.size w (w.alloc (.cells #[.slice aW ws.length cW, .slice aP ps.length cP, .slice aS es.length cS, .slice aQ qs.length cQ] 71)) := (Below.refl _ _).alloc (Nat.le_refl _) _
  by_cases c : pmB ws ps = true
  · have C := hideIt c
    rw [c]
    clear c
    go_enter Tryz.func141, Tryz.ntmps141
    go_wp2_with fail
    refine (specPmOK_any _ ws ps _ (H1.out.below hb0) hw hp).mono ?_
    rw [C.out]
    rintro e w1 ⟨rfl, hb1⟩
    obtain ⟨x0, x1, x2, x3, -, -, -, -⟩ := four_cells ((hb1.block w.heap.size (by simp)).trans (at_new rfl))
    have B1 := hideIt (below_trans hb0 hb1 (by simp))
    clear hb0 hb1
    go_wp2_with fail
    refine (specBlkOK_any _ es qs _ (H2.out.below B1.out) he hq).mono ?_
    rintro e w2 ⟨rfl, hb2⟩
    have B2 := hideIt (below_trans B1.out hb2 B1.out.size)
    clear hb2
    go_wp2
    go_ret
    exact ⟨rfl, B2.out⟩
  · have c' : pmB ws ps = false := by simpa using c
    have C := hideIt c'
    rw [c']
    clear c c'
    go_enter Tryz.func141, Tryz.ntmps141
    go_wp2_with fail
    refine (specPmOK_any _ ws ps _ (H1.out.below hb0) hw hp).mono ?_
    rw [C.out]
    rintro e w1 ⟨rfl, hb1⟩
    have B1 := hideIt (below_trans hb0 hb1 (by simp))
    clear hb0 hb1
    go_wp2
    go_ret
    exact ⟨rfl, B1.out⟩
set_option maxHeartbeats 2000000 in
theorem toDevices_any (v : Value) (ws : List Int) (ps : List St) (es : List Int) (qs : List Se) (w : World) (h : RdDev w v ws ps es qs) (hw : ws.length ≤ 1048576) (hp : ps.length ≤ 1048576) (he : es.length ≤ 1048576) (hq : qs.length ≤ 1048576) :
    Calls Tryz.prog 96 #[v] w fun e w' => ∃ v', e = .returned v' ∧ RowDev w' w.heap.size w'.heap.size v' ws ps es qs ∧ Below w.heap.size w w' := by
  obtain ⟨aW, cW, aP, cP, aS, cS, aQ, cQ, rfl, h1, h2⟩ := h.form
  have H1 := hideIt h1
  have H2 := hideIt h2
  clear h h1 h2
  have hb0 : Below w.heap.size w (((w.alloc (.cells #[.slice aW ws.length cW, .slice aP ps.length cP, .slice aS es.length cS, .slice aQ qs.length cQ] 51)).alloc (.cells #[.slice none 0 0, .slice none 0 0, .slice none 0 0, .slice none 0 0] 71)).alloc (.cells #[.slice none 0 0, .slice none 0 0, .slice none 0 0, .slice none 0 0] 71)) := by
    repeat (refine Below.alloc ?_ (by simp <;> omega) _)
    exact Below.refl _ _
  go_enter Tryz.func96, Tryz.ntmps96
  go_wp2_with fail
  refine (toPm_any _ ws ps _ (H1.out.below hb0) hw hp).mono ?_
  rintro e w1 ⟨v1, rfl, hr1, hb1⟩
  obtain ⟨aW1, cW1, aP1, cP1, rfl⟩ := hr1.form
  have hz1 : w.heap.size + 3 ≤ w1.heap.size := by have := hb1.size; simp at this; omega
  have V0 := (hb1.block w.heap.size (by simp <;> omega)).trans (at_old (at_old (at_new rfl)))
  have V1 := (hb1.block (w.heap.size + 1) (by simp <;> omega)).trans (at_old (at_new (by simp)))
  have V2 := (hb1.block (w.heap.size + 1 + 1) (by simp <;> omega)).trans (at_new (by simp))
  have B1 := hideIt (below_trans hb0 hb1 (by simp <;> omega))
  have R1 : Hid (RowPm w1 (w.heap.size + 3) w1.heap.size (.agg #[.slice aW1 ws.length cW1, .slice aP1 ps.length cP1]) ws ps) := hr1.wide (by simp only [World.size_alloc]; omega) (Nat.le_refl _)
  obtain ⟨x0, x1, x2, x3, -, -, -, -⟩ := four_cells V0
  obtain ⟨y0, y1, y2, y3, y4, y5, y6, y7⟩ := four_cells V2
  have VH := hideIt (And.intro V0 (And.intro V1 V2))
  clear hb0 hb1 hr1 V0 V1 V2
  have B1' := hideIt ((B1.out.setCell (p := ⟨w.heap.size + 1 + 1, 0, none⟩) (by simp only; omega) (.slice aW1 ws.length cW1)).setCell (p := ⟨w.heap.size + 1 + 1, 1, none⟩) (by simp only; omega) (.slice aP1 ps.length cP1))
  have hz1' := size_set2 w1 (w.heap.size + 1 + 1) 0 1 (.slice aW1 ws.length cW1) (.slice aP1 ps.length cP1)
  have V0' := (heap_set2 w1 (w.heap.size + 1 + 1) 0 1 (.slice aW1 ws.length cW1) (.slice aP1 ps.length cP1) w.heap.size (by omega)).trans VH.out.1
  have V1' := (heap_set2 w1 (w.heap.size + 1 + 1) 0 1 (.slice aW1 ws.length cW1) (.slice aP1 ps.length cP1) (w.heap.size + 1) (by omega)).trans VH.out.2.1
  have V2' := four_set01 VH.out.2.2 (.slice aW1 ws.length cW1) (.slice aP1 ps.length cP1)
  have R1' : Hid (RowPm ((w1.setCell ⟨w.heap.size + 1 + 1, 0, none⟩ (.slice aW1 ws.length cW1)).setCell ⟨w.heap.size + 1 + 1, 1, none⟩ (.slice aP1 ps.length cP1)) (w.heap.size + 3) w1.heap.size (.agg #[.slice aW1 ws.length cW1, .slice aP1 ps.length cP1]) ws ps) :=
    R1.out.outside (lo' := w.heap.size + 2) (hi' := w.heap.size + 3) (((Outside.refl _ _ _).setCell (a := ⟨w.heap.size + 1 + 1, 0, none⟩) (by simp only; omega) (by simp only; omega) _).setCell (a := ⟨w.heap.size + 1 + 1, 1, none⟩) (by simp only; omega) (by simp only; omega) _) (by omega) (Nat.le_refl _)
  obtain ⟨z0, z1, z2, z3, -, -, -, -⟩ := four_cells V0'
  have VH' := hideIt (And.intro V1' V2')
  clear V0' V1' V2' VH R1
  have hz : w1.heap.size ≤ ((w1.setCell ⟨w.heap.size + 1 + 1, 0, none⟩ (.slice aW1 ws.length cW1)).setCell ⟨w.heap.size + 1 + 1, 1, none⟩ (.slice aP1 ps.length cP1)).heap.size ∧ ((w1.setCell ⟨w.heap.size + 1 + 1, 0, none⟩ (.slice aW1 ws.length cW1)).setCell ⟨w.heap.size + 1 + 1, 1, none⟩ (.slice aP1 ps.length cP1)).heap.size ≤ w1.heap.size := ⟨Nat.le_of_eq hz1'.symm, Nat.le_of_eq hz1'⟩
  clear hz1'
  have ZZ := hideIt hz
  clear hz
  go_wp2_with fail
  refine (toBlk_any _ es qs _ (H2.out.below B1'.out) he hq).mono ?_
  rintro e w2 ⟨v2, rfl, hr2, hb2⟩
  obtain ⟨aS2, cS2, aQ2, cQ2, rfl⟩ := hr2.form
  have zz := ZZ.out
  have hz2 : w1.heap.size ≤ w2.heap.size := Nat.le_trans zz.1 hb2.size
  have V1 := (hb2.block (w.heap.size + 1) (by omega)).trans VH'.out.1
  have V2 := (hb2.block (w.heap.size + 1 + 1) (by omega)).trans VH'.out.2
  have B2 := hideIt (below_trans B1'.out hb2 (by omega))
  have R1 := hideIt (R1'.out.below hb2 (by omega))
  have R2 : Hid (RowBlk w2 w1.heap.size w2.heap.size (.agg #[.slice aS2 es.length cS2, .slice aQ2 qs.length cQ2]) es qs) := hr2.wide (by omega) (Nat.le_refl _)
  obtain ⟨t0, t1, t2, t3, t4, t5, t6, t7⟩ := four_cells V1
  obtain ⟨s0, s1, s2, s3, s4, s5, s6, s7⟩ := four_cells V2
  have VH2 := hideIt (And.intro V1 V2)
  clear hb2 hr2 V1 V2 zz ZZ VH' x0 x1 x2 x3 y0 y1 y2 y3 y4 y5 y6 y7 z0 z1 z2 z3 R1' B1' B1
  go_wp2
  refine bodyPost_ret (v := .agg #[.slice aW1 ws.length cW1, .slice aP1 ps.length cP1, .slice aS2 es.length cS2, .slice aQ2 qs.length cQ2]) (by simp [results, Tryz.results96, go_sem, t0, t1, t2, t3]) rfl ?_
  have O : Outside (w.heap.size + 1) (w.heap.size + 3) w2 ((((((w2.setCell ⟨w.heap.size + 1 + 1, 2, none⟩ (.slice aS2 es.length cS2)).setCell ⟨w.heap.size + 1 + 1, 3, none⟩ (.slice aQ2 qs.length cQ2)).setCell ⟨w.heap.size + 1, 0, none⟩ (.slice aW1 ws.length cW1)).setCell ⟨w.heap.size + 1, 1, none⟩ (.slice aP1 ps.length cP1)).setCell ⟨w.heap.size + 1, 2, none⟩ (.slice aS2 es.length cS2)).setCell ⟨w.heap.size + 1, 3, none⟩ (.slice aQ2 qs.length cQ2)) := by
    repeat (refine Outside.setCell ?_ (by simp only; omega) (by simp only; omega) _)
    exact Outside.refl _ _ _
  have hz3 := O.size
  exact ⟨_, rfl, ⟨_, _, _, _, _, _, _, _, rfl, R1.out.outside O (by omega) (by omega), R2.out.outside O (by omega) (Nat.le_refl _), by omega⟩, B2.out.trans (O.below (by omega) (by omega))⟩
set_option maxHeartbeats 2000000 in
theorem eqDevices_same (va vb : Value) (ws : List Int) (ps : List St) (es : List Int) (qs : List Se) (w : World) (ha : RdDev w va ws ps es qs) (hb : RdDev w vb ws ps es qs) (hw : ws.length ≤ 2147483648) (hp : ps.length ≤ 2147483648) (he : es.length ≤ 2147483648) (hq : qs.length ≤ 2147483648) :
    Calls Tryz.prog 102 #[va, vb] w fun e w' => e = .returned (.bool true) ∧ Below w.heap.size w w' := by
  obtain ⟨aW, cW, aP, cP, aS, cS, aQ, cQ, rfl, h1, h2⟩ := ha.form
  obtain ⟨bW, dW, bP, dP, bS, dS, bQ, dQ, rfl, h3, h4⟩ := hb.form
  have H1 := hideIt h1
  have H2 := hideIt h2
  have H3 := hideIt h3
  have H4 := hideIt h4
  clear ha hb h1 h2 h3 h4
  have hb0 : Below w.heap.size w ((w.alloc (.cells #[.slice aW ws.length cW, .slice aP ps.length cP, .slice aS es.length cS, .slice aQ qs.length cQ] 71)).alloc (.cells #[.slice bW ws.length dW, .slice bP ps.length dP, .slice bS es.length dS, .slice bQ qs.length dQ] 71)) := by
    repeat (refine Below.alloc ?_ (by simp <;> omega) _)
    exact Below.refl _ _
  go_enter Tryz.func102, Tryz.ntmps102
  go_wp2_with fail
  refine (eqPm_same _ _ ws ps _ (H1.out.below hb0) (H3.out.below hb0) hw hp).mono ?_
  rintro e w1 ⟨rfl, hb1⟩
  have hz1 : w.heap.size + 2 ≤ w1.heap.size := by have := hb1.size; simp at this; omega
  obtain ⟨x0, x1, x2, x3, -, -, -, -⟩ := four_cells ((hb1.block w.heap.size (by simp <;> omega)).trans (at_old (at_new rfl)))
  obtain ⟨y0, y1, y2, y3, -, -, -, -⟩ := four_cells ((hb1.block (w.heap.size + 1) (by simp <;> omega)).trans (at_new (by simp)))
  have B1 := hideIt (below_trans hb0 hb1 (by simp <;> omega))
  clear hb0 hb1
  go_wp2_with fail
  refine (eqBlk_same _ _ es qs _ (H2.out.below B1.out) (H4.out.below B1.out) he hq).mono ?_
  rintro e w2 ⟨rfl, hb2⟩
  have B2 := hideIt (below_trans B1.out hb2 B1.out.size)
  clear hb2
  go_wp2
  go_ret
  exact ⟨rfl, B2.out⟩
set_option maxHeartbeats 2000000 in
theorem szBlk_left (aW aP : Option Addr) (n m cW cP : Nat) (left : Int) (w : World) (hn : n ≤ maxLen) (hm : m ≤ maxLen) (h0 : 0 ≤ left) (h1 : left ≤ 1048576) :
    Calls Tryz.prog 139 #[.agg #[.slice aW n cW, .slice aP m cP], .int .i64 left] w fun e w' => e = .returned (.int .i64 (if left < (n : Int) + (m : Int) then -1 else left - n - m)) ∧ Below w.heap.size w w' := by
  have hb0 : Below w.heap.size w (w.alloc (.cells #[.slice aW n cW, .slice aP m cP] 49)) := (Below.refl _ _).alloc (Nat.le_refl _) _
  by_cases c1 : left < (n : Int)
  · have e1 : less left n = -1 := by unfold less; rw [if_pos c1]
    have e2 : (if left < (n : Int) + (m : Int) then -1 else left - n - m : Int) = -1 := by rw [if_pos (by omega)]
    rw [e2]
    have E1 := hideIt e1
    clear e1 e2
    go_enter Tryz.func139, Tryz.ntmps139
    go_wp2_with (go_at_call 86; refine (szIntS_any aW n cW _ _ hn (by omega) (by omega)).mono ?_; rw [E1.out]; rintro e w' ⟨rfl, rfl⟩)
    go_ret
    exact ⟨rfl, hb0⟩
  · have e1 : less left n = left - n := by unfold less; rw [if_neg c1]
    have E1 := hideIt e1
    clear e1
    by_cases c2 : (left - n : Int) < (m : Int)
    · have e2 : less (left - n) m = -1 := by unfold less; rw [if_pos c2]
      have e3 : (if left < (n : Int) + (m : Int) then -1 else left - n - m : Int) = -1 := by rw [if_pos (by omega)]
      rw [e3]
      have E2 := hideIt e2
      clear e2 e3
      go_enter Tryz.func139, Tryz.ntmps139
      go_wp2_with (first | (go_at_call 86; refine (szIntS_any aW n cW _ _ hn (by omega) (by omega)).mono ?_; rw [E1.out]; rintro e w' ⟨rfl, rfl⟩) | (go_at_call 202; refine (szSectorS_any aP m cP _ _ hm (by omega) (by omega)).mono ?_; rw [E2.out]; rintro e w' ⟨rfl, rfl⟩))
      go_ret
      exact ⟨rfl, hb0⟩
    · have e2 : less (left - n) m = left - n - m := by unfold less; rw [if_neg c2]
      have e3 : (if left < (n : Int) + (m : Int) then -1 else left - n - m : Int) = left - n - m := by rw [if_neg (by omega)]
      rw [e3]
      have E2 := hideIt e2
      clear e2 e3
      go_enter Tryz.func139, Tryz.ntmps139
      go_wp2_with (first | (go_at_call 86; refine (szIntS_any aW n cW _ _ hn (by omega) (by omega)).mono ?_; rw [E1.out]; rintro e w' ⟨rfl, rfl⟩) | (go_at_call 202; refine (szSectorS_any aP m cP _ _ hm (by omega) (by omega)).mono ?_; rw [E2.out]; rintro e w' ⟨rfl, rfl⟩))
      go_ret
      exact ⟨rfl, hb0⟩
set_option maxHeartbeats 2000000 in
theorem szDevices_any (aW aP aS aQ : Option Addr) (n m n2 m2 cW cP cS cQ : Nat) (w : World) (hn : n ≤ maxLen) (hm : m ≤ maxLen) (hn2 : n2 ≤ maxLen) (hm2 : m2 ≤ maxLen) :
    Calls Tryz.prog 85 #[.agg #[.slice aW n cW, .slice aP m cP, .slice aS n2 cS, .slice aQ m2 cQ], .int .i64 1048576] w fun e w' => e = .returned (.int .i64 (if 1048576 < n + m + n2 + m2 then -1 else 1048576 - n - m - n2 - m2)) ∧ Below w.heap.size w w' := by
  have hb0 : Below w.heap.size w (w.alloc (.cells #[.slice aW n cW, .slice aP m cP, .slice aS n2 cS, .slice aQ m2 cQ] 51)) := (Below.refl _ _).alloc (Nat.le_refl _) _
  by_cases c1 : 1048576 < n + m
  · have E1 := hideIt (show (if 1048576 < n + m then -1 else 1048576 - n - m : Int) = -1 from if_pos c1)
    have e2 : (if 1048576 < n + m + n2 + m2 then -1 else 1048576 - n - m - n2 - m2 : Int) = -1 := if_pos (by omega)
    rw [e2]
    clear e2
    go_enter Tryz.func85, Tryz.ntmps85
    go_wp2_with fail
    refine (szPm_any aW aP n m cW cP _ hn hm).mono ?_
    rw [E1.out]
    rintro e w1 ⟨rfl, hb1⟩
    have B1 := hideIt (below_trans hb0 hb1 (by simp))
    clear hb0 hb1
    go_wp2
    go_ret
    exact ⟨rfl, B1.out⟩
  · have E1 := hideIt (show (if 1048576 < n + m then -1 else 1048576 - n - m : Int) = 1048576 - n - m from if_neg c1)
    by_cases c2 : (1048576 - n - m : Int) < (n2 : Int) + (m2 : Int)
    · have E2 := hideIt (show (if (1048576 - n - m : Int) < (n2 : Int) + (m2 : Int) then -1 else (1048576 - n - m : Int) - n2 - m2 : Int) = -1 from if_pos c2)
      have e2 : (if 1048576 < n + m + n2 + m2 then -1 else 1048576 - n - m - n2 - m2 : Int) = -1 := if_pos (by omega)
      rw [e2]
      clear e2
      go_enter Tryz.func85, Tryz.ntmps85
      go_wp2_with fail
      refine (szPm_any aW aP n m cW cP _ hn hm).mono ?_
      rw [E1.out]
      rintro e w1 ⟨rfl, hb1⟩
      obtain ⟨x0, x1, x2, x3, -, -, -, -⟩ := four_cells ((hb1.block w.heap.size (by simp)).trans (at_new rfl))
      have B1 := hideIt (below_trans hb0 hb1 (by simp))
      clear hb0 hb1
      go_wp2_with fail
      refine (szBlk_left aS aQ n2 m2 cS cQ _ _ hn2 hm2 (by omega) (by omega)).mono ?_
      rw [E2.out]
      rintro e w2 ⟨rfl, hb2⟩
      have B2 := hideIt (below_trans B1.out hb2 B1.out.size)
      clear hb2
      go_wp2
      go_ret
      exact ⟨rfl, B2.out⟩
    · have E2 := hideIt (show (if (1048576 - n - m : Int) < (n2 : Int) + (m2 : Int) then -1 else (1048576 - n - m : Int) - n2 - m2 : Int) = 1048576 - n - m - n2 - m2 from if_neg c2)
      have e2 : (if 1048576 < n + m + n2 + m2 then -1 else 1048576 - n - m - n2 - m2 : Int) = 1048576 - n - m - n2 - m2 := if_neg (by omega)
      rw [e2]
      clear e2
      go_enter Tryz.func85, Tryz.ntmps85
      go_wp2_with fail
      refine (szPm_any aW aP n m cW cP _ hn hm).mono ?_
      rw [E1.out]
      rintro e w1 ⟨rfl, hb1⟩
      obtain ⟨x0, x1, x2, x3, -, -, -, -⟩ := four_cells ((hb1.block w.heap.size (by simp)).trans (at_new rfl))
      have B1 := hideIt (below_trans hb0 hb1 (by simp))
      clear hb0 hb1
      go_wp2_with fail
      refine (szBlk_left aS aQ n2 m2 cS cQ _ _ hn2 hm2 (by omega) (by omega)).mono ?_
      rw [E2.out]
      rintro e w2 ⟨rfl, hb2⟩
      have B2 := hideIt (below_trans B1.out hb2 B1.out.size)
      clear hb2
      go_wp2
      go_ret
      exact ⟨rfl, B2.out⟩
end Go.Proofs.YtmeiionabonhnaaGreatDoor
