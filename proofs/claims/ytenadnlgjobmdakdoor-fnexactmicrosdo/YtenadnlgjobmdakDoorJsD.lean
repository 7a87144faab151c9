/- Many steps by the model. -/
import Derived.Test.YtenadnlgjobmdakDoorMicS
import Derived.Test.YtenadnlgjobmdakDoorJiM
import Derived.Test.YtenadnlgjobmdakDoorDevC
import Derived.Deep.DeepCutAuto
import Derived.Deep.RegionHeld3
namespace Go.Proofs.YtenadnlgjobmdakDoor
open Go.RowKit

theorem misT {l : List Mi} (h : misB' l = true) : ∀ k (h : k < l.length), miB l[k] = true := of_decide_eq_true h
theorem misF {l : List Mi} (h : misB' l = false) (k : ∀ k (h : k < l.length), miB l[k] = true) : False := by
  rw [show misB' l = true from decide_eq_true k] at h
  cases h
theorem putR_boxS {w : World} {b : Nat} {t : TypeId} {x y z u a b' c d : Value} (h : w.heap[b]? = some (.cells #[x, y, z, u] t (0, 0))) : (putR w b a b' c d).heap[b]? = some (.cells #[a, b', c, d] t (0, 0)) := by
  simp [putR, World.setCell, Array.getElem?_modify, h]
/-- In the midst of the steps: so many are done; the argument's box, the answer's box. -/
structure MidS (l : List Mi) (ws : List Int) (ps : List St) (es : List Int) (qs : List Se) (w wr : World) (k : Nat) (W : List Int) (P : List St) (E : List Int) (Q : List Se) (a b' c d : Value) : Prop where
  run : mr (l.take k) ws ps es qs = ⟨0, W, P, E, Q⟩
  box : wr.heap[w.heap.size]? = some (.cells #[a, b', c, d] 41 (0, 0))
  res : wr.heap[w.heap.size + 1]? = some (.cells #[.slice none 0 0, .slice none 0 0, .slice none 0 0, .slice none 0 0] 41 (0, 0))
  rd : RdDev wr (.agg #[a, b', c, d]) W P E Q
  below : Below w.heap.size w wr
  size : w.heap.size + 1 < wr.heap.size

set_option maxRecDepth 100000 in
set_option maxHeartbeats 16000000 in
theorem specMicrosDo_any (v vL : Value) (l : List Mi) (ws : List Int) (ps : List St) (es : List Int) (qs : List Se) (w : World) (h : RdDev w v ws ps es qs) (hL : RdM w vL l) (hw : ws.length ≤ 1048576) (hp : ps.length ≤ 1048576) (he : es.length ≤ 1048576) (hq : qs.length ≤ 1048576) (hll : l.length ≤ 1048576) :
    Calls Tryd.prog 14 #[v, vL] w fun e w' => ∃ v', e = .returned (.tuple #[v', .int .i64 (ms l ws ps es qs).c]) ∧ RowDev w' w.heap.size w'.heap.size v' (ms l ws ps es qs).W (ms l ws ps es qs).P (ms l ws ps es qs).E (ms l ws ps es qs).Q ∧ Below w.heap.size w w' := by
  have HD := hideIt h
  obtain ⟨aL, cL, rfl, -, hcL⟩ := hL.shape
  obtain ⟨aW, cW, aP, cP, aS, cS, aQ, cQ, rfl, -, -⟩ := h.form
  clear h hL
  have hb0 : Below w.heap.size w ((w.alloc (.cells #[.slice aW ws.length cW, .slice aP ps.length cP, .slice aS es.length cS, .slice aQ qs.length cQ] 41)).alloc (.cells #[.slice none 0 0, .slice none 0 0, .slice none 0 0, .slice none 0 0] 41)) := by
    repeat (refine Below.alloc ?_ (by simp <;> omega) _)
    exact Below.refl _ _
  by_cases hlong : 4096 < l.length
  case pos =>
    rw [ms_long hlong]
    simp only
    have V2 : ((w.alloc (.cells #[.slice aW ws.length cW, .slice aP ps.length cP, .slice aS es.length cS, .slice aQ qs.length cQ] 41)).alloc (.cells #[.slice none 0 0, .slice none 0 0, .slice none 0 0, .slice none 0 0] 41)).heap[w.heap.size + 1]? = some (.cells #[.slice none 0 0, .slice none 0 0, .slice none 0 0, .slice none 0 0] 41 (0, 0)) := at_new (by simp)
    obtain ⟨y0, y1, y2, y3, y4, y5, y6, y7⟩ := four_cells V2
    have B0 := hideIt hb0
    clear hb0 V2 hcL
    go_enter Tryd.func14, Tryd.ntmps14
    go_upto_region 1 with fail
    obtain ⟨w1, hw1⟩ : ∃ w1 : World, w1 = ((w.alloc (.cells #[.slice aW ws.length cW, .slice aP ps.length cP, .slice aS es.length cS, .slice aQ qs.length cQ] 41)).alloc (.cells #[.slice none 0 0, .slice none 0 0, .slice none 0 0, .slice none 0 0] 41)) := ⟨_, rfl⟩
    rw [← hw1]
    rw [← hw1] at y0 y1 y2 y3 y4 y5 y6 y7 B0
    have hz1 : w.heap.size + 2 ≤ w1.heap.size := by rw [hw1]; simp
    clear hw1
    go_wp2
    refine bodyPost_ret (v := .tuple #[.agg #[.slice none 0 0, .slice none 0 0, .slice none 0 0, .slice none 0 0], .int .i64 2]) (by simp [results, Tryd.results14, go_sem, y0, y1, y2, y3]) rfl ?_
    exact ⟨_, rfl, RowDev.zero _ _ _ (Nat.le_trans (by omega) (Nat.le_of_eq (putR_size w1 (w.heap.size + 1) _ _ _ _).symm)), B0.out.trans ((putR_out w1 (w.heap.size + 1) _ _ _ _).below (by omega) (by omega))⟩
  by_cases c1 : (pmB ws ps && blkB es qs) = true
  case neg =>
    have c1' : (pmB ws ps && blkB es qs) = false := by simpa using c1
    rw [ms_bad hlong (by rw [c1']; rfl)]
    simp only
    have C1 := hideIt c1'
    clear c1 c1' hcL
    go_enter Tryd.func14, Tryd.ntmps14
    go_wp2_with fail
    refine (specDevicesOK_any _ ws ps es qs _ (HD.out.below hb0) hw hp he hq).mono ?_
    rw [C1.out]
    rintro e w1 ⟨rfl, hb1⟩
    have hz1 : w.heap.size + 2 ≤ w1.heap.size := by have := hb1.size; simp at this; omega
    have V0 := hideIt ((hb1.block w.heap.size (by simp <;> omega)).trans (at_old (at_new rfl)))
    have V2 := hideIt ((hb1.block (w.heap.size + 1) (by simp <;> omega)).trans (at_new (by simp)))
    have B1 := hideIt (below_trans hb0 hb1 (by simp <;> omega))
    clear hb0 hb1
    obtain ⟨x0, x1, x2, x3, -, -, -, -⟩ := four_cells V0.out
    obtain ⟨y0, y1, y2, y3, y4, y5, y6, y7⟩ := four_cells V2.out
    go_wp2
    refine bodyPost_ret (v := .tuple #[.agg #[.slice none 0 0, .slice none 0 0, .slice none 0 0, .slice none 0 0], .int .i64 1]) (by simp [results, Tryd.results14, go_sem, y0, y1, y2, y3]) rfl ?_
    exact ⟨_, rfl, RowDev.zero _ _ _ (Nat.le_trans (by omega) (Nat.le_of_eq (putR_size w1 (w.heap.size + 1) _ _ _ _).symm)), B1.out.trans ((putR_out w1 (w.heap.size + 1) _ _ _ _).below (by omega) (by omega))⟩
  by_cases c2 : misB' l = true
  case neg =>
    have c2' : misB' l = false := by simpa using c2
    rw [ms_bad hlong (by rw [c1, c2']; rfl)]
    simp only
    have C1 := hideIt c1
    have C2 := hideIt c2'
    clear c1 c2 c2'
    go_enter Tryd.func14, Tryd.ntmps14
    go_wp2_with fail
    refine (specDevicesOK_any _ ws ps es qs _ (HD.out.below hb0) hw hp he hq).mono ?_
    rw [C1.out]
    rintro e w1 ⟨rfl, hb1⟩
    have hz1 : w.heap.size + 2 ≤ w1.heap.size := by have := hb1.size; simp at this; omega
    have V0 := hideIt ((hb1.block w.heap.size (by simp <;> omega)).trans (at_old (at_new rfl)))
    have V2 := hideIt ((hb1.block (w.heap.size + 1) (by simp <;> omega)).trans (at_new (by simp)))
    have B1 := hideIt (below_trans hb0 hb1 (by simp <;> omega))
    clear hb0 hb1
    obtain ⟨x0, x1, x2, x3, -, -, -, -⟩ := four_cells V0.out
    obtain ⟨y0, y1, y2, y3, y4, y5, y6, y7⟩ := four_cells V2.out
    clear x0 x1 x2 x3 y0 y1 y2 y3 y4 y5 y6 y7 V0
    go_wp2
    go_loopw [6] (fun i wr => ∃ k : Nat, k ≤ l.length ∧ i = .int .i64 k ∧ Hid (∀ j (h : j < l.length), j < k → miB l[j] = true) ∧ Below w1.heap.size w1 wr) (fun i _ => l.length - (intOf i).toNat)
    case atStart => exact ⟨0, by omega, rfl, fun j h a => absurd a (by omega), Below.refl _ _⟩
    case round =>
      obtain ⟨k, hk, rfl, H, hbr⟩ := hrel
      have hzr := hbr.size
      by_cases hlt : k < l.length
      · obtain ⟨bL, oL, rfl, hblL, hcellL⟩ := hcL (by omega)
        obtain ⟨g0, g1, g2⟩ := hcellL k hlt
        have BW := below_trans B1.out hbr (by omega)
        have e0 := (BW.cell (p := ⟨bL, oL + k * 3, none⟩) hblL).trans g0
        have e1 := (BW.cell (p := ⟨bL, oL + k * 3 + 1, none⟩) hblL).trans g1
        have e2 := (BW.cell (p := ⟨bL, oL + k * 3 + 2, none⟩) hblL).trans g2
        have k0 : (0 : Int) ≤ (k : Int) := by omega
        have k1 : (k : Int) < (l.length : Int) := by omega
        have LM := hideIt (l04Micro_any ⟨l[k].kind, l[k].at_, l[k].val⟩)
        rw [show Mi.v ⟨l[k].kind, l[k].at_, l[k].val⟩ = .agg #[.int .i64 l[k].kind, .int .i64 l[k].at_, .int .i64 l[k].val] from rfl] at LM
        have HB := hideIt hbr
        clear g0 g1 g2 hcellL hcL BW hbr
        by_cases q : miB ⟨l[k].kind, l[k].at_, l[k].val⟩ = true
        · have Q := hideIt q
          clear q
          go_wp2_with (go_at_call 22; refine (LM.out _).mono ?_; rw [Q.out]; rintro e w' ⟨rfl, hw'⟩)
          have HN := hideIt (HB.out.trans (hw'.mono (by omega)))
          clear hw' LM
          go_roundw
          case rel =>
            refine ⟨k + 1, by omega, by go_num, fun j h a => ?_, HN.out⟩
            by_cases e : j = k
            · subst e; exact Q.out
            · exact H.out j h (by omega)
          case measure => simp [intOf]; omega
        · have Q := hideIt (show miB ⟨l[k].kind, l[k].at_, l[k].val⟩ = false by simpa using q)
          clear q
          obtain ⟨y0, y1, y2, y3, y4, y5, y6, y7⟩ := four_cells ((HB.out.block _ (by omega)).trans V2.out)
          go_wp2_with (go_at_call 22; refine (LM.out _).mono ?_; rw [Q.out]; rintro e w2 ⟨rfl, hw'⟩; have HN := hideIt (below_trans B1.out (HB.out.trans (hw'.mono (by omega))) (by omega)); obtain ⟨y0, y1, y2, y3, y4, y5, y6, y7⟩ := four_cells ((hw'.block _ (by omega)).trans ((HB.out.block _ (by omega)).trans V2.out)))
          have hzw := hw'.size
          refine bodyPost_ret (v := .tuple #[.agg #[.slice none 0 0, .slice none 0 0, .slice none 0 0, .slice none 0 0], .int .i64 1]) (by simp [results, Tryd.results14, go_sem, y0, y1, y2, y3]) rfl ?_
          exact ⟨_, rfl, RowDev.zero _ _ _ (Nat.le_trans (by omega) (Nat.le_of_eq (putR_size w2 (w.heap.size + 1) _ _ _ _).symm)), HN.out.trans ((putR_out w2 (w.heap.size + 1) _ _ _ _).below (by omega) (by omega))⟩
      · exact (misF C2.out (fun j h => H.out j h (by omega))).elim
  case pos =>
    rw [ms_ok hlong (by rw [c1, c2]; rfl)]
    have C1 := hideIt c1
    have CP := hideIt (by simpa using c1 : pmB ws ps = true ∧ blkB es qs = true)
    have CM := hideIt (misT c2)
    have HL := hideIt hcL
    clear c1 c2
    go_enter Tryd.func14, Tryd.ntmps14
    go_wp2_with fail
    refine (specDevicesOK_any _ ws ps es qs _ (HD.out.below hb0) hw hp he hq).mono ?_
    rw [C1.out]
    rintro e w1 ⟨rfl, hb1⟩
    have hz1 : w.heap.size + 2 ≤ w1.heap.size := by have := hb1.size; simp at this; omega
    have V0 := hideIt ((hb1.block w.heap.size (by simp <;> omega)).trans (at_old (at_new rfl)))
    have V2 := hideIt ((hb1.block (w.heap.size + 1) (by simp <;> omega)).trans (at_new (by simp)))
    have B1 := hideIt (below_trans hb0 hb1 (by simp <;> omega))
    clear hb0 hb1
    obtain ⟨x0, x1, x2, x3, -, -, -, -⟩ := four_cells V0.out
    obtain ⟨y0, y1, y2, y3, y4, y5, y6, y7⟩ := four_cells V2.out
    clear x0 x1 x2 x3 y0 y1 y2 y3 y4 y5 y6 y7
    go_wp2
    go_loopw [6] (fun i wr => ∃ k : Nat, k ≤ l.length ∧ i = .int .i64 k ∧ Hid (∀ j (h : j < l.length), j < k → miB l[j] = true) ∧ Below w1.heap.size w1 wr) (fun i _ => l.length - (intOf i).toNat)
    case atStart => exact ⟨0, by omega, rfl, fun j h a => absurd a (by omega), Below.refl _ _⟩
    case round =>
      obtain ⟨k, hk, rfl, H, hbr⟩ := hrel
      have hzr := hbr.size
      by_cases hlt : k < l.length
      · obtain ⟨bL, oL, rfl, hblL, hcellL⟩ := hcL (by omega)
        obtain ⟨g0, g1, g2⟩ := hcellL k hlt
        have BW := below_trans B1.out hbr (by omega)
        have e0 := (BW.cell (p := ⟨bL, oL + k * 3, none⟩) hblL).trans g0
        have e1 := (BW.cell (p := ⟨bL, oL + k * 3 + 1, none⟩) hblL).trans g1
        have e2 := (BW.cell (p := ⟨bL, oL + k * 3 + 2, none⟩) hblL).trans g2
        have k0 : (0 : Int) ≤ (k : Int) := by omega
        have k1 : (k : Int) < (l.length : Int) := by omega
        have LM := hideIt (l04Micro_any ⟨l[k].kind, l[k].at_, l[k].val⟩)
        rw [show Mi.v ⟨l[k].kind, l[k].at_, l[k].val⟩ = .agg #[.int .i64 l[k].kind, .int .i64 l[k].at_, .int .i64 l[k].val] from rfl] at LM
        have HB := hideIt hbr
        clear g0 g1 g2 hcellL hcL BW hbr
        by_cases q : miB ⟨l[k].kind, l[k].at_, l[k].val⟩ = true
        · have Q := hideIt q
          clear q
          go_wp2_with (go_at_call 22; refine (LM.out _).mono ?_; rw [Q.out]; rintro e w' ⟨rfl, hw'⟩)
          have HN := hideIt (HB.out.trans (hw'.mono (by omega)))
          clear hw' LM
          go_roundw
          case rel =>
            refine ⟨k + 1, by omega, by go_num, fun j h a => ?_, HN.out⟩
            by_cases e : j = k
            · subst e; exact Q.out
            · exact H.out j h (by omega)
          case measure => simp [intOf]; omega
        · have Q := hideIt (show miB ⟨l[k].kind, l[k].at_, l[k].val⟩ = false by simpa using q)
          clear q
          exact absurd (CM.out k hlt) (by rw [show miB l[k] = false from Q.out]; simp)
      · have I0 : Hid (MidS l ws ps es qs w wr 0 ws ps es qs (.slice aW ws.length cW) (.slice aP ps.length cP) (.slice aS es.length cS) (.slice aQ qs.length cQ)) :=
          ⟨rfl, (hbr.block _ (by omega)).trans V0.out, (hbr.block _ (by omega)).trans V2.out, HD.out.below (below_trans B1.out hbr (by omega)), below_trans B1.out hbr (by omega), by omega⟩
        clear H hbr V0 V2 B1
        go_wp2
        go_loopw [7, 8, 9] (fun i _ _ wq => ∃ k : Nat, k ≤ l.length ∧ i = .int .i64 k ∧ ∃ (W : List Int) (P : List St) (E : List Int) (Q : List Se) (d1 d2 d3 d4 : Option Addr) (f1 f2 f3 f4 : Nat), Hid (MidS l ws ps es qs w wq k W P E Q (.slice d1 W.length f1) (.slice d2 P.length f2) (.slice d3 E.length f3) (.slice d4 Q.length f4))) (fun i _ _ _ => l.length - (intOf i).toNat)
        case atStart => exact ⟨0, by omega, rfl, ws, ps, es, qs, _, _, _, _, _, _, _, _, I0⟩
        case round =>
          obtain ⟨k, hk, rfl, W, P, E, Q, d1, d2, d3, d4, f1, f2, f3, f4, I⟩ := hrel
          clear I0
          have hsz := I.out.size
          by_cases hlt : k < l.length
          · obtain ⟨bL, oL, rfl, hblL, hcellL⟩ := HL.out (by omega)
            obtain ⟨g0, g1, g2⟩ := hcellL k hlt
            have e0 := (I.out.below.cell (p := ⟨bL, oL + k * 3, none⟩) hblL).trans g0
            have e1 := (I.out.below.cell (p := ⟨bL, oL + k * 3 + 1, none⟩) hblL).trans g1
            have e2 := (I.out.below.cell (p := ⟨bL, oL + k * 3 + 2, none⟩) hblL).trans g2
            have k0 : (0 : Int) ≤ (k : Int) := by omega
            have k1 : (k : Int) < (l.length : Int) := by omega
            clear g0 g1 g2 hcellL
            have XO := hideIt (show pmB W P = true ∧ blkB E Q = true by
              have := mr_ok (l.take k) ws ps es qs CP.out.1 CP.out.2 (fun m hm => by
                obtain ⟨j, hj, rfl⟩ := List.getElem_of_mem (List.mem_of_mem_take hm)
                exact CM.out j hj)
              rw [I.out.run] at this
              exact this)
            have XM := hideIt (show miB ⟨l[k].kind, l[k].at_, l[k].val⟩ = true from CM.out k hlt)
            obtain ⟨x0, x1, x2, x3, -, -, -, -⟩ := four_cells I.out.box
            have hWl := (pmB_iff.1 XO.out.1).1
            have hPl := (pmB_iff.1 XO.out.1).2.1
            have hEl := (blkB_iff.1 XO.out.2).1
            have hQl := (blkB_iff.1 XO.out.2).2.1
            have SC := hideIt (fun v w h => specMicroDo_any v ⟨l[k].kind, l[k].at_, l[k].val⟩ W P E Q w h (by omega) (by omega) (by omega) (by omega))
            simp only [show Mi.v ⟨l[k].kind, l[k].at_, l[k].val⟩ = .agg #[.int .i64 l[k].kind, .int .i64 l[k].at_, .int .i64 l[k].val] from rfl] at SC
            clear hWl hPl hEl hQl
            have MD : Hid ((fullB l[k] P Q = true ∧ mdC ⟨l[k].kind, l[k].at_, l[k].val⟩ W P E Q = 7 ∧ mdW ⟨l[k].kind, l[k].at_, l[k].val⟩ W P E Q = W ∧ mdP ⟨l[k].kind, l[k].at_, l[k].val⟩ W P E Q = P ∧ mdE ⟨l[k].kind, l[k].at_, l[k].val⟩ W P E Q = E ∧ mdQ ⟨l[k].kind, l[k].at_, l[k].val⟩ W P E Q = Q) ∨ (fullB l[k] P Q = false ∧ mdC ⟨l[k].kind, l[k].at_, l[k].val⟩ W P E Q = 0 ∧ mdW ⟨l[k].kind, l[k].at_, l[k].val⟩ W P E Q = doW l[k] W P ∧ mdP ⟨l[k].kind, l[k].at_, l[k].val⟩ W P E Q = doP l[k] P ∧ mdE ⟨l[k].kind, l[k].at_, l[k].val⟩ W P E Q = doE l[k] E Q ∧ mdQ ⟨l[k].kind, l[k].at_, l[k].val⟩ W P E Q = doQ l[k] Q)) := by
              rcases md_cases ⟨l[k].kind, l[k].at_, l[k].val⟩ W P E Q with ⟨c, _⟩ | ⟨_, c, _⟩ | ⟨_, _, f, c⟩ | ⟨_, _, f, c⟩
              · rw [XO.out.1, XO.out.2] at c; cases c
              · rw [XM.out] at c; cases c
              · exact .inl ⟨f, c⟩
              · exact .inr ⟨f, c⟩
            have RR := hideIt I.out.rd
            generalize mdC ⟨l[k].kind, l[k].at_, l[k].val⟩ W P E Q = cd at *
            generalize mdW ⟨l[k].kind, l[k].at_, l[k].val⟩ W P E Q = W2 at *
            generalize mdP ⟨l[k].kind, l[k].at_, l[k].val⟩ W P E Q = P2 at *
            generalize mdE ⟨l[k].kind, l[k].at_, l[k].val⟩ W P E Q = E2 at *
            generalize mdQ ⟨l[k].kind, l[k].at_, l[k].val⟩ W P E Q = Q2 at *
            go_wp2
            go_cut [8, 9] (fun s t wx => ∃ (i0 i1 i2 i3 : Option Addr) (j0 j1 j2 j3 bx lo hi : Nat), t = .int .i64 cd ∧ s = .pointer (some ⟨bx, 0, none⟩) ∧ Hid (CutD wr wx (.slice i0 W2.length j0) (.slice i1 P2.length j1) (.slice i2 E2.length j2) (.slice i3 Q2.length j3) W2 P2 E2 Q2 bx lo hi))
            case first =>
              as_aux_lemma =>
                have SK : Hid (∀ w', Below wr.heap.size wr w' → w'.cell? ⟨w.heap.size, 0, none⟩ = some (.slice d1 W.length f1) ∧ w'.cell? ⟨w.heap.size, 1, none⟩ = some (.slice d2 P.length f2) ∧ w'.cell? ⟨w.heap.size, 2, none⟩ = some (.slice d3 E.length f3) ∧ w'.cell? ⟨w.heap.size, 3, none⟩ = some (.slice d4 Q.length f4) ∧ w'.cell? ⟨bL, oL + k * 3, none⟩ = some (.int .i64 l[k].kind) ∧ w'.cell? ⟨bL, oL + k * 3 + 1, none⟩ = some (.int .i64 l[k].at_) ∧ w'.cell? ⟨bL, oL + k * 3 + 2, none⟩ = some (.int .i64 l[k].val)) := fun w' hb' => by
                  obtain ⟨s0, s1, s2, s3, _⟩ := four_cells ((hb'.block w.heap.size (by omega)).trans I.out.box)
                  have hb3 : bL < wr.heap.size := by omega
                  exact ⟨s0, s1, s2, s3, (hb'.cell (p := ⟨bL, oL + k * 3, none⟩) hb3).trans e0, (hb'.cell (p := ⟨bL, oL + k * 3 + 1, none⟩) hb3).trans e1, (hb'.cell (p := ⟨bL, oL + k * 3 + 2, none⟩) hb3).trans e2⟩
                go_region_held3 (fun w' => w'.cell? ⟨w.heap.size, 0, none⟩ = some (.slice d1 W.length f1) ∧ w'.cell? ⟨w.heap.size, 1, none⟩ = some (.slice d2 P.length f2) ∧ w'.cell? ⟨w.heap.size, 2, none⟩ = some (.slice d3 E.length f3) ∧ w'.cell? ⟨w.heap.size, 3, none⟩ = some (.slice d4 Q.length f4) ∧ w'.cell? ⟨bL, oL + k * 3, none⟩ = some (.int .i64 l[k].kind) ∧ w'.cell? ⟨bL, oL + k * 3 + 1, none⟩ = some (.int .i64 l[k].at_) ∧ w'.cell? ⟨bL, oL + k * 3 + 2, none⟩ = some (.int .i64 l[k].val)) (exact SK.out _ (by repeat (first | exact BF.out | exact Below.refl _ _ | refine below_allocD ?_ _ | refine Below.drew ?_ | refine Below.setCell ?_ (by first | exact Nat.le_refl _ | exact BF.out.size) _)))
                  (first
                  | (go_at_call 6; refine (SC.out _ _ (RR.out.below (by repeat (first | exact Below.refl _ _ | refine below_allocD ?_ _ | refine Below.drew ?_)))).mono ?_; rintro e wf ⟨vf, rfl, hrf, hbf⟩; obtain ⟨i0, j0, i1, j1, i2, j2, i3, j3, rfl, -, -⟩ := hrf.rd.form; have RF := hideIt hrf; have BF : Hid (Below wr.heap.size wr wf) := below_trans (b := _) (by repeat (first | exact Below.refl _ _ | refine below_allocD ?_ _ | refine Below.drew ?_)) hbf (Below.size (B := wr.heap.size) (by repeat (first | exact Below.refl _ _ | refine below_allocD ?_ _ | refine Below.drew ?_))); (first | (have VY : Hid (wf.heap[wr.heap.size]? = some (.cells #[.slice none 0 0, .slice none 0 0, .slice none 0 0, .slice none 0 0] 41 (0, 0))) := (hbf.block wr.heap.size (by first | (rw [World.size_alloc]; exact Nat.lt_succ_self _) | (show _ < (World.alloc _ _).heap.size; rw [World.size_alloc]; exact Nat.lt_succ_self _))).trans (at_new rfl); have LT : wr.heap.size < (World.alloc wr (.cells #[.slice none 0 0, .slice none 0 0, .slice none 0 0, .slice none 0 0] 41)).heap.size := (by rw [World.size_alloc]; exact Nat.lt_succ_self _); have GE := Nat.le_refl wr.heap.size; obtain ⟨t0, t1, t2, t3, t4, t5, t6, t7⟩ := four_cells VY.out) | skip); clear hrf hbf))
                all_goals
                  go_wp2_with fail
                  go_meet
                  first
                    | exact ⟨i0, i1, i2, i3, j0, j1, j2, j3, _, _, _, rfl, rfl, CutD.new RF.out (Below.size (B := wr.heap.size) (by repeat (first | exact Below.refl _ _ | refine below_allocD ?_ _ | refine Below.drew ?_))) (Nat.le_refl _) BF.out⟩
                    | exact ⟨i0, i1, i2, i3, j0, j1, j2, j3, _, _, _, rfl, rfl, (CutD.new RF.out (Below.size (B := wr.heap.size) (by repeat (first | exact Below.refl _ _ | refine below_allocD ?_ _ | refine Below.drew ?_))) (Nat.le_refl _) BF.out).drew⟩
                    | exact ⟨i0, i1, i2, i3, j0, j1, j2, j3, _, _, _, rfl, rfl, CutD.old LT RF.out (Below.size (B := wr.heap.size) (by repeat (first | exact Below.refl _ _ | refine below_allocD ?_ _ | refine Below.drew ?_))) (Nat.le_refl _) BF.out GE VY.out⟩
                    | exact ⟨i0, i1, i2, i3, j0, j1, j2, j3, _, _, _, rfl, rfl, (CutD.old LT RF.out (Below.size (B := wr.heap.size) (by repeat (first | exact Below.refl _ _ | refine below_allocD ?_ _ | refine Below.drew ?_))) (Nat.le_refl _) BF.out GE VY.out).drew⟩
            case rest =>
            obtain ⟨i0, i1, i2, i3, j0, j1, j2, j3, bx, lo, hi, rfl, rfl, C⟩ := hcut
            have hbc := C.out.below
            have hlo0 := C.out.lo0
            have hhi1 := C.out.hi1
            have hbx0 := C.out.bx0
            have hbx1 := C.out.bx1
            have hzc := hbc.size
            obtain ⟨p0, p1, p2, p3, -, -, -, -⟩ := four_cells C.out.box
            have DB := hideIt ((hbc.block w.heap.size (by omega)).trans I.out.box)
            have DR := hideIt ((hbc.block (w.heap.size + 1) (by omega)).trans I.out.res)
            obtain ⟨x0, x1, x2, x3, x4, x5, x6, x7⟩ := four_cells DB.out
            obtain ⟨y0, y1, y2, y3, y4, y5, y6, y7⟩ := four_cells DR.out
            have BC := hideIt (below_trans I.out.below hbc (by omega))
            have ROW := hideIt C.out.row
            rcases MD.out with ⟨hf, rfl, rfl, rfl, rfl, rfl⟩ | ⟨hf, rfl, rfl, rfl, rfl, rfl⟩
            · have RUN := hideIt (mr_stop hlt I.out.run hf)
              clear hf MD I C hbc SC
              go_wp2
              refine bodyPost_ret (v := .tuple #[.agg #[.slice i0 W2.length j0, .slice i1 P2.length j1, .slice i2 E2.length j2, .slice i3 Q2.length j3], .int .i64 7]) (by simp [results, Tryd.results14, go_sem, y0, y1, y2, y3]) rfl ?_
              rw [RUN.out]
              simp only
              have O := putR_out wc (w.heap.size + 1) (.slice i0 W2.length j0) (.slice i1 P2.length j1) (.slice i2 E2.length j2) (.slice i3 Q2.length j3)
              have Z := putR_size wc (w.heap.size + 1) (.slice i0 W2.length j0) (.slice i1 P2.length j1) (.slice i2 E2.length j2) (.slice i3 Q2.length j3)
              exact ⟨_, rfl, (ROW.out.outside O (by omega) hhi1).wide (by omega) (Nat.le_trans hhi1 (Nat.le_of_eq Z.symm)), BC.out.trans (O.below (by omega) (by omega))⟩
            · have RUN := hideIt (mr_next hlt I.out.run hf)
              clear hf MD I C hbc SC
              go_wp2
              go_roundw
              case rel =>
                have O := putR_out wc w.heap.size (.slice i0 (doW l[k] W P).length j0) (.slice i1 (doP l[k] P).length j1) (.slice i2 (doE l[k] E Q).length j2) (.slice i3 (doQ l[k] Q).length j3)
                have Z := putR_size wc w.heap.size (.slice i0 (doW l[k] W P).length j0) (.slice i1 (doP l[k] P).length j1) (.slice i2 (doE l[k] E Q).length j2) (.slice i3 (doQ l[k] Q).length j3)
                exact ⟨k + 1, by omega, by go_num, _, _, _, _, i0, i1, i2, i3, j0, j1, j2, j3, RUN.out, putR_boxS DB.out, (O.block _ (by omega) (by omega)).trans DR.out, (ROW.out.outside O (by omega) hhi1).rd, BC.out.trans (O.below (Nat.le_refl _) (by omega)), Nat.lt_of_lt_of_eq (show w.heap.size + 1 < wc.heap.size by omega) Z.symm⟩
              case measure => simp [intOf]; omega
          · have RUN := hideIt (mr_end (by omega) I.out.run)
            obtain ⟨x0, x1, x2, x3, -, -, -, -⟩ := four_cells I.out.box
            have XO := hideIt (show pmB W P = true ∧ blkB E Q = true by
              have := mr_ok (l.take k) ws ps es qs CP.out.1 CP.out.2 (fun m hm => by
                obtain ⟨j, hj, rfl⟩ := List.getElem_of_mem (List.mem_of_mem_take hm)
                exact CM.out j hj)
              rw [I.out.run] at this
              exact this)
            have hWl : W.length ≤ 336 := Nat.le_of_eq (pmB_iff.1 XO.out.1).1
            have hPl := (pmB_iff.1 XO.out.1).2.1
            have hEl : E.length ≤ 32 := Nat.le_of_eq (blkB_iff.1 XO.out.2).1
            have hQl := (blkB_iff.1 XO.out.2).2.1
            go_wp2_with fail
            refine (l04Own_any _ W P E Q _ I.out.rd (by omega) (by omega) (by omega) (by omega)).mono ?_
            rintro e w3 ⟨v3, rfl, hr3, hb3⟩
            obtain ⟨i0, j0, i1, j1, i2, j2, i3, j3, rfl, -, -⟩ := hr3.rd.form
            have hz3 := hb3.size
            obtain ⟨y0, y1, y2, y3, y4, y5, y6, y7⟩ := four_cells ((hb3.block (w.heap.size + 1) (by omega)).trans I.out.res)
            have ROW := hideIt hr3
            have BC := hideIt (below_trans I.out.below hb3 (by omega))
            clear hr3 hb3 x0 x1 x2 x3
            go_wp2
            refine bodyPost_ret (v := .tuple #[.agg #[.slice i0 W.length j0, .slice i1 P.length j1, .slice i2 E.length j2, .slice i3 Q.length j3], .int .i64 0]) (by simp [results, Tryd.results14, go_sem, y0, y1, y2, y3]) rfl ?_
            rw [RUN.out]
            simp only
            have O := putR_out w3 (w.heap.size + 1) (.slice i0 W.length j0) (.slice i1 P.length j1) (.slice i2 E.length j2) (.slice i3 Q.length j3)
            have Z := putR_size w3 (w.heap.size + 1) (.slice i0 W.length j0) (.slice i1 P.length j1) (.slice i2 E.length j2) (.slice i3 Q.length j3)
            exact ⟨_, rfl, (ROW.out.outside O (by omega) (Nat.le_refl _)).wide (by omega) (Nat.le_of_eq Z.symm), BC.out.trans (O.below (by omega) (by omega))⟩
end Go.Proofs.YtenadnlgjobmdakDoor
