/- A line flushed: by the program, and by the model. -/
import Derived.Test.YtbjalmiheipjjaaDoorZAK
namespace Go.Proofs.YtbjalmiheipjjaaDoor
open Go.RowKit
def flushWs (ws : List Int) (ps : List St) (at_ : Int) : List Int := if askC ws ps at_ = 0 then ws else []
def flushPs (ws : List Int) (ps : List St) (at_ : Int) : List St := if askC ws ps at_ = 0 then ps.map (fl1 at_) else []
theorem flush_not {ws : List Int} {ps : List St} {at_ : Int} (h : ¬ askC ws ps at_ = 0) : flushWs ws ps at_ = [] ∧ flushPs ws ps at_ = [] := by
  unfold flushWs flushPs
  rw [if_neg h, if_neg h]
  exact ⟨rfl, rfl⟩
theorem flush_ok {ws : List Int} {ps : List St} {at_ : Int} (h : askC ws ps at_ = 0) : flushWs ws ps at_ = ws ∧ flushPs ws ps at_ = ps.map (fl1 at_) := by
  unfold flushWs flushPs
  rw [if_pos h, if_pos h]
  exact ⟨rfl, rfl⟩
set_option maxHeartbeats 4000000 in
theorem implPmFlush_any (v : Value) (ws : List Int) (ps : List St) (at_ : Int) (w : World) (h : RdPm w v ws ps) (hw : ws.length ≤ 1048576) (hp : ps.length ≤ 1048576) :
    Calls Tryd.prog 51 #[v, .int .i64 at_] w fun e w' => ∃ v', e = .returned (.tuple #[v', .int .i64 (askC ws ps at_)]) ∧ RowPm w' w.heap.size w'.heap.size v' (flushWs ws ps at_) (flushPs ws ps at_) ∧ Below w.heap.size w w' := by
  have HR := hideIt h
  obtain ⟨vW, vP, rfl, h1, h2⟩ := h
  obtain ⟨aW, cW, rfl, _⟩ := h1.shape
  obtain ⟨aP, cP, rfl, _⟩ := h2.shape
  clear h1 h2
  have hb0 : Below w.heap.size w ((w.alloc (.cells #[.slice aW ws.length cW, .slice aP ps.length cP] 31)).alloc (.cells #[.slice none 0 0, .slice none 0 0] 31)) := by
    repeat (refine Below.alloc ?_ (by simp <;> omega) _)
    exact Below.refl _ _
  rcases askC_cases ws ps at_ with hc | ⟨hc, hok, k, rfl, hk, hkl⟩
  · obtain ⟨e2, e3⟩ := flush_not (ws := ws) (ps := ps) (at_ := at_) (by rcases hc with hc | hc <;> simp [hc])
    rw [e2, e3]
    clear e2 e3
    have hne : (askC ws ps at_ != 0) = true := by rcases hc with hc | hc <;> simp [hc]
    clear hc
    go_enter Tryd.func51, Tryd.ntmps51
    go_wp2_with fail
    refine (placeFault_any _ ws ps _ _ (HR.out.below hb0) hw hp).mono ?_
    rintro e w1 ⟨rfl, hb1⟩
    have V1 := (hb1.block (w.heap.size + 1) (by simp)).trans (at_new (by simp))
    obtain ⟨t1, t2, t3, t4⟩ := two_cells V1
    have B1 := hideIt (below_trans hb0 hb1 (by simp <;> omega))
    clear hb0 hb1 V1
    go_wp2
    refine bodyPost_ret (v := .tuple #[.agg #[.slice none 0 0, .slice none 0 0], .int .i64 (askC ws ps at_)]) (by simp [results, Tryd.results51, go_sem, t1, t2]) rfl ?_
    exact ⟨_, rfl, RowPm.zero _ _ _, (B1.out.setCell (by simp only; omega) _).setCell (by simp only; omega) _⟩
  · obtain ⟨e2, e3⟩ := flush_ok hc
    rw [e2, e3]
    clear e2 e3
    have C := hideIt hc
    have OK := hideIt (pmB_at hok)
    clear hc hok
    go_enter Tryd.func51, Tryd.ntmps51
    go_wp2_with fail
    refine (placeFault_any _ ws ps _ _ (HR.out.below hb0) hw hp).mono ?_
    rw [C.out]
    rintro e w1 ⟨rfl, hb1⟩
    have hz1 : w.heap.size + 2 ≤ w1.heap.size := by have := hb1.size; simp at this; omega
    have V0 := (hb1.block w.heap.size (by simp <;> omega)).trans (at_old (at_new rfl))
    have V1 := (hb1.block (w.heap.size + 1) (by simp)).trans (at_new (by simp))
    obtain ⟨x1, x2, x3, x4⟩ := two_cells V0
    have B1 := hideIt (below_trans hb0 hb1 (by simp <;> omega))
    have VH := hideIt V1
    clear hb0 hb1 V0 V1
    go_wp2_with fail
    refine (copyPm_any _ ws ps _ (HR.out.below B1.out) (by omega) (by omega)).mono ?_
    rintro e w2 ⟨v2, rfl, hr2, hb2⟩
    obtain ⟨vW2, vP2, rfl, hI2, hS2⟩ := hr2
    obtain ⟨aW2, cW2, rfl⟩ := RdI.form hI2.rd rfl
    obtain ⟨aP2, cP2, rfl⟩ := RdS.form hS2.rd rfl
    have hz2 := hb2.size
    have B2 := hideIt ((below_trans B1.out hb2 (by omega)).alloc (by omega) (.cells #[.slice aW2 ws.length cW2, .slice aP2 ps.length cP2] 31))
    have V2 := hideIt (at_old (o := .cells #[.slice aW2 ws.length cW2, .slice aP2 ps.length cP2] 31) ((hb2.block _ hz1).trans VH.out))
    have bb : Below w2.heap.size w2 (w2.alloc (.cells #[.slice aW2 ws.length cW2, .slice aP2 ps.length cP2] 31)) := (Below.refl _ _).alloc (Nat.le_refl _) _
    have RI := hideIt (hI2.below bb (Nat.le_refl _))
    have RS := hideIt (hS2.below bb (Nat.le_refl _))
    have V7 : Hid ((w2.alloc (.cells #[.slice aW2 ws.length cW2, .slice aP2 ps.length cP2] 31)).heap[w2.heap.size]? = some (.cells #[.slice aW2 ws.length cW2, .slice aP2 ps.length cP2] 31 (0, 0))) := at_new rfl
    clear hb2 hI2 hS2 bb x1 x2 x3 x4
    go_wp2
    go_loopw [8, 21] (fun _ i wr => ∃ m : Nat, m ≤ ps.length ∧ i = .int .i64 m ∧ Row wr 97 3 w1.heap.size w2.heap.size (.slice aP2 ps.length cP2) ps.length (sts (mix (k : Int) ps m)) ∧ Row wr 3 1 w1.heap.size w2.heap.size (.slice aW2 ws.length cW2) ws.length (ints ws) ∧ (wr.heap[w2.heap.size]? = some (.cells #[.slice aW2 ws.length cW2, .slice aP2 ps.length cP2] 31 (0, 0)) ∧ wr.heap[w.heap.size + 1]? = some (.cells #[.slice none 0 0, .slice none 0 0] 31 (0, 0))) ∧ Below w.heap.size w wr ∧ w2.heap.size + 1 ≤ wr.heap.size) (fun _ i _ => ps.length - (intOf i).toNat)
    case atStart => exact ⟨0, by omega, rfl, by rw [mix_zero]; exact RS.out, RI.out, ⟨V7.out, V2.out⟩, B2.out, by simp⟩
    case round =>
      obtain ⟨m, hm, rfl, hrow, hint, hv, hb, hz⟩ := hrel
      obtain ⟨y1, y2, y3, y4⟩ := two_cells hv.1
      by_cases hlt : m < ps.length
      · have hl := mix_len (k : Int) ps m hm
        obtain ⟨_, ao', cap', e', _, hc⟩ := hrow.rd
        cases e'
        obtain ⟨b, o, rfl, hbl, _⟩ := hc (by omega)
        obtain ⟨rfl, hb1, hb2, _, hfr, hcl⟩ := hrow.at
        have hml : m < (mix (k : Int) ps m).length := by omega
        have e0 := (hcl (m * 3) (by omega)).trans (sts_at0 _ m hml)
        have e2 := (hcl (m * 3 + 2) (by omega)).trans (sts_at2 _ m hml)
        rw [mix_at _ _ _ hlt hml] at e0 e2
        have f2 := hfr (m * 3 + 2)
        obtain ⟨q0, q1⟩ := OK.out m hlt
        have ST := hideIt (hrow.stored (m * 3 + 2) (.bool true))
        have IT := hideIt (hint.apart hrow (by decide) (World.ownsRow.stored hrow.1 (m * 3 + 2) (.bool true)).2)
        have BH2 := hideIt (hb.setCell (p := ⟨b, m * 3 + 2, none⟩) (by simp only; omega) (.bool true))
        have VH2 := hideIt (And.intro ((Below.heap_setCell wr ⟨b, m * 3 + 2, none⟩ (.bool true) w2.heap.size (by simp only; omega)).trans hv.1) ((Below.heap_setCell wr ⟨b, m * 3 + 2, none⟩ (.bool true) (w.heap.size + 1) (by simp only; omega)).trans hv.2))
        have RM := hideIt hrow
        have IM := hideIt hint
        have VM := hideIt hv
        clear hrow hint hc hfr hcl hv hl
        by_cases c : ps[m].at_ / 8 = (k : Int) / 8
        · have c' : (ps[m].at_ / 8 == (k : Int) / 8) = true := by simpa using c
          have E := hideIt (mix_hit hlt c)
          clear c
          go_wp2
          go_roundw
          case rel => exact ⟨m + 1, by omega, by go_num, E.out ▸ ST.out, IT.out, VH2.out, BH2.out, by simp; omega⟩
          case measure => simp [intOf]; omega
        · have c' : (ps[m].at_ / 8 == (k : Int) / 8) = false := by simpa using c
          have E := hideIt (mix_miss hlt c)
          clear c
          go_wp2
          go_roundw
          case rel => exact ⟨m + 1, by omega, by go_num, E.out ▸ RM.out, IM.out, VM.out, hb, hz⟩
          case measure => simp [intOf]; omega
      · have e : m = ps.length := by omega
        subst e
        obtain ⟨t1, t2, t3, t4⟩ := two_cells hv.2
        have RM := hideIt hrow
        have IM := hideIt hint
        clear hrow hint hv
        go_wp2
        rw [C.out]
        refine bodyPost_ret (v := .tuple #[.agg #[.slice aW2 ws.length cW2, .slice aP2 ps.length cP2], .int .i64 0]) (by simp [results, Tryd.results51, go_sem, t1, t2]) rfl ?_
        have hrow : RowPm wr w1.heap.size w2.heap.size (.agg #[.slice aW2 ws.length cW2, .slice aP2 ps.length cP2]) ws (ps.map (fl1 (k : Int))) := by
          refine ⟨_, _, rfl, IM.out, ?_⟩
          rw [List.length_map, ← mix_all]
          exact RM.out
        exact ⟨_, rfl, ((hrow.setCell (by simp only; omega) _).setCell (by simp only; omega) _).wide (by omega) (by simp; omega), (hb.setCell (by simp only; omega) _).setCell (by simp only; omega) _⟩
end Go.Proofs.YtbjalmiheipjjaaDoor
