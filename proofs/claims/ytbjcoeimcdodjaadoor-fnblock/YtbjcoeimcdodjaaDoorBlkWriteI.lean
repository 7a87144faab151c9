/- A store more: by the program. -/
import Derived.Test.YtbjcoeimcdodjaaDoorBlkWrite
import Derived.Test.YtbjcoeimcdodjaaDoorBlkCopy
namespace Go.Proofs.YtbjcoeimcdodjaaDoor
open Go.RowKit
set_option maxHeartbeats 4000000 in
theorem implBlkWrite_any (v : Value) (ws : List Int) (ps : List Se) (at_ x : Int) (w : World) (h : RdBlk w v ws ps) (hw : ws.length ≤ 1048576) (hp : ps.length ≤ 1048576) :
    Calls Tryd.prog 8 #[v, .int .i64 at_, .int .i64 x] w fun e w' => ∃ v', e = .returned (.tuple #[v', .int .i64 (writeC ws ps at_ x)]) ∧ RowBlk w' w.heap.size w'.heap.size v' (writeWs ws ps at_ x) (writePs ws ps at_ x) ∧ Below w.heap.size w w' := by
  have HR := hideIt h
  obtain ⟨vW, vP, rfl, h1, h2⟩ := h
  obtain ⟨aW, cW, rfl, _⟩ := h1.shape
  obtain ⟨aP, cP, rfl, _⟩ := h2.shape
  clear h1 h2
  have hb0 : Below w.heap.size w ((w.alloc (.cells #[.slice aW ws.length cW, .slice aP ps.length cP] 26)).alloc (.cells #[.slice none 0 0, .slice none 0 0] 26)) := by
    repeat (refine Below.alloc ?_ (by simp <;> omega) _)
    exact Below.refl _ _
  rcases write_cases ws ps at_ x with ⟨hc, e1, e2, e3⟩ | ⟨hc, hx, e1, e2, e3⟩ | ⟨hc, hx, hl, e1, e2, e3⟩ | ⟨hc, hx, hl, e1, e2, e3⟩
  · rw [e1, e2, e3]
    clear e1 e2 e3
    have hne : (askE ws ps at_ != 0) = true := by rcases hc with hc | hc <;> simp [hc]
    clear hc
    go_enter Tryd.func8, Tryd.ntmps8
    go_wp2_with fail
    refine (sectorFault_any _ ws ps _ _ (HR.out.below hb0) hw hp).mono ?_
    rintro e w1 ⟨rfl, hb1⟩
    have V1 := (hb1.block (w.heap.size + 1) (by simp)).trans (at_new (by simp))
    obtain ⟨t1, t2, t3, t4⟩ := two_cells V1
    have B1 := hideIt (below_trans hb0 hb1 (by simp <;> omega))
    clear hb0 hb1 V1
    go_wp2
    refine bodyPost_ret (v := .tuple #[.agg #[.slice none 0 0, .slice none 0 0], .int .i64 (askE ws ps at_)]) (by simp [results, Tryd.results8, go_sem, t1, t2]) rfl ?_
    exact ⟨_, rfl, RowBlk.zero _ _ _, (B1.out.setCell (by simp only; omega) _).setCell (by simp only; omega) _⟩
  · rw [e1, e2, e3]
    clear e1 e2 e3
    have C := hideIt hc
    clear hc
    go_enter Tryd.func8, Tryd.ntmps8
    go_wp2_with fail
    refine (sectorFault_any _ ws ps _ _ (HR.out.below hb0) hw hp).mono ?_
    rw [C.out]
    rintro e w1 ⟨rfl, hb1⟩
    have hz1 : w.heap.size + 2 ≤ w1.heap.size := by have := hb1.size; simp at this; omega
    have V0 := (hb1.block w.heap.size (by simp <;> omega)).trans (at_old (at_new rfl))
    have V1 := (hb1.block (w.heap.size + 1) (by simp)).trans (at_new (by simp))
    obtain ⟨x1, x2, x3, x4⟩ := two_cells V0
    obtain ⟨t1, t2, t3, t4⟩ := two_cells V1
    have B1 := hideIt (below_trans hb0 hb1 (by simp <;> omega))
    have VH := hideIt (And.intro V0 V1)
    clear hb0 hb1 V0 V1
    go_wp2_with (go_at_call 31; refine (isWord_any _ _).mono ?_; rintro e w1 ⟨rfl, rfl⟩)
    refine bodyPost_ret (v := .tuple #[.agg #[.slice none 0 0, .slice none 0 0], .int .i64 4]) (by simp [results, Tryd.results8, go_sem, t1, t2]) rfl ?_
    exact ⟨_, rfl, RowBlk.zero _ _ _, (B1.out.setCell (by simp only; omega) _).setCell (by simp only; omega) _⟩
  · rw [e1, e2, e3]
    clear e1 e2 e3
    have C := hideIt hc
    have hl' : ((ps.length : Int) == 400) = true := by simp [hl]
    clear hc hl
    go_enter Tryd.func8, Tryd.ntmps8
    go_wp2_with fail
    refine (sectorFault_any _ ws ps _ _ (HR.out.below hb0) hw hp).mono ?_
    rw [C.out]
    rintro e w1 ⟨rfl, hb1⟩
    have hz1 : w.heap.size + 2 ≤ w1.heap.size := by have := hb1.size; simp at this; omega
    have V0 := (hb1.block w.heap.size (by simp <;> omega)).trans (at_old (at_new rfl))
    have V1 := (hb1.block (w.heap.size + 1) (by simp)).trans (at_new (by simp))
    obtain ⟨x1, x2, x3, x4⟩ := two_cells V0
    have B1 := hideIt (below_trans hb0 hb1 (by simp <;> omega))
    have VH := hideIt (And.intro V0 V1)
    clear hb0 hb1 V0 V1
    go_wp2_with (go_at_call 31; refine (isWord_any _ _).mono ?_; rintro e w1 ⟨rfl, rfl⟩)
    refine (copyBlk_any _ ws ps _ (HR.out.below B1.out) (by omega) (by omega)).mono ?_
    rintro e w2 ⟨v2, rfl, hr2, hb2⟩
    obtain ⟨vW2, vP2, rfl, hI2, hS2⟩ := hr2
    obtain ⟨aW2, cW2, rfl⟩ := RdI.form hI2.rd rfl
    obtain ⟨aP2, cP2, rfl⟩ := RdE.form hS2.rd rfl
    have hz2 := hb2.size
    have B2 := hideIt (below_trans B1.out hb2 (by omega))
    have V2 := hideIt ((hb2.block _ hz1).trans VH.out.2)
    have RI := hideIt hI2
    have RS := hideIt hS2
    clear hb2 hI2 hS2 x1 x2 x3 x4
    obtain ⟨t5, t6, t7, t8⟩ := two_cells (at_old (o := .cells #[.slice aW2 ws.length cW2, .slice aP2 ps.length cP2] 26) V2.out)
    go_wp2
    refine bodyPost_ret (v := .tuple #[.agg #[.slice aW2 ws.length cW2, .slice aP2 ps.length cP2], .int .i64 7]) (by simp [results, Tryd.results8, go_sem, t5, t6]) rfl ?_
    have hrow : RowBlk w2 w1.heap.size w2.heap.size (.agg #[.slice aW2 ws.length cW2, .slice aP2 ps.length cP2]) ws ps := ⟨_, _, rfl, RI.out.z, RS.out⟩
    exact ⟨_, rfl, (((hrow.alloc (Nat.le_refl _) _).setCell (by simp only; omega) _).setCell (by simp only; omega) _).wide (by omega) (by simp), ((B2.out.alloc (by omega) _).setCell (by simp only; omega) _).setCell (by simp only; omega) _⟩
  · rw [e1, e2, e3]
    clear e1 e2 e3
    have C := hideIt hc
    have hl' : ((ps.length : Int) == 400) = false := by simp; omega
    clear hc hl
    go_enter Tryd.func8, Tryd.ntmps8
    go_wp2_with fail
    refine (sectorFault_any _ ws ps _ _ (HR.out.below hb0) hw hp).mono ?_
    rw [C.out]
    rintro e w1 ⟨rfl, hb1⟩
    have hz1 : w.heap.size + 2 ≤ w1.heap.size := by have := hb1.size; simp at this; omega
    have V0 := (hb1.block w.heap.size (by simp <;> omega)).trans (at_old (at_new rfl))
    have V1 := (hb1.block (w.heap.size + 1) (by simp)).trans (at_new (by simp))
    obtain ⟨x1, x2, x3, x4⟩ := two_cells V0
    have B1 := hideIt (below_trans hb0 hb1 (by simp <;> omega))
    have VH := hideIt (And.intro V0 V1)
    clear hb0 hb1 V0 V1
    go_wp2_with (go_at_call 31; refine (isWord_any _ _).mono ?_; rintro e w1 ⟨rfl, rfl⟩)
    refine (copyBlk_any _ ws ps _ (HR.out.below B1.out) (by omega) (by omega)).mono ?_
    rintro e w2 ⟨v2, rfl, hr2, hb2⟩
    obtain ⟨vW2, vP2, rfl, hI2, hS2⟩ := hr2
    obtain ⟨aW2, cW2, rfl⟩ := RdI.form hI2.rd rfl
    obtain ⟨aP2, cP2, rfl⟩ := RdE.form hS2.rd rfl
    have hz2 := hb2.size
    have B2 := hideIt (below_trans B1.out hb2 (by omega))
    have V2 := hideIt ((hb2.block _ hz1).trans VH.out.2)
    have RI := hideIt hI2
    have RS := hideIt hS2
    clear hb2 hI2 hS2 x1 x2 x3 x4
    have V9 : Hid (((w2.alloc (.cells #[.slice aW2 ws.length cW2, .slice aP2 ps.length cP2] 26)).alloc (.cells #[.int .i64 at_, .int .i64 x] 59)).heap[w2.heap.size]? = some (.cells #[.slice aW2 ws.length cW2, .slice aP2 ps.length cP2] 26 (0, 0))) := at_old (at_new rfl)
    have V3 := hideIt (at_old (o := .cells #[.int .i64 at_, .int .i64 x] 59) (at_old (o := .cells #[.slice aW2 ws.length cW2, .slice aP2 ps.length cP2] 26) V2.out))
    have B3 := hideIt ((B2.out.alloc (by omega) (.cells #[.slice aW2 ws.length cW2, .slice aP2 ps.length cP2] 26)).alloc (by simp; omega) (.cells #[.int .i64 at_, .int .i64 x] 59))
    have bb : Below w2.heap.size w2 ((w2.alloc (.cells #[.slice aW2 ws.length cW2, .slice aP2 ps.length cP2] 26)).alloc (.cells #[.int .i64 at_, .int .i64 x] 59)) := by
      repeat (refine Below.alloc ?_ (by simp <;> omega) _)
      exact Below.refl _ _
    have RI3 := hideIt (RI.out.below bb (Nat.le_refl _))
    have RS3 := hideIt (RS.out.below bb (Nat.le_refl _))
    have hr2 : Rd ((w2.alloc (.cells #[.slice aW2 ws.length cW2, .slice aP2 ps.length cP2] 26)).alloc (.cells #[.int .i64 at_, .int .i64 x] 59)) 2 (.slice (some ⟨w2.heap.size + 1, 0, none⟩) 1 1) 1 (Se.cells ⟨at_, x⟩) := by
      refine ⟨rfl, _, _, rfl, ⟨Nat.le_refl _, fun e => by cases e⟩, fun _ => ⟨w2.heap.size + 1, 0, rfl, by simp, fun j hj => ?_⟩⟩
      obtain ⟨e0, e1, -, -⟩ := two_cells (at_new (w := w2.alloc (.cells #[.slice aW2 ws.length cW2, .slice aP2 ps.length cP2] 26)) (o := .cells #[.int .i64 at_, .int .i64 x] 59) (k := w2.heap.size + 1) (by simp))
      rw [Nat.zero_add]
      rcases (show j = 0 ∨ j = 1 from by omega) with rfl | rfl
      · exact e0
      · exact e1
    have HR2 := hideIt hr2
    clear hr2 bb
    go_wp2_with (at_builtin; refine wpList_append_rd _ rfl (.tmp 29) (.tmp 33) 24 rfl w1.heap.size 59 (.agg #[.int .i64 0, .int .i64 0]) 2 16 Tryd.underlying24 infoSec rfl (by decide) _ ps.length (ses ps) rfl RS3.out.1 _ 1 (Se.cells ⟨at_, x⟩) rfl HR2.out (fun u hu => by simp [Se.cells] at hu; rcases hu with rfl | rfl <;> rfl) (by simp [maxLen]; omega) (by omega) (by simp; omega) ?_)
    intro v3 w3 hown3 hgr3
    have hr3 : Row w3 59 2 w1.heap.size w3.heap.size v3 (ps ++ [(⟨at_, x⟩ : Se)]).length (ses (ps ++ [⟨at_, x⟩])) := by
      rw [ses_snoc, List.length_append]
      exact own_block hown3
    obtain ⟨aP3, cP3, rfl⟩ := RdE.form hr3.rd (n := ps.length + 1) (by simp)
    have hz3 : w2.heap.size + 2 ≤ w3.heap.size := by have := hgr3.size; simp at this; omega
    have hne : ∀ b, (b < w1.heap.size ∨ w2.heap.size ≤ b) → ¬ some b = (Value.slice aP2 ps.length cP2).ownBlock := by
      intro b hb e
      have h1 := (RS3.out.1.lt b e.symm).1
      have h2 := RS3.out.2 b e.symm
      omega
    have W0 := (hgr3.block w2.heap.size (by simp <;> omega) (hne _ (.inr (Nat.le_refl _)))).trans V9.out
    have W1 := (hgr3.block (w.heap.size + 1) (by simp <;> omega) (hne _ (.inl (by omega)))).trans V3.out
    have N4 := hideIt (hr3.ne_type W0 (by decide))
    have RI4 := hideIt (RI3.out.apart RS3.out (by decide) hgr3)
    have RS4 := hideIt hr3
    have B4 := hideIt (B3.out.grown hgr3 (by simp <;> omega) (fun k hk => by have := (RS3.out.1.lt k hk).1; omega))
    obtain ⟨x5, x6, x7, x8⟩ := two_cells W0
    obtain ⟨t5, t6, t7, t8⟩ := two_cells W1
    clear hown3 hgr3 hr3 W0 W1
    go_wp2
    refine bodyPost_ret (v := .tuple #[.agg #[.slice aW2 ws.length cW2, .slice aP3 (ps.length + 1) cP3], .int .i64 0]) (by simp [results, Tryd.results8, go_sem, t5, t6]) rfl ?_
    refine ⟨_, rfl, ⟨_, _, rfl, Row.z ?_, ?_⟩, ((B4.out.setCell (by simp only; omega) _).setCell (by simp only; omega) _).setCell (by simp only; omega) _⟩
    · refine (RI4.out.same fun b h1 h2 => ?_).wide (by omega) (by simp; omega)
      rw [Below.heap_setCell _ _ _ _ (by simp only; omega), Below.heap_setCell _ _ _ _ (by simp only; omega), Below.heap_setCell _ _ _ _ (by simp only; omega)]
    · refine Row.wide (((RS4.out.setOther (a := ⟨w2.heap.size, 1, none⟩) N4.out (.slice aP3 (ps.length + 1) cP3)).same fun b h1 h2 => ?_)) (by omega) (by simp)
      rw [Below.heap_setCell _ _ _ _ (by simp only; omega), Below.heap_setCell _ _ _ _ (by simp only; omega)]
end Go.Proofs.YtbjcoeimcdodjaaDoor
