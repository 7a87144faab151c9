/- What a crash leaves: by the program, and by the model. -/
import Derived.Test.YtbjcoeimcdodjaaDoorCrashSE
namespace Go.Proofs.YtbjcoeimcdodjaaDoor
open Go.RowKit
def crashCE (ws : List Int) (ps : List Se) (zs : List Int) : Int := if 4096 < zs.length then 2 else if blkB ws ps = true then if keepsB zs = true then 0 else 4 else 1
def crashWE (ws : List Int) (ps : List Se) (zs : List Int) : List Int := if crashCE ws ps zs = 0 then spE (unsNE ps 32) zs ps ws (unsNE ps 32).length else []
theorem crashE_cases (ws : List Int) (ps : List Se) (zs : List Int) :
    (4096 < zs.length ∧ crashCE ws ps zs = 2 ∧ crashWE ws ps zs = []) ∨
    (¬ 4096 < zs.length ∧ blkB ws ps = false ∧ crashCE ws ps zs = 1 ∧ crashWE ws ps zs = []) ∨
    (¬ 4096 < zs.length ∧ blkB ws ps = true ∧ keepsB zs = false ∧ crashCE ws ps zs = 4 ∧ crashWE ws ps zs = []) ∨
    (¬ 4096 < zs.length ∧ blkB ws ps = true ∧ keepsB zs = true ∧ crashCE ws ps zs = 0 ∧ crashWE ws ps zs = spE (unsNE ps 32) zs ps ws (unsNE ps 32).length) := by
  by_cases c1 : 4096 < zs.length
  · have e : crashCE ws ps zs = 2 := by unfold crashCE; rw [if_pos c1]
    exact .inl ⟨c1, e, by unfold crashWE; rw [e]; rfl⟩
  · by_cases c2 : blkB ws ps = true
    · by_cases c3 : keepsB zs = true
      · have e : crashCE ws ps zs = 0 := by unfold crashCE; rw [if_neg c1, if_pos c2, if_pos c3]
        exact .inr (.inr (.inr ⟨c1, c2, c3, e, by unfold crashWE; rw [if_pos e]⟩))
      · have e : crashCE ws ps zs = 4 := by unfold crashCE; rw [if_neg c1, if_pos c2, if_neg c3]
        exact .inr (.inr (.inl ⟨c1, c2, by simpa using c3, e, by unfold crashWE; rw [e]; rfl⟩))
    · have e : crashCE ws ps zs = 1 := by unfold crashCE; rw [if_neg c1, if_neg c2]
      exact .inr (.inl ⟨c1, by simpa using c2, e, by unfold crashWE; rw [e]; rfl⟩)
set_option maxHeartbeats 4000000 in
theorem specBlkCrash_any (v vZ : Value) (ws : List Int) (ps : List Se) (zs : List Int) (w : World) (h : RdBlk w v ws ps) (hz : RdI w vZ zs) (hw : ws.length ≤ 1048576) (hp : ps.length ≤ 1048576) (hzl : zs.length ≤ 1048576) :
    Calls Tryd.prog 13 #[v, vZ] w fun e w' => ∃ v', e = .returned (.tuple #[v', .int .i64 (crashCE ws ps zs)]) ∧ RowBlk w' w.heap.size w'.heap.size v' (crashWE ws ps zs) [] ∧ Below w.heap.size w w' := by
  have HR := hideIt h
  have HZ := hideIt hz
  obtain ⟨vW, vP, rfl, h1, h2⟩ := h
  obtain ⟨aW, cW, rfl, _⟩ := h1.shape
  obtain ⟨aP, cP, rfl, _⟩ := h2.shape
  obtain ⟨aZ, cZ, rfl, _⟩ := hz.shape
  clear h1 h2 hz
  have hb0 : Below w.heap.size w ((w.alloc (.cells #[.slice aW ws.length cW, .slice aP ps.length cP] 26)).alloc (.cells #[.slice none 0 0, .slice none 0 0] 26)) := by
    repeat (refine Below.alloc ?_ (by simp <;> omega) _)
    exact Below.refl _ _
  rcases crashE_cases ws ps zs with ⟨c1, e1, e2⟩ | ⟨c1, c2, e1, e2⟩ | ⟨c1, c2, c3, e1, e2⟩ | ⟨c1, c2, c3, e1, e2⟩
  · rw [e1, e2]
    clear e1 e2
    go_enter Tryd.func13, Tryd.ntmps13
    go_wp2
    refine bodyPost_ret (v := .tuple #[.agg #[.slice none 0 0, .slice none 0 0], .int .i64 2]) (by simp [results, Tryd.results13, go_sem]) rfl ?_
    exact ⟨_, rfl, RowBlk.zero _ _ _, hb0⟩
  · rw [e1, e2]
    clear e1 e2
    go_enter Tryd.func13, Tryd.ntmps13
    go_wp2_with fail
    refine (specBlkOK_any _ ws ps _ (HR.out.below hb0) hw hp).mono ?_
    rintro e w1 ⟨rfl, hb1⟩
    have V1 := (hb1.block (w.heap.size + 1) (by simp)).trans (at_new (by simp))
    obtain ⟨t1, t2, t3, t4⟩ := two_cells V1
    have B1 := hideIt (below_trans hb0 hb1 (by simp <;> omega))
    clear hb0 hb1 V1
    go_wp2
    refine bodyPost_ret (v := .tuple #[.agg #[.slice none 0 0, .slice none 0 0], .int .i64 1]) (by simp [results, Tryd.results13, go_sem, t1, t2]) rfl ?_
    exact ⟨_, rfl, RowBlk.zero _ _ _, (B1.out.setCell (by simp only; omega) _).setCell (by simp only; omega) _⟩
  · rw [e1, e2]
    clear e1 e2
    go_enter Tryd.func13, Tryd.ntmps13
    go_wp2_with fail
    refine (specBlkOK_any _ ws ps _ (HR.out.below hb0) hw hp).mono ?_
    rintro e w1 ⟨rfl, hb1⟩
    have V1 := (hb1.block (w.heap.size + 1) (by simp)).trans (at_new (by simp))
    obtain ⟨t1, t2, t3, t4⟩ := two_cells V1
    have B1 := hideIt (below_trans hb0 hb1 (by simp <;> omega))
    clear hb0 hb1 V1
    go_wp2_with (go_at_call 37; refine (l01Keeps_any _ zs _ (Rd.below HZ.out B1.out) hzl).mono ?_; rintro e w1 ⟨rfl, rfl⟩)
    refine bodyPost_ret (v := .tuple #[.agg #[.slice none 0 0, .slice none 0 0], .int .i64 4]) (by simp [results, Tryd.results13, go_sem, t1, t2]) rfl ?_
    exact ⟨_, rfl, RowBlk.zero _ _ _, (B1.out.setCell (by simp only; omega) _).setCell (by simp only; omega) _⟩
  · rw [e1, e2]
    clear e1 e2
    go_enter Tryd.func13, Tryd.ntmps13
    go_wp2_with fail
    refine (specBlkOK_any _ ws ps _ (HR.out.below hb0) hw hp).mono ?_
    rintro e w1 ⟨rfl, hb1⟩
    have hz1 : w.heap.size + 2 ≤ w1.heap.size := by have := hb1.size; simp at this; omega
    have V0 := (hb1.block w.heap.size (by simp <;> omega)).trans (at_old (at_new rfl))
    have V1 := (hb1.block (w.heap.size + 1) (by simp)).trans (at_new (by simp))
    obtain ⟨x1, x2, x3, x4⟩ := two_cells V0
    have B1 := hideIt (below_trans hb0 hb1 (by simp <;> omega))
    have VH := hideIt V1
    clear hb0 hb1 V0 V1
    go_wp2_with (go_at_call 37; refine (l01Keeps_any _ zs _ (Rd.below HZ.out B1.out) hzl).mono ?_; rintro e w1 ⟨rfl, rfl⟩)
    refine (l02Crash_any _ _ ws ps zs _ (HR.out.below B1.out) (Rd.below HZ.out B1.out) hw hp hzl c2 c3).mono ?_
    rintro e w2 ⟨v2, rfl, hr2, hb2⟩
    obtain ⟨vW2, vP2, rfl, hI2, hS2⟩ := hr2.rd
    obtain ⟨aW2, cW2, rfl⟩ := hI2.form (n := ws.length) (spE_len _ _ _ _ _)
    obtain ⟨aP2, cP2, rfl⟩ := hS2.form (n := 0) rfl
    have hz2 := hb2.size
    obtain ⟨t5, t6, t7, t8⟩ := two_cells ((hb2.block _ hz1).trans VH.out)
    have B2 := hideIt (below_trans B1.out hb2 (by omega))
    have R2 := hideIt hr2
    clear hr2 hb2 hI2 hS2
    go_wp2
    refine bodyPost_ret (v := .tuple #[.agg #[.slice aW2 ws.length cW2, .slice aP2 0 cP2], .int .i64 0]) (by simp [results, Tryd.results13, go_sem, t5, t6]) rfl ?_
    exact ⟨_, rfl, ((R2.out.setCell (by simp only; omega) _).setCell (by simp only; omega) _).wide (by omega) (by simp), (B2.out.setCell (by simp only; omega) _).setCell (by simp only; omega) _⟩
end Go.Proofs.YtbjcoeimcdodjaaDoor
