/- A memory, drawn from bytes. -/
import Derived.Test.YtenadnlgjobmdaaDrawP
namespace Go.Proofs.Ytenadnlgjobmdaa
open Go.RowKit

set_option maxRecDepth 100000 in
set_option maxHeartbeats 2000000 in
theorem pmOf_any (v : Value) (bs : List Int) (w : World) (h : RdB w v bs) (hl : bs.length ≤ 1048576) :
    Calls Try.prog 7 #[v] w fun e w' => ∃ v' ws ps, e = .returned v' ∧ PmP ws ps 29 ∧ RowPm w' w.heap.size w'.heap.size v' ws ps ∧ Below w.heap.size w w' := by
  have H := hideIt h
  obtain ⟨aC, cC, rfl, _⟩ := h.shape
  have B0 := hideIt ((Below.refl w.heap.size w).alloc (Nat.le_refl _) (.cells #[.slice none 0 0, .slice none 0 0] 26))
  clear h
  go_enter Try.func7, Try.ntmps7
  go_wp2_with fail
  refine (l00Source_any _ bs _ (H.out.below B0.out) hl).mono ?_
  rintro e w1 ⟨rfl, S, hb⟩
  rw [World.size_alloc] at S
  have S1 := hideIt S
  have B1 := hideIt hb
  clear S hb
  go_wp2_with fail
  refine (srcPm_any _ w1 _ 0 _ bs S1.out.src (by omega)).mono ?_
  rintro e w2 ⟨v', ws, ps, rfl, hp, hr, ho⟩
  have hl := hp.len
  have hz1 := B1.out.size
  simp only [World.size_alloc] at hz1
  have hr' := hr
  obtain ⟨vW', vP', rfl, hI, hS⟩ := hr.rd
  obtain ⟨aW', cW', rfl⟩ := RdI.form hI hl
  obtain ⟨aP', cP', rfl⟩ := RdS.form hS rfl
  have hz2 := ho.size
  obtain ⟨z1, z2, z3, z4⟩ := two_cells ((ho.block w.heap.size (by omega) (.inl (by simp))).trans ((B1.out.block w.heap.size (by simp)).trans (at_new rfl)))
  have B2 := hideIt ((B0.out.trans (B1.out.mono (by simp))).trans (ho.below (B := w.heap.size) (by simp) (by omega)))
  have HR := hideIt hr'
  clear hr hr' ho hI hS
  go_wp2
  refine bodyPost_ret (v := .agg #[.slice aW' 336 cW', .slice aP' ps.length cP']) (by simp [results, Try.results7, go_sem, z1, z2]) rfl ?_
  exact ⟨_, ws, ps, rfl, hp, ((HR.out.setCell (a := ⟨w.heap.size, 0, none⟩) (by simp only; omega) _).setCell (a := ⟨w.heap.size, 1, none⟩) (by simp only; omega) _).wide (by omega) (by simp [World.setCell]), (B2.out.setCell (by simp only; omega) _).setCell (by simp only; omega) _⟩
end Go.Proofs.Ytenadnlgjobmdaa
