/- Several texts laid together: DrawQ, OpenA, AtE. -/
import Derived.Test.YtbjcoeimcdodjaaDrawP
import Derived.Test.YtbjcoeimcdodjaaIntS
import Derived.ProofKit
import Derived.OpenShut
import Derived.ShutString
import Derived.ChangeOld
import Derived.Lib.SmallJoins
import Derived.Deep.Slices
import Derived.Deep.Strs
import Derived.Test.YtbjcoeimcdodjaaDraw
namespace Go.Proofs.Ytbjcoeimcdodjaa
open Go.RowKit
set_option maxRecDepth 100000 in
set_option maxHeartbeats 2000000 in
theorem pmOf_any (v : Value) (bs : List Int) (w : World) (h : RdB w v bs) (hl : bs.length ≤ 1048576) :
    Calls Try.prog 6 #[v] w fun e w' => ∃ v' ws ps, e = .returned v' ∧ PmP ws ps 29 ∧ RowPm w' w.heap.size w'.heap.size v' ws ps ∧ Below w.heap.size w w' := by
  have H := hideIt h
  obtain ⟨aC, cC, rfl, _⟩ := h.shape
  have B0 := hideIt ((Below.refl w.heap.size w).alloc (Nat.le_refl _) (.cells #[.slice none 0 0, .slice none 0 0] 26))
  clear h
  go_enter Try.func6, Try.ntmps6
  go_wp2_with fail
  refine (l00Source_any _ bs _ (H.out.below B0.out) hl).mono ?_
  rintro e w1 ⟨rfl, S, hb⟩
  rw [World.size_alloc] at S
  have S1 := hideIt S
  have B1 := hideIt hb
  clear S hb
  go_wp2_with fail
  refine (srcPm_any _ w1 _ 0 _ bs S1.out.src (by omega)).mono ?_
  rintro e w2 ⟨v', ws, ps, rfl, hp, hr, ho⟩
  have hl := hp.len
  have hz1 := B1.out.size
  simp only [World.size_alloc] at hz1
  have hr' := hr
  obtain ⟨vW', vP', rfl, hI, hS⟩ := hr.rd
  obtain ⟨aW', cW', rfl⟩ := RdI.form hI hl
  obtain ⟨aP', cP', rfl⟩ := RdS.form hS rfl
  have hz2 := ho.size
  obtain ⟨z1, z2, z3, z4⟩ := two_cells ((ho.block w.heap.size (by omega) (.inl (by simp))).trans ((B1.out.block w.heap.size (by simp)).trans (at_new rfl)))
  have B2 := hideIt ((B0.out.trans (B1.out.mono (by simp))).trans (ho.below (B := w.heap.size) (by simp) (by omega)))
  have HR := hideIt hr'
  clear hr hr' ho hI hS
  go_wp2
  refine bodyPost_ret (v := .agg #[.slice aW' 336 cW', .slice aP' ps.length cP']) (by simp [results, Try.results6, go_sem, z1, z2]) rfl ?_
  exact ⟨_, ws, ps, rfl, hp, ((HR.out.setCell (a := ⟨w.heap.size, 0, none⟩) (by simp only; omega) _).setCell (a := ⟨w.heap.size, 1, none⟩) (by simp only; omega) _).wide (by omega) (by simp [World.setCell]), (B2.out.setCell (by simp only; omega) _).setCell (by simp only; omega) _⟩
end Go.Proofs.Ytbjcoeimcdodjaa

namespace Go.Proofs.Ytbjcoeimcdodjaa
open Go.ChangeShapes Go.WideShapes Go.ChangeAt Go.RowKit Go.Joins
theorem own : ownKnob Try.prog.godebug = none := by kernel_rfl
theorem laidOut : laidOutB Try.prog = true := by kernel_rfl
section
variable {H : Type} {enc : TypeId × Value → H} {W : World} {sp : Nat → Bool} {held : Bool} {fuel : Nat} {v : Value} {y : DataW H × List MemPlace}
end
end Go.Proofs.Ytbjcoeimcdodjaa

namespace Go.Proofs.Ytbjcoeimcdodjaa
open Go.ChangeShapes Go.WideShapes Go.ChangeAt Go.RowKit Go.Joins
theorem cells5 : Try.prog.cellsOf 5 = 1 := by kernel_rfl
section
variable {H : Type} {enc : TypeId × Value → H} {W : World} {sp : Nat → Bool} {held : Bool} {fuel : Nat} {v : Value} {y : DataW H × List MemPlace}
theorem wf_u8 {z : Int} (h : (Lit.int .u8 z).wf = true) : 0 ≤ z ∧ z < 256 := by
  have h1 : IntKind.u8.min ≤ z ∧ z ≤ IntKind.u8.max := by simpa [Lit.wf] using h
  have a : IntKind.u8.min = 0 := by rfl
  have b : IntKind.u8.max = 255 := by rfl
  omega
theorem open_RdB (h : DataW.trod enc Try.prog W 0 sp held fuel 22 [v] = some y) : ∃ zs : List Int, RdB W v zs ∧ zs.length ≤ maxLen := by
  rcases open_ints Try.underlying22 Try.underlying5 cells5 h with ⟨hcs, _⟩ | ⟨a, len, cap, zs, hcs, _, hl, hm, hz, _, hcell, hwz⟩
  · simp only [List.cons.injEq, and_true] at hcs
    subst hcs
    exact ⟨[], ⟨⟨rfl, none, 0, rfl, ⟨Nat.le_refl _, fun _ => rfl⟩, fun h => absurd h (by simp)⟩, fun k hk => by simp at hk⟩, by simp⟩
  · simp only [List.cons.injEq, and_true] at hcs
    subst hcs
    have hzl : len ≤ zs.length := by rw [hz]; split <;> omega
    have e : (zs.take len).length = len := by simp; omega
    refine ⟨zs.take len, ⟨⟨by simp [bys], some a, cap, by rw [e], ⟨by rw [e]; exact hl, fun e => by cases e⟩, fun hn => ?_⟩, fun k hk => wf_u8 (hwz _ (List.mem_of_mem_take (List.getElem_mem hk)))⟩, by rw [e]; omega⟩
    rw [e] at hn
    obtain ⟨b, off, spot⟩ := a
    have hc := hcell 0 (by omega)
    have hspot : spot = none := by simpa [Addr.add] using World.cell?_spot hc
    subst hspot
    refine ⟨b, off, rfl, World.block_lt_of_cell? W _ (by simpa [Addr.add] using hc), fun j hj => ?_⟩
    rw [e] at hj
    have hc := hcell j (by omega)
    rw [Addr.add_lit] at hc
    rw [hc, bys_at _ j (by rw [e]; omega)]
    simp [List.getD, show j < zs.length by omega]
end
end Go.Proofs.Ytbjcoeimcdodjaa
