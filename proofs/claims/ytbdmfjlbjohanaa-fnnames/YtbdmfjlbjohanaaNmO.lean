/- A name, drawn. -/
import Derived.Test.YtbdmfjlbjohanaaDrawK
import Derived.Test.YtbdmfjlbjohanaaNmU
import Derived.Test.YtbdmfjlbjohanaaAtE
namespace Go.Proofs.Ytbdmfjlbjohanaa
open Go.RowKit

def five : List ByteArray := [⟨#[97]⟩, ⟨#[98]⟩, ⟨#[99]⟩, ⟨#[100, 105, 114]⟩, ⟨#[122, 122, 122, 122, 122, 122]⟩]
def fiveA : Array Value := #[.string ⟨#[97]⟩, .string ⟨#[98]⟩, .string ⟨#[99]⟩, .string ⟨#[100, 105, 114]⟩, .string ⟨#[122, 122, 122, 122, 122, 122]⟩]
theorem five_ok : ∀ s ∈ five, nmB s = true := by decide
theorem five_at (k : Nat) (h : k < 5) : ∃ s, fiveA[k]? = some (.string s) ∧ nmB s = true := by
  rcases (show k = 0 ∨ k = 1 ∨ k = 2 ∨ k = 3 ∨ k = 4 by omega) with rfl | rfl | rfl | rfl | rfl
  · exact ⟨_, rfl, five_ok _ (by simp [five])⟩
  · exact ⟨_, rfl, five_ok _ (by simp [five])⟩
  · exact ⟨_, rfl, five_ok _ (by simp [five])⟩
  · exact ⟨_, rfl, five_ok _ (by simp [five])⟩
  · exact ⟨_, rfl, five_ok _ (by simp [five])⟩

set_option maxRecDepth 100000 in
set_option maxHeartbeats 4000000 in
theorem srcPick_any (w0 w : World) (b bl : Nat) (vC : Value) (bs : List Int) (h : Src w0 w b vC bs 0) (hl : w.heap[bl]? = some (.cells fiveA 9 (0, 0))) (hbl : bl ≠ b) :
    Calls Try.prog 53 #[.pointer (some ⟨b, 0, none⟩), .slice (some ⟨bl, 0, none⟩) 5 5] w fun e w' => (∃ s, e = .returned (.string s) ∧ nmB s = true) ∧ Below w0.heap.size w0 w' := by
  have HS := hideIt h
  have HL := hideIt hl
  have lt : bl < w.heap.size := (Array.getElem?_eq_some_iff.1 hl).1
  clear h hl
  go_enter Try.func53, Try.ntmps53
  go_wp2_with fail
  refine (srcNext_any 5 (by omega) w0 w b 0 vC bs HS.out (by omega)).mono ?_
  rintro e w1 ⟨r, rfl, r0, r1, hs, ho, hz⟩
  have S1 := hideIt hs
  obtain ⟨k, rfl⟩ := Int.eq_ofNat_of_zero_le r0
  obtain ⟨s, e1, e2⟩ := five_at k (by omega)
  have hc : w1.cell? ⟨bl, k, none⟩ = some (.string s) := by
    have := (ho.block bl lt (by omega)).trans HL.out
    simp [World.cell?, this, e1]
  have E2 := hideIt e2
  clear e1 e2 hs ho
  go_wp2
  go_ret
  exact ⟨⟨_, rfl, E2.out⟩, S1.out.below⟩

set_option maxRecDepth 100000 in
set_option maxHeartbeats 4000000 in
theorem srcName_any (w0 w : World) (b : Nat) (vC : Value) (bs : List Int) (h : Src w0 w b vC bs 0) :
    Calls Try.prog 44 #[.pointer (some ⟨b, 0, none⟩)] w fun e w' => (∃ s, e = .returned (.string s) ∧ nmB s = true) ∧ Below w0.heap.size w0 w' := by
  have HS := hideIt h
  have lt := h.size
  clear h
  go_enter Try.func44, Try.ntmps44
  go_wp2_with fail
  refine (srcPick_any w0 _ b w.heap.size vC bs (HS.out.newer ((Below.refl _ _).alloc (Nat.le_refl _) _)) (at_new rfl) (by omega)).mono ?_
  rintro e w1 ⟨⟨s, rfl, hs⟩, hb⟩
  have E := hideIt hs
  have B := hideIt hb
  clear hs hb
  go_wp2
  go_ret
  exact ⟨⟨_, rfl, E.out⟩, B.out⟩

set_option maxRecDepth 100000 in
set_option maxHeartbeats 4000000 in
theorem nameOf_any (v : Value) (bs : List Int) (w : World) (h : RdB w v bs) (hl : bs.length ≤ 1048576) :
    Calls Try.prog 24 #[v] w fun e w' => (∃ s, e = .returned (.string s) ∧ nmB s = true) ∧ Below w.heap.size w w' := by
  have H := hideIt h
  obtain ⟨aC, cC, rfl, _⟩ := h.shape
  clear h
  go_enter Try.func24, Try.ntmps24
  go_wp2_with fail
  refine (l00Source_any _ bs w H.out hl).mono ?_
  rintro e w1 ⟨rfl, S, hb⟩
  have S1 := hideIt S
  clear S hb
  go_wp2_with fail
  refine (srcName_any w w1 _ _ bs S1.out.src).mono ?_
  rintro e w2 ⟨⟨s, rfl, hs⟩, hb⟩
  have E := hideIt hs
  have B := hideIt hb
  clear hs hb
  go_wp2
  go_ret
  exact ⟨⟨_, rfl, E.out⟩, B.out⟩
end Go.Proofs.Ytbdmfjlbjohanaa
