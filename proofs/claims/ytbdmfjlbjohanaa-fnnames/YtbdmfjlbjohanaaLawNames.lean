/- Names are read back from their words, and no two have one: the walk of the law. -/
import Derived.Test.YtbdmfjlbjohanaaNmO
namespace Go.Proofs.Ytbdmfjlbjohanaa
open Go.RowKit

theorem name_len {s : ByteArray} (h : nmB s = true) : s.size ≤ maxLen := by
  have := (nmB_true h).2.1
  unfold maxLen
  omega
theorem toList_ne {a b : ByteArray} (h : ¬ a = b) : (a.toList == b.toList) = false := by
  rw [beq_eq_false_iff_ne]
  intro e
  apply h
  rw [ByteArray.toList_eq, ByteArray.toList_eq] at e
  exact ByteArray.ext (Array.toList_inj.1 e)

set_option maxRecDepth 100000 in
set_option maxHeartbeats 8000000 in
theorem fnNames_law (vA vB : Value) (cs bs : List Int) (w : World) (hA : RdB w vA cs) (hB : RdB w vB bs) (_ha : cs.length ≤ maxLen) (_hb : bs.length ≤ maxLen) :
    Calls Try.prog 6 #[vA, vB] w fun e w' => e = .returned (.bool true) ∧ Below w.heap.size w w' := by
  obtain ⟨aA, cA, rfl, _⟩ := hA.shape
  obtain ⟨aB, cB, rfl, _⟩ := hB.shape
  have HA := hideIt hA
  have HB := hideIt hB
  clear hA hB
  by_cases c1 : 1048576 < cs.length
  · go_enter Try.func6, Try.ntmps6
    go_wp2
    go_ret
    exact ⟨rfl, Below.refl _ _⟩
  by_cases c2 : 1048576 < bs.length
  · go_enter Try.func6, Try.ntmps6
    go_wp2
    go_ret
    exact ⟨rfl, Below.refl _ _⟩
  go_enter Try.func6, Try.ntmps6
  go_wp2_with fail
  refine (nameOf_any _ cs _ HA.out (by omega)).mono ?_
  rintro e w1 ⟨⟨a, rfl, ha⟩, hb1⟩
  have NA := hideIt ha
  have B1 := hideIt hb1
  clear ha hb1
  go_wp2_with fail
  refine (nameOf_any _ bs _ (HB.out.below B1.out) (by omega)).mono ?_
  rintro e w2 ⟨⟨b, rfl, hb⟩, hb2⟩
  have NB := hideIt hb
  have B2 := hideIt (below_trans B1.out hb2 B1.out.size)
  clear hb hb2
  have PA := hideIt (pack_yes NA.out).2
  have PB := hideIt (pack_yes NB.out).2
  have UA := hideIt (unp_pack NA.out)
  have BA := hideIt (pack_bd a)
  have CA := hideIt (show unpC (packV a) = 0 by unfold unpC; rw [if_pos UA.out.1])
  go_wp2_with fail
  refine (implPackName_any a _ (name_len NA.out)).mono ?_
  rintro e w3 ⟨rfl, hb3⟩
  rw [PA.out]
  have B3 := hideIt (below_trans B2.out hb3 B2.out.size)
  clear hb3
  go_wp2_with fail
  refine (implPackName_any b _ (name_len NB.out)).mono ?_
  rintro e w4 ⟨rfl, hb4⟩
  rw [PB.out]
  have B4 := hideIt (below_trans B3.out hb4 B3.out.size)
  clear hb4
  go_wp2_with fail
  refine (implUnpackName_any _ _ (by have := BA.out; omega)).mono ?_
  rintro e w5 ⟨rfl, hb5⟩
  rw [UA.out.2, CA.out]
  have B5 := hideIt (below_trans B4.out hb5 B4.out.size)
  clear hb5
  go_wp2_with fail
  refine (at_exact _ bs 0 5000 _ (HB.out.below B5.out) (by omega) (by omega) (by omega) (by omega) (by omega)).mono ?_
  rintro e w6 ⟨rfl, hb6⟩
  have B6 := hideIt (below_trans B5.out hb6 B5.out.size)
  clear hb6
  have bd := atV_bd bs 0 5000 (by omega)
  generalize atV bs 0 5000 = n at *
  go_wp2_with fail
  refine (implUnpackName_any _ _ (by omega)).mono ?_
  rintro e w7 ⟨rfl, hb7⟩
  have B7 := hideIt (below_trans B6.out hb7 B6.out.size)
  clear hb7
  go_wp2_with fail
  refine (specUnpackName_any _ _ (by omega)).mono ?_
  rintro e w8 ⟨rfl, hb8⟩
  have B8 := hideIt (below_trans B7.out hb8 B7.out.size)
  clear hb8
  have key : ((a.toList == b.toList) = true ∧ (packV a == packV b) = true) ∨ ((a.toList == b.toList) = false ∧ (packV a == packV b) = false) := by
    by_cases h : a = b
    · subst h; left; exact ⟨by simp, by simp⟩
    · right
      exact ⟨toList_ne h, beq_eq_false_iff_ne.2 (fun x => h (pack_inj NA.out NB.out x))⟩
  rcases key with ⟨k1, k2⟩ | ⟨k1, k2⟩
  all_goals
    by_cases g : goodN n = true
    · have U0 := show unpC n = 0 by unfold unpC; rw [if_pos g]
      have G := hideIt (pack_unp g)
      have PG := hideIt (pack_yes G.out.1).2
      rw [U0]
      clear U0 g
      go_wp2_with fail
      refine (implPackName_any _ _ (name_len G.out.1)).mono ?_
      rintro e w9 ⟨rfl, hb9⟩
      rw [PG.out, G.out.2]
      have B9 := hideIt (below_trans B8.out hb9 B8.out.size)
      clear hb9
      go_wp2
      go_ret
      exact ⟨rfl, B9.out⟩
    · have g' : goodN n = false := by simpa using g
      have U0 := unp_bad g'
      rw [U0.2]
      clear U0 g g'
      go_wp2
      go_ret
      exact ⟨rfl, B8.out⟩
end Go.Proofs.Ytbdmfjlbjohanaa
