/- Several texts laid together: PmFlush, PmFence. -/
import Derived.Test.YtbjalmiheipjjaaDoorPmStoreI
namespace Go.Proofs.YtbjalmiheipjjaaDoor
open Go.RowKit
theorem sts_get (l : List St) (j : Nat) (hj : j / 3 < l.length) : (sts l)[j]? = (l[j / 3]).cells[j % 3]? := by
  have := flatMap_at St.cells 3 St.cells_len l (j / 3) (j % 3) hj (Nat.mod_lt _ (by decide))
  rw [show j / 3 * 3 + j % 3 = j from by omega] at this
  exact this
theorem sts_setfl (l : List St) (m : Nat) (hm : m < l.length) (b : Bool) : (sts l).set (m * 3 + 2) (.bool b) = sts (l.set m ⟨l[m].at_, l[m].val, b⟩) := by
  apply List.ext_getElem?
  intro j
  by_cases hj : j < l.length * 3
  · have h3 : j / 3 < l.length := by omega
    have h3' : j / 3 < (l.set m ⟨l[m].at_, l[m].val, b⟩).length := by simpa using h3
    rw [set_at (by rw [sts_len]; exact hj), sts_get _ j h3', sts_get l j h3, List.getElem_set]
    by_cases e : m = j / 3
    · rw [if_pos e]
      subst e
      rcases (show j % 3 = 0 ∨ j % 3 = 1 ∨ j % 3 = 2 from by omega) with r | r | r
      · rw [if_neg (by omega), r]; rfl
      · rw [if_neg (by omega), r]; rfl
      · rw [if_pos (by omega), r]; rfl
    · rw [if_neg e, if_neg (by omega)]
  · rw [List.getElem?_eq_none (by rw [List.length_set, sts_len]; omega), List.getElem?_eq_none (by rw [sts_len, List.length_set]; omega)]
def fl1 (k : Int) (p : St) : St := if p.at_ / 8 = k / 8 then ⟨p.at_, p.val, true⟩ else p
def mix (k : Int) (ps : List St) (m : Nat) : List St := (ps.take m).map (fl1 k) ++ ps.drop m
theorem mix_len (k : Int) (ps : List St) (m : Nat) (hm : m ≤ ps.length) : (mix k ps m).length = ps.length := by simp [mix]; omega
theorem mix_zero (k : Int) (ps : List St) : mix k ps 0 = ps := by simp [mix]
theorem mix_all (k : Int) (ps : List St) : mix k ps ps.length = ps.map (fl1 k) := by simp [mix]
theorem mix_at (k : Int) (ps : List St) (m : Nat) (hm : m < ps.length) (h : m < (mix k ps m).length) : (mix k ps m)[m] = ps[m] := by
  have e : (mix k ps m)[m]? = ps[m]? := by
    unfold mix
    rw [List.getElem?_append_right (by rw [List.length_map, List.length_take]; omega)]
    simp [Nat.min_eq_left (Nat.le_of_lt hm)]
  rw [List.getElem?_eq_getElem h, List.getElem?_eq_getElem hm] at e
  exact Option.some.inj e
theorem mix_succ (k : Int) (ps : List St) (m : Nat) (hm : m < ps.length) : mix k ps (m + 1) = (mix k ps m).set m (fl1 k ps[m]) := by
  unfold mix
  rw [List.take_succ_eq_append_getElem hm, List.map_append, List.set_append_right _ _ (by rw [List.length_map, List.length_take]; omega)]
  simp only [List.map_cons, List.map_nil, List.length_map, List.length_take, Nat.min_eq_left (Nat.le_of_lt hm), Nat.sub_self]
  rw [List.drop_eq_getElem_cons hm, List.set_cons_zero, List.append_assoc]
  rfl
theorem mix_hit {k : Int} {ps : List St} {m : Nat} (hm : m < ps.length) (h : ps[m].at_ / 8 = k / 8) : (sts (mix k ps m)).set (m * 3 + 2) (.bool true) = sts (mix k ps (m + 1)) := by
  have hl : m < (mix k ps m).length := by rw [mix_len _ _ _ (by omega)]; exact hm
  rw [sts_setfl _ m hl, mix_succ k ps m hm, mix_at k ps m hm hl]
  unfold fl1
  rw [if_pos h]
theorem mix_miss {k : Int} {ps : List St} {m : Nat} (hm : m < ps.length) (h : ¬ ps[m].at_ / 8 = k / 8) : mix k ps (m + 1) = mix k ps m := by
  have hl : m < (mix k ps m).length := by rw [mix_len _ _ _ (by omega)]; exact hm
  rw [mix_succ k ps m hm]
  unfold fl1
  rw [if_neg h]
  have := mix_at k ps m hm hl
  rw [← this, List.set_getElem_self]
end Go.Proofs.YtbjalmiheipjjaaDoor

namespace Go.Proofs.YtbjalmiheipjjaaDoor
open Go.RowKit
def fenW (ws : List Int) (ps : List St) : List Int := ps.foldl (fun acc p => if p.fl then acc.set p.at_.toNat p.val else acc) ws
def fenP (ps : List St) : List St := ps.filter (fun p => !p.fl)
theorem fenW_snoc (ws : List Int) (ps : List St) (p : St) : fenW ws (ps ++ [p]) = if p.fl then (fenW ws ps).set p.at_.toNat p.val else fenW ws ps := by simp [fenW]
theorem fenW_len (ws : List Int) : ∀ ps : List St, (fenW ws ps).length = ws.length := by
  intro ps
  unfold fenW
  induction ps generalizing ws with
  | nil => rfl
  | cons p ps ih =>
    rw [List.foldl_cons, ih]
    split <;> simp
theorem fenP_snoc (ps : List St) (p : St) : fenP (ps ++ [p]) = if p.fl then fenP ps else fenP ps ++ [p] := by
  unfold fenP
  rw [List.filter_append]
  cases h : p.fl <;> simp [h]
theorem fenP_le (ps : List St) : (fenP ps).length ≤ ps.length := List.length_filter_le _ _
end Go.Proofs.YtbjalmiheipjjaaDoor
