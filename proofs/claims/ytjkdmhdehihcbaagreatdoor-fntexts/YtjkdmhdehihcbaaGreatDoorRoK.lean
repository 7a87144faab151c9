/- What is heard word by word is what the words tell: mathematics. -/
import Derived.Test.YtjkdmhdehihcbaaGreatDoorZBB
import Derived.Test.YtjkdmhdehihcbaaGreatDoorRoF
namespace Go.Proofs.YtjkdmhdehihcbaaGreatDoor
open Go.RowKit
def HeS (fds : List Nat) (ws : List ByteArray) (q : Nat) (p t : ByteArray) (g x : Int) : Prop :=
  (∀ j (h : j < fds.length), j < q → (fds[j] = 0 → p = wa ws (j + 1)) ∧ (fds[j] = 3 → t = wa ws (j + 1)) ∧ (fds[j] = 1 → nuQ (wa ws (j + 1)) g true) ∧ (fds[j] = 2 → nuQ (wa ws (j + 1)) x true)) ∧
  ((∀ j (h : j < fds.length), j < q → fds[j] ≠ 3) → t = ⟨#[]⟩) ∧ ((∀ j (h : j < fds.length), j < q → fds[j] ≠ 1) → g = 0) ∧ ((∀ j (h : j < fds.length), j < q → fds[j] ≠ 2) → x = 0) ∧ inR g ∧ inR x
theorem HeS.zero (fds : List Nat) (ws : List ByteArray) : HeS fds ws 0 ⟨#[]⟩ ⟨#[]⟩ 0 0 :=
  ⟨fun j _ h => absurd h (by omega), fun _ => rfl, fun _ => rfl, fun _ => rfl, ⟨by decide, by decide⟩, ⟨by decide, by decide⟩⟩
theorem fds_nodup (k : Nat) : (fdsOf k).Nodup := by
  unfold fdsOf
  repeat' split
  all_goals decide
theorem fds_le (k : Nat) : ∀ f ∈ fdsOf k, f ≤ 3 := fun f hf => by
  unfold fdsOf at hf
  split at hf
  · simp at hf; omega
  · split at hf
    · simp at hf; omega
    · split at hf <;> (simp at hf; omega)
theorem HeS.step {fds : List Nat} (hn : fds.Nodup) {ws : List ByteArray} {q : Nat} (hq : q < fds.length) {p t : ByteArray} {g x : Int} {p' t' : ByteArray} {g' x' : Int} (h : HeS fds ws q p t g x) (hs : HrS fds[q] (wa ws (q + 1)) p t g x p' t' g' x' true) : HeS fds ws (q + 1) p' t' g' x' := by
  obtain ⟨h1, h2, h3, h4, h5, h6⟩ := h
  have un : ∀ j (hj : j < fds.length), fds[j] = fds[q] → j = q := fun j hj e => by
    rcases Nat.lt_trichotomy j q with c | c | c
    · exact absurd e (List.pairwise_iff_getElem.1 hn j q hj hq c)
    · exact c
    · exact absurd e.symm (List.pairwise_iff_getElem.1 hn q j hq hj c)
  unfold HrS at hs
  refine ⟨fun j hj hjq => ?_, fun no => ?_, fun no => ?_, fun no => ?_, ?_, ?_⟩
  · by_cases c : j = q
    · subst c
      rcases hs with ⟨a, rfl, rfl, rfl, rfl, -⟩ | ⟨a, rfl, rfl, b, -, rfl⟩ | ⟨a, rfl, rfl, rfl, b, -⟩ | ⟨a, rfl, rfl, rfl, rfl, -⟩ <;> rw [a] <;> refine ⟨fun e => ?_, fun e => ?_, fun e => ?_, fun e => ?_⟩ <;> first | rfl | exact b | (exact absurd e (by decide))
    · have hlt : j < q := by omega
      obtain ⟨a1, a2, a3, a4⟩ := h1 j hj hlt
      have ne : fds[j] ≠ fds[q] := fun e => c (un j hj e)
      rcases hs with ⟨a, rfl, rfl, rfl, rfl, -⟩ | ⟨a, rfl, rfl, b, -, rfl⟩ | ⟨a, rfl, rfl, rfl, b, -⟩ | ⟨a, rfl, rfl, rfl, rfl, -⟩ <;> rw [a] at ne
      · exact ⟨fun e => absurd e ne, a2, a3, a4⟩
      · exact ⟨a1, a2, fun e => absurd e ne, a4⟩
      · exact ⟨a1, a2, a3, fun e => absurd e ne⟩
      · exact ⟨a1, fun e => absurd e ne, a3, a4⟩
  · have nq := no q hq (by omega)
    have := h2 (fun j hj hlt => no j hj (by omega))
    rcases hs with ⟨a, rfl, rfl, rfl, rfl, -⟩ | ⟨a, rfl, rfl, b, -, rfl⟩ | ⟨a, rfl, rfl, rfl, b, -⟩ | ⟨a, rfl, rfl, rfl, rfl, -⟩
    · exact this
    · exact this
    · exact this
    · exact absurd a nq
  · have nq := no q hq (by omega)
    have := h3 (fun j hj hlt => no j hj (by omega))
    rcases hs with ⟨a, rfl, rfl, rfl, rfl, -⟩ | ⟨a, rfl, rfl, b, -, rfl⟩ | ⟨a, rfl, rfl, rfl, b, -⟩ | ⟨a, rfl, rfl, rfl, rfl, -⟩
    · exact this
    · exact absurd a nq
    · exact this
    · exact this
  · have nq := no q hq (by omega)
    have := h4 (fun j hj hlt => no j hj (by omega))
    rcases hs with ⟨a, rfl, rfl, rfl, rfl, -⟩ | ⟨a, rfl, rfl, b, -, rfl⟩ | ⟨a, rfl, rfl, rfl, b, -⟩ | ⟨a, rfl, rfl, rfl, rfl, -⟩
    · exact this
    · exact this
    · exact absurd a nq
    · exact this
  · rcases hs with ⟨a, rfl, rfl, rfl, rfl, -⟩ | ⟨a, rfl, rfl, b, c, rfl⟩ | ⟨a, rfl, rfl, rfl, b, c⟩ | ⟨a, rfl, rfl, rfl, rfl, -⟩ <;> assumption
  · rcases hs with ⟨a, rfl, rfl, rfl, rfl, -⟩ | ⟨a, rfl, rfl, b, c, rfl⟩ | ⟨a, rfl, rfl, rfl, b, c⟩ | ⟨a, rfl, rfl, rfl, rfl, -⟩ <;> assumption
def hdQ (ws : List ByteArray) (k : Int) (p t : ByteArray) (g x : Int) (ok : Bool) : Prop :=
  (ok = true → otB k p t g x = true → ∃ n g' x' : Nat, rdW ws = some (n, p, t, g', x') ∧ k = n ∧ g = g' ∧ x = x') ∧ (ok = true → otB k p t g x = false → rdW ws = none) ∧ (ok = false → rdW ws = none)
theorem hdQ.no {ws : List ByteArray} (h : rdW ws = none) (k : Int) (p t : ByteArray) (g x : Int) : hdQ ws k p t g x false := ⟨fun e => (by cases e), fun e => (by cases e), fun _ => h⟩
theorem hdQ.none_ {ws : List ByteArray} {k : Int} {p t : ByteArray} {g x : Int} (h : rdW ws = none) (ho : otB k p t g x = false) : hdQ ws k p t g x true := ⟨fun _ e => (by rw [ho] at e; cases e), fun _ _ => h, fun _ => h⟩
theorem ot_page {k : Int} {p t : ByteArray} {g x : Int} (hf : 1 ∈ fdsOf k.toNat) (h : g < 0) : otB k p t g x = false := by
  unfold otB
  rw [Bool.and_eq_false_iff]
  refine .inr (List.all_eq_false.2 ⟨1, hf, ?_⟩)
  unfold fdB
  rw [if_neg (by decide), if_pos rfl, decide_eq_false (by omega)]
  decide
theorem ot_value {k : Int} {p t : ByteArray} {g x : Int} (hf : 2 ∈ fdsOf k.toNat) (h : x < 0) : otB k p t g x = false := by
  unfold otB
  rw [Bool.and_eq_false_iff]
  refine .inr (List.all_eq_false.2 ⟨2, hf, ?_⟩)
  unfold fdB
  rw [if_neg (by decide), if_neg (by decide), if_pos rfl]
  have : wordB x = false := by
    cases c : wordB x with
    | false => rfl
    | true => have := wordB_true c; omega
  rw [this]
  decide
theorem hr_told {ws : List ByteArray} {n : Nat} {p t : ByteArray} {g x : Nat} (hk : kdOf (wa ws 0) = n) (h : hrO n ws = some (p, t, g, x)) : hdQ ws n p t g x true := by
  have e : rdW ws = if otB n p t g x = true then some (n, p, t, g, x) else none := by rw [← hk]; exact rd_of (by rw [hk]; exact h)
  refine ⟨fun _ ho => ⟨n, g, x, by rw [e, if_pos ho], rfl, rfl, rfl⟩, fun _ ho => by rw [e, if_neg (by rw [ho]; decide)], fun h => by cases h⟩
theorem hr_no {ws : List ByteArray} {n : Nat} (hk : kdOf (wa ws 0) = n) (h : hrO n ws = none) : rdW ws = none := rdW_none (by rw [hk]; exact h)
theorem fds_link {n : Nat} (h : n = 4 ∨ n = 5) : fdsOf n = [0, 3] := by unfold fdsOf; rw [if_pos h]
theorem fds_write {n : Nat} (h : n = 6) : fdsOf n = [0, 1, 2] := by subst h; rfl
theorem fds_page {n : Nat} (h : n = 7 ∨ n = 8) : fdsOf n = [0, 1] := by rcases h with rfl | rfl <;> rfl
theorem fds_else {n : Nat} (h1 : ¬ (n = 4 ∨ n = 5)) (h2 : ¬ n = 6) (h3 : ¬ (n = 7 ∨ n = 8)) : fdsOf n = [0] := by unfold fdsOf; rw [if_neg h1, if_neg h2, if_neg h3]
theorem he_all {ws : List ByteArray} {n : Nat} (h1 : 1 ≤ n) (hk : kdOf (wa ws 0) = n) (hl : ws.length = (fdsOf n).length + 1) {p t : ByteArray} {g x : Int} (h : HeS (fdsOf n) ws (fdsOf n).length p t g x) : hdQ ws n p t g x true := by
  obtain ⟨a, ht, hg, hx, -, -⟩ := h
  by_cases c1 : n = 4 ∨ n = 5
  · rw [fds_link c1] at a ht hg hx hl
    replace hl : ws.length = 3 := hl
    have e0 : p = wa ws 1 := (a 0 (by decide) (by decide)).1 rfl
    have e1 : t = wa ws 2 := (a 1 (by decide) (by decide)).2.1 rfl
    have eg := hg (by decide)
    have ex := hx (by decide)
    subst e0 e1 eg ex
    exact hr_told hk (by rw [hr_link c1, if_pos hl])
  · by_cases c2 : n = 6
    · rw [fds_write c2] at a ht hg hx hl
      replace hl : ws.length = 4 := hl
      have e0 : p = wa ws 1 := (a 0 (by decide) (by decide)).1 rfl
      have e1 : nuQ (wa ws 2) g true := (a 1 (by decide) (by decide)).2.2.1 rfl
      have e2 : nuQ (wa ws 3) x true := (a 2 (by decide) (by decide)).2.2.2 rfl
      have et := ht (by decide)
      subst e0 et
      rcases e1 with ⟨m1, q1, -, rfl⟩ | ⟨q1, q1'⟩
      · rcases e2 with ⟨m2, q2, -, rfl⟩ | ⟨q2, q2'⟩
        · exact hr_told hk (by rw [hr_write c2, if_pos hl, q1, q2]; rfl)
        · exact hdQ.none_ (hr_no hk (by rw [hr_write c2, if_pos hl, q1, q2]; rfl)) (ot_value (by rw [Int.toNat_natCast, fds_write c2]; decide) (q2'.resolve_left (by decide)))
      · exact hdQ.none_ (hr_no hk (by rw [hr_write c2, if_pos hl, q1]; rfl)) (ot_page (by rw [Int.toNat_natCast, fds_write c2]; decide) (q1'.resolve_left (by decide)))
    · by_cases c3 : n = 7 ∨ n = 8
      · rw [fds_page c3] at a ht hg hx hl
        replace hl : ws.length = 3 := hl
        have e0 : p = wa ws 1 := (a 0 (by decide) (by decide)).1 rfl
        have e1 : nuQ (wa ws 2) g true := (a 1 (by decide) (by decide)).2.2.1 rfl
        have et := ht (by decide)
        have ex := hx (by decide)
        subst e0 et ex
        rcases e1 with ⟨m1, q1, -, rfl⟩ | ⟨q1, q1'⟩
        · exact hr_told hk (by rw [hr_page c3, if_pos hl, q1]; rfl)
        · exact hdQ.none_ (hr_no hk (by rw [hr_page c3, if_pos hl, q1]; rfl)) (ot_page (by rw [Int.toNat_natCast, fds_page c3]; decide) (q1'.resolve_left (by decide)))
      · rw [fds_else c1 c2 c3] at a ht hg hx hl
        replace hl : ws.length = 2 := hl
        have e0 : p = wa ws 1 := (a 0 (by decide) (by decide)).1 rfl
        have et := ht (by decide)
        have eg := hg (by decide)
        have ex := hx (by decide)
        subst e0 et eg ex
        exact hr_told hk (by rw [hr_else (by omega) c1 c2 c3, if_pos hl])
theorem he_len {ws : List ByteArray} {n : Nat} (h1 : 1 ≤ n) (hk : kdOf (wa ws 0) = n) (hl : ws.length ≠ (fdsOf n).length + 1) : rdW ws = none := by
  by_cases c1 : n = 4 ∨ n = 5
  · rw [fds_link c1] at hl
    replace hl : ws.length ≠ 3 := hl
    exact hr_no hk (by rw [hr_link c1, if_neg hl])
  · by_cases c2 : n = 6
    · rw [fds_write c2] at hl
      replace hl : ws.length ≠ 4 := hl
      exact hr_no hk (by rw [hr_write c2, if_neg hl])
    · by_cases c3 : n = 7 ∨ n = 8
      · rw [fds_page c3] at hl
        replace hl : ws.length ≠ 3 := hl
        exact hr_no hk (by rw [hr_page c3, if_neg hl])
      · rw [fds_else c1 c2 c3] at hl
        replace hl : ws.length ≠ 2 := hl
        exact hr_no hk (by rw [hr_else (by omega) c1 c2 c3, if_neg hl])
theorem he_bad {ws : List ByteArray} {n : Nat} (hk : kdOf (wa ws 0) = n) (hl : ws.length = (fdsOf n).length + 1) {q : Nat} (hq : q < (fdsOf n).length) {p t : ByteArray} {g x : Int} {p' t' : ByteArray} {g' x' : Int}
    (hs : HrS (fdsOf n)[q] (wa ws (q + 1)) p t g x p' t' g' x' false) : rdW ws = none := by
  have key : ((fdsOf n)[q] = 1 ∨ (fdsOf n)[q] = 2) ∧ numP (wa ws (q + 1)) = none := by
    rcases hs with ⟨a, -, -, -, -, e⟩ | ⟨a, -, -, b, -, -⟩ | ⟨a, -, -, -, b, -⟩ | ⟨a, -, -, -, -, e⟩
    · cases e
    · rcases b with ⟨_, _, e, _⟩ | ⟨e, _⟩
      · cases e
      · exact ⟨.inl a, e⟩
    · rcases b with ⟨_, _, e, _⟩ | ⟨e, _⟩
      · cases e
      · exact ⟨.inr a, e⟩
    · cases e
  obtain ⟨kf, kn⟩ := key
  have c1 : ¬ (n = 4 ∨ n = 5) := fun c1 => by
    have hm : (fdsOf n)[q] ∈ fdsOf n := List.getElem_mem hq
    generalize (fdsOf n)[q] = y at hm kf
    rw [fds_link c1] at hm
    simp at hm
    omega
  have q1 : 1 ≤ q := by
    rcases Nat.eq_zero_or_pos q with z | z
    · subst z
      have e0 : (fdsOf n)[0] = 0 := by
        have : (fdsOf n)[0]? = some 0 := by
          unfold fdsOf
          repeat' split
          all_goals rfl
        rw [List.getElem?_eq_getElem hq] at this
        exact Option.some.inj this
      omega
    · exact z
  exact rd_badnum (j := q + 1) (by rw [hk]; exact c1) (by omega) (by omega) kn
end Go.Proofs.YtjkdmhdehihcbaaGreatDoor
