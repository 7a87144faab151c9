/- Several texts laid together: IgA, TrC, TrB. -/
import Derived.Test.YtfcjhhiekjbbiaaDoorZBJ
import Derived.Test.YtfcjhhiekjbbiaaDoorTrA
namespace Go.Proofs.YtfcjhhiekjbbiaaDoor
open Go.RowKit

def inoAt (ws : List Ino) (i : Nat) : Ino := ws.getD i zeroN
def denAt (ps : List Den) (k : Nat) : Den := ps.getD k freeD
theorem inoAt_of {ws : List Ino} {i : Nat} (h : i < ws.length) : inoAt ws i = ws[i] := by
  unfold inoAt
  rw [List.getD_eq_getElem?_getD, List.getElem?_eq_getElem h]; rfl
theorem denAt_of {ps : List Den} {i : Nat} (h : i < ps.length) : denAt ps i = ps[i] := by
  unfold denAt
  rw [List.getD_eq_getElem?_getD, List.getElem?_eq_getElem h]; rfl
theorem freeB_iff {x : Den} : x.freeB = true ↔ x = freeD := by
  unfold Den.freeB freeD
  simp only [Bool.and_eq_true, beq_iff_eq]
  constructor
  · rintro ⟨h1, h2, h3⟩
    obtain ⟨d, n, c⟩ := x
    simp only at h1 h2 h3
    subst h1 h3
    have : n = ⟨#[]⟩ := by
      apply bytes_ext
      have : n.data.toList.length = 0 := by simpa using h2
      rw [List.eq_nil_of_length_eq_zero this]
    rw [this]
  · intro h
    rw [h]
    exact ⟨rfl, rfl, rfl⟩
/-- An entry that is taken is right. -/
def EntOK (ws : List Ino) (x : Den) : Prop := (1 ≤ x.child ∧ x.child ≤ 15) ∧ (0 ≤ x.dir ∧ x.dir ≤ 15) ∧ nmB x.name = true ∧ ¬ kindAt ws x.child = 0 ∧ kindAt ws x.dir = 2
def cntA (ps : List Den) (c : Int) : Nat := (ps.filter fun x => x.child == c).length
/-- A right image. -/
structure Img (ws : List Ino) (ps : List Den) : Prop where
  l16 : ws.length = 16
  l24 : ps.length = 24
  root : kindAt ws 0 = 2
  ok : ∀ i, i < 16 → inoB (inoAt ws i) = true
  ent : ∀ k, k < 24 → denAt ps k = freeD ∨ EntOK ws (denAt ps k)
  once : ∀ j k, j < 24 → k < 24 → 0 ≤ (denAt ps j).child → 0 ≤ (denAt ps k).child → (denAt ps j).dir = (denAt ps k).dir → (denAt ps j).name = (denAt ps k).name → j = k
  links : ∀ i : Nat, i < 16 → (if i = 0 then 1 else 0) + (cntA ps (i : Int) : Int) = (inoAt ws i).links
  hang : ∀ i : Nat, i < 16 → (inoAt ws i).kind = 2 → hangs ps 16 (i : Int) = true
  sing : (mapped ws).Pairwise fun x y => x ≠ y
theorem okAll_ties {ws : List Ino} (l16 : ws.length = 16) (ok : ∀ i, i < 16 → inoB (inoAt ws i) = true) : ∀ e ∈ mapped ws, 0 ≤ e ∧ (e % 4 = 1 ∨ e % 4 = 2) := by
  apply mapped_ties
  intro i hi
  have := ok i (by omega)
  rw [inoAt_of hi] at this
  exact (ino_ties this).1
theorem img_iff {ws : List Ino} {ps : List Den} : imgB ws ps = true ↔ Img ws ps := by
  constructor
  · intro h
    obtain ⟨l1, l2, r, o, e, l, s⟩ := pimg_all h
    have o' := (of_decide_eq_true o : ∀ k (h : k < ws.length), inoB ws[k] = true)
    have e' := (of_decide_eq_true e : ∀ i (h : i < ps.length), entOne ws ps i ps[i] = true)
    have l' := (of_decide_eq_true l : ∀ i (h : i < ws.length), linkB ps i ws[i] = true)
    have ok : ∀ i, i < 16 → inoB (inoAt ws i) = true := fun i hi => by rw [inoAt_of (by omega)]; exact o' i (by omega)
    refine ⟨l1, l2, r, ok, ?_, ?_, ?_, ?_, ?_⟩
    · intro k hk
      rw [denAt_of (by omega)]
      have q := e' k (by omega)
      unfold entOne at q
      split at q
      · exact .inl (freeB_iff.1 q)
      · right
        rcases pimg_ent h k (by omega) with a | a
        · rename_i c; exact absurd a.1 c
        · exact a
    · intro j k hj hk cj ck hd hn
      refine ent_once h (d := (denAt ps j).dir) (nm := (denAt ps j).name) (i := j) (j := k) (by omega) (by omega) ?_ ?_
      · rw [denAt_of (by omega)] at cj ⊢
        exact hit_iff.2 ⟨cj, rfl, rfl⟩
      · rw [denAt_of (i := k) (by omega)] at ck hd hn
        exact hit_iff.2 ⟨ck, hd.symm, hn.symm⟩
    · intro i hi
      have q := l' i (by omega)
      unfold linkB cntD at q
      simp only [Bool.and_eq_true, decide_eq_true_eq] at q
      rw [inoAt_of (by omega), ← q.1, List.take_length]
      rfl
    · intro i hi hk
      rw [inoAt_of (by omega)] at hk
      have q := l' i (by omega)
      unfold linkB at q
      simp only [Bool.and_eq_true, Bool.or_eq_true, decide_eq_true_eq] at q
      rcases q.2 with q | q
      · exact absurd hk q
      · exact q
    · unfold singB at s
      rw [single_eq (fun e he => (okAll_ties l1 ok e he).2), once_nodup] at s
      exact s
  · rintro ⟨l1, l2, r, o, e, c, l, g, s⟩
    unfold imgB
    have hs : singB ws = true := by
      unfold singB
      rw [single_eq (fun e he => (okAll_ties l1 o e he).2), once_nodup]
      exact s
    have ho : okNs ws = true := decide_eq_true fun k hk => by rw [← inoAt_of hk]; exact o k (by omega)
    have hl : linksB ws ps = true := decide_eq_true fun i hi => by
      unfold linkB cntD
      rw [List.take_length, ← inoAt_of hi]
      simp only [Bool.and_eq_true, Bool.or_eq_true, decide_eq_true_eq]
      refine ⟨l i (by omega), ?_⟩
      by_cases q : (inoAt ws i).kind = 2
      · exact .inr (g i (by omega) q)
      · exact .inl q
    have he : entsB ws ps = true := decide_eq_true fun i hi => by
      unfold entOne
      rw [← denAt_of hi]
      rcases e i (by omega) with q | q
      · rw [q]
        rfl
      · obtain ⟨q1, q2, q3, q4, q5⟩ := q
        rw [if_neg (by omega), decide_eq_true q1, decide_eq_true q2, q3, q5]
        simp only [Bool.true_and, Bool.and_eq_true, Bool.not_eq_true', beq_eq_false_iff_ne, List.all_eq_true]
        refine ⟨q4, by decide, ?_⟩
        intro y hy
        obtain ⟨j, hj, rfl⟩ := List.mem_take_iff_getElem.1 hy
        have hj := Nat.lt_min.1 hj
        have hc : clashB ps[j] (denAt ps i) = false := by
          rw [Bool.eq_false_iff]
          intro hc
          unfold clashB at hc
          rw [Bool.and_eq_true, Bool.and_eq_true, decide_eq_true_eq, beq_iff_eq, toList_same] at hc
          rw [← denAt_of hj.2] at hc
          have := c j i (by omega) (by omega) hc.1 (by omega) hc.2.1 hc.2.2
          omega
        rw [hc]
    rw [decide_eq_true l1, decide_eq_true l2, r, ho, he, hl, hs]
    rfl
end Go.Proofs.YtfcjhhiekjbbiaaDoor

namespace Go.Proofs.YtfcjhhiekjbbiaaDoor
open Go.RowKit

/-- The entry of a page, counted through all inodes. -/
def pgE (ns : List Ino) (i : Nat) : Int := (inoAt ns (i / 8)).map.getD (i % 8) 0
/-- The page that is picked among the first ones; -1 without any. -/
def pkS (ns : List Ino) (hs : List Int) (t : Int) (hot : Bool) (b : Int) (i : Nat) : Int := if pgE ns i = 0 ∨ ¬ pgE ns i % 4 = t then b else if b < 0 ∨ (hot = true ∧ hs.getD b.toNat 0 < hs.getD i 0) ∨ (hot = false ∧ hs.getD i 0 < hs.getD b.toNat 0) then (i : Int) else b
def pkN (ns : List Ino) (hs : List Int) (t : Int) (hot : Bool) : Nat → Int
  | 0 => -1
  | n + 1 => pkS ns hs t hot (pkN ns hs t hot n) n
theorem pkN_range (ns : List Ino) (hs : List Int) (t : Int) (hot : Bool) (n : Nat) : -1 ≤ pkN ns hs t hot n ∧ pkN ns hs t hot n < (n : Int) := by
  induction n with
  | zero => exact ⟨Int.le_refl (-1), show (-1 : Int) < 0 by decide⟩
  | succ n ih =>
    have e : pkN ns hs t hot (n + 1) = pkS ns hs t hot (pkN ns hs t hot n) n := rfl
    rw [e]
    unfold pkS
    split
    · omega
    · split <;> omega
end Go.Proofs.YtfcjhhiekjbbiaaDoor

namespace Go.Proofs.YtfcjhhiekjbbiaaDoor
open Go.RowKit

theorem heat_parts {hs : List Int} (h : heatB hs = true) : hs.length = 128 ∧ ∀ k (h : k < hs.length), 0 ≤ hs[k] ∧ hs[k] ≤ 64 := of_decide_eq_true h
end Go.Proofs.YtfcjhhiekjbbiaaDoor
