/- The rule of an image, as the model asks it and as the program does: they agree. -/
import Derived.Test.YtmeiionabonhnaaGreatDoorZAR
import Derived.Test.YtmeiionabonhnaaGreatDoorZAQ
import Derived.Test.YtmeiionabonhnaaGreatDoorZAF
namespace Go.Proofs.YtmeiionabonhnaaGreatDoor
open Go.RowKit
def kindAt (ws : List Ino) (z : Int) : Int := (ws.getD z.toNat ⟨0, 0, 0, 0, 0, 0, 0, 0, 0, 0, 0⟩).kind
theorem kindAt_of {ws : List Ino} {i : Nat} (h : i < ws.length) : kindAt ws (i : Int) = ws[i].kind := by
  unfold kindAt
  rw [Int.toNat_natCast, List.getD_eq_getElem?_getD, List.getElem?_eq_getElem h]; rfl
def clashB (y x : Den) : Bool := decide (0 ≤ y.child) && (y.dir == x.dir && y.name.toList == x.name.toList)
def entOne (ws : List Ino) (ps : List Den) (i : Nat) (x : Den) : Bool := if x.child = -1 then x.freeB else (decide (1 ≤ x.child ∧ x.child ≤ 15) && (decide (0 ≤ x.dir ∧ x.dir ≤ 15) && (nmB x.name && (!(kindAt ws x.child == 0) && (kindAt ws x.dir == 2 && (ps.take i).all fun y => !clashB y x)))))
def entsB (ws : List Ino) (ps : List Den) : Bool := decide (∀ i (h : i < ps.length), entOne ws ps i ps[i] = true)
def fitB (ws : List Ino) (x : Den) : Bool := kindAt ws x.dir == 2 && !(kindAt ws x.child == 0)
def fitsB (ws : List Ino) (ts : List Den) : Bool := decide (∀ k (h : k < ts.length), fitB ws ts[k] = true)
def okDs (ps : List Den) : Bool := decide (∀ k (h : k < ps.length), ps[k].okB = true)
theorem ok_free {x : Den} (h : x.okB = true) : x.freeB = true ↔ x.child = -1 := by
  constructor
  · intro hf
    unfold Den.freeB at hf
    simp only [Bool.and_eq_true, beq_iff_eq] at hf
    exact hf.2.2
  · intro hc
    unfold Den.okB at h
    simp only [Bool.or_eq_true, Bool.and_eq_true, decide_eq_true_eq] at h
    rcases h with h | h
    · exact h
    · omega
theorem ok_taken {x : Den} (h : x.okB = true) (hf : ¬ x.child = -1) : (1 ≤ x.child ∧ x.child ≤ 15) ∧ (0 ≤ x.dir ∧ x.dir ≤ 15) ∧ nmB x.name = true := by
  unfold Den.okB at h
  simp only [Bool.or_eq_true, Bool.and_eq_true, decide_eq_true_eq] at h
  rcases h with h | h
  · unfold Den.freeB at h
    simp only [Bool.and_eq_true, beq_iff_eq] at h
    exact absurd h.2.2 hf
  · exact h
theorem ents_ok {ws : List Ino} {ps : List Den} (h : entsB ws ps = true) : okDs ps = true := by
  have h := of_decide_eq_true h
  refine decide_eq_true fun k hk => ?_
  have := h k hk
  unfold entOne at this
  unfold Den.okB
  split at this
  · rw [this]; rfl
  · simp only [Bool.and_eq_true] at this
    rw [this.1, this.2.1, this.2.2.1]; simp
def sameN (y x : Den) : Prop := y.dir = x.dir ∧ y.name.toList = x.name.toList
theorem once_pair (l : List Den) : onceD (l.map anonD) = true ↔ l.Pairwise fun y x => ¬ sameN y x := by
  unfold onceD
  rw [decide_eq_true_eq, List.pairwise_iff_getElem]
  constructor
  · intro h i j hi hj hij hs
    have := h j (by simpa using hj)
    rw [← List.map_take] at this
    unfold hasD at this
    rw [List.any_eq_false] at this
    refine this (anonD l[i]) (List.mem_map.2 ⟨l[i], ?_, rfl⟩) ?_
    · exact List.mem_take_iff_getElem.2 ⟨i, Nat.lt_min.2 ⟨hij, hi⟩, rfl⟩
    · simp only [List.getElem_map]
      unfold denEq anonD
      simp [hs.1, hs.2]
  · intro h k hk
    rw [← List.map_take]
    unfold hasD
    rw [List.any_eq_false]
    intro y hy he
    obtain ⟨z, hz, rfl⟩ := List.mem_map.1 hy
    obtain ⟨i, hi, rfl⟩ := List.mem_take_iff_getElem.1 hz
    have hk' : k < l.length := by simpa using hk
    simp only [Nat.lt_min] at hi
    refine h i k hi.2 hk' hi.1 ?_
    simp only [List.getElem_map] at he
    unfold denEq anonD at he
    simp only [Bool.and_eq_true, beq_iff_eq] at he
    exact ⟨he.1.symm, he.2.1.symm⟩
theorem ents_eq {ws : List Ino} {ps : List Den} (h : okDs ps = true) : entsB ws ps = (fitsB ws (takenD ps) && onceD ((takenD ps).map anonD)) := by
  have h := of_decide_eq_true h
  rw [Bool.eq_iff_iff, Bool.and_eq_true, once_pair]
  unfold takenD
  rw [List.pairwise_filter, List.pairwise_iff_getElem]
  unfold entsB fitsB
  rw [decide_eq_true_eq, decide_eq_true_eq]
  have hfree : ∀ k (hk : k < ps.length), (!ps[k].freeB) = true ↔ ¬ ps[k].child = -1 := fun k hk => by
    rw [← ok_free (h k hk)]; simp
  constructor
  · intro hE
    refine ⟨fun k hk => ?_, fun i j hi hj hij fi fj hs => ?_⟩
    · have hm := List.getElem_mem hk
      obtain ⟨hm, hf⟩ := List.mem_filter.1 hm
      obtain ⟨i, hi, e⟩ := List.getElem_of_mem hm
      rw [← e] at hf ⊢
      have := hE i hi
      unfold entOne at this
      rw [if_neg ((hfree i hi).1 hf)] at this
      simp only [Bool.and_eq_true] at this
      unfold fitB
      rw [this.2.2.2.1, this.2.2.2.2.1]; rfl
    · have := hE j hj
      unfold entOne at this
      rw [if_neg ((hfree j hj).1 fj)] at this
      simp only [Bool.and_eq_true, List.all_eq_true] at this
      have := this.2.2.2.2.2 ps[i] (List.mem_take_iff_getElem.2 ⟨i, Nat.lt_min.2 ⟨hij, hi⟩, rfl⟩)
      unfold clashB at this
      have c := ok_taken (h i hi) ((hfree i hi).1 fi)
      simp [hs.1, hs.2] at this
      omega
  · rintro ⟨hF, hP⟩ i hi
    unfold entOne
    split
    · rename_i hc
      exact (ok_free (h i hi)).2 hc
    · rename_i hc
      obtain ⟨a, b, c⟩ := ok_taken (h i hi) hc
      have fi := (hfree i hi).2 hc
      have hm : ps[i] ∈ ps.filter fun x => !x.freeB := List.mem_filter.2 ⟨List.getElem_mem _, fi⟩
      obtain ⟨k, hk, e⟩ := List.getElem_of_mem hm
      have := hF k hk
      rw [e] at this
      unfold fitB at this
      simp only [Bool.and_eq_true] at this
      rw [decide_eq_true a, decide_eq_true b, c, this.1, this.2]
      simp only [Bool.true_and, List.all_eq_true]
      intro y hy
      obtain ⟨j, hj, rfl⟩ := List.mem_take_iff_getElem.1 hy
      simp only [Nat.lt_min] at hj
      rw [Bool.not_eq_true']
      unfold clashB
      rw [Bool.and_eq_false_iff]
      by_cases hn : ps[j].child = -1
      · left; exact decide_eq_false (by omega)
      · right
        rw [Bool.eq_false_iff]
        intro he
        simp only [Bool.and_eq_true, beq_iff_eq] at he
        exact hP j i hj.2 hi hj.1 ((hfree j hj.2).2 hn) fi he
def usedOf (l : List Int) (t : Int) : List Int := (l.filter fun e => e % 4 == t).map fun e => e / 4
theorem once_nodup (zs : List Int) : onceB zs = true ↔ zs.Pairwise fun x y => x ≠ y := by
  unfold onceB
  rw [decide_eq_true_eq, List.pairwise_iff_getElem]
  constructor
  · intro h i j hi hj hij he
    have := h j hj
    unfold hasB at this
    rw [List.contains_eq_any_beq, List.any_eq_false] at this
    refine this zs[i] (List.mem_take_iff_getElem.2 ⟨i, Nat.lt_min.2 ⟨hij, hi⟩, rfl⟩) ?_
    rw [beq_iff_eq]; exact he.symm
  · intro h k hk
    unfold hasB
    rw [List.contains_eq_any_beq, List.any_eq_false]
    intro y hy he
    obtain ⟨i, hi, rfl⟩ := List.mem_take_iff_getElem.1 hy
    have hi := Nat.lt_min.1 hi
    rw [beq_iff_eq] at he
    exact h i k hi.2 hk hi.1 he.symm
theorem single_eq {l : List Int} (h : ∀ e ∈ l, e % 4 = 1 ∨ e % 4 = 2) : (onceB (usedOf l 1) && onceB (usedOf l 2)) = onceB l := by
  rw [Bool.eq_iff_iff, Bool.and_eq_true, once_nodup, once_nodup, once_nodup]
  unfold usedOf
  rw [List.pairwise_map, List.pairwise_map, List.pairwise_filter, List.pairwise_filter]
  constructor
  · rintro ⟨h1, h2⟩
    rw [List.pairwise_iff_getElem] at *
    intro i j hi hj hij he
    rcases h l[i] (List.getElem_mem _) with q | q
    · exact h1 i j hi hj hij (by simpa using q) (by rw [← he]; simpa using q) (by rw [he])
    · exact h2 i j hi hj hij (by simpa using q) (by rw [← he]; simpa using q) (by rw [he])
  · intro hp
    refine ⟨hp.imp fun {a b} hne pa pb he => hne ?_, hp.imp fun {a b} hne pa pb he => hne ?_⟩
    · have : a % 4 = 1 := by simpa using pa
      have : b % 4 = 1 := by simpa using pb
      omega
    · have : a % 4 = 2 := by simpa using pa
      have : b % 4 = 2 := by simpa using pb
      omega
theorem tie_cases {e : Int} (h : tieB e = true) (h0 : ¬ e = 0) : 0 ≤ e ∧ (e % 4 = 1 ∨ e % 4 = 2) := by
  unfold tieB addrB at h
  simp only [Bool.and_eq_true, decide_eq_true_eq] at h
  omega
theorem mapped_ties {ws : List Ino} (h : ∀ i (h : i < ws.length), ∀ z ∈ ws[i].map, tieB z = true) : ∀ e ∈ mapped ws, 0 ≤ e ∧ (e % 4 = 1 ∨ e % 4 = 2) := by
  intro e he
  unfold mapped at he
  obtain ⟨x, hx, he⟩ := List.mem_flatMap.1 he
  obtain ⟨i, hi, rfl⟩ := List.getElem_of_mem hx
  unfold somes at he
  obtain ⟨h1, h2⟩ := List.mem_filter.1 he
  exact tie_cases (h i hi e h1) (by simpa using h2)
def upA (ts : List Den) : Nat → Int → Int
  | 0, _ => 0
  | k + 1, j => if (ts.getD k ⟨0, ⟨#[]⟩, 0⟩).child = j then (ts.getD k ⟨0, ⟨#[]⟩, 0⟩).dir else upA ts k j
def goUp (f : Int → Int) : Nat → Int → Int
  | 0, i => i
  | n + 1, i => goUp f n (f i)
def lcB (ws : List Ino) (ts : List Den) : Bool := decide (∀ i (h : i < ws.length), ws[i].links = (if i = 0 then 1 else 0) + (cntD ts i ts.length : Int))
def dhB (ws : List Ino) (ts : List Den) : Bool := decide (∀ i (h : i < ws.length), ws[i].kind = 2 → goUp (upA ts ts.length) 16 (i : Int) = 0)
theorem goUp_add (f : Int → Int) : ∀ (a b : Nat) (i : Int), goUp f (a + b) i = goUp f b (goUp f a i)
  | 0, b, i => by rw [Nat.zero_add]; rfl
  | a + 1, b, i => by
    rw [show a + 1 + b = (a + b) + 1 by omega]
    exact goUp_add f a b (f i)
theorem goUp_zero (f : Int → Int) (h : f 0 = 0) : ∀ n, goUp f n 0 = 0
  | 0 => rfl
  | n + 1 => by
    show goUp f n (f 0) = 0
    rw [h]; exact goUp_zero f h n
theorem pigeon : ∀ (m : Nat) (f : Nat → Nat), (∀ k, k ≤ m → f k < m) → ∃ a b, a < b ∧ b ≤ m ∧ f a = f b
  | 0, f, h => absurd (h 0 (Nat.le_refl _)) (by omega)
  | m + 1, f, h => by
    by_cases q : ∃ a, a ≤ m ∧ f a = f (m + 1)
    · obtain ⟨a, ha, e⟩ := q
      exact ⟨a, m + 1, by omega, Nat.le_refl _, e⟩
    · have q' : ∀ a, a ≤ m → f a ≠ f (m + 1) := fun a ha e => q ⟨a, ha, e⟩
      obtain ⟨a, b, h1, h2, e⟩ := pigeon m (fun k => if f (m + 1) < f k then f k - 1 else f k) (fun k hk => by
        have h1 := h k (by omega)
        have h2 := h (m + 1) (Nat.le_refl _)
        have h3 := q' k hk
        show (if f (m + 1) < f k then f k - 1 else f k) < m
        split <;> omega)
      refine ⟨a, b, h1, by omega, ?_⟩
      have e' : (if f (m + 1) < f a then f a - 1 else f a) = (if f (m + 1) < f b then f b - 1 else f b) := e
      have ha := q' a (by omega)
      have hb := q' b (by omega)
      split at e' <;> split at e' <;> omega
theorem climb {f : Int → Int} (f0 : f 0 = 0) (i : Int) (hr : ∀ n, 0 ≤ goUp f n i ∧ goUp f n i ≤ 15) (h : goUp f 16 i = 0) : goUp f 15 i = 0 := by
  apply Classical.byContradiction
  intro hn
  have hall : ∀ n, n ≤ 15 → ¬ goUp f n i = 0 := fun n hn' e => hn (by
    rw [show 15 = n + (15 - n) by omega, goUp_add, e, goUp_zero f f0])
  obtain ⟨a, b, h1, h2, e⟩ := pigeon 15 (fun k => (goUp f k i).toNat - 1) (fun k hk => by
    have := hr k
    have := hall k hk
    show (goUp f k i).toNat - 1 < 15
    omega)
  have e' : goUp f a i = goUp f b i := by
    have := hr a; have := hr b; have := hall a (by omega); have := hall b (by omega)
    have e : (goUp f a i).toNat - 1 = (goUp f b i).toNat - 1 := e
    omega
  have z : goUp f (a + (16 - b)) i = 0 := by
    rw [goUp_add, e', ← goUp_add, show b + (16 - b) = 16 by omega, h]
  exact hall (a + (16 - b)) (by omega) z
theorem hangs_up {ps : List Den} {f : Int → Int} (f0 : f 0 = 0) : ∀ (n : Nat) (d : Int), (∀ m, ¬ goUp f m d = 0 → upD ps (goUp f m d) = f (goUp f m d) ∧ 0 ≤ f (goUp f m d)) → (hangs ps (n + 1) d = true ↔ goUp f n d = 0)
  | 0, d, H => by
    unfold hangs
    by_cases h : d = 0
    · rw [if_pos h]; exact ⟨fun _ => h, fun _ => rfl⟩
    · rw [if_neg h]
      constructor
      · intro q
        split at q
        · cases q
        · unfold hangs at q; cases q
      · intro q; exact absurd q h
  | n + 1, d, H => by
    unfold hangs
    by_cases h : d = 0
    · rw [if_pos h, h]
      exact ⟨fun _ => goUp_zero f f0 _, fun _ => rfl⟩
    · rw [if_neg h]
      obtain ⟨e1, e2⟩ := H 0 h
      have e1 : upD ps d = f d := e1
      have e2 : 0 ≤ f d := e2
      rw [e1, if_neg (by omega)]
      exact hangs_up f0 n (f d) (fun m hm => H (m + 1) hm)
theorem cnt_taken {ps : List Den} (i : Nat) : cntD (takenD ps) i (takenD ps).length = cntD ps i ps.length := by
  unfold cntD takenD
  rw [List.take_length, List.take_length, List.filter_filter]
  congr 1
  apply List.filter_congr
  intro x _
  cases hf : x.freeB with
  | false => simp
  | true =>
    unfold Den.freeB at hf
    simp only [Bool.and_eq_true, beq_iff_eq] at hf
    have : (x.child == (i : Int)) = false := by rw [beq_eq_false_iff_ne]; omega
    simp [this]
theorem up_one : ∀ (ts : List Den) (c : Int), (ts.filter fun x => x.child == c).length = 1 → ∃ x ∈ ts, x.child = c ∧ upD ts c = x.dir ∧ upA ts ts.length c = x.dir := by
  intro ts c h
  obtain ⟨x, hx⟩ := List.length_eq_one_iff.1 h
  have hm : x ∈ ts.filter fun x => x.child == c := by rw [hx]; simp
  obtain ⟨h1, h2⟩ := List.mem_filter.1 hm
  have h2 : x.child = c := by simpa using h2
  have uniq : ∀ y ∈ ts, y.child = c → y = x := fun y hy hc => by
    have : y ∈ ts.filter fun x => x.child == c := List.mem_filter.2 ⟨hy, by simpa using hc⟩
    rw [hx] at this
    exact List.mem_singleton.1 this
  refine ⟨x, h1, h2, ?_, ?_⟩
  · unfold upD
    cases hf : ts.find? fun x => x.child == c with
    | none =>
      rw [List.find?_eq_none] at hf
      exact absurd (by simpa using h2) (hf x h1)
    | some y =>
      have a := List.mem_of_find?_eq_some hf
      have b := List.find?_some hf
      rw [uniq y a (by simpa using b)]; rfl
  · have H : ∀ k, k ≤ ts.length → (∃ j, j < k ∧ ∃ h : j < ts.length, ts[j].child = c) → upA ts k c = x.dir := by
      intro k
      induction k with
      | zero => rintro _ ⟨j, hj, _⟩; omega
      | succ k ih =>
        rintro hk ⟨j, hj, hl, e⟩
        unfold upA
        have hg : ts.getD k ⟨0, ⟨#[]⟩, 0⟩ = ts[k] := by rw [List.getD_eq_getElem?_getD, List.getElem?_eq_getElem (by omega)]; rfl
        rw [hg]
        by_cases q : ts[k].child = c
        · rw [if_pos q, uniq ts[k] (List.getElem_mem _) q]
        · rw [if_neg q]
          refine ih (by omega) ⟨j, ?_, hl, e⟩
          rcases Nat.lt_or_ge j k with a | a
          · exact a
          · have : j = k := by omega
            subst this; exact absurd e q
    obtain ⟨j, hj, e⟩ := List.getElem_of_mem h1
    exact H ts.length (Nat.le_refl _) ⟨j, hj, hj, by rw [e]; exact h2⟩
theorem up_none : ∀ (ts : List Den) (c : Int) (k : Nat), (∀ j (h : j < ts.length), ¬ ts[j].child = c) → k ≤ ts.length → upA ts k c = 0 := by
  intro ts c k h
  induction k with
  | zero => intro _; rfl
  | succ k ih =>
    intro hk
    unfold upA
    have hg : ts.getD k ⟨0, ⟨#[]⟩, 0⟩ = ts[k] := by rw [List.getD_eq_getElem?_getD, List.getElem?_eq_getElem (by omega)]; rfl
    rw [hg, if_neg (h k (by omega)), ih (by omega)]
theorem upD_taken {ps : List Den} {c : Int} (hc : 0 ≤ c) : upD (takenD ps) c = upD ps c := by
  unfold upD takenD
  rw [List.find?_filter]
  congr 2
  congr 1
  funext x
  cases hf : x.freeB with
  | false => simp; rw [Bool.eq_iff_iff]; simp
  | true =>
    unfold Den.freeB at hf
    simp only [Bool.and_eq_true, beq_iff_eq] at hf
    have : (x.child == c) = false := by rw [beq_eq_false_iff_ne]; omega
    simp [this]
theorem links_eq {ws : List Ino} {ps : List Den} (hl : ws.length = 16) (hd : ∀ i (h : i < ws.length), ws[i].kind = 2 → ws[i].links = 1) (hok : okDs ps = true) (hfit : fitsB ws (takenD ps) = true) :
    linksB ws ps = (lcB ws (takenD ps) && dhB ws (takenD ps)) := by
  have hok := of_decide_eq_true hok
  have hfit := of_decide_eq_true hfit
  have hT : ∀ x ∈ takenD ps, (1 ≤ x.child ∧ x.child ≤ 15) ∧ (0 ≤ x.dir ∧ x.dir ≤ 15) ∧ kindAt ws x.dir = 2 := fun x hx => by
    obtain ⟨k, hk, e⟩ := List.getElem_of_mem hx
    have f := hfit k hk
    rw [e] at f
    unfold fitB at f
    simp only [Bool.and_eq_true, beq_iff_eq] at f
    obtain ⟨hm, hf⟩ := List.mem_filter.1 hx
    obtain ⟨i, hi, e⟩ := List.getElem_of_mem hm
    have o := hok i hi
    rw [e] at o
    have c := ok_taken o (fun q => by rw [(ok_free o).2 q] at hf; cases hf)
    exact ⟨c.1, c.2.1, f.1⟩
  have f0 : upA (takenD ps) (takenD ps).length 0 = 0 := up_none _ 0 _ (fun j h => by have := hT _ (List.getElem_mem h); omega) (Nat.le_refl _)
  rw [Bool.eq_iff_iff, Bool.and_eq_true]
  unfold linksB lcB dhB
  rw [decide_eq_true_eq, decide_eq_true_eq, decide_eq_true_eq]
  have split : (∀ i (h : i < ws.length), linkB ps i ws[i] = true) ↔ (∀ i (h : i < ws.length), ws[i].links = (if i = 0 then 1 else 0) + (cntD (takenD ps) i (takenD ps).length : Int)) ∧ ∀ i (h : i < ws.length), ws[i].kind = 2 → hangs ps 16 i = true := by
    constructor
    · intro h
      refine ⟨fun i hi => ?_, fun i hi hk => ?_⟩
      · have := h i hi
        unfold linkB at this
        simp only [Bool.and_eq_true, decide_eq_true_eq] at this
        rw [cnt_taken, this.1]
      · have := h i hi
        unfold linkB at this
        simp only [Bool.and_eq_true, Bool.or_eq_true, decide_eq_true_eq] at this
        exact this.2.resolve_left (fun q => q hk)
    · rintro ⟨h1, h2⟩ i hi
      unfold linkB
      have := h1 i hi
      rw [cnt_taken] at this
      rw [decide_eq_true this.symm, Bool.true_and]
      by_cases hk : ws[i].kind = 2
      · rw [h2 i hi hk, Bool.or_true]
      · rw [decide_eq_true hk, Bool.true_or]
  rw [split]
  refine and_congr_right fun hc => ?_
  have step : ∀ d : Int, 0 ≤ d → d ≤ 15 → kindAt ws d = 2 → ¬ d = 0 → upD ps d = upA (takenD ps) (takenD ps).length d ∧ (0 ≤ upA (takenD ps) (takenD ps).length d ∧ upA (takenD ps) (takenD ps).length d ≤ 15) ∧ kindAt ws (upA (takenD ps) (takenD ps).length d) = 2 := by
    intro d h1 h2 hk hn
    obtain ⟨n, rfl⟩ : ∃ n : Nat, d = (n : Int) := ⟨d.toNat, by omega⟩
    have hn16 : n < ws.length := by omega
    rw [kindAt_of hn16] at hk
    have l1 := hd n hn16 hk
    have l2 := hc n hn16
    rw [l1, if_neg (by omega)] at l2
    have l3 : ((takenD ps).filter fun x => x.child == (n : Int)).length = 1 := by
      unfold cntD at l2
      rw [List.take_length] at l2
      omega
    obtain ⟨x, hx, _, u1, u2⟩ := up_one (takenD ps) (n : Int) l3
    rw [upD_taken (by omega)] at u1
    rw [u2]
    have := hT x hx
    exact ⟨u1, this.2.1, this.2.2⟩
  have road : ∀ i : Int, 0 ≤ i → i ≤ 15 → kindAt ws i = 2 → ∀ n, (0 ≤ goUp (upA (takenD ps) (takenD ps).length) n i ∧ goUp (upA (takenD ps) (takenD ps).length) n i ≤ 15) ∧ kindAt ws (goUp (upA (takenD ps) (takenD ps).length) n i) = 2 := by
    intro i h1 h2 hk n
    induction n generalizing i with
    | zero => exact ⟨⟨h1, h2⟩, hk⟩
    | succ n ih =>
      show (0 ≤ goUp _ n (upA _ _ i) ∧ goUp _ n (upA _ _ i) ≤ 15) ∧ kindAt ws (goUp _ n (upA _ _ i)) = 2
      by_cases q : i = 0
      · rw [q, f0]
        rw [q] at hk
        exact ih 0 (by omega) (by omega) hk
      · obtain ⟨_, a, b⟩ := step i h1 h2 hk q
        exact ih _ a.1 a.2 b
  refine forall_congr' fun i => forall_congr' fun hi => forall_congr' fun hk => ?_
  have hk' : kindAt ws (i : Int) = 2 := by rw [kindAt_of hi]; exact hk
  have R := road (i : Int) (by omega) (by omega) hk'
  rw [hangs_up f0 15 (i : Int) (fun m hm => by
    obtain ⟨a, b⟩ := R m
    obtain ⟨c, d, _⟩ := step _ a.1 a.2 b hm
    exact ⟨c, d.1⟩)]
  constructor
  · intro h
    rw [show 16 = 15 + 1 by omega, goUp_add, h]
    exact goUp_zero _ f0 1
  · exact climb f0 _ (fun n => (R n).1)
end Go.Proofs.YtmeiionabonhnaaGreatDoor
