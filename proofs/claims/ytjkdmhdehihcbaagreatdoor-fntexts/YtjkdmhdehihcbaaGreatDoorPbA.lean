/- Texts cut at slashes: mathematics. -/
import Derived.Test.YtjkdmhdehihcbaaGreatDoorZAE
import Derived.Test.YtjkdmhdehihcbaaGreatDoorZAC
import Derived.Lib.SplitLaws
import Derived.Lib.IndexBytes
namespace Go.Proofs.YtjkdmhdehihcbaaGreatDoor
open Go.RowKit
def mkB (l : List UInt8) : ByteArray := ⟨l.toArray⟩
theorem mkB_data (l : List UInt8) : (mkB l).data.toList = l := by simp [mkB]
theorem mkB_of (s : ByteArray) : mkB s.data.toList = s := by
  obtain ⟨⟨l⟩⟩ := s
  rfl
theorem bytes_ext {a b : ByteArray} (h : a.data.toList = b.data.toList) : a = b := by rw [← mkB_of a, ← mkB_of b, h]
theorem mkB_extract (s : ByteArray) (a b : Nat) : mkB ((s.data.toList.take b).drop a) = s.extract a b := by
  apply bytes_ext
  rw [mkB_data, Lib.extract_data, List.drop_take]
def cutG (cur : List UInt8) : List UInt8 → List (List UInt8)
  | [] => [cur]
  | c :: l => if c = 47 then cur :: cutG [] l else cutG (cur ++ [c]) l
theorem cutG_nil (cur : List UInt8) : cutG cur [] = [cur] := rfl
theorem cutG_cons (cur : List UInt8) (c : UInt8) (l : List UInt8) : cutG cur (c :: l) = if c = 47 then cur :: cutG [] l else cutG (cur ++ [c]) l := rfl
theorem cutG_none : ∀ (l cur : List UInt8), (∀ c ∈ l, ¬ c = 47) → cutG cur l = [cur ++ l]
  | [], cur, _ => by rw [cutG_nil, List.append_nil]
  | c :: l, cur, h => by
    rw [cutG_cons, if_neg (h c (List.mem_cons_self ..)), cutG_none l _ (fun x hx => h x (List.mem_cons_of_mem _ hx)), List.append_assoc]
    rfl
theorem cutG_some : ∀ (l cur r : List UInt8), (∀ c ∈ l, ¬ c = 47) → cutG cur (l ++ 47 :: r) = (cur ++ l) :: cutG [] r
  | [], cur, r, _ => by rw [List.nil_append, cutG_cons, if_pos rfl, List.append_nil]
  | c :: l, cur, r, h => by
    rw [List.cons_append, cutG_cons, if_neg (h c (List.mem_cons_self ..)), cutG_some l _ r (fun x hx => h x (List.mem_cons_of_mem _ hx)), List.append_assoc]
    rfl
theorem cutG_head : ∀ (l cur : List UInt8), ∃ x r, cutG cur l = (cur ++ x) :: r
  | [], cur => ⟨[], [], by rw [cutG_nil, List.append_nil]⟩
  | c :: l, cur => by
    rw [cutG_cons]
    by_cases h : c = 47
    · rw [if_pos h]; exact ⟨[], _, by rw [List.append_nil]⟩
    · rw [if_neg h]
      obtain ⟨x, r, e⟩ := cutG_head l (cur ++ [c])
      exact ⟨c :: x, r, by rw [e, List.append_assoc]; rfl⟩
theorem cutG_len : ∀ (l cur : List UInt8), (cutG cur l).length ≤ l.length + 1
  | [], cur => by rw [cutG_nil]; simp
  | c :: l, cur => by
    rw [cutG_cons]
    split
    · have := cutG_len l []
      simp only [List.length_cons]; omega
    · have := cutG_len l (cur ++ [c])
      simp only [List.length_cons]; omega
theorem cutG_pos (l cur : List UInt8) : 1 ≤ (cutG cur l).length := by
  obtain ⟨x, r, e⟩ := cutG_head l cur
  rw [e]; simp
theorem cutG_mem : ∀ (l cur x : List UInt8), x ∈ cutG cur l → x.length ≤ cur.length + l.length
  | [], cur, x, h => by rw [cutG_nil, List.mem_singleton] at h; rw [h]; simp
  | c :: l, cur, x, h => by
    rw [cutG_cons] at h
    split at h
    · rcases List.mem_cons.1 h with rfl | h
      · simp
      · have := cutG_mem l [] x h
        simp only [List.length_nil, List.length_cons] at *
        omega
    · have := cutG_mem l (cur ++ [c]) x h
      simp only [List.length_append, List.length_cons, List.length_nil] at *
      omega
theorem splitK_cut : ∀ (k : Nat) (l : List UInt8), Lib.count l [47] = k → Lib.splitK [47] 0 k l = cutG [] l
  | 0, l, h => by
    show [l] = _
    rw [Lib.count_one] at h
    rw [cutG_none l [] (fun c hc e => by subst e; have := List.count_pos_iff.2 hc; omega), List.nil_append]
  | k + 1, l, h => by
    have hm : (47 : UInt8) ∈ l := by
      rw [Lib.count_one] at h
      exact List.count_pos_iff.1 (by omega)
    have hge := Lib.indexByte_ge l 47
    have hi : Lib.index l [47] = Lib.indexByte l 47 := Lib.index_one l 47
    have hne : ¬ Lib.indexByte l 47 = -1 := fun e => by
      obtain ⟨j, hj, e2⟩ := List.getElem_of_mem hm
      exact Lib.indexByte_none e j (by rw [List.getElem?_eq_getElem hj, e2])
    obtain ⟨o, ho⟩ : ∃ o : Nat, Lib.indexByte l 47 = (o : Int) := ⟨(Lib.indexByte l 47).toNat, by omega⟩
    obtain ⟨h1, h2⟩ := Lib.indexByte_some ho
    have hol : o < l.length := (List.getElem?_eq_some_iff.1 h1).1
    have e0 : l = l.take o ++ 47 :: l.drop (o + 1) := by
      have hd : l.drop o = 47 :: l.drop (o + 1) := by
        rw [List.drop_eq_getElem_cons hol, (List.getElem?_eq_some_iff.1 h1).2]
      rw [← hd, List.take_append_drop]
    have hno : ∀ c ∈ l.take o, ¬ c = 47 := fun c hc e => by
      subst e
      obtain ⟨j, hj, e2⟩ := List.mem_take_iff_getElem.1 hc
      have hj := Nat.lt_min.1 hj
      exact h2 j hj.1 (by rw [List.getElem?_eq_getElem hj.2, e2])
    unfold Lib.splitK
    rw [hi, ho, if_neg (by simp), Int.toNat_natCast, Nat.add_zero]
    show l.take o :: Lib.splitK [47] 0 k (l.drop (o + 1)) = cutG [] l
    have hc : Lib.count (l.drop (o + 1)) [47] = k := by
      rw [Lib.count_one] at h ⊢
      have hz : (l.take o).count 47 = 0 := List.count_eq_zero.2 (fun hx => hno 47 hx rfl)
      rw [e0, List.count_append, hz, List.count_cons_self] at h
      omega
    rw [splitK_cut k _ hc]
    conv => rhs; rw [e0]
    rw [cutG_some _ _ _ hno, List.nil_append]
def pcs (s : ByteArray) : List ByteArray := (cutG [] s.data.toList).map mkB
theorem split_pcs (s : ByteArray) : Lib.splitB ⟨#[47]⟩ 0 (Lib.countB s ⟨#[47]⟩) s = pcs s := by
  have h := Lib.splitB_data ⟨#[47]⟩ 0 (Lib.countB s ⟨#[47]⟩) s
  have h2 := splitK_cut (Lib.countB s ⟨#[47]⟩) s.data.toList rfl
  unfold pcs
  rw [← h2]
  have h3 : Lib.splitK [47] 0 (Lib.countB s ⟨#[47]⟩) s.data.toList = (Lib.splitB ⟨#[47]⟩ 0 (Lib.countB s ⟨#[47]⟩) s).map (·.data.toList) := h.symm
  rw [h3, List.map_map]
  have : (mkB ∘ fun x : ByteArray => x.data.toList) = id := funext fun x => mkB_of x
  rw [this, List.map_id]
theorem pcs_len (s : ByteArray) : (pcs s).length ≤ s.size + 1 := by
  unfold pcs
  rw [List.length_map, Lib.size_eq]
  exact cutG_len _ _
theorem pcs_pos (s : ByteArray) : 1 ≤ (pcs s).length := by unfold pcs; rw [List.length_map]; exact cutG_pos _ _
theorem pcs_size (s : ByteArray) : ∀ k (h : k < (pcs s).length), (pcs s)[k].size ≤ s.size := by
  intro k hk
  have hm : (pcs s)[k] ∈ (cutG [] s.data.toList).map mkB := List.getElem_mem hk
  obtain ⟨x, hx, e⟩ := List.mem_map.1 hm
  have := cutG_mem _ _ _ hx
  rw [← e, Lib.size_eq, mkB_data, Lib.size_eq]
  simpa using this
theorem count_pcs (s : ByteArray) : Lib.countB s ⟨#[47]⟩ + 1 = (pcs s).length := by
  rw [← split_pcs, Lib.splitB_all ⟨#[47]⟩ (by decide) 0 _ s rfl]
theorem pcs_slash {s : ByteArray} {l : List UInt8} (h : s.data.toList = 47 :: l) : pcs s = mkB [] :: pcs (mkB l) := by
  unfold pcs
  rw [h, cutG_cons, if_pos rfl, mkB_data]
  rfl
theorem pcs_other {s : ByteArray} {c : UInt8} {l : List UInt8} (h : s.data.toList = c :: l) (hc : ¬ c = 47) : ∃ x r, pcs s = x :: r ∧ ¬ x.size = 0 := by
  unfold pcs
  rw [h, cutG_cons, if_neg hc, List.nil_append]
  obtain ⟨x, r, e⟩ := cutG_head l [c]
  refine ⟨mkB ([c] ++ x), r.map mkB, by rw [e]; rfl, ?_⟩
  rw [Lib.size_eq, mkB_data]; simp
theorem pcs_none {s : ByteArray} (h : s.data.toList = []) : pcs s = [mkB []] := by
  unfold pcs
  rw [h]
  rfl
end Go.Proofs.YtjkdmhdehihcbaaGreatDoor
