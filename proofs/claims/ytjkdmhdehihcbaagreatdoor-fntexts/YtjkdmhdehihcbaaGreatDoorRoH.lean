/- A text's words: strings.FieldsFunc's pieces at blanks are the model's words. -/
import Derived.Test.YtjkdmhdehihcbaaGreatDoorZAG
import Derived.Lib.FieldsP
import Derived.Lib.SpaceUEq
namespace Go.Proofs.YtjkdmhdehihcbaaGreatDoor
open Go.RowKit
def isb (r : Nat) : Bool := r == 32
def curOf (l : List UInt8) (st : Option Nat) (pos : Nat) : List UInt8 := match st with | some a => (l.take pos).drop a | none => []
def cutOf (l : List UInt8) (acc : List (Nat × Nat)) : List (List UInt8) := acc.map fun x => (l.take x.2).drop x.1
theorem wdG_many : ∀ (x cur rest : List UInt8), (∀ c ∈ x, c ≠ 32) → wdG cur (x ++ rest) = wdG (cur ++ x) rest
  | [], cur, rest, _ => by simp
  | c :: x, cur, rest, h => by
    rw [List.cons_append, wdG_cons, if_neg (h c (by simp)), wdG_many x (cur ++ [c]) rest (fun d hd => h d (by simp [hd]))]
    simp
theorem at_getD {l : List UInt8} {i : Nat} (h : i < l.length) : l.getD i 0 = l[i] := by simp [List.getD, h]
theorem byte_ne {c : UInt8} (h : c.toNat ≠ 32) : c ≠ 32 := fun e => h (by rw [e]; rfl)
theorem rune_blank (s : ByteArray) (pos : Nat) (hp : pos < s.data.toList.length) :
    1 ≤ (Utf8.decode s pos).2 ∧ pos + (Utf8.decode s pos).2 ≤ s.data.toList.length ∧
    (isb (Utf8.decode s pos).1 = true → s.data.toList[pos] = 32 ∧ (Utf8.decode s pos).2 = 1) ∧
    (isb (Utf8.decode s pos).1 = false → ∀ c ∈ (s.data.toList.drop pos).take (Utf8.decode s pos).2, c ≠ 32) := by
  rw [Lib.decode_N]
  generalize s.data.toList = l at *
  have g0 : l.getD pos 0 = l[pos] := by simp [List.getD, hp]
  rw [g0]
  have h0 : l[pos].toNat < 256 := l[pos].toNat_lt
  generalize eb1 : l.getD (pos + 1) 0 = c1
  generalize eb2 : l.getD (pos + 2) 0 = c2
  generalize eb3 : l.getD (pos + 3) 0 = c3
  have C := Lib.decodeN_conts (l.length - pos) l[pos].toNat c1.toNat c2.toNat c3.toNat
  have W := Lib.decodeN_le_n' (l.length - pos) l[pos].toNat c1.toNat c2.toNat c3.toNat (by omega)
  have V := Lib.decodeN_ge1 (l.length - pos) l[pos].toNat c1.toNat c2.toNat c3.toNat
  have K := Lib.decodeN_cases (l.length - pos) l[pos].toNat c1.toNat c2.toNat c3.toNat
  have ASC : l[pos].toNat < 128 → Lib.decodeN (l.length - pos) l[pos].toNat c1.toNat c2.toNat c3.toNat = (l[pos].toNat, 1) := Lib.decodeN_ascii _ _ _ _ _
  generalize Lib.decodeN (l.length - pos) l[pos].toNat c1.toNat c2.toNat c3.toNat = D at *
  obtain ⟨r, k⟩ := D
  simp only [Prod.mk.injEq] at *
  refine ⟨V, by omega, fun h => ?_, fun h => ?_⟩
  · have hr : r = 32 := by simpa [isb] using h
    have : l[pos].toNat = 32 ∧ k = 1 := by omega
    exact ⟨UInt8.toNat_inj.1 this.1, this.2⟩
  · have hr : r ≠ 32 := by simpa [isb] using h
    have z0 : l[pos].toNat ≠ 32 := by
      intro e
      have := ASC (by omega)
      omega
    intro c hc
    obtain ⟨j, hj, rfl⟩ := List.mem_iff_getElem.1 hc
    rw [List.length_take, List.length_drop] at hj
    rw [List.getElem_take, List.getElem_drop]
    apply byte_ne
    match j, hj with
    | 0, _ => exact z0
    | 1, hj =>
      have e : l[pos + 1] = c1 := (at_getD _).symm.trans eb1
      have := congrArg UInt8.toNat e
      omega
    | 2, hj =>
      have e : l[pos + 2] = c2 := (at_getD _).symm.trans eb2
      have := congrArg UInt8.toNat e
      omega
    | 3, hj =>
      have e : l[pos + 3] = c3 := (at_getD _).symm.trans eb3
      have := congrArg UInt8.toNat e
      omega
    | j + 4, hj => omega
theorem spans_wd (s : ByteArray) : ∀ (f pos : Nat) (st : Option Nat) (acc : List (Nat × Nat)), pos ≤ s.size → s.size - pos ≤ f → (∀ a, st = some a → a < pos) →
    cutOf s.data.toList (Lib.closeSpans s (Lib.spansFromP isb s f pos st acc)) = cutOf s.data.toList acc ++ wdG (curOf s.data.toList st pos) (s.data.toList.drop pos) := by
  have HL : s.size = s.data.toList.length := Lib.size_eq s
  intro f
  induction f with
  | zero =>
    intro pos st acc hp hf ha
    obtain rfl : pos = s.size := by omega
    rw [List.drop_of_length_le (by omega)]
    show cutOf _ (Lib.closeSpans s (acc, st)) = _
    cases st with
    | none => simp [Lib.closeSpans, curOf, wdG]
    | some a =>
      have := ha a rfl
      have hne : ¬ (s.data.toList.take s.size).drop a = [] := seg_nil (by omega) (by omega)
      show cutOf _ (acc ++ [(a, s.size)]) = _ ++ (if _ then [] else [_])
      rw [show curOf s.data.toList (some a) s.size = (s.data.toList.take s.size).drop a from rfl, if_neg hne]
      simp [cutOf]
  | succ f ih =>
    intro pos st acc hp hf ha
    by_cases h : pos < s.size
    · have hl : pos < s.data.toList.length := by omega
      obtain ⟨k1, k2, kt, kf⟩ := rune_blank s pos hl
      unfold Lib.spansFromP
      rw [if_pos h]
      cases c : isb (Utf8.decode s pos).1 with
      | true =>
        obtain ⟨hb, hk⟩ := kt c
        rw [if_pos rfl, hk]
        have E := List.drop_eq_getElem_cons hl
        cases st with
        | none =>
          show cutOf _ (Lib.closeSpans s (Lib.spansFromP isb s f (pos + 1) none acc)) = _
          rw [ih (pos + 1) none acc (by omega) (by omega) (fun a e => by cases e), E, wdG_cons, if_pos hb]
          rfl
        | some a =>
          have := ha a rfl
          have hne : ¬ (s.data.toList.take pos).drop a = [] := seg_nil (by omega) (by omega)
          show cutOf _ (Lib.closeSpans s (Lib.spansFromP isb s f (pos + 1) none (acc ++ [(a, pos)]))) = _
          rw [ih (pos + 1) none _ (by omega) (by omega) (fun a e => by cases e), E, wdG_cons, if_pos hb, show curOf s.data.toList (some a) pos = (s.data.toList.take pos).drop a from rfl, if_neg hne]
          simp [cutOf, curOf]
      | false =>
        have kn := kf c
        rw [if_neg (by simp)]
        generalize (Utf8.decode s pos).2 = k at *
        have E : s.data.toList.drop pos = (s.data.toList.drop pos).take k ++ s.data.toList.drop (pos + k) := by rw [← List.drop_drop, List.take_append_drop]
        cases st with
        | none =>
          show cutOf _ (Lib.closeSpans s (Lib.spansFromP isb s f (pos + k) (some pos) acc)) = _
          rw [ih (pos + k) (some pos) acc (by omega) (by omega) (fun a e => by cases e; omega)]
          rw [show curOf s.data.toList none pos = [] from rfl]
          conv => rhs; rw [E]
          rw [wdG_many _ _ _ kn]
          show _ ++ wdG ((s.data.toList.take (pos + k)).drop pos) _ = _
          rw [List.drop_take, show pos + k - pos = k by omega]
          rfl
        | some a =>
          have := ha a rfl
          show cutOf _ (Lib.closeSpans s (Lib.spansFromP isb s f (pos + k) (some a) acc)) = _
          rw [ih (pos + k) (some a) acc (by omega) (by omega) (fun b e => by cases e; omega)]
          conv => rhs; rw [E]
          rw [wdG_many _ _ _ kn]
          show _ ++ wdG ((s.data.toList.take (pos + k)).drop a) _ = _ ++ wdG ((s.data.toList.take pos).drop a ++ _) _
          congr 2
          rw [List.take_add, List.drop_append_of_le_length (by rw [List.length_take]; omega)]
    · obtain rfl : pos = s.size := by omega
      rw [Lib.spansFromP_end isb s (f + 1) s.size st acc h, List.drop_of_length_le (by omega)]
      cases st with
      | none => simp [Lib.closeSpans, curOf, wdG]
      | some a =>
        have := ha a rfl
        have hne : ¬ (s.data.toList.take s.size).drop a = [] := seg_nil (by omega) (by omega)
        show cutOf _ (acc ++ [(a, s.size)]) = _ ++ (if _ then [] else [_])
        rw [show curOf s.data.toList (some a) s.size = (s.data.toList.take s.size).drop a from rfl, if_neg hne]
        simp [cutOf]
theorem fields_wds (s : ByteArray) : Lib.goFieldsP isb s = wds s := by
  have h := spans_wd s s.size 0 none [] (by omega) (by omega) (fun a e => by cases e)
  have e : cutOf s.data.toList (Lib.spansOfP isb s) = wdG [] s.data.toList := h
  unfold wds
  rw [← e]
  unfold Lib.goFieldsP cutOf
  rw [List.map_map]
  apply List.map_congr_left
  intro x _
  exact (mkB_extract s x.1 x.2).symm
end Go.Proofs.YtjkdmhdehihcbaaGreatDoor
