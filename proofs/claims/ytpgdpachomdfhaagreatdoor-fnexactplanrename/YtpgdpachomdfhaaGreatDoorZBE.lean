/- Several texts laid together: StA, PbA. -/
import Derived.Test.YtpgdpachomdfhaaGreatDoorZBD
import Derived.Test.YtpgdpachomdfhaaGreatDoorImJ
import Derived.Deep.DeepCutAuto
import Derived.Deep.RegionWith
import Derived.Deep.RegionHeld3
import Derived.Lib.Strings
import Derived.Test.YtpgdpachomdfhaaGreatDoorZAS
import Derived.Test.YtpgdpachomdfhaaGreatDoorZAH
import Derived.Lib.SplitLaws
import Derived.Lib.IndexBytes
namespace Go.Proofs.YtpgdpachomdfhaaGreatDoor
open Go.RowKit

def strs (ss : List ByteArray) : List Value := ss.map Value.string
theorem strs_len (ss : List ByteArray) : (strs ss).length = ss.length := by simp [strs]
theorem strs_at (ss : List ByteArray) (k : Nat) (h : k < ss.length) : (strs ss)[k]? = some (.string ss[k]) := by simp [strs, h]
theorem strs_snoc (ss : List ByteArray) (x : ByteArray) : strs (ss ++ [x]) = strs ss ++ [.string x] := by simp [strs]
theorem strs_one (ss : List ByteArray) : ∀ u ∈ strs ss, u.oneCell' = true := by
  intro u hu
  simp only [strs, List.mem_map] at hu
  obtain ⟨s, _, rfl⟩ := hu
  rfl
def RdT (w : World) (v : Value) (ss : List ByteArray) : Prop := Rd w 1 v ss.length (strs ss)
theorem RdT.shape {w : World} {v : Value} {ss : List ByteArray} (h : RdT w v ss) : ∃ ao cap, v = .slice ao ss.length cap ∧ ss.length ≤ cap ∧ (0 < ss.length → ∃ b o, ao = some ⟨b, o, none⟩ ∧ b < w.heap.size ∧ ∀ k (h : k < ss.length), w.cell? ⟨b, o + k, none⟩ = some (.string ss[k])) := by
  obtain ⟨_, ao, cap, rfl, h2, h3⟩ := h
  refine ⟨ao, cap, rfl, h2.1, fun hn => ?_⟩
  obtain ⟨b, o, e, hb, hc⟩ := h3 hn
  exact ⟨b, o, e, hb, fun k hk => (hc k (by omega)).trans (strs_at ss k hk)⟩
theorem info9 : (Tryz.prog.info? 9).map (fun i => (i.zero, i.size, i.bytes)) = some (some (.string ⟨#[]⟩), 1, 16) := by kernel_rfl
theorem rd_str (w1 : World) (x : ByteArray) : Rd (w1.alloc (.cells #[.string x] 9)) 1 (.slice (some ⟨w1.heap.size, 0, none⟩) 1 1) 1 (strs [x]) := by
  refine ⟨rfl, _, _, rfl, ⟨Nat.le_refl _, fun e => by cases e⟩, fun _ => ⟨w1.heap.size, 0, rfl, by simp, fun j hj => ?_⟩⟩
  obtain rfl : j = 0 := by omega
  exact (eight_at (xs := [.string x]) (at_new rfl) 0).1

theorem below_drewS {B : Nat} {a w : World} (h : Below B a w) (n : Nat) : Below B a (w.drewN n) := by
  induction n with
  | zero => exact h
  | succ n ih => exact ⟨ih.os, ih.tape, ih.output, ih.size, ih.block⟩

/-- Marked texts. -/
def marksT (k : Int) (n : Nat) : List ByteArray := (List.range n).map fun i : Nat => mtx (k + (i : Int)).toNat
theorem marksT_len (k : Int) (n : Nat) : (marksT k n).length = n := by simp [marksT]
theorem marksT_at (k : Int) (n i : Nat) (h : i < (marksT k n).length) : (marksT k n)[i] = mtx (k + (i : Int)).toNat := by simp [marksT]
theorem marksT_succ (k : Int) (n : Nat) : marksT k (n + 1) = marksT k n ++ [mtx (k + (n : Int)).toNat] := by unfold marksT; rw [List.range_succ, List.map_append]; rfl
def mktTo (k0 : Int) (k : Nat) (ss : List ByteArray) : List ByteArray := marksT k0 k ++ ss.drop k
theorem mktTo_len {k0 : Int} {k : Nat} {ss : List ByteArray} (h : k ≤ ss.length) : (mktTo k0 k ss).length = ss.length := by unfold mktTo; rw [List.length_append, marksT_len, List.length_drop]; omega
theorem mktTo_succ {k0 : Int} {ss : List ByteArray} {k : Nat} (h : k < ss.length) : (strs (mktTo k0 k ss)).set k (.string (mtx (k0 + (k : Int)).toNat)) = strs (mktTo k0 (k + 1) ss) := by
  have l1 : (strs (marksT k0 k)).length = k := by rw [strs_len, marksT_len]
  unfold mktTo
  rw [List.drop_eq_getElem_cons h, marksT_succ]
  unfold strs at *
  rw [List.map_append, List.map_append, List.map_append, List.set_append_right _ _ (by omega), l1, Nat.sub_self, List.append_assoc]
  rfl

end Go.Proofs.YtpgdpachomdfhaaGreatDoor

namespace Go.Proofs.YtpgdpachomdfhaaGreatDoor
open Go.RowKit

/-- A row of texts that grows. -/
structure SnI (W w : World) (vL : Value) (ss : List ByteArray) : Prop where
  l : w.ownsRow W.heap.size 9 1 vL ss.length (strs ss)
  b : Below W.heap.size W w
theorem SnI.z {W w : World} {vL : Value} {ss : List ByteArray} (h : SnI W w vL ss) : W.heap.size ≤ w.heap.size := h.b.size
theorem SnI.below {W w w' : World} {vL : Value} {ss : List ByteArray} (h : SnI W w vL ss) (hb : Below w.heap.size w w') : SnI W w' vL ss :=
  ⟨((own_block h.l).below hb (Nat.le_refl _)).1, below_trans h.b hb h.z⟩
theorem strs_app (l l' : List ByteArray) : strs (l ++ l') = strs l ++ strs l' := by simp [strs]
theorem SnI.grow {W w w' : World} {vL v' : Value} {ss : List ByteArray} (h : SnI W w vL ss) (l : List ByteArray) {m : Nat} (hm : m = l.length) (ho : w'.ownsRow W.heap.size 9 1 v' (ss.length + m) (strs ss ++ strs l)) (hg : w.grownBy w' vL.ownBlock) : SnI W w' v' (ss ++ l) :=
  ⟨by rw [strs_app, List.length_append, ← hm]; exact ho, h.b.grown hg h.z (fun q hq => (h.l.lt q hq).1)⟩
theorem SnI.rd {W w : World} {vL : Value} {ss : List ByteArray} (h : SnI W w vL ss) : RdT w vL ss := (own_block h.l).rd
theorem SnI.form {W w : World} {vL : Value} {ss : List ByteArray} (h : SnI W w vL ss) (hn : vL ≠ .slice none 0 0) : ∃ b c, vL = .slice (some ⟨b, 0, none⟩) ss.length c ∧ ss.length ≤ c ∧ W.heap.size ≤ b ∧ b < w.heap.size := by
  rcases (own_block h.l).shape with ⟨e, _⟩ | ⟨b, c, rfl, hc, _⟩
  · exact absurd e hn
  · obtain ⟨_, h1, _, h2, _⟩ := (own_block h.l).at
    exact ⟨b, c, rfl, hc, h1, h2⟩
theorem SnI.some_ {W w : World} {vL : Value} {ss : List ByteArray} (h : SnI W w vL ss) (hn : 0 < ss.length) : vL ≠ .slice none 0 0 := by
  rcases (own_block h.l).shape with ⟨_, e, _⟩ | ⟨b, c, rfl, _⟩
  · omega
  · intro e; cases e
theorem rdt_take {w : World} {ao : Option Addr} {n c : Nat} {l : List ByteArray} {m : Nat} (h : RdT w (.slice ao n c) l) (hm : m ≤ l.length) : Rd w 1 (.slice ao m c) m (strs (l.take m)) := by
  obtain ⟨_, ao', cap, e, h2, h3⟩ := h
  injection e with e1 e2 e3
  subst e1 e2 e3
  have hl : (l.take m).length = m := by rw [List.length_take]; omega
  refine ⟨by rw [strs_len, hl, Nat.mul_one], ao, c, rfl, ⟨by omega, h2.2⟩, fun hp => ?_⟩
  obtain ⟨b, o, rfl, hb, hcl⟩ := h3 (by omega)
  refine ⟨b, o, rfl, hb, fun j hj => ?_⟩
  rw [hcl j (by omega), strs_at _ _ (by omega), strs_at _ _ (by omega), List.getElem_take]
theorem rdt_drop {w : World} {b o n c : Nat} {l : List ByteArray} {m : Nat} (h : RdT w (.slice (some ⟨b, o, none⟩) n c) l) (hm : m ≤ l.length) : Rd w 1 (.slice (some ⟨b, o + m, none⟩) (n - m) (c - m)) (n - m) (strs (l.drop m)) := by
  obtain ⟨ao, cap, e, hc, hcell⟩ := h.shape
  injection e with e1 e2 e3
  subst e1 e2 e3
  refine ⟨by rw [strs_len, Nat.mul_one, List.length_drop], some ⟨b, o + m, none⟩, c - m, rfl, ⟨by omega, fun e => by cases e⟩, fun hp => ?_⟩
  obtain ⟨b', o', e', hb, hcl⟩ := hcell (by omega)
  cases e'
  refine ⟨b, o + m, rfl, hb, fun j hj => ?_⟩
  rw [strs_at _ j (by rw [List.length_drop]; omega), List.getElem_drop]
  have := hcl (m + j) (by omega)
  rw [← Nat.add_assoc] at this
  exact this
theorem rdt_none {w : World} {a : Addr} {c : Nat} {l : List ByteArray} {m : Nat} (hm : m = l.length) : Rd w 1 (.slice (some a) 0 c) 0 (strs (l.drop m)) :=
  ⟨by rw [strs_len, List.length_drop]; omega, some a, c, rfl, ⟨Nat.zero_le _, fun e => by cases e⟩, fun h => absurd h (by omega)⟩
/-- Texts in order. -/
def Ord (ss : List ByteArray) : Prop := ss.Pairwise fun a b => a.toList ≤ b.toList
theorem ord_ins {ss : List ByteArray} {x : ByteArray} {k : Nat} (hk : k ≤ ss.length) (h : Ord ss) (h1 : ∀ i (h : i < ss.length), k ≤ i → x.toList < ss[i].toList) (h2 : ∀ i (h : i < ss.length), i + 1 = k → ss[i].toList ≤ x.toList) : Ord (ss.take k ++ [x] ++ ss.drop k) := by
  have ht : ∀ a ∈ ss.take k, a.toList ≤ x.toList := by
    intro a ha
    obtain ⟨i, hi, rfl⟩ := List.mem_take_iff_getElem.1 ha
    have hi := Nat.lt_min.1 hi
    by_cases e : i + 1 = k
    · exact h2 i hi.2 e
    · have h3 := h2 (k - 1) (by omega) (by omega)
      exact List.le_trans (List.pairwise_iff_getElem.1 h i (k - 1) hi.2 (by omega) (by omega)) h3
  have hd : ∀ a ∈ ss.drop k, x.toList ≤ a.toList := by
    intro a ha
    obtain ⟨i, hi, rfl⟩ := List.getElem_of_mem ha
    rw [List.length_drop] at hi
    rw [List.getElem_drop]
    exact List.le_of_lt (h1 (k + i) (by omega) (by omega))
  unfold Ord at h ⊢
  rw [List.append_assoc, List.pairwise_append]
  have h' := h
  rw [← List.take_append_drop k ss, List.pairwise_append] at h'
  refine ⟨h'.1, List.pairwise_append.2 ⟨List.pairwise_singleton _ _, h'.2.1, fun a ha b hb => ?_⟩, fun a ha b hb => ?_⟩
  · rw [List.mem_singleton.1 ha]; exact hd b hb
  · rcases List.mem_append.1 hb with hb | hb
    · rw [List.mem_singleton.1 hb]; exact ht a ha
    · exact h'.2.2 a ha b hb
theorem perm_ins (ss : List ByteArray) (x : ByteArray) (k : Nat) : (ss.take k ++ [x] ++ ss.drop k).Perm (ss ++ [x]) := by
  rw [List.append_assoc]
  refine List.Perm.trans (List.Perm.append_left _ List.perm_append_comm) ?_
  rw [← List.append_assoc, List.take_append_drop]
/-- The names of the entries in a directory, as they lie. -/
def namesD (ps : List Den) (d : Int) : List ByteArray := (ps.filter fun x => decide (¬ x.child < 0 ∧ x.dir = d)).map Den.name
theorem names_succ {ps : List Den} {d : Int} {k : Nat} (h : k < ps.length) : namesD (ps.take (k + 1)) d = if ¬ ps[k].child < 0 ∧ ps[k].dir = d then namesD (ps.take k) d ++ [ps[k].name] else namesD (ps.take k) d := by
  unfold namesD
  rw [List.take_succ_eq_append_getElem h, List.filter_append, List.map_append]
  by_cases c : ¬ ps[k].child < 0 ∧ ps[k].dir = d
  · rw [if_pos c]
    simp only [List.filter_cons, decide_eq_true c, if_true, List.filter_nil, List.map_cons, List.map_nil]
  · rw [if_neg c]
    simp only [List.filter_cons, decide_eq_false c, List.filter_nil]
    simp
theorem names_len (ps : List Den) (d : Int) : (namesD ps d).length ≤ ps.length := by unfold namesD; rw [List.length_map]; exact List.length_filter_le _ _
/-- The texts, sorted. -/
def sorted (ss : List ByteArray) : List ByteArray := ((ss.map fun s => s.data.toList).mergeSort fun x y => decide (x ≤ y)).map fun l => ⟨l.toArray⟩
theorem sorted_len (ss : List ByteArray) : (sorted ss).length = ss.length := by unfold sorted; rw [List.length_map, List.length_mergeSort, List.length_map]
theorem ord_sorted {ss l : List ByteArray} (h : Ord ss) (hp : ss.Perm l) : ss = sorted l := by
  have tr : ∀ a b c : List UInt8, decide (a ≤ b) = true → decide (b ≤ c) = true → decide (a ≤ c) = true := fun a b c h1 h2 => by simp only [decide_eq_true_eq] at *; exact List.le_trans h1 h2
  have tot : ∀ a b : List UInt8, (decide (a ≤ b) || decide (b ≤ a)) = true := fun a b => by simp only [Bool.or_eq_true, decide_eq_true_eq]; exact List.le_total a b
  have e : ss.map (fun s => s.data.toList) = (l.map fun s => s.data.toList).mergeSort fun x y => decide (x ≤ y) := by
    refine List.Perm.eq_of_pairwise (le := fun a b => decide (a ≤ b) = true) (fun a b _ _ h1 h2 => ?_) ?_ (List.pairwise_mergeSort tr tot _) ((hp.map _).trans (List.mergeSort_perm _ _).symm)
    · simp only [decide_eq_true_eq] at h1 h2
      exact List.le_antisymm h1 h2
    · rw [List.pairwise_map]
      refine List.Pairwise.imp (fun {a b} h => ?_) h
      rw [Lib.toList_data, Lib.toList_data] at h
      exact decide_eq_true h
  unfold sorted
  rw [← e, List.map_map]
  rw [show ((fun l : List UInt8 => (⟨l.toArray⟩ : ByteArray)) ∘ fun s : ByteArray => s.data.toList) = id from funext fun s => by simp]
  simp
end Go.Proofs.YtpgdpachomdfhaaGreatDoor

namespace Go.Proofs.YtpgdpachomdfhaaGreatDoor
open Go.RowKit

/-- The bytes as a text. -/
def mkB (l : List UInt8) : ByteArray := ⟨l.toArray⟩
theorem mkB_data (l : List UInt8) : (mkB l).data.toList = l := by simp [mkB]
theorem mkB_of (s : ByteArray) : mkB s.data.toList = s := by
  obtain ⟨⟨l⟩⟩ := s
  rfl
theorem bytes_ext {a b : ByteArray} (h : a.data.toList = b.data.toList) : a = b := by rw [← mkB_of a, ← mkB_of b, h]
theorem mkB_extract (s : ByteArray) (a b : Nat) : mkB ((s.data.toList.take b).drop a) = s.extract a b := by
  apply bytes_ext
  rw [mkB_data, Lib.extract_data, List.drop_take]
/-- Cut at slashes, what was begun ahead. -/
def cutG (cur : List UInt8) : List UInt8 → List (List UInt8)
  | [] => [cur]
  | c :: l => if c = 47 then cur :: cutG [] l else cutG (cur ++ [c]) l
theorem cutG_nil (cur : List UInt8) : cutG cur [] = [cur] := rfl
theorem cutG_cons (cur : List UInt8) (c : UInt8) (l : List UInt8) : cutG cur (c :: l) = if c = 47 then cur :: cutG [] l else cutG (cur ++ [c]) l := rfl
theorem cutG_none : ∀ (l cur : List UInt8), (∀ c ∈ l, ¬ c = 47) → cutG cur l = [cur ++ l]
  | [], cur, _ => by rw [cutG_nil, List.append_nil]
  | c :: l, cur, h => by
    rw [cutG_cons, if_neg (h c (List.mem_cons_self ..)), cutG_none l _ (fun x hx => h x (List.mem_cons_of_mem _ hx)), List.append_assoc]
    rfl
theorem cutG_some : ∀ (l cur r : List UInt8), (∀ c ∈ l, ¬ c = 47) → cutG cur (l ++ 47 :: r) = (cur ++ l) :: cutG [] r
  | [], cur, r, _ => by rw [List.nil_append, cutG_cons, if_pos rfl, List.append_nil]
  | c :: l, cur, r, h => by
    rw [List.cons_append, cutG_cons, if_neg (h c (List.mem_cons_self ..)), cutG_some l _ r (fun x hx => h x (List.mem_cons_of_mem _ hx)), List.append_assoc]
    rfl
theorem cutG_head : ∀ (l cur : List UInt8), ∃ x r, cutG cur l = (cur ++ x) :: r
  | [], cur => ⟨[], [], by rw [cutG_nil, List.append_nil]⟩
  | c :: l, cur => by
    rw [cutG_cons]
    by_cases h : c = 47
    · rw [if_pos h]; exact ⟨[], _, by rw [List.append_nil]⟩
    · rw [if_neg h]
      obtain ⟨x, r, e⟩ := cutG_head l (cur ++ [c])
      exact ⟨c :: x, r, by rw [e, List.append_assoc]; rfl⟩
theorem cutG_len : ∀ (l cur : List UInt8), (cutG cur l).length ≤ l.length + 1
  | [], cur => by rw [cutG_nil]; simp
  | c :: l, cur => by
    rw [cutG_cons]
    split
    · have := cutG_len l []
      simp only [List.length_cons]; omega
    · have := cutG_len l (cur ++ [c])
      simp only [List.length_cons]; omega
theorem cutG_pos (l cur : List UInt8) : 1 ≤ (cutG cur l).length := by
  obtain ⟨x, r, e⟩ := cutG_head l cur
  rw [e]; simp
/-- Each piece is no longer than the text. -/
theorem cutG_mem : ∀ (l cur x : List UInt8), x ∈ cutG cur l → x.length ≤ cur.length + l.length
  | [], cur, x, h => by rw [cutG_nil, List.mem_singleton] at h; rw [h]; simp
  | c :: l, cur, x, h => by
    rw [cutG_cons] at h
    split at h
    · rcases List.mem_cons.1 h with rfl | h
      · simp
      · have := cutG_mem l [] x h
        simp only [List.length_nil, List.length_cons] at *
        omega
    · have := cutG_mem l (cur ++ [c]) x h
      simp only [List.length_append, List.length_cons, List.length_nil] at *
      omega
/-- The shelf's cut, at slashes. -/
theorem splitK_cut : ∀ (k : Nat) (l : List UInt8), Lib.count l [47] = k → Lib.splitK [47] 0 k l = cutG [] l
  | 0, l, h => by
    show [l] = _
    rw [Lib.count_one] at h
    rw [cutG_none l [] (fun c hc e => by subst e; have := List.count_pos_iff.2 hc; omega), List.nil_append]
  | k + 1, l, h => by
    have hm : (47 : UInt8) ∈ l := by
      rw [Lib.count_one] at h
      exact List.count_pos_iff.1 (by omega)
    have hge := Lib.indexByte_ge l 47
    have hi : Lib.index l [47] = Lib.indexByte l 47 := Lib.index_one l 47
    have hne : ¬ Lib.indexByte l 47 = -1 := fun e => by
      obtain ⟨j, hj, e2⟩ := List.getElem_of_mem hm
      exact Lib.indexByte_none e j (by rw [List.getElem?_eq_getElem hj, e2])
    obtain ⟨o, ho⟩ : ∃ o : Nat, Lib.indexByte l 47 = (o : Int) := ⟨(Lib.indexByte l 47).toNat, by omega⟩
    obtain ⟨h1, h2⟩ := Lib.indexByte_some ho
    have hol : o < l.length := (List.getElem?_eq_some_iff.1 h1).1
    have e0 : l = l.take o ++ 47 :: l.drop (o + 1) := by
      have hd : l.drop o = 47 :: l.drop (o + 1) := by
        rw [List.drop_eq_getElem_cons hol, (List.getElem?_eq_some_iff.1 h1).2]
      rw [← hd, List.take_append_drop]
    have hno : ∀ c ∈ l.take o, ¬ c = 47 := fun c hc e => by
      subst e
      obtain ⟨j, hj, e2⟩ := List.mem_take_iff_getElem.1 hc
      have hj := Nat.lt_min.1 hj
      exact h2 j hj.1 (by rw [List.getElem?_eq_getElem hj.2, e2])
    unfold Lib.splitK
    rw [hi, ho, if_neg (by simp), Int.toNat_natCast, Nat.add_zero]
    show l.take o :: Lib.splitK [47] 0 k (l.drop (o + 1)) = cutG [] l
    have hc : Lib.count (l.drop (o + 1)) [47] = k := by
      rw [Lib.count_one] at h ⊢
      have hz : (l.take o).count 47 = 0 := List.count_eq_zero.2 (fun hx => hno 47 hx rfl)
      rw [e0, List.count_append, hz, List.count_cons_self] at h
      omega
    rw [splitK_cut k _ hc]
    conv => rhs; rw [e0]
    rw [cutG_some _ _ _ hno, List.nil_append]
/-- A text's pieces. -/
def pcs (s : ByteArray) : List ByteArray := (cutG [] s.data.toList).map mkB
theorem split_pcs (s : ByteArray) : Lib.splitB ⟨#[47]⟩ 0 (Lib.countB s ⟨#[47]⟩) s = pcs s := by
  have h := Lib.splitB_data ⟨#[47]⟩ 0 (Lib.countB s ⟨#[47]⟩) s
  have h2 := splitK_cut (Lib.countB s ⟨#[47]⟩) s.data.toList rfl
  unfold pcs
  rw [← h2]
  have h3 : Lib.splitK [47] 0 (Lib.countB s ⟨#[47]⟩) s.data.toList = (Lib.splitB ⟨#[47]⟩ 0 (Lib.countB s ⟨#[47]⟩) s).map (·.data.toList) := h.symm
  rw [h3, List.map_map]
  have : (mkB ∘ fun x : ByteArray => x.data.toList) = id := funext fun x => mkB_of x
  rw [this, List.map_id]
theorem pcs_len (s : ByteArray) : (pcs s).length ≤ s.size + 1 := by
  unfold pcs
  rw [List.length_map, Lib.size_eq]
  exact cutG_len _ _
theorem pcs_pos (s : ByteArray) : 1 ≤ (pcs s).length := by unfold pcs; rw [List.length_map]; exact cutG_pos _ _
theorem pcs_size (s : ByteArray) : ∀ k (h : k < (pcs s).length), (pcs s)[k].size ≤ s.size := by
  intro k hk
  have hm : (pcs s)[k] ∈ (cutG [] s.data.toList).map mkB := List.getElem_mem hk
  obtain ⟨x, hx, e⟩ := List.mem_map.1 hm
  have := cutG_mem _ _ _ hx
  rw [← e, Lib.size_eq, mkB_data, Lib.size_eq]
  simpa using this
theorem count_pcs (s : ByteArray) : Lib.countB s ⟨#[47]⟩ + 1 = (pcs s).length := by
  rw [← split_pcs, Lib.splitB_all ⟨#[47]⟩ (by decide) 0 _ s rfl]
/-- The pieces of a text with a slash ahead. -/
theorem pcs_slash {s : ByteArray} {l : List UInt8} (h : s.data.toList = 47 :: l) : pcs s = mkB [] :: pcs (mkB l) := by
  unfold pcs
  rw [h, cutG_cons, if_pos rfl, mkB_data]
  rfl
theorem pcs_other {s : ByteArray} {c : UInt8} {l : List UInt8} (h : s.data.toList = c :: l) (hc : ¬ c = 47) : ∃ x r, pcs s = x :: r ∧ ¬ x.size = 0 := by
  unfold pcs
  rw [h, cutG_cons, if_neg hc, List.nil_append]
  obtain ⟨x, r, e⟩ := cutG_head l [c]
  refine ⟨mkB ([c] ++ x), r.map mkB, by rw [e]; rfl, ?_⟩
  rw [Lib.size_eq, mkB_data]; simp
theorem pcs_none {s : ByteArray} (h : s.data.toList = []) : pcs s = [mkB []] := by
  unfold pcs
  rw [h]
  rfl
end Go.Proofs.YtpgdpachomdfhaaGreatDoor
