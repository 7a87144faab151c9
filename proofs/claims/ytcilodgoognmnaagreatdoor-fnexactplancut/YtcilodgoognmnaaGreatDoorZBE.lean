/- Several texts laid together: PbA, PbC. -/
import Derived.Test.YtcilodgoognmnaaGreatDoorZBD
import Derived.Test.YtcilodgoognmnaaGreatDoorZAG
import Derived.Lib.SplitLaws
import Derived.Lib.IndexBytes
import Derived.Deep.LoopGhost
import Derived.Laws.OwnMore
namespace Go.Proofs.YtcilodgoognmnaaGreatDoor
open Go.RowKit

/-- The bytes as a text. -/
def mkB (l : List UInt8) : ByteArray := ⟨l.toArray⟩
theorem mkB_data (l : List UInt8) : (mkB l).data.toList = l := by simp [mkB]
theorem mkB_of (s : ByteArray) : mkB s.data.toList = s := by
  obtain ⟨⟨l⟩⟩ := s
  rfl
theorem bytes_ext {a b : ByteArray} (h : a.data.toList = b.data.toList) : a = b := by rw [← mkB_of a, ← mkB_of b, h]
theorem mkB_extract (s : ByteArray) (a b : Nat) : mkB ((s.data.toList.take b).drop a) = s.extract a b := by
  apply bytes_ext
  rw [mkB_data, Lib.extract_data, List.drop_take]
/-- Cut at slashes, what was begun ahead. -/
def cutG (cur : List UInt8) : List UInt8 → List (List UInt8)
  | [] => [cur]
  | c :: l => if c = 47 then cur :: cutG [] l else cutG (cur ++ [c]) l
theorem cutG_nil (cur : List UInt8) : cutG cur [] = [cur] := rfl
theorem cutG_cons (cur : List UInt8) (c : UInt8) (l : List UInt8) : cutG cur (c :: l) = if c = 47 then cur :: cutG [] l else cutG (cur ++ [c]) l := rfl
theorem cutG_none : ∀ (l cur : List UInt8), (∀ c ∈ l, ¬ c = 47) → cutG cur l = [cur ++ l]
  | [], cur, _ => by rw [cutG_nil, List.append_nil]
  | c :: l, cur, h => by
    rw [cutG_cons, if_neg (h c (List.mem_cons_self ..)), cutG_none l _ (fun x hx => h x (List.mem_cons_of_mem _ hx)), List.append_assoc]
    rfl
theorem cutG_some : ∀ (l cur r : List UInt8), (∀ c ∈ l, ¬ c = 47) → cutG cur (l ++ 47 :: r) = (cur ++ l) :: cutG [] r
  | [], cur, r, _ => by rw [List.nil_append, cutG_cons, if_pos rfl, List.append_nil]
  | c :: l, cur, r, h => by
    rw [List.cons_append, cutG_cons, if_neg (h c (List.mem_cons_self ..)), cutG_some l _ r (fun x hx => h x (List.mem_cons_of_mem _ hx)), List.append_assoc]
    rfl
theorem cutG_head : ∀ (l cur : List UInt8), ∃ x r, cutG cur l = (cur ++ x) :: r
  | [], cur => ⟨[], [], by rw [cutG_nil, List.append_nil]⟩
  | c :: l, cur => by
    rw [cutG_cons]
    by_cases h : c = 47
    · rw [if_pos h]; exact ⟨[], _, by rw [List.append_nil]⟩
    · rw [if_neg h]
      obtain ⟨x, r, e⟩ := cutG_head l (cur ++ [c])
      exact ⟨c :: x, r, by rw [e, List.append_assoc]; rfl⟩
theorem cutG_len : ∀ (l cur : List UInt8), (cutG cur l).length ≤ l.length + 1
  | [], cur => by rw [cutG_nil]; simp
  | c :: l, cur => by
    rw [cutG_cons]
    split
    · have := cutG_len l []
      simp only [List.length_cons]; omega
    · have := cutG_len l (cur ++ [c])
      simp only [List.length_cons]; omega
theorem cutG_pos (l cur : List UInt8) : 1 ≤ (cutG cur l).length := by
  obtain ⟨x, r, e⟩ := cutG_head l cur
  rw [e]; simp
/-- Each piece is no longer than the text. -/
theorem cutG_mem : ∀ (l cur x : List UInt8), x ∈ cutG cur l → x.length ≤ cur.length + l.length
  | [], cur, x, h => by rw [cutG_nil, List.mem_singleton] at h; rw [h]; simp
  | c :: l, cur, x, h => by
    rw [cutG_cons] at h
    split at h
    · rcases List.mem_cons.1 h with rfl | h
      · simp
      · have := cutG_mem l [] x h
        simp only [List.length_nil, List.length_cons] at *
        omega
    · have := cutG_mem l (cur ++ [c]) x h
      simp only [List.length_append, List.length_cons, List.length_nil] at *
      omega
/-- The shelf's cut, at slashes. -/
theorem splitK_cut : ∀ (k : Nat) (l : List UInt8), Lib.count l [47] = k → Lib.splitK [47] 0 k l = cutG [] l
  | 0, l, h => by
    show [l] = _
    rw [Lib.count_one] at h
    rw [cutG_none l [] (fun c hc e => by subst e; have := List.count_pos_iff.2 hc; omega), List.nil_append]
  | k + 1, l, h => by
    have hm : (47 : UInt8) ∈ l := by
      rw [Lib.count_one] at h
      exact List.count_pos_iff.1 (by omega)
    have hge := Lib.indexByte_ge l 47
    have hi : Lib.index l [47] = Lib.indexByte l 47 := Lib.index_one l 47
    have hne : ¬ Lib.indexByte l 47 = -1 := fun e => by
      obtain ⟨j, hj, e2⟩ := List.getElem_of_mem hm
      exact Lib.indexByte_none e j (by rw [List.getElem?_eq_getElem hj, e2])
    obtain ⟨o, ho⟩ : ∃ o : Nat, Lib.indexByte l 47 = (o : Int) := ⟨(Lib.indexByte l 47).toNat, by omega⟩
    obtain ⟨h1, h2⟩ := Lib.indexByte_some ho
    have hol : o < l.length := (List.getElem?_eq_some_iff.1 h1).1
    have e0 : l = l.take o ++ 47 :: l.drop (o + 1) := by
      have hd : l.drop o = 47 :: l.drop (o + 1) := by
        rw [List.drop_eq_getElem_cons hol, (List.getElem?_eq_some_iff.1 h1).2]
      rw [← hd, List.take_append_drop]
    have hno : ∀ c ∈ l.take o, ¬ c = 47 := fun c hc e => by
      subst e
      obtain ⟨j, hj, e2⟩ := List.mem_take_iff_getElem.1 hc
      have hj := Nat.lt_min.1 hj
      exact h2 j hj.1 (by rw [List.getElem?_eq_getElem hj.2, e2])
    unfold Lib.splitK
    rw [hi, ho, if_neg (by simp), Int.toNat_natCast, Nat.add_zero]
    show l.take o :: Lib.splitK [47] 0 k (l.drop (o + 1)) = cutG [] l
    have hc : Lib.count (l.drop (o + 1)) [47] = k := by
      rw [Lib.count_one] at h ⊢
      have hz : (l.take o).count 47 = 0 := List.count_eq_zero.2 (fun hx => hno 47 hx rfl)
      rw [e0, List.count_append, hz, List.count_cons_self] at h
      omega
    rw [splitK_cut k _ hc]
    conv => rhs; rw [e0]
    rw [cutG_some _ _ _ hno, List.nil_append]
/-- A text's pieces. -/
def pcs (s : ByteArray) : List ByteArray := (cutG [] s.data.toList).map mkB
theorem split_pcs (s : ByteArray) : Lib.splitB ⟨#[47]⟩ 0 (Lib.countB s ⟨#[47]⟩) s = pcs s := by
  have h := Lib.splitB_data ⟨#[47]⟩ 0 (Lib.countB s ⟨#[47]⟩) s
  have h2 := splitK_cut (Lib.countB s ⟨#[47]⟩) s.data.toList rfl
  unfold pcs
  rw [← h2]
  have h3 : Lib.splitK [47] 0 (Lib.countB s ⟨#[47]⟩) s.data.toList = (Lib.splitB ⟨#[47]⟩ 0 (Lib.countB s ⟨#[47]⟩) s).map (·.data.toList) := h.symm
  rw [h3, List.map_map]
  have : (mkB ∘ fun x : ByteArray => x.data.toList) = id := funext fun x => mkB_of x
  rw [this, List.map_id]
theorem pcs_len (s : ByteArray) : (pcs s).length ≤ s.size + 1 := by
  unfold pcs
  rw [List.length_map, Lib.size_eq]
  exact cutG_len _ _
theorem pcs_pos (s : ByteArray) : 1 ≤ (pcs s).length := by unfold pcs; rw [List.length_map]; exact cutG_pos _ _
theorem pcs_size (s : ByteArray) : ∀ k (h : k < (pcs s).length), (pcs s)[k].size ≤ s.size := by
  intro k hk
  have hm : (pcs s)[k] ∈ (cutG [] s.data.toList).map mkB := List.getElem_mem hk
  obtain ⟨x, hx, e⟩ := List.mem_map.1 hm
  have := cutG_mem _ _ _ hx
  rw [← e, Lib.size_eq, mkB_data, Lib.size_eq]
  simpa using this
theorem count_pcs (s : ByteArray) : Lib.countB s ⟨#[47]⟩ + 1 = (pcs s).length := by
  rw [← split_pcs, Lib.splitB_all ⟨#[47]⟩ (by decide) 0 _ s rfl]
/-- The pieces of a text with a slash ahead. -/
theorem pcs_slash {s : ByteArray} {l : List UInt8} (h : s.data.toList = 47 :: l) : pcs s = mkB [] :: pcs (mkB l) := by
  unfold pcs
  rw [h, cutG_cons, if_pos rfl, mkB_data]
  rfl
theorem pcs_other {s : ByteArray} {c : UInt8} {l : List UInt8} (h : s.data.toList = c :: l) (hc : ¬ c = 47) : ∃ x r, pcs s = x :: r ∧ ¬ x.size = 0 := by
  unfold pcs
  rw [h, cutG_cons, if_neg hc, List.nil_append]
  obtain ⟨x, r, e⟩ := cutG_head l [c]
  refine ⟨mkB ([c] ++ x), r.map mkB, by rw [e]; rfl, ?_⟩
  rw [Lib.size_eq, mkB_data]; simp
theorem pcs_none {s : ByteArray} (h : s.data.toList = []) : pcs s = [mkB []] := by
  unfold pcs
  rw [h]
  rfl
end Go.Proofs.YtcilodgoognmnaaGreatDoor

namespace Go.Proofs.YtcilodgoognmnaaGreatDoor
open Go.RowKit

theorem byte_at (s : ByteArray) (k : Nat) (h : k < s.size) : s.data.toList[k]'(by rw [← Lib.size_eq]; exact h) = s[k] := by
  rw [Array.getElem_toList]
  rfl
theorem byte_is (c : UInt8) : ((c.toNat : Int) == 47) = decide (c = 47) := by
  by_cases h : c = 47
  · subst h; rfl
  · rw [decide_eq_false h, beq_eq_false_iff_ne]
    intro e
    apply h
    apply UInt8.toNat_inj.1
    show c.toNat = 47
    omega
theorem cut_begin (l : List UInt8) : cutG [] l = [] ++ cutG ((l.take 0).drop 0) (l.drop 0) := by simp
theorem cut_yes {l : List UInt8} {ds : List (List UInt8)} {k f : Nat} (hk : k < l.length) (h : cutG [] l = ds ++ cutG ((l.take k).drop f) (l.drop k)) (hc : l[k] = 47) :
    cutG [] l = (ds ++ [(l.take k).drop f]) ++ cutG ((l.take (k + 1)).drop (k + 1)) (l.drop (k + 1)) := by
  rw [List.drop_eq_getElem_cons hk, cutG_cons, if_pos hc] at h
  rw [h, List.append_assoc, List.drop_of_length_le (l := l.take (k + 1)) (by rw [List.length_take]; omega)]
  rfl
theorem cut_no {l : List UInt8} {ds : List (List UInt8)} {k f : Nat} (hk : k < l.length) (hf : f ≤ k) (h : cutG [] l = ds ++ cutG ((l.take k).drop f) (l.drop k)) (hc : ¬ l[k] = 47) :
    cutG [] l = ds ++ cutG ((l.take (k + 1)).drop f) (l.drop (k + 1)) := by
  rw [List.drop_eq_getElem_cons hk, cutG_cons, if_neg hc] at h
  rw [h, List.take_succ_eq_append_getElem hk, List.drop_append_of_le_length (by rw [List.length_take]; omega)]
theorem cut_end {s : ByteArray} {ds : List (List UInt8)} {f : Nat} (h : cutG [] s.data.toList = ds ++ cutG ((s.data.toList.take s.size).drop f) (s.data.toList.drop s.size)) : pcs s = ds.map mkB ++ [s.extract f s.size] := by
  unfold pcs
  rw [h, List.drop_of_length_le (l := s.data.toList) (by rw [← Lib.size_eq]; exact Nat.le_refl _), cutG_nil, List.map_append]
  show ds.map mkB ++ [mkB _] = _
  rw [mkB_extract]

set_option maxRecDepth 100000 in
set_option maxHeartbeats 4000000 in
theorem l00Cut_any (s : ByteArray) (w : World) (hs : s.size ≤ 65536) :
    Calls Tryz.prog 215 #[.string s, .int .u8 47] w fun e w' => ∃ v', e = .returned v' ∧ Row w' 9 1 w.heap.size w'.heap.size v' (pcs s).length (strs (pcs s)) ∧ Below w.heap.size w w' := by
  have START : Hid (SnI w (w.alloc (.cells #[] 9)) (.slice (some ⟨w.heap.size, 0, none⟩) 0 0) []) := ⟨World.ownsRow_lit w #[] 0 (Nat.le_refl _) (by simp [maxLen]) (by simp), (Below.refl _ _).alloc (Nat.le_refl _) _⟩
  have HL := hideIt (Lib.size_eq s)
  go_enter Tryz.func215, Tryz.ntmps215
  go_wp2
  go_loopg [5, 6, 7] s.size (fun g vL fr i wr => ∃ (k f : Nat) (ds : List (List UInt8)), k + g = s.size ∧ f ≤ k ∧ fr = .int .i64 f ∧ i = .int .i64 k ∧ vL ≠ .slice none 0 0 ∧ ds.length ≤ k ∧ Hid (SnI w wr vL (ds.map mkB) ∧ cutG [] s.data.toList = ds ++ cutG ((s.data.toList.take k).drop f) (s.data.toList.drop k)))
  case atStart => exact ⟨0, 0, [], by omega, by omega, rfl, rfl, (fun e => by cases e), Nat.le_refl _, START.out, cut_begin _⟩
  case round =>
    obtain ⟨k, f, ds, hkg, hf, rfl, rfl, hv, hd, I⟩ := hrel
    clear START
    have k0 : (0 : Int) ≤ (k : Int) := by omega
    have f0 : (0 : Int) ≤ (f : Int) := by omega
    have fk : (f : Int) ≤ (k : Int) := by omega
    have DL : (ds.map mkB).length = ds.length := List.length_map ..
    by_cases hlt : k < s.size
    · have k1 : (k : Int) < (s.size : Int) := by omega
      have k2 : (k : Int) ≤ (s.size : Int) := by omega
      have hkl : k < s.data.toList.length := by rw [← HL.out]; exact hlt
      by_cases c : s[k] = 47
      · have q : ((s[k].toNat : Int) == 47) = true := by rw [byte_is, decide_eq_true c]
        have N := hideIt (cut_yes hkl I.out.2 (by rw [byte_at s k hlt]; exact c))
        have MN : Hid ((ds ++ [(s.data.toList.take k).drop f]).map mkB = ds.map mkB ++ [s.extract f k]) := by unfold Hid; rw [List.map_append, ← mkB_extract]; rfl
        have JB : Hid (SnI w (wr.alloc (.cells #[.string (s.extract f k)] 9)) u5 (ds.map mkB)) := I.out.1.below ((Below.refl _ _).alloc (Nat.le_refl _) _)
        have RB := hideIt (rd_str wr (s.extract f k))
        have hzb := JB.out.z
        simp only [World.size_alloc] at hzb
        clear I c
        go_wp2_with (at_builtin; refine wpList_append_rd _ rfl (.tmp 20) (.tmp 25) 73 rfl w.heap.size 9 (.string ⟨#[]⟩) 1 16 Tryz.underlying73 info9 rfl (by decide) _ _ _ rfl JB.out.l _ 1 _ rfl RB.out (strs_one _) (by simp [maxLen]; omega) (by simp; omega) JB.out.z ?_)
        intro vN wN hownN hgrN
        have G := hideIt (JB.out.grow [s.extract f k] rfl (by rw [List.length_map]; exact hownN) hgrN)
        rw [← MN.out] at G
        have hv2 := hideIt (G.out.some_ (by simp))
        clear hownN hgrN JB RB q MN hv
        go_wp2
        go_roundg (s.size - (k + 1))
        case measure => omega
        case rel => exact ⟨k + 1, k + 1, ds ++ [(s.data.toList.take k).drop f], by omega, Nat.le_refl _, by go_num, by go_num, hv2.out, by simp; omega, G.out, N.out⟩
      · have q : ((s[k].toNat : Int) == 47) = false := by rw [byte_is, decide_eq_false c]
        have N := hideIt (cut_no hkl hf I.out.2 (by rw [byte_at s k hlt]; exact c))
        have I1 := hideIt I.out.1
        have HV := hideIt hv
        clear I c DL hv
        go_wp2
        go_roundg (s.size - (k + 1))
        case measure => omega
        case rel => exact ⟨k + 1, f, ds, by omega, by omega, rfl, by go_num, HV.out, by omega, I1.out, N.out⟩
    · obtain rfl : k = s.size := by omega
      have MN := hideIt (cut_end I.out.2)
      have JB : Hid (SnI w (wr.alloc (.cells #[.string (s.extract f s.size)] 9)) u5 (ds.map mkB)) := I.out.1.below ((Below.refl _ _).alloc (Nat.le_refl _) _)
      have RB := hideIt (rd_str wr (s.extract f s.size))
      have hzb := JB.out.z
      simp only [World.size_alloc] at hzb
      clear I
      go_wp2_with (at_builtin; refine wpList_append_rd _ rfl (.tmp 29) (.tmp 33) 73 rfl w.heap.size 9 (.string ⟨#[]⟩) 1 16 Tryz.underlying73 info9 rfl (by decide) _ _ _ rfl JB.out.l _ 1 _ rfl RB.out (strs_one _) (by simp [maxLen]; omega) (by simp; omega) JB.out.z ?_)
      intro vN wN hownN hgrN
      have G := hideIt (JB.out.grow [s.extract f s.size] rfl (by rw [List.length_map]; exact hownN) hgrN)
      rw [← MN.out] at G
      clear hownN hgrN JB RB MN hv
      go_wp2
      go_ret
      exact ⟨_, rfl, own_block G.out.l, G.out.b⟩
end Go.Proofs.YtcilodgoognmnaaGreatDoor
