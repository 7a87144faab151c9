/- Several texts laid together: PbA, PbC, PbD, ShL, PbB, PbE. -/
import Derived.Test.YtpljkdbeekplbaaDoorStA
import Derived.Test.YtpljkdbeekplbaaDoorNm
import Derived.Lib.SplitLaws
import Derived.Lib.IndexBytes
import Derived.Deep.LoopGhost
import Derived.Laws.OwnMore
import Derived.Test.YtpljkdbeekplbaaDoorRows
import Derived.Shelf.Small.Strs
import Derived.Shelf.Small.Wraps
import Derived.Shelf.Strings.Search3
import Derived.Shelf.Strings.Count
import Derived.Shelf.Strings.Split
import Derived.Test.YtpljkdbeekplbaaDoorPiF
namespace Go.Proofs.YtpljkdbeekplbaaDoor
open Go.RowKit

/-- The bytes as a text. -/
def mkB (l : List UInt8) : ByteArray := ⟨l.toArray⟩
theorem mkB_data (l : List UInt8) : (mkB l).data.toList = l := by simp [mkB]
theorem mkB_of (s : ByteArray) : mkB s.data.toList = s := by
  obtain ⟨⟨l⟩⟩ := s
  rfl
theorem bytes_ext {a b : ByteArray} (h : a.data.toList = b.data.toList) : a = b := by rw [← mkB_of a, ← mkB_of b, h]
theorem mkB_extract (s : ByteArray) (a b : Nat) : mkB ((s.data.toList.take b).drop a) = s.extract a b := by
  apply bytes_ext
  rw [mkB_data, Lib.extract_data, List.drop_take]
/-- Cut at slashes, what was begun ahead. -/
def cutG (cur : List UInt8) : List UInt8 → List (List UInt8)
  | [] => [cur]
  | c :: l => if c = 47 then cur :: cutG [] l else cutG (cur ++ [c]) l
theorem cutG_nil (cur : List UInt8) : cutG cur [] = [cur] := rfl
theorem cutG_cons (cur : List UInt8) (c : UInt8) (l : List UInt8) : cutG cur (c :: l) = if c = 47 then cur :: cutG [] l else cutG (cur ++ [c]) l := rfl
theorem cutG_none : ∀ (l cur : List UInt8), (∀ c ∈ l, ¬ c = 47) → cutG cur l = [cur ++ l]
  | [], cur, _ => by rw [cutG_nil, List.append_nil]
  | c :: l, cur, h => by
    rw [cutG_cons, if_neg (h c (List.mem_cons_self ..)), cutG_none l _ (fun x hx => h x (List.mem_cons_of_mem _ hx)), List.append_assoc]
    rfl
theorem cutG_some : ∀ (l cur r : List UInt8), (∀ c ∈ l, ¬ c = 47) → cutG cur (l ++ 47 :: r) = (cur ++ l) :: cutG [] r
  | [], cur, r, _ => by rw [List.nil_append, cutG_cons, if_pos rfl, List.append_nil]
  | c :: l, cur, r, h => by
    rw [List.cons_append, cutG_cons, if_neg (h c (List.mem_cons_self ..)), cutG_some l _ r (fun x hx => h x (List.mem_cons_of_mem _ hx)), List.append_assoc]
    rfl
theorem cutG_head : ∀ (l cur : List UInt8), ∃ x r, cutG cur l = (cur ++ x) :: r
  | [], cur => ⟨[], [], by rw [cutG_nil, List.append_nil]⟩
  | c :: l, cur => by
    rw [cutG_cons]
    by_cases h : c = 47
    · rw [if_pos h]; exact ⟨[], _, by rw [List.append_nil]⟩
    · rw [if_neg h]
      obtain ⟨x, r, e⟩ := cutG_head l (cur ++ [c])
      exact ⟨c :: x, r, by rw [e, List.append_assoc]; rfl⟩
theorem cutG_len : ∀ (l cur : List UInt8), (cutG cur l).length ≤ l.length + 1
  | [], cur => by rw [cutG_nil]; simp
  | c :: l, cur => by
    rw [cutG_cons]
    split
    · have := cutG_len l []
      simp only [List.length_cons]; omega
    · have := cutG_len l (cur ++ [c])
      simp only [List.length_cons]; omega
theorem cutG_pos (l cur : List UInt8) : 1 ≤ (cutG cur l).length := by
  obtain ⟨x, r, e⟩ := cutG_head l cur
  rw [e]; simp
/-- Each piece is no longer than the text. -/
theorem cutG_mem : ∀ (l cur x : List UInt8), x ∈ cutG cur l → x.length ≤ cur.length + l.length
  | [], cur, x, h => by rw [cutG_nil, List.mem_singleton] at h; rw [h]; simp
  | c :: l, cur, x, h => by
    rw [cutG_cons] at h
    split at h
    · rcases List.mem_cons.1 h with rfl | h
      · simp
      · have := cutG_mem l [] x h
        simp only [List.length_nil, List.length_cons] at *
        omega
    · have := cutG_mem l (cur ++ [c]) x h
      simp only [List.length_append, List.length_cons, List.length_nil] at *
      omega
/-- The shelf's cut, at slashes. -/
theorem splitK_cut : ∀ (k : Nat) (l : List UInt8), Lib.count l [47] = k → Lib.splitK [47] 0 k l = cutG [] l
  | 0, l, h => by
    show [l] = _
    rw [Lib.count_one] at h
    rw [cutG_none l [] (fun c hc e => by subst e; have := List.count_pos_iff.2 hc; omega), List.nil_append]
  | k + 1, l, h => by
    have hm : (47 : UInt8) ∈ l := by
      rw [Lib.count_one] at h
      exact List.count_pos_iff.1 (by omega)
    have hge := Lib.indexByte_ge l 47
    have hi : Lib.index l [47] = Lib.indexByte l 47 := Lib.index_one l 47
    have hne : ¬ Lib.indexByte l 47 = -1 := fun e => by
      obtain ⟨j, hj, e2⟩ := List.getElem_of_mem hm
      exact Lib.indexByte_none e j (by rw [List.getElem?_eq_getElem hj, e2])
    obtain ⟨o, ho⟩ : ∃ o : Nat, Lib.indexByte l 47 = (o : Int) := ⟨(Lib.indexByte l 47).toNat, by omega⟩
    obtain ⟨h1, h2⟩ := Lib.indexByte_some ho
    have hol : o < l.length := (List.getElem?_eq_some_iff.1 h1).1
    have e0 : l = l.take o ++ 47 :: l.drop (o + 1) := by
      have hd : l.drop o = 47 :: l.drop (o + 1) := by
        rw [List.drop_eq_getElem_cons hol, (List.getElem?_eq_some_iff.1 h1).2]
      rw [← hd, List.take_append_drop]
    have hno : ∀ c ∈ l.take o, ¬ c = 47 := fun c hc e => by
      subst e
      obtain ⟨j, hj, e2⟩ := List.mem_take_iff_getElem.1 hc
      have hj := Nat.lt_min.1 hj
      exact h2 j hj.1 (by rw [List.getElem?_eq_getElem hj.2, e2])
    unfold Lib.splitK
    rw [hi, ho, if_neg (by simp), Int.toNat_natCast, Nat.add_zero]
    show l.take o :: Lib.splitK [47] 0 k (l.drop (o + 1)) = cutG [] l
    have hc : Lib.count (l.drop (o + 1)) [47] = k := by
      rw [Lib.count_one] at h ⊢
      have hz : (l.take o).count 47 = 0 := List.count_eq_zero.2 (fun hx => hno 47 hx rfl)
      rw [e0, List.count_append, hz, List.count_cons_self] at h
      omega
    rw [splitK_cut k _ hc]
    conv => rhs; rw [e0]
    rw [cutG_some _ _ _ hno, List.nil_append]
/-- A text's pieces. -/
def pcs (s : ByteArray) : List ByteArray := (cutG [] s.data.toList).map mkB
theorem split_pcs (s : ByteArray) : Lib.splitB ⟨#[47]⟩ 0 (Lib.countB s ⟨#[47]⟩) s = pcs s := by
  have h := Lib.splitB_data ⟨#[47]⟩ 0 (Lib.countB s ⟨#[47]⟩) s
  have h2 := splitK_cut (Lib.countB s ⟨#[47]⟩) s.data.toList rfl
  unfold pcs
  rw [← h2]
  have h3 : Lib.splitK [47] 0 (Lib.countB s ⟨#[47]⟩) s.data.toList = (Lib.splitB ⟨#[47]⟩ 0 (Lib.countB s ⟨#[47]⟩) s).map (·.data.toList) := h.symm
  rw [h3, List.map_map]
  have : (mkB ∘ fun x : ByteArray => x.data.toList) = id := funext fun x => mkB_of x
  rw [this, List.map_id]
theorem pcs_len (s : ByteArray) : (pcs s).length ≤ s.size + 1 := by
  unfold pcs
  rw [List.length_map, Lib.size_eq]
  exact cutG_len _ _
theorem pcs_pos (s : ByteArray) : 1 ≤ (pcs s).length := by unfold pcs; rw [List.length_map]; exact cutG_pos _ _
theorem pcs_size (s : ByteArray) : ∀ k (h : k < (pcs s).length), (pcs s)[k].size ≤ s.size := by
  intro k hk
  have hm : (pcs s)[k] ∈ (cutG [] s.data.toList).map mkB := List.getElem_mem hk
  obtain ⟨x, hx, e⟩ := List.mem_map.1 hm
  have := cutG_mem _ _ _ hx
  rw [← e, Lib.size_eq, mkB_data, Lib.size_eq]
  simpa using this
theorem count_pcs (s : ByteArray) : Lib.countB s ⟨#[47]⟩ + 1 = (pcs s).length := by
  rw [← split_pcs, Lib.splitB_all ⟨#[47]⟩ (by decide) 0 _ s rfl]
/-- The pieces of a text with a slash ahead. -/
theorem pcs_slash {s : ByteArray} {l : List UInt8} (h : s.data.toList = 47 :: l) : pcs s = mkB [] :: pcs (mkB l) := by
  unfold pcs
  rw [h, cutG_cons, if_pos rfl, mkB_data]
  rfl
theorem pcs_other {s : ByteArray} {c : UInt8} {l : List UInt8} (h : s.data.toList = c :: l) (hc : ¬ c = 47) : ∃ x r, pcs s = x :: r ∧ ¬ x.size = 0 := by
  unfold pcs
  rw [h, cutG_cons, if_neg hc, List.nil_append]
  obtain ⟨x, r, e⟩ := cutG_head l [c]
  refine ⟨mkB ([c] ++ x), r.map mkB, by rw [e]; rfl, ?_⟩
  rw [Lib.size_eq, mkB_data]; simp
theorem pcs_none {s : ByteArray} (h : s.data.toList = []) : pcs s = [mkB []] := by
  unfold pcs
  rw [h]
  rfl
end Go.Proofs.YtpljkdbeekplbaaDoor

namespace Go.Proofs.YtpljkdbeekplbaaDoor
open Go.RowKit

theorem byte_at (s : ByteArray) (k : Nat) (h : k < s.size) : s.data.toList[k]'(by rw [← Lib.size_eq]; exact h) = s[k] := by
  rw [Array.getElem_toList]
  rfl
theorem byte_is (c : UInt8) : ((c.toNat : Int) == 47) = decide (c = 47) := by
  by_cases h : c = 47
  · subst h; rfl
  · rw [decide_eq_false h, beq_eq_false_iff_ne]
    intro e
    apply h
    apply UInt8.toNat_inj.1
    show c.toNat = 47
    omega
theorem cut_begin (l : List UInt8) : cutG [] l = [] ++ cutG ((l.take 0).drop 0) (l.drop 0) := by simp
theorem cut_yes {l : List UInt8} {ds : List (List UInt8)} {k f : Nat} (hk : k < l.length) (h : cutG [] l = ds ++ cutG ((l.take k).drop f) (l.drop k)) (hc : l[k] = 47) :
    cutG [] l = (ds ++ [(l.take k).drop f]) ++ cutG ((l.take (k + 1)).drop (k + 1)) (l.drop (k + 1)) := by
  rw [List.drop_eq_getElem_cons hk, cutG_cons, if_pos hc] at h
  rw [h, List.append_assoc, List.drop_of_length_le (l := l.take (k + 1)) (by rw [List.length_take]; omega)]
  rfl
theorem cut_no {l : List UInt8} {ds : List (List UInt8)} {k f : Nat} (hk : k < l.length) (hf : f ≤ k) (h : cutG [] l = ds ++ cutG ((l.take k).drop f) (l.drop k)) (hc : ¬ l[k] = 47) :
    cutG [] l = ds ++ cutG ((l.take (k + 1)).drop f) (l.drop (k + 1)) := by
  rw [List.drop_eq_getElem_cons hk, cutG_cons, if_neg hc] at h
  rw [h, List.take_succ_eq_append_getElem hk, List.drop_append_of_le_length (by rw [List.length_take]; omega)]
theorem cut_end {s : ByteArray} {ds : List (List UInt8)} {f : Nat} (h : cutG [] s.data.toList = ds ++ cutG ((s.data.toList.take s.size).drop f) (s.data.toList.drop s.size)) : pcs s = ds.map mkB ++ [s.extract f s.size] := by
  unfold pcs
  rw [h, List.drop_of_length_le (l := s.data.toList) (by rw [← Lib.size_eq]; exact Nat.le_refl _), cutG_nil, List.map_append]
  show ds.map mkB ++ [mkB _] = _
  rw [mkB_extract]

set_option maxRecDepth 100000 in
set_option maxHeartbeats 4000000 in
theorem l00Cut_any (s : ByteArray) (w : World) (hs : s.size ≤ 65536) :
    Calls Tryd.prog 103 #[.string s, .int .u8 47] w fun e w' => ∃ v', e = .returned v' ∧ Row w' 9 1 w.heap.size w'.heap.size v' (pcs s).length (strs (pcs s)) ∧ Below w.heap.size w w' := by
  have START : Hid (SnI w (w.alloc (.cells #[] 9)) (.slice (some ⟨w.heap.size, 0, none⟩) 0 0) []) := ⟨World.ownsRow_lit w #[] 0 (Nat.le_refl _) (by simp [maxLen]) (by simp), (Below.refl _ _).alloc (Nat.le_refl _) _⟩
  have HL := hideIt (Lib.size_eq s)
  go_enter Tryd.func103, Tryd.ntmps103
  go_wp2
  go_loopg [5, 6, 7] s.size (fun g vL fr i wr => ∃ (k f : Nat) (ds : List (List UInt8)), k + g = s.size ∧ f ≤ k ∧ fr = .int .i64 f ∧ i = .int .i64 k ∧ vL ≠ .slice none 0 0 ∧ ds.length ≤ k ∧ Hid (SnI w wr vL (ds.map mkB) ∧ cutG [] s.data.toList = ds ++ cutG ((s.data.toList.take k).drop f) (s.data.toList.drop k)))
  case atStart => exact ⟨0, 0, [], by omega, by omega, rfl, rfl, (fun e => by cases e), Nat.le_refl _, START.out, cut_begin _⟩
  case round =>
    obtain ⟨k, f, ds, hkg, hf, rfl, rfl, hv, hd, I⟩ := hrel
    clear START
    have k0 : (0 : Int) ≤ (k : Int) := by omega
    have f0 : (0 : Int) ≤ (f : Int) := by omega
    have fk : (f : Int) ≤ (k : Int) := by omega
    have DL : (ds.map mkB).length = ds.length := List.length_map ..
    by_cases hlt : k < s.size
    · have k1 : (k : Int) < (s.size : Int) := by omega
      have k2 : (k : Int) ≤ (s.size : Int) := by omega
      have hkl : k < s.data.toList.length := by rw [← HL.out]; exact hlt
      by_cases c : s[k] = 47
      · have q : ((s[k].toNat : Int) == 47) = true := by rw [byte_is, decide_eq_true c]
        have N := hideIt (cut_yes hkl I.out.2 (by rw [byte_at s k hlt]; exact c))
        have MN : Hid ((ds ++ [(s.data.toList.take k).drop f]).map mkB = ds.map mkB ++ [s.extract f k]) := by unfold Hid; rw [List.map_append, ← mkB_extract]; rfl
        have JB : Hid (SnI w (wr.alloc (.cells #[.string (s.extract f k)] 9)) u5 (ds.map mkB)) := I.out.1.below ((Below.refl _ _).alloc (Nat.le_refl _) _)
        have RB := hideIt (rd_str wr (s.extract f k))
        have hzb := JB.out.z
        simp only [World.size_alloc] at hzb
        clear I c
        go_wp2_with (at_builtin; refine wpList_append_rd _ rfl (.tmp 20) (.tmp 25) 43 rfl w.heap.size 9 (.string ⟨#[]⟩) 1 16 Tryd.underlying43 info9 rfl (by decide) _ _ _ rfl JB.out.l _ 1 _ rfl RB.out (strs_one _) (by simp [maxLen]; omega) (by simp; omega) JB.out.z ?_)
        intro vN wN hownN hgrN
        have G := hideIt (JB.out.grow [s.extract f k] rfl (by rw [List.length_map]; exact hownN) hgrN)
        rw [← MN.out] at G
        have hv2 := hideIt (G.out.some_ (by simp))
        clear hownN hgrN JB RB q MN hv
        go_wp2
        go_roundg (s.size - (k + 1))
        case measure => omega
        case rel => exact ⟨k + 1, k + 1, ds ++ [(s.data.toList.take k).drop f], by omega, Nat.le_refl _, by go_num, by go_num, hv2.out, by simp; omega, G.out, N.out⟩
      · have q : ((s[k].toNat : Int) == 47) = false := by rw [byte_is, decide_eq_false c]
        have N := hideIt (cut_no hkl hf I.out.2 (by rw [byte_at s k hlt]; exact c))
        have I1 := hideIt I.out.1
        have HV := hideIt hv
        clear I c DL hv
        go_wp2
        go_roundg (s.size - (k + 1))
        case measure => omega
        case rel => exact ⟨k + 1, f, ds, by omega, by omega, rfl, by go_num, HV.out, by omega, I1.out, N.out⟩
    · obtain rfl : k = s.size := by omega
      have MN := hideIt (cut_end I.out.2)
      have JB : Hid (SnI w (wr.alloc (.cells #[.string (s.extract f s.size)] 9)) u5 (ds.map mkB)) := I.out.1.below ((Below.refl _ _).alloc (Nat.le_refl _) _)
      have RB := hideIt (rd_str wr (s.extract f s.size))
      have hzb := JB.out.z
      simp only [World.size_alloc] at hzb
      clear I
      go_wp2_with (at_builtin; refine wpList_append_rd _ rfl (.tmp 29) (.tmp 33) 43 rfl w.heap.size 9 (.string ⟨#[]⟩) 1 16 Tryd.underlying43 info9 rfl (by decide) _ _ _ rfl JB.out.l _ 1 _ rfl RB.out (strs_one _) (by simp [maxLen]; omega) (by simp; omega) JB.out.z ?_)
      intro vN wN hownN hgrN
      have G := hideIt (JB.out.grow [s.extract f s.size] rfl (by rw [List.length_map]; exact hownN) hgrN)
      rw [← MN.out] at G
      clear hownN hgrN JB RB MN hv
      go_wp2
      go_ret
      exact ⟨_, rfl, own_block G.out.l, G.out.b⟩
end Go.Proofs.YtpljkdbeekplbaaDoor

namespace Go.Proofs.YtpljkdbeekplbaaDoor
open Go.RowKit

/-- The text is a slash. -/
def slashB (s : ByteArray) : Bool := s.toList == [47]
/-- The pieces are right: one empty ahead, then one to six short names. -/
def spN (s : ByteArray) : Bool := decide (2 ≤ (pcs s).length ∧ (pcs s).length ≤ 7) && (((pcs s).getD 0 ⟨#[]⟩).toList.isEmpty && ((pcs s).drop 1).all nmB)
def spB (s : ByteArray) : Bool := slashB s || spN s
def spL (s : ByteArray) : List ByteArray := if slashB s = true then [] else if spN s = true then (pcs s).drop 1 else []
theorem sp_slash {s : ByteArray} (h : slashB s = true) : spB s = true ∧ spL s = [] := by
  unfold spB spL
  rw [h]
  exact ⟨rfl, if_pos rfl⟩
theorem sp_no {s : ByteArray} (h : slashB s = false) (h2 : spN s = false) : spB s = false ∧ spL s = [] := by
  unfold spB spL
  rw [h, h2]
  exact ⟨rfl, rfl⟩
theorem sp_yes {s : ByteArray} (h : slashB s = false) (h2 : spN s = true) : spB s = true ∧ spL s = (pcs s).drop 1 := by
  unfold spB spL
  rw [h, h2]
  exact ⟨rfl, rfl⟩
theorem rdt_empty (w : World) : RdT w (.slice none 0 0) [] := ⟨rfl, none, 0, rfl, ⟨Nat.le_refl _, fun _ => rfl⟩, fun h => absurd h (by simp)⟩
theorem rdt_lit (w : World) (a : Addr) : RdT w (.slice (some a) 0 0) [] := ⟨rfl, some a, 0, rfl, ⟨Nat.le_refl _, fun e => by cases e⟩, fun h => absurd h (by simp)⟩

set_option maxRecDepth 100000 in
set_option maxHeartbeats 4000000 in
theorem l06Split_any (s : ByteArray) (w : World) (hs : s.size ≤ 65536) :
    Calls Tryd.prog 58 #[.string s] w fun e w' => ∃ v', e = .returned (.tuple #[v', .bool (spB s)]) ∧ RdT w' v' (spL s) ∧ Below w.heap.size w w' := by
  have LC := hideIt (fun w1 => l00Cut_any s w1 hs)
  have BE := hideIt (fun w1 : World => (Below.refl w1.heap.size w1).alloc (Nat.le_refl _) (.cells #[] 9))
  cases c1 : slashB s with
  | true =>
    obtain ⟨E1, E2⟩ := sp_slash c1
    rw [E1, E2]
    have c2 : (s.toList == [47]) = true := c1
    clear c1 E1 E2
    go_enter Tryd.func58, Tryd.ntmps58
    go_wp2
    go_ret2
    exact ⟨_, rfl, rdt_lit _ _, BE.out _⟩
  | false =>
    have c2 : (s.toList == [47]) = false := c1
    have NO := hideIt (fun h => sp_no c1 h)
    have YES := hideIt (fun h => sp_yes c1 h)
    have PL := pcs_len s
    have PP := pcs_pos s
    have PS := hideIt (pcs_size s)
    have SN := hideIt (show spN s = (decide (2 ≤ (pcs s).length ∧ (pcs s).length ≤ 7) && (((pcs s).getD 0 ⟨#[]⟩).toList.isEmpty && ((pcs s).drop 1).all nmB)) from rfl)
    clear c1
    generalize spB s = sb at *
    generalize spL s = sl at *
    generalize spN s = sn at *
    generalize pcs s = P at *
    have hp0 : 0 < P.length := by omega
    have SA : Hid ((∀ j (h : j < P.length), 1 ≤ j → nmB P[j] = true) → (P.drop 1).all nmB = true) := fun h => by
      rw [List.all_eq_true]
      intro x hx
      obtain ⟨j, hj, rfl⟩ := List.getElem_of_mem hx
      rw [List.length_drop] at hj
      rw [List.getElem_drop]
      exact h (1 + j) (by omega) (by omega)
    have SF : Hid (∀ j (h : j < P.length), 1 ≤ j → nmB P[j] = false → (P.drop 1).all nmB = false) := fun j h h1 q => by
      rw [List.all_eq_false]
      refine ⟨P[j], ?_, by rw [q]; simp⟩
      have e : P[j] = (P.drop 1)[j - 1]'(by rw [List.length_drop]; omega) := by rw [List.getElem_drop]; congr 1; omega
      rw [e]
      exact List.getElem_mem _
    have S0 : Hid (P.getD 0 ⟨#[]⟩ = P[0]) := by unfold Hid; rw [List.getD_eq_getElem?_getD, List.getElem?_eq_getElem hp0]; rfl
    go_enter Tryd.func58, Tryd.ntmps58
    go_wp2_with fail
    refine (LC.out _).mono ?_
    rintro e w1 ⟨v1, rfl, hr1, hb1⟩
    have R1 : Hid (RdT w1 v1 P) := hr1.rd
    obtain ⟨aP, cP, rfl, hcap, hcP⟩ := R1.out.shape
    obtain ⟨b, o, rfl, hbl, hcell⟩ := hcP hp0
    have HC := hideIt hcell
    have B1 := hideIt hb1
    have c0 := hcell 0 hp0
    rw [Nat.add_zero] at c0
    clear hr1 hb1 hcP hcell LC
    by_cases n1 : P.length < 2
    · have E : Hid (sn = false) := by unfold Hid; rw [SN.out, decide_eq_false (by omega)]; rfl
      obtain ⟨e1, e2⟩ := NO.out E.out
      have n2 : (P.length : Int) < 2 := by omega
      subst e1 e2
      clear NO YES SN SA SF S0 n1
      go_wp2
      go_ret2
      exact ⟨_, rfl, rdt_lit _ _, below_trans B1.out (BE.out w1) B1.out.size⟩
    have n2 : ¬ (P.length : Int) < 2 := by omega
    by_cases n3 : 7 < P.length
    · have E : Hid (sn = false) := by unfold Hid; rw [SN.out, decide_eq_false (by omega)]; rfl
      obtain ⟨e1, e2⟩ := NO.out E.out
      have n4 : (P.length : Int) > 7 := by omega
      subst e1 e2
      clear NO YES SN SA SF S0 n1 n3
      go_wp2
      go_ret2
      exact ⟨_, rfl, rdt_lit _ _, below_trans B1.out (BE.out w1) B1.out.size⟩
    have n4 : ¬ (P.length : Int) > 7 := by omega
    have SN2 : Hid (sn = (P[0].toList.isEmpty && (P.drop 1).all nmB)) := by unfold Hid; rw [SN.out, S0.out, decide_eq_true (by omega), Bool.true_and]
    have p1 : (0 : Int) < (P.length : Int) := by omega
    clear SN S0
    cases c3 : P[0].toList.isEmpty with
    | false =>
      have E : Hid (sn = false) := by unfold Hid; rw [SN2.out, c3]; rfl
      obtain ⟨e1, e2⟩ := NO.out E.out
      subst e1 e2
      clear NO YES SN2 SA SF n1 n3
      generalize P[0] = p0 at *
      go_wp2
      go_ret2
      exact ⟨_, rfl, rdt_lit _ _, below_trans B1.out (BE.out w1) B1.out.size⟩
    | true =>
    have SN3 : Hid (sn = (P.drop 1).all nmB) := by unfold Hid; rw [SN2.out, c3]; rfl
    clear SN2
    generalize P[0] = p0 at *
    go_wp2
    clear c0 c3
    go_loopg [5] (P.length - 1) (fun g i wr => ∃ k : Nat, k + g = P.length ∧ 1 ≤ k ∧ i = .int .i64 k ∧ wr = w1 ∧ Hid (∀ j (h : j < P.length), 1 ≤ j → j < k → nmB P[j] = true))
    case atStart => exact ⟨1, by omega, Nat.le_refl _, rfl, rfl, fun j h a b => absurd b (by omega)⟩
    case round =>
      obtain ⟨k, hk, hk1, rfl, rfl, H⟩ := hrel
      have k0 : (0 : Int) ≤ (k : Int) := by omega
      by_cases hlt : k < P.length
      · have k1 : (k : Int) < (P.length : Int) := by omega
        have d0 := HC.out k hlt
        have LN := hideIt (fun w2 => l03Name_any P[k] w2 (by have := PS.out k hlt; unfold maxLen; omega))
        cases q : nmB P[k] with
        | false =>
          have E : Hid (sn = false) := by unfold Hid; rw [SN3.out]; exact SF.out k hlt hk1 q
          obtain ⟨e1, e2⟩ := NO.out E.out
          rw [q] at LN
          subst e1 e2
          clear NO YES SN3 SA SF n1 n3 H q
          generalize P[k] = x at *
          go_wp2_with fail
          refine (LN.out _).mono ?_
          rintro e w2 ⟨rfl, hw2⟩
          subst w2
          go_wp2
          go_ret2
          exact ⟨_, rfl, rdt_lit _ _, below_trans B1.out (BE.out _) B1.out.size⟩
        | true =>
          have H2 : Hid (∀ j (h : j < P.length), 1 ≤ j → j < k + 1 → nmB P[j] = true) := fun j h a c => by
            by_cases e : j = k
            · subst e; exact q
            · exact H.out j h a (by omega)
          rw [q] at LN
          clear H q
          generalize P[k] = x at d0 LN
          go_wp2_with fail
          refine (LN.out _).mono ?_
          rintro e w2 ⟨rfl, hw2⟩
          subst w2
          go_wp2
          go_roundg (P.length - (k + 1))
          case measure => omega
          case rel => exact ⟨k + 1, by omega, by omega, by go_num, rfl, H2.out⟩
      · have E : Hid (sn = true) := by unfold Hid; rw [SN3.out]; exact SA.out (fun j h a => H.out j h a (by omega))
        obtain ⟨e1, e2⟩ := YES.out E.out
        have RD : Hid (Rd wr 1 (.slice (some ⟨b, o + 1, none⟩) (P.length - 1) (cP - 1)) (P.length - 1) (strs (P.drop 1))) := rdt_drop R1.out (by omega)
        have DL := hideIt (List.length_drop (l := P) (i := 1))
        have cc : ¬ cP = 1 := by omega
        subst e1 e2
        clear NO YES SN3 SA SF H
        go_wp2
        go_ret2
        exact ⟨_, rfl, (by unfold RdT; rw [DL.out]; exact RD.out), B1.out⟩

/-- What SplitPath answers. -/
def spC (s : ByteArray) : Int := if 65536 < s.size then 2 else if spB s = true then 0 else 12
def spR (s : ByteArray) : List ByteArray := if 65536 < s.size then [] else spL s
theorem row_n9 (w : World) : Row (w.alloc (.cells #[] 9)) 9 1 w.heap.size (w.alloc (.cells #[] 9)).heap.size (.slice (some ⟨w.heap.size, 0, none⟩) 0 0) 0 [] :=
  own_block (World.ownsRow_lit w #[] 0 (Nat.le_refl _) (by simp [maxLen]) (by simp))
theorem sp_long {s : ByteArray} (h : 65536 < s.size) : spC s = 2 ∧ spR s = [] := by
  unfold spC spR
  exact ⟨if_pos h, if_pos h⟩
theorem sp_short {s : ByteArray} (h : ¬ 65536 < s.size) : (spB s = true → spC s = 0 ∧ spR s = spL s) ∧ (spB s = false → spC s = 12 ∧ spR s = []) := by
  unfold spC spR
  rw [if_neg h, if_neg h]
  refine ⟨fun q => ⟨if_pos q, rfl⟩, fun q => ⟨by rw [q]; rfl, ?_⟩⟩
  unfold spB at q
  unfold spL
  rw [Bool.or_eq_false_iff] at q
  rw [q.1, q.2]
  rfl
theorem spL_len {s : ByteArray} : (spL s).length ≤ 6 := by
  unfold spL
  split
  · simp
  · split
    · rename_i h
      unfold spN at h
      simp only [Bool.and_eq_true, decide_eq_true_eq] at h
      rw [List.length_drop]
      omega
    · simp
theorem spR_len (s : ByteArray) : (spR s).length ≤ 6 := by
  unfold spR
  split
  · simp
  · exact spL_len

set_option maxRecDepth 100000 in
set_option maxHeartbeats 4000000 in
theorem specSplitPath_any (s : ByteArray) (w : World) :
    Calls Tryd.prog 21 #[.string s] w fun e w' => ∃ v', e = .returned (.tuple #[v', .int .i64 (spC s)]) ∧ Row w' 9 1 w.heap.size w'.heap.size v' (spR s).length (strs (spR s)) ∧ Below w.heap.size w w' := by
  have BE := hideIt (fun w1 : World => And.intro (row_n9 w1) ((Below.refl w1.heap.size w1).alloc (Nat.le_refl _) (.cells #[] 9)))
  by_cases c1 : 65536 < s.size
  · obtain ⟨E1, E2⟩ := sp_long c1
    rw [E1, E2]
    have c2 : (s.size : Int) > 65536 := by omega
    clear c1 E1 E2
    go_enter Tryd.func21, Tryd.ntmps21
    go_wp2
    go_ret2
    exact ⟨_, rfl, (BE.out w).1, (BE.out w).2⟩
  have c2 : ¬ (s.size : Int) > 65536 := by omega
  have LS := hideIt (fun w1 => l06Split_any s w1 (by omega))
  have SL := hideIt (@spL_len s)
  obtain ⟨X1, X2⟩ := sp_short c1
  cases c3 : spB s with
  | false =>
    obtain ⟨E1, E2⟩ := X2 c3
    rw [E1, E2]
    rw [c3] at LS
    clear c1 c3 E1 E2 X1 X2
    go_enter Tryd.func21, Tryd.ntmps21
    go_wp2_with fail
    refine (LS.out _).mono ?_
    rintro e w1 ⟨v1, rfl, hr1, hb1⟩
    have B1 := hideIt hb1
    have BF := hideIt (below_trans hb1 (BE.out w1).2 hb1.size)
    have BR := hideIt ((BE.out w1).1.wide hb1.size (Nat.le_refl _))
    clear hr1 hb1
    go_wp2
    go_ret2
    exact ⟨_, rfl, BR.out, BF.out⟩
  | true =>
    obtain ⟨E1, E2⟩ := X1 c3
    rw [E1, E2]
    rw [c3] at LS
    clear c1 c3 E1 E2 X1 X2
    generalize spL s = L at *
    have sl := SL.out
    go_enter Tryd.func21, Tryd.ntmps21
    go_wp2_with fail
    refine (LS.out _).mono ?_
    rintro e w1 ⟨v1, rfl, hr1, hb1⟩
    have START : Hid (SnI w1 (w1.alloc (.cells #[] 9)) (.slice (some ⟨w1.heap.size, 0, none⟩) 0 0) []) := ⟨World.ownsRow_lit w1 #[] 0 (Nat.le_refl _) (by simp [maxLen]) (by simp), (Below.refl _ _).alloc (Nat.le_refl _) _⟩
    have R1 : Hid (RdT (w1.alloc (.cells #[] 9)) v1 L) := Rd.alloc hr1 _
    have B1 := hideIt hb1
    obtain ⟨aL, cL, rfl, hcap, _⟩ := R1.out.shape
    have hz : w.heap.size ≤ w1.heap.size := hb1.size
    clear hr1 hb1 LS
    go_wp2_with (at_builtin; refine wpList_append_rd _ rfl (.tmp 18) (.tmp 19) 43 rfl w1.heap.size 9 (.string ⟨#[]⟩) 1 16 Tryd.underlying43 info9 rfl (by decide) _ _ _ rfl START.out.l _ L.length _ rfl R1.out (strs_one _) (by simp [maxLen]; omega) (by simp; omega) START.out.z ?_)
    intro vN wN hownN hgrN
    have G := hideIt (START.out.grow L rfl (by rw [List.length_nil, Nat.zero_add]; exact hownN) hgrN)
    have BF := hideIt (below_trans B1.out G.out.b hz)
    have BR := hideIt ((own_block G.out.l).wide hz (Nat.le_refl _))
    clear hownN hgrN START R1 hcap
    go_wp2
    go_ret2
    exact ⟨_, rfl, BR.out, BF.out⟩

set_option maxRecDepth 100000 in
set_option maxHeartbeats 4000000 in
theorem specPathOK_any (s : ByteArray) (w : World) :
    Calls Tryd.prog 19 #[.string s] w fun e w' => e = .returned (.bool (spC s == 0)) ∧ Below w.heap.size w w' := by
  by_cases c1 : 65536 < s.size
  · obtain ⟨E1, E2⟩ := sp_long c1
    rw [E1]
    have c2 : (s.size : Int) > 65536 := by omega
    clear c1 E1 E2
    go_enter Tryd.func19, Tryd.ntmps19
    go_wp2
    go_ret
    exact ⟨rfl, Below.refl _ _⟩
  have c2 : ¬ (s.size : Int) > 65536 := by omega
  have LS := hideIt (fun w1 => l06Split_any s w1 (by omega))
  have E : Hid ((spC s == 0) = spB s) := by
    unfold Hid
    obtain ⟨X1, X2⟩ := sp_short c1
    cases c3 : spB s
    · rw [(X2 c3).1]; rfl
    · rw [(X1 c3).1]; rfl
  rw [E.out]
  clear c1 E
  generalize spB s = sb at *
  go_enter Tryd.func19, Tryd.ntmps19
  go_wp2_with fail
  refine (LS.out _).mono ?_
  rintro e w1 ⟨v1, rfl, hr1, hb1⟩
  have B1 := hideIt hb1
  clear hr1 hb1
  go_wp2
  go_ret
  exact ⟨rfl, B1.out⟩
end Go.Proofs.YtpljkdbeekplbaaDoor

namespace Go.Proofs.YtpljkdbeekplbaaDoor
open Go.Shelf Go.RowKit

def lays103_ren : Go.Shelf.Ren := ⟨fun | 103 => 59 | 210 => 105 | 206 => 136 | n => n, fun | 9 => 9 | 4 => 4 | 24 => 91 | 3 => 3 | n => n, fun | n => n⟩
theorem lays103 : Go.Proofs.Lays.n103 Tryd.prog lays103_ren := {
  mixed := by kernel_rfl
  f103 := Tryd.func59.trans (congrArg some (by kernel_rfl))
  f206 := Tryd.func136.trans (congrArg some (by kernel_rfl))
  f210 := Tryd.func105.trans (congrArg some (by kernel_rfl))
  t3 := Tryd.underlying3
  a3 := Tryd.isAgg3
  z3 := Tryd.sizeOf3
  v3 := Tryd.zeroValue3
  t4 := Tryd.underlying4
  a4 := Tryd.isAgg4
  z4 := Tryd.sizeOf4
  v4 := Tryd.zeroValue4
  t9 := Tryd.underlying9
  a9 := Tryd.isAgg9
  z9 := Tryd.sizeOf9
  v9 := Tryd.zeroValue9
  t24 := Tryd.underlying91
  a24 := Tryd.isAgg91
  z24 := Tryd.sizeOf91
  v24 := Tryd.zeroValue91 }
def lays106_ren : Go.Shelf.Ren := ⟨fun | 106 => 77 | 213 => 116 | 265 => 151 | n => n, fun | 9 => 9 | 3 => 3 | n => n, fun | n => n⟩
theorem lays106 : Go.Proofs.Lays.n106 Tryd.prog lays106_ren := {
  mixed := by kernel_rfl
  f106 := Tryd.func77.trans (congrArg some (by kernel_rfl))
  f213 := Tryd.func116.trans (congrArg some (by kernel_rfl))
  f265 := Tryd.func151.trans (congrArg some (by kernel_rfl))
  t3 := Tryd.underlying3
  a3 := Tryd.isAgg3
  z3 := Tryd.sizeOf3
  v3 := Tryd.zeroValue3
  t9 := Tryd.underlying9
  a9 := Tryd.isAgg9
  z9 := Tryd.sizeOf9
  v9 := Tryd.zeroValue9 }
def lays146_ren : Go.Shelf.Ren := ⟨fun | 146 => 60 | 221 => 106 | 268 => 137 | 138 => 138 | 143 => 139 | 195 => 157 | 197 => 158 | 218 => 159 | 219 => 160 | 260 => 169 | 217 => 170 | 225 => 171 | 224 => 172 | 267 => 173 | 266 => 176 | 314 => 177 | n => n, fun | 9 => 9 | 31 => 43 | 3 => 3 | 4 => 4 | 0 => 0 | 105 => 174 | 21 => 21 | 5 => 5 | 46 => 142 | 119 => 189 | 139 => 192 | 138 => 191 | 146 => 193 | 51 => 168 | n => n, fun | 1 => 1 | 3 => 3 | 4 => 4 | n => n⟩
theorem lays146 : Go.Proofs.Lays.n146 Tryd.prog lays146_ren := {
  mixed := by kernel_rfl
  f138 := Tryd.func138.trans (congrArg some (by kernel_rfl))
  f143 := Tryd.func139.trans (congrArg some (by kernel_rfl))
  f146 := Tryd.func60.trans (congrArg some (by kernel_rfl))
  f195 := Tryd.func157.trans (congrArg some (by kernel_rfl))
  f197 := Tryd.func158.trans (congrArg some (by kernel_rfl))
  f217 := Tryd.func170.trans (congrArg some (by kernel_rfl))
  f218 := Tryd.func159.trans (congrArg some (by kernel_rfl))
  f219 := Tryd.func160.trans (congrArg some (by kernel_rfl))
  f221 := Tryd.func106.trans (congrArg some (by kernel_rfl))
  f224 := Tryd.func172.trans (congrArg some (by kernel_rfl))
  f225 := Tryd.func171.trans (congrArg some (by kernel_rfl))
  f260 := Tryd.func169.trans (congrArg some (by kernel_rfl))
  f266 := Tryd.func176.trans (congrArg some (by kernel_rfl))
  f267 := Tryd.func173.trans (congrArg some (by kernel_rfl))
  f268 := Tryd.func137.trans (congrArg some (by kernel_rfl))
  f314 := Tryd.func177.trans (congrArg some (by kernel_rfl))
  t0 := Tryd.underlying0
  a0 := Tryd.isAgg0
  z0 := Tryd.sizeOf0
  v0 := Tryd.zeroValue0
  t3 := Tryd.underlying3
  a3 := Tryd.isAgg3
  z3 := Tryd.sizeOf3
  v3 := Tryd.zeroValue3
  t4 := Tryd.underlying4
  a4 := Tryd.isAgg4
  z4 := Tryd.sizeOf4
  v4 := Tryd.zeroValue4
  t5 := Tryd.underlying5
  a5 := Tryd.isAgg5
  z5 := Tryd.sizeOf5
  v5 := Tryd.zeroValue5
  t9 := Tryd.underlying9
  a9 := Tryd.isAgg9
  z9 := Tryd.sizeOf9
  v9 := Tryd.zeroValue9
  t21 := Tryd.underlying21
  a21 := Tryd.isAgg21
  z21 := Tryd.sizeOf21
  v21 := Tryd.zeroValue21
  t31 := Tryd.underlying43
  a31 := Tryd.isAgg43
  z31 := Tryd.sizeOf43
  v31 := Tryd.zeroValue43
  t46 := Tryd.underlying142
  a46 := Tryd.isAgg142
  z46 := Tryd.sizeOf142
  v46 := Tryd.zeroValue142
  t51 := Tryd.underlying168
  a51 := Tryd.isAgg168
  z51 := Tryd.sizeOf168
  v51 := Tryd.zeroValue168
  t105 := Tryd.underlying174
  a105 := Tryd.isAgg174
  z105 := Tryd.sizeOf174
  v105 := Tryd.zeroValue174
  t119 := Tryd.underlying189
  a119 := Tryd.isAgg189
  z119 := Tryd.sizeOf189
  t138 := Tryd.underlying191
  a138 := Tryd.isAgg191
  z138 := Tryd.sizeOf191
  v138 := Tryd.zeroValue191
  t139 := Tryd.underlying192
  a139 := Tryd.isAgg192
  z139 := Tryd.sizeOf192
  v139 := Tryd.zeroValue192
  t146 := Tryd.underlying193
  a146 := Tryd.isAgg193
  z146 := Tryd.sizeOf193
  v146 := Tryd.zeroValue193
  g1 := by kernel_rfl
  g3 := by kernel_rfl
  g4 := by kernel_rfl }
end Go.Proofs.YtpljkdbeekplbaaDoor

namespace Go.Proofs.YtpljkdbeekplbaaDoor
open Go.Shelf Go.RowKit Go.Lib

theorem cutPrefix_any (s p : ByteArray) (w : World) :
    Calls Tryd.prog 59 #[.string s, .string p] w fun e w' => e = .returned (.tuple #[.string ⟨(Lib.trimPrefix s.data.toList p.data.toList).toArray⟩, .bool (Lib.hasPrefix s.data.toList p.data.toList)]) ∧ w' = w := Any.strings_CutPrefix lays103 s p w
theorem compare_any (a b : ByteArray) (w : World) :
    Calls Tryd.prog 77 #[.string a, .string b] w fun e w' => e = .returned (.int .i64 (Lib.compareBytes a.data.toList b.data.toList)) ∧ w' = w := Any.strings_Compare lays106 a b w
theorem index_slash (x : ByteArray) (w : World) : Calls Tryd.prog 139 #[.string x, .string ⟨#[47]⟩] w fun e w' => e = .returned (.int .i64 (Lib.indexB x ⟨#[47]⟩)) ∧ w' = w := by
  refine (show Calls Tryd.prog 139 #[.string x, .string ⟨#[47]⟩] w fun e w' => e = .returned (.int .i64 (Lib.indexByte x.data.toList 47)) ∧ w' = w from Any.strings_Index_one (ρ := lays146_ren) { lays146 with } x 47 w).mono fun e w' ⟨he, hw⟩ => ⟨?_, hw⟩
  rw [he]
  show _ = Ending.returned (Value.int .i64 (Lib.index x.data.toList [47]))
  rw [Lib.index_one]
theorem count_slash (x : ByteArray) (w : World) : Calls Tryd.prog 138 #[.string x, .string ⟨#[47]⟩] w fun e w' => e = .returned (.int .i64 (Lib.countB x ⟨#[47]⟩)) ∧ w' = w := by
  refine (show Calls Tryd.prog 138 #[.string x, .string ⟨#[47]⟩] w fun e w' => e = .returned (.int .i64 (Lib.countByte x.data.toList 47)) ∧ w' = w from Any.strings_Count_one (ρ := lays146_ren) { lays146 with } x 47 w).mono fun e w' ⟨he, hw⟩ => ⟨?_, hw⟩
  rw [he]
  show _ = Ending.returned (Value.int .i64 ((Lib.count x.data.toList [47] : Nat) : Int))
  rw [Lib.count_one]
  rfl

set_option maxRecDepth 100000 in
set_option maxHeartbeats 1000000 in
theorem split_slash (s : ByteArray) (w : World) (hs : s.size < 4294967281) :
    Calls Tryd.prog 60 #[.string s, .string ⟨#[47]⟩] w fun e w' =>
      e = .returned (.slice (some ⟨w.heap.size, 0, none⟩) (pcs s).length (pcs s).length) ∧ w' = w.alloc (.cells (strs (pcs s)).toArray 9) := by
  have hle := Lib.countB_le ⟨#[47]⟩ (by decide) s.size s (Nat.le_refl _)
  have hlen := Lib.splitB_all ⟨#[47]⟩ (by decide) 0 _ s rfl
  have c : Calls Tryd.prog 106 #[.string s, .string ⟨#[47]⟩, .int .i64 ((0 : Nat) : Int), .int .i64 (-1)] w fun e w' =>
      e = .returned (.slice (some ⟨w.heap.size, 0, none⟩) (Lib.splitB ⟨#[47]⟩ 0 (Lib.countB s ⟨#[47]⟩ + 1 - 1) s).length (Lib.countB s ⟨#[47]⟩ + 1)) ∧ w' = w.alloc (.cells (Lib.cellsOf (Lib.splitB ⟨#[47]⟩ 0 (Lib.countB s ⟨#[47]⟩ + 1 - 1) s) (Lib.countB s ⟨#[47]⟩ + 1)) 9) :=
    Any.strings_genSplit_core (ρ := lays146_ren) { lays146 with } (by kernel_rfl) s ⟨#[47]⟩ 0 (-1) (Lib.countB s ⟨#[47]⟩ + 1) w hs (by decide) (Nat.zero_le _) (fun x _ _ => index_slash x _) (count_slash s w) (by decide) (by decide) (by rw [if_pos (by decide)]; omega)
  rw [Nat.add_sub_cancel, hlen] at c
  have e2 : Lib.cellsOf (Lib.splitB ⟨#[47]⟩ 0 (Lib.countB s ⟨#[47]⟩) s) (Lib.countB s ⟨#[47]⟩ + 1) = ((Lib.splitB ⟨#[47]⟩ 0 (Lib.countB s ⟨#[47]⟩) s).map Value.string).toArray := by rw [← hlen]; exact Lib.cellsOf_full _
  rw [e2, split_pcs, count_pcs] at c
  have C := hideIt c
  clear c hle hlen e2
  unfold strs
  generalize (pcs s).length = n at *
  generalize ((pcs s).map Value.string).toArray = cs at *
  go_enter Tryd.func60, Tryd.ntmps60
  go_wp2_with (go_at_call 106; refine C.out.mono ?_; rintro e w' ⟨rfl, hw⟩; rw [hw])
  go_ret
  exact ⟨rfl, rfl⟩
end Go.Proofs.YtpljkdbeekplbaaDoor

namespace Go.Proofs.YtpljkdbeekplbaaDoor
open Go.RowKit

/-- What is behind a slash. -/
def restB (s : ByteArray) : ByteArray := mkB (Lib.trimPrefix s.data.toList [47])
def aheadB (s : ByteArray) : Bool := Lib.hasPrefix s.data.toList [47]
theorem ahead_no {s : ByteArray} (h : aheadB s = false) : spN s = false := by
  unfold aheadB Lib.hasPrefix at h
  unfold spN
  cases hl : s.data.toList with
  | nil => rw [pcs_none hl]; rfl
  | cons c l =>
    have hc : ¬ c = 47 := fun e => by subst e; rw [hl] at h; simp [List.isPrefixOf] at h
    obtain ⟨x, r, e, hx⟩ := pcs_other hl hc
    rw [e]
    have : x.toList.isEmpty = false := by
      rw [Lib.toList_data]
      rw [Lib.size_eq] at hx
      cases h : x.data.toList with
      | nil => rw [h] at hx; exact absurd rfl hx
      | cons _ _ => rfl
    show (_ && (x.toList.isEmpty && _)) = false
    rw [this]; simp
theorem ahead_yes {s : ByteArray} (h : aheadB s = true) : spN s = (decide ((pcs (restB s)).length ≤ 6) && (pcs (restB s)).all nmB) ∧ (pcs s).drop 1 = pcs (restB s) := by
  unfold aheadB Lib.hasPrefix at h
  cases hl : s.data.toList with
  | nil => rw [hl] at h; simp [List.isPrefixOf] at h
  | cons c l =>
    have hc : c = 47 := by rw [hl] at h; simp [List.isPrefixOf] at h; exact h.symm
    subst hc
    have hr : restB s = mkB l := by unfold restB Lib.trimPrefix Lib.hasPrefix; rw [hl]; simp [List.isPrefixOf]
    have hp := pcs_slash hl
    have p1 := pcs_pos (restB s)
    unfold spN
    rw [hp, hr]
    rw [hr] at p1
    refine ⟨?_, rfl⟩
    have e1 : (mkB [] :: pcs (mkB l)).length = (pcs (mkB l)).length + 1 := rfl
    rw [e1]
    have e2 : decide (2 ≤ (pcs (mkB l)).length + 1 ∧ (pcs (mkB l)).length + 1 ≤ 7) = decide ((pcs (mkB l)).length ≤ 6) := by
      by_cases q : (pcs (mkB l)).length ≤ 6
      · rw [decide_eq_true q, decide_eq_true (by omega)]
      · rw [decide_eq_false q, decide_eq_false (by omega)]
    rw [e2]
    have e3 : ((mkB [] :: pcs (mkB l)).getD 0 ⟨#[]⟩).toList.isEmpty = true := by
      show (mkB []).toList.isEmpty = true
      rw [Lib.toList_data, mkB_data]
      rfl
    rw [e3]
    rfl
theorem rest_size (s : ByteArray) : (restB s).size ≤ s.size := by
  unfold restB
  rw [Lib.size_eq, mkB_data, Lib.size_eq]
  unfold Lib.trimPrefix
  split
  · rw [List.length_drop]; omega
  · exact Nat.le_refl _

set_option maxRecDepth 100000 in
set_option maxHeartbeats 4000000 in
theorem everyName_any (v : Value) (ss : List ByteArray) (w : World) (h : RdT w v ss) (hn : ss.length ≤ 1048576) (hs : ∀ k (h : k < ss.length), ss[k].size ≤ maxLen) :
    Calls Tryd.prog 61 #[v, .func (.func 62) #[] #[]] w fun e w' => e = .returned (.bool (ss.all nmB)) ∧ Below w.heap.size w w' := by
  obtain ⟨aP, cP, rfl, _, hcP⟩ := h.shape
  have HP := hideIt hcP
  have HS := hideIt hs
  have SF : Hid (∀ j (h : j < ss.length), nmB ss[j] = false → ss.all nmB = false) := fun j h q => by
    rw [List.all_eq_false]
    exact ⟨ss[j], List.getElem_mem _, by rw [q]; simp⟩
  have SA : Hid ((∀ j (h : j < ss.length), nmB ss[j] = true) → ss.all nmB = true) := fun h => by
    rw [List.all_eq_true]
    intro x hx
    obtain ⟨j, hj, rfl⟩ := List.getElem_of_mem hx
    exact h j hj
  clear h hcP hs
  go_enter Tryd.func61, Tryd.ntmps61
  go_wp2
  go_loopw [6, 9] (fun _ i wr => ∃ k : Nat, k ≤ ss.length ∧ i = .int .i64 k ∧ Hid (Below w.heap.size w wr ∧ ∀ j (h : j < ss.length), j < k → nmB ss[j] = true)) (fun _ i _ => ss.length - (intOf i).toNat)
  case atStart => exact ⟨0, by omega, rfl, Below.refl _ _, fun j h a => absurd a (by omega)⟩
  case round =>
    obtain ⟨k, hk, rfl, H⟩ := hrel
    have H1 := hideIt H.out.1
    have hz : w.heap.size ≤ wr.heap.size := H.out.1.size
    by_cases hlt : k < ss.length
    · obtain ⟨b, o, rfl, hbl, hcell⟩ := HP.out (by omega)
      have d0 := (H1.out.cell (p := ⟨b, o + k, none⟩) hbl).trans (hcell k hlt)
      have k0 : (0 : Int) ≤ (k : Int) := by omega
      have k1 : (k : Int) < (ss.length : Int) := by omega
      have LI := hideIt (fun w1 => isShortName_any ss[k] w1 (HS.out k hlt))
      have H2 : Hid (∀ j (h : j < ss.length), j < k → nmB ss[j] = true) := H.out.2
      clear hcell H
      cases q : nmB ss[k] with
      | true =>
        have H' : Hid (∀ j (h : j < ss.length), j < k + 1 → nmB ss[j] = true) := fun j h a => by
          by_cases e : j = k
          · subst e; exact q
          · exact H2.out j h (by omega)
        rw [q] at LI
        clear q H2
        generalize ss[k] = x at d0 LI
        go_wp2_with fail
        refine (LI.out _).mono ?_
        rintro e w1 ⟨rfl, hb1⟩
        have B3 := hideIt (below_trans H1.out hb1 H1.out.size)
        clear hb1 d0
        go_wp2
        go_roundw
        case rel => exact ⟨k + 1, by omega, by go_num, B3.out, H'.out⟩
        case measure => simp [intOf]; omega
      | false =>
        have E := hideIt (SF.out k hlt q)
        rw [q] at LI
        clear q H2
        generalize ss[k] = x at d0 LI
        go_wp2_with fail
        refine (LI.out _).mono ?_
        rintro e w1 ⟨rfl, hb1⟩
        have B3 := hideIt (below_trans H1.out hb1 H1.out.size)
        clear hb1 d0
        go_wp2
        go_ret
        exact ⟨ret_bool E.out.symm, B3.out⟩
    · have E := hideIt (SA.out (fun j h => H.out.2 j h (by omega)))
      clear H
      go_wp2
      go_ret
      exact ⟨ret_bool E.out.symm, H1.out⟩

theorem row_strs (w : World) (P : List ByteArray) (h : P.length ≤ 1048576) : Row (w.alloc (.cells (strs P).toArray 9)) 9 1 w.heap.size (w.alloc (.cells (strs P).toArray 9)).heap.size (.slice (some ⟨w.heap.size, 0, none⟩) P.length P.length) P.length (strs P) := by
  have := World.ownsRow_lit (e := 9) (size := 1) (base := w.heap.size) w (strs P).toArray P.length (Nat.le_refl _) (by simp [maxLen]; omega) (by simp [strs])
  exact own_block this

set_option maxRecDepth 100000 in
set_option maxHeartbeats 4000000 in
theorem implSplitPath_any (s : ByteArray) (w : World) :
    Calls Tryd.prog 22 #[.string s] w fun e w' => ∃ v', e = .returned (.tuple #[v', .int .i64 (spC s)]) ∧ Row w' 9 1 w.heap.size w'.heap.size v' (spR s).length (strs (spR s)) ∧ Below w.heap.size w w' := by
  by_cases c1 : 65536 < s.size
  · obtain ⟨E1, E2⟩ := sp_long c1
    rw [E1, E2]
    have c2 : (s.size : Int) > 65536 := by omega
    clear c1 E1 E2
    go_enter Tryd.func22, Tryd.ntmps22
    go_wp2
    go_ret2
    exact ⟨_, rfl, Row.nil _ _ _ _ _, Below.refl _ _⟩
  have c2 : ¬ (s.size : Int) > 65536 := by omega
  obtain ⟨X1, X2⟩ := sp_short c1
  cases c3 : slashB s with
  | true =>
    obtain ⟨E1, E2⟩ := sp_slash c3
    obtain ⟨E3, E4⟩ := X1 E1
    rw [E3, E4, E2]
    have c4 : (s.toList == [47]) = true := c3
    clear c1 c3 E1 E2 E3 E4 X1 X2
    go_enter Tryd.func22, Tryd.ntmps22
    go_wp2
    go_ret2
    exact ⟨_, rfl, Row.nil _ _ _ _ _, Below.refl _ _⟩
  | false =>
  have c4 : (s.toList == [47]) = false := c3
  have NO : Hid (spN s = false → spC s = 12 ∧ spR s = []) := fun h => X2 (sp_no c3 h).1
  have YES : Hid (spN s = true → spC s = 0 ∧ spR s = (pcs s).drop 1) := fun h => by
    obtain ⟨a, b⟩ := sp_yes c3 h
    obtain ⟨c, d⟩ := X1 a
    exact ⟨c, d.trans b⟩
  have LP : Hid (∀ w1 : World, Calls Tryd.prog 59 #[.string s, .string ⟨#[47]⟩] w1 fun e w' => e = .returned (.tuple #[.string (restB s), .bool (aheadB s)]) ∧ w' = w1) := fun w1 => cutPrefix_any s ⟨#[47]⟩ w1
  have RS := rest_size s
  have LS := hideIt (fun w1 => split_slash (restB s) w1 (by omega))
  have PL := pcs_len (restB s)
  have RW := hideIt (fun w1 => row_strs w1 (pcs (restB s)) (by omega))
  have LE := hideIt (fun v w1 h => everyName_any v (pcs (restB s)) w1 h (by omega) (fun k hk => by have := pcs_size (restB s) k hk; unfold maxLen; omega))
  have AN := hideIt (fun h => ahead_no (s := s) h)
  have AY := hideIt (fun h => ahead_yes (s := s) h)
  have BE := hideIt (fun w1 : World => (Below.refl w1.heap.size w1).alloc (Nat.le_refl _) (.cells (strs (pcs (restB s))).toArray 9))
  clear c1 c3 X1 X2
  generalize spC s = sc at *
  generalize spR s = sr at *
  generalize spN s = sn at *
  generalize (pcs s).drop 1 = P1 at *
  generalize hRS : restB s = R at *
  generalize aheadB s = ah at *
  generalize pcs R = P at *
  clear hRS
  cases ah with
  | false =>
    obtain ⟨e1, e2⟩ := NO.out (AN.out rfl)
    subst e1 e2
    clear NO YES AN AY LE RW
    go_enter Tryd.func22, Tryd.ntmps22
    go_wp2_with fail
    refine (LP.out _).mono ?_
    rintro e w1 ⟨rfl, hw1⟩
    subst w1
    go_wp2_with fail
    refine (LS.out _).mono ?_
    rintro e w1 ⟨rfl, hw1⟩
    have B1 := hideIt (BE.out w)
    rw [← hw1] at B1
    clear hw1
    go_wp2
    go_ret2
    exact ⟨_, rfl, Row.nil _ _ _ _ _, B1.out⟩
  | true =>
  obtain ⟨a1, a2⟩ := AY.out rfl
  have A1 := hideIt a1
  rw [a2] at YES
  clear a2 AY
  by_cases n1 : P.length ≤ 6
  case neg =>
    obtain ⟨e1, e2⟩ := NO.out (by rw [A1.out, decide_eq_false n1]; rfl)
    have n2 : (P.length : Int) > 6 := by omega
    subst e1 e2
    clear NO YES AN LE RW A1 a1
    go_enter Tryd.func22, Tryd.ntmps22
    go_wp2_with fail
    refine (LP.out _).mono ?_
    rintro e w1 ⟨rfl, hw1⟩
    subst w1
    go_wp2_with fail
    refine (LS.out _).mono ?_
    rintro e w1 ⟨rfl, hw1⟩
    have B1 := hideIt (BE.out w)
    rw [← hw1] at B1
    clear hw1
    go_wp2
    go_ret2
    exact ⟨_, rfl, Row.nil _ _ _ _ _, B1.out⟩
  have n2 : ¬ (P.length : Int) > 6 := by omega
  have A2 : Hid (sn = P.all nmB) := by unfold Hid; rw [A1.out, decide_eq_true n1]; rfl
  clear A1 a1
  cases c5 : P.all nmB with
  | false =>
    obtain ⟨e1, e2⟩ := NO.out (by rw [A2.out, c5])
    rw [c5] at LE
    subst e1 e2
    clear NO YES AN A2 c5
    go_enter Tryd.func22, Tryd.ntmps22
    go_wp2_with fail
    refine (LP.out _).mono ?_
    rintro e w1 ⟨rfl, hw1⟩
    subst w1
    go_wp2_with fail
    refine (LS.out _).mono ?_
    rintro e w1 ⟨rfl, hw1⟩
    have B1 := hideIt (BE.out w)
    have R1 := hideIt (RW.out w)
    rw [← hw1] at B1 R1
    clear hw1 RW BE
    go_wp2_with fail
    refine (LE.out _ _ R1.out.rd).mono ?_
    rintro e w2 ⟨rfl, hb2⟩
    have B2 := hideIt (below_trans B1.out hb2 B1.out.size)
    clear hb2
    go_wp2
    go_ret2
    exact ⟨_, rfl, Row.nil _ _ _ _ _, B2.out⟩
  | true =>
    obtain ⟨e1, e2⟩ := YES.out (by rw [A2.out, c5])
    rw [c5] at LE
    subst e1 e2
    clear NO YES AN A2 c5
    go_enter Tryd.func22, Tryd.ntmps22
    go_wp2_with fail
    refine (LP.out _).mono ?_
    rintro e w1 ⟨rfl, hw1⟩
    subst w1
    go_wp2_with fail
    refine (LS.out _).mono ?_
    rintro e w1 ⟨rfl, hw1⟩
    have B1 := hideIt (BE.out w)
    have R1 := hideIt (RW.out w)
    rw [← hw1] at B1 R1
    clear hw1 RW BE
    go_wp2_with fail
    refine (LE.out _ _ R1.out.rd).mono ?_
    rintro e w2 ⟨rfl, hb2⟩
    have B2 := hideIt (below_trans B1.out hb2 B1.out.size)
    have R2 := hideIt ((R1.out.below hb2 (Nat.le_refl _)).wide (Nat.le_refl _) hb2.size)
    clear hb2
    go_wp2
    go_ret2
    exact ⟨_, rfl, R2.out, B2.out⟩

set_option maxRecDepth 100000 in
set_option maxHeartbeats 4000000 in
theorem implPathOK_any (s : ByteArray) (w : World) :
    Calls Tryd.prog 20 #[.string s] w fun e w' => e = .returned (.bool (spC s == 0)) ∧ Below w.heap.size w w' := by
  have LS := hideIt (fun w1 => implSplitPath_any s w1)
  generalize spC s = sc at *
  go_enter Tryd.func20, Tryd.ntmps20
  go_wp2_with fail
  refine (LS.out _).mono ?_
  rintro e w1 ⟨v1, rfl, hr1, hb1⟩
  have B1 := hideIt hb1
  clear hr1 hb1
  go_wp2
  go_ret
  exact ⟨rfl, B1.out⟩
end Go.Proofs.YtpljkdbeekplbaaDoor
