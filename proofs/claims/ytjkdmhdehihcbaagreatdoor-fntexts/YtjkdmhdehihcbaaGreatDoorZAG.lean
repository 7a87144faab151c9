/- Several texts laid together: PbC, RoA. -/
import Derived.Test.YtjkdmhdehihcbaaGreatDoorPbA
import Derived.Deep.LoopGhost
import Derived.Laws.OwnMore
namespace Go.Proofs.YtjkdmhdehihcbaaGreatDoor
open Go.RowKit
theorem byte_at (s : ByteArray) (k : Nat) (h : k < s.size) : s.data.toList[k]'(by rw [← Lib.size_eq]; exact h) = s[k] := by
  rw [Array.getElem_toList]
  rfl
theorem byte_is (c : UInt8) : ((c.toNat : Int) == 47) = decide (c = 47) := by
  by_cases h : c = 47
  · subst h; rfl
  · rw [decide_eq_false h, beq_eq_false_iff_ne]
    intro e
    apply h
    apply UInt8.toNat_inj.1
    show c.toNat = 47
    omega
theorem cut_begin (l : List UInt8) : cutG [] l = [] ++ cutG ((l.take 0).drop 0) (l.drop 0) := by simp
theorem cut_yes {l : List UInt8} {ds : List (List UInt8)} {k f : Nat} (hk : k < l.length) (h : cutG [] l = ds ++ cutG ((l.take k).drop f) (l.drop k)) (hc : l[k] = 47) :
    cutG [] l = (ds ++ [(l.take k).drop f]) ++ cutG ((l.take (k + 1)).drop (k + 1)) (l.drop (k + 1)) := by
  rw [List.drop_eq_getElem_cons hk, cutG_cons, if_pos hc] at h
  rw [h, List.append_assoc, List.drop_of_length_le (l := l.take (k + 1)) (by rw [List.length_take]; omega)]
  rfl
theorem cut_no {l : List UInt8} {ds : List (List UInt8)} {k f : Nat} (hk : k < l.length) (hf : f ≤ k) (h : cutG [] l = ds ++ cutG ((l.take k).drop f) (l.drop k)) (hc : ¬ l[k] = 47) :
    cutG [] l = ds ++ cutG ((l.take (k + 1)).drop f) (l.drop (k + 1)) := by
  rw [List.drop_eq_getElem_cons hk, cutG_cons, if_neg hc] at h
  rw [h, List.take_succ_eq_append_getElem hk, List.drop_append_of_le_length (by rw [List.length_take]; omega)]
theorem cut_end {s : ByteArray} {ds : List (List UInt8)} {f : Nat} (h : cutG [] s.data.toList = ds ++ cutG ((s.data.toList.take s.size).drop f) (s.data.toList.drop s.size)) : pcs s = ds.map mkB ++ [s.extract f s.size] := by
  unfold pcs
  rw [h, List.drop_of_length_le (l := s.data.toList) (by rw [← Lib.size_eq]; exact Nat.le_refl _), cutG_nil, List.map_append]
  show ds.map mkB ++ [mkB _] = _
  rw [mkB_extract]
set_option maxRecDepth 100000 in
set_option maxHeartbeats 4000000 in
theorem l00Cut_any (s : ByteArray) (w : World) (hs : s.size ≤ 65536) :
    Calls Tryz.prog 109 #[.string s, .int .u8 47] w fun e w' => ∃ v', e = .returned v' ∧ Row w' 9 1 w.heap.size w'.heap.size v' (pcs s).length (strs (pcs s)) ∧ Below w.heap.size w w' := by
  have START : Hid (SnI w (w.alloc (.cells #[] 9)) (.slice (some ⟨w.heap.size, 0, none⟩) 0 0) []) := ⟨World.ownsRow_lit w #[] 0 (Nat.le_refl _) (by simp [maxLen]) (by simp), (Below.refl _ _).alloc (Nat.le_refl _) _⟩
  have HL := hideIt (Lib.size_eq s)
  go_enter Tryz.func109, Tryz.ntmps109
  go_wp2
  go_loopg [5, 6, 7] s.size (fun g vL fr i wr => ∃ (k f : Nat) (ds : List (List UInt8)), k + g = s.size ∧ f ≤ k ∧ fr = .int .i64 f ∧ i = .int .i64 k ∧ vL ≠ .slice none 0 0 ∧ ds.length ≤ k ∧ Hid (SnI w wr vL (ds.map mkB) ∧ cutG [] s.data.toList = ds ++ cutG ((s.data.toList.take k).drop f) (s.data.toList.drop k)))
  case atStart => exact ⟨0, 0, [], by omega, by omega, rfl, rfl, (fun e => by cases e), Nat.le_refl _, START.out, cut_begin _⟩
  case round =>
    obtain ⟨k, f, ds, hkg, hf, rfl, rfl, hv, hd, I⟩ := hrel
    clear START
    have k0 : (0 : Int) ≤ (k : Int) := by omega
    have f0 : (0 : Int) ≤ (f : Int) := by omega
    have fk : (f : Int) ≤ (k : Int) := by omega
    have DL : (ds.map mkB).length = ds.length := List.length_map ..
    by_cases hlt : k < s.size
    · have k1 : (k : Int) < (s.size : Int) := by omega
      have k2 : (k : Int) ≤ (s.size : Int) := by omega
      have hkl : k < s.data.toList.length := by rw [← HL.out]; exact hlt
      by_cases c : s[k] = 47
      · have q : ((s[k].toNat : Int) == 47) = true := by rw [byte_is, decide_eq_true c]
        have N := hideIt (cut_yes hkl I.out.2 (by rw [byte_at s k hlt]; exact c))
        have MN : Hid ((ds ++ [(s.data.toList.take k).drop f]).map mkB = ds.map mkB ++ [s.extract f k]) := by unfold Hid; rw [List.map_append, ← mkB_extract]; rfl
        have JB : Hid (SnI w (wr.alloc (.cells #[.string (s.extract f k)] 9)) u5 (ds.map mkB)) := I.out.1.below ((Below.refl _ _).alloc (Nat.le_refl _) _)
        have RB := hideIt (rd_str wr (s.extract f k))
        have hzb := JB.out.z
        simp only [World.size_alloc] at hzb
        clear I c
        go_wp2_with (at_builtin; refine wpList_append_rd _ rfl (.tmp 20) (.tmp 25) 35 rfl w.heap.size 9 (.string ⟨#[]⟩) 1 16 Tryz.underlying35 info9 rfl (by decide) _ _ _ rfl JB.out.l _ 1 _ rfl RB.out (strs_one _) (by simp [maxLen]; omega) (by simp; omega) JB.out.z ?_)
        intro vN wN hownN hgrN
        have G := hideIt (JB.out.grow [s.extract f k] rfl (by rw [List.length_map]; exact hownN) hgrN)
        rw [← MN.out] at G
        have hv2 := hideIt (G.out.some_ (by simp))
        clear hownN hgrN JB RB q MN hv
        go_wp2
        go_roundg (s.size - (k + 1))
        case measure => omega
        case rel => exact ⟨k + 1, k + 1, ds ++ [(s.data.toList.take k).drop f], by omega, Nat.le_refl _, by go_num, by go_num, hv2.out, by simp; omega, G.out, N.out⟩
      · have q : ((s[k].toNat : Int) == 47) = false := by rw [byte_is, decide_eq_false c]
        have N := hideIt (cut_no hkl hf I.out.2 (by rw [byte_at s k hlt]; exact c))
        have I1 := hideIt I.out.1
        have HV := hideIt hv
        clear I c DL hv
        go_wp2
        go_roundg (s.size - (k + 1))
        case measure => omega
        case rel => exact ⟨k + 1, f, ds, by omega, by omega, rfl, by go_num, HV.out, by omega, I1.out, N.out⟩
    · obtain rfl : k = s.size := by omega
      have MN := hideIt (cut_end I.out.2)
      have JB : Hid (SnI w (wr.alloc (.cells #[.string (s.extract f s.size)] 9)) u5 (ds.map mkB)) := I.out.1.below ((Below.refl _ _).alloc (Nat.le_refl _) _)
      have RB := hideIt (rd_str wr (s.extract f s.size))
      have hzb := JB.out.z
      simp only [World.size_alloc] at hzb
      clear I
      go_wp2_with (at_builtin; refine wpList_append_rd _ rfl (.tmp 29) (.tmp 33) 35 rfl w.heap.size 9 (.string ⟨#[]⟩) 1 16 Tryz.underlying35 info9 rfl (by decide) _ _ _ rfl JB.out.l _ 1 _ rfl RB.out (strs_one _) (by simp [maxLen]; omega) (by simp; omega) JB.out.z ?_)
      intro vN wN hownN hgrN
      have G := hideIt (JB.out.grow [s.extract f s.size] rfl (by rw [List.length_map]; exact hownN) hgrN)
      rw [← MN.out] at G
      clear hownN hgrN JB RB MN hv
      go_wp2
      go_ret
      exact ⟨_, rfl, own_block G.out.l, G.out.b⟩
end Go.Proofs.YtjkdmhdehihcbaaGreatDoor

namespace Go.Proofs.YtjkdmhdehihcbaaGreatDoor
open Go.RowKit
def wdG (cur : List UInt8) : List UInt8 → List (List UInt8)
  | [] => if cur = [] then [] else [cur]
  | c :: l => if c = 32 then (if cur = [] then wdG [] l else cur :: wdG [] l) else wdG (cur ++ [c]) l
def wds (s : ByteArray) : List ByteArray := (wdG [] s.data.toList).map mkB
theorem wdG_cons (cur : List UInt8) (c : UInt8) (l : List UInt8) : wdG cur (c :: l) = if c = 32 then (if cur = [] then wdG [] l else cur :: wdG [] l) else wdG (cur ++ [c]) l := rfl
theorem seg_len {l : List UInt8} {k f : Nat} (hk : k ≤ l.length) : ((l.take k).drop f).length = k - f := by rw [List.length_drop, List.length_take]; omega
theorem seg_nil {l : List UInt8} {k f : Nat} (hk : k ≤ l.length) (hf : f < k) : ¬ (l.take k).drop f = [] := fun e => by
  have := seg_len (f := f) hk
  rw [e] at this
  simp at this
  omega
end Go.Proofs.YtjkdmhdehihcbaaGreatDoor
