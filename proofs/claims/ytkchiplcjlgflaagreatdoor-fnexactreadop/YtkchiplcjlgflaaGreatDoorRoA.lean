/- A text's words: by the model. -/
import Derived.Test.YtkchiplcjlgflaaGreatDoorPbC
namespace Go.Proofs.YtkchiplcjlgflaaGreatDoor
open Go.RowKit
def wdG (cur : List UInt8) : List UInt8 → List (List UInt8)
  | [] => if cur = [] then [] else [cur]
  | c :: l => if c = 32 then (if cur = [] then wdG [] l else cur :: wdG [] l) else wdG (cur ++ [c]) l
def wds (s : ByteArray) : List ByteArray := (wdG [] s.data.toList).map mkB
theorem wdG_cons (cur : List UInt8) (c : UInt8) (l : List UInt8) : wdG cur (c :: l) = if c = 32 then (if cur = [] then wdG [] l else cur :: wdG [] l) else wdG (cur ++ [c]) l := rfl
theorem byte_is32 (c : UInt8) : ((c.toNat : Int) == 32) = decide (c = 32) := by
  by_cases h : c = 32
  · subst h; rfl
  · rw [decide_eq_false h, beq_eq_false_iff_ne]
    intro e
    apply h
    apply UInt8.toNat_inj.1
    show c.toNat = 32
    omega
theorem seg_len {l : List UInt8} {k f : Nat} (hk : k ≤ l.length) : ((l.take k).drop f).length = k - f := by rw [List.length_drop, List.length_take]; omega
theorem seg_nil {l : List UInt8} {k f : Nat} (hk : k ≤ l.length) (hf : f < k) : ¬ (l.take k).drop f = [] := fun e => by
  have := seg_len (f := f) hk
  rw [e] at this
  simp at this
  omega
theorem seg_not {l : List UInt8} {k : Nat} : (l.take k).drop k = [] := List.drop_of_length_le (by rw [List.length_take]; omega)
theorem wd_begin (l : List UInt8) : wdG [] l = [] ++ wdG ((l.take 0).drop 0) (l.drop 0) := by simp
theorem wd_yes {l : List UInt8} {ds : List (List UInt8)} {k f : Nat} (hk : k < l.length) (hf : f < k) (h : wdG [] l = ds ++ wdG ((l.take k).drop f) (l.drop k)) (hc : l[k] = 32) :
    wdG [] l = (ds ++ [(l.take k).drop f]) ++ wdG ((l.take (k + 1)).drop (k + 1)) (l.drop (k + 1)) := by
  rw [List.drop_eq_getElem_cons hk, wdG_cons, if_pos hc, if_neg (seg_nil (by omega) hf)] at h
  rw [h, List.append_assoc, seg_not]
  rfl
theorem wd_skip {l : List UInt8} {ds : List (List UInt8)} {k : Nat} (hk : k < l.length) (h : wdG [] l = ds ++ wdG ((l.take k).drop k) (l.drop k)) (hc : l[k] = 32) :
    wdG [] l = ds ++ wdG ((l.take (k + 1)).drop (k + 1)) (l.drop (k + 1)) := by
  rw [List.drop_eq_getElem_cons hk, wdG_cons, if_pos hc, if_pos seg_not] at h
  rw [h, seg_not]
theorem wd_no {l : List UInt8} {ds : List (List UInt8)} {k f : Nat} (hk : k < l.length) (hf : f ≤ k) (h : wdG [] l = ds ++ wdG ((l.take k).drop f) (l.drop k)) (hc : ¬ l[k] = 32) :
    wdG [] l = ds ++ wdG ((l.take (k + 1)).drop f) (l.drop (k + 1)) := by
  rw [List.drop_eq_getElem_cons hk, wdG_cons, if_neg hc] at h
  rw [h, List.take_succ_eq_append_getElem hk, List.drop_append_of_le_length (by rw [List.length_take]; omega)]
theorem wd_end {l : List UInt8} {ds : List (List UInt8)} {k f : Nat} (hk : k = l.length) (h : wdG [] l = ds ++ wdG ((l.take k).drop f) (l.drop k)) : wdG [] l = if f < k then ds ++ [(l.take k).drop f] else ds := by
  rw [List.drop_of_length_le (l := l) (by omega)] at h
  rw [h]
  show ds ++ (if _ then [] else _) = _
  by_cases c : f < k
  · rw [if_pos c, if_neg (seg_nil (by omega) c)]
  · rw [if_neg c, if_pos (List.drop_of_length_le (by rw [List.length_take]; omega)), List.append_nil]
set_option maxRecDepth 100000 in
set_option maxHeartbeats 4000000 in
theorem l00Words_any (s : ByteArray) (w : World) (hs : s.size ≤ 65536) :
    Calls Tryz.prog 11 #[.string s] w fun e w' => ∃ v', e = .returned v' ∧ Row w' 9 1 w.heap.size w'.heap.size v' (wds s).length (strs (wds s)) ∧ Below w.heap.size w w' := by
  have START : Hid (SnI w (w.alloc (.cells #[] 9)) (.slice (some ⟨w.heap.size, 0, none⟩) 0 0) []) := ⟨World.ownsRow_lit w #[] 0 (Nat.le_refl _) (by simp [maxLen]) (by simp), (Below.refl _ _).alloc (Nat.le_refl _) _⟩
  have HL := hideIt (Lib.size_eq s)
  have WE : Hid (∀ ds : List (List UInt8), wdG [] s.data.toList = ds → wds s = ds.map mkB) := fun ds h => by unfold wds; rw [h]
  generalize wds s = R at *
  go_enter Tryz.func11, Tryz.ntmps11
  go_wp2
  go_loopg [3, 4, 5] (s.size + 1) (fun g vL fr i wr => ∃ (k f : Nat) (ds : List (List UInt8)), k + g = s.size + 1 ∧ fr = .int .i64 f ∧ i = .int .i64 k ∧ ds.length ≤ k ∧ Hid (SnI w wr vL (ds.map mkB)) ∧ ((k ≤ s.size ∧ f ≤ k ∧ Hid (wdG [] s.data.toList = ds ++ wdG ((s.data.toList.take k).drop f) (s.data.toList.drop k))) ∨ (k = s.size + 1 ∧ Hid (wdG [] s.data.toList = ds))))
  case atStart => exact ⟨0, 0, [], by omega, rfl, rfl, Nat.le_refl _, START.out, .inl ⟨by omega, by omega, wd_begin _⟩⟩
  case round =>
    obtain ⟨k, f, ds, hkg, rfl, rfl, hd, I, HI⟩ := hrel
    clear START
    have k0 : (0 : Int) ≤ (k : Int) := by omega
    have f0 : (0 : Int) ≤ (f : Int) := by omega
    have DL : (ds.map mkB).length = ds.length := List.length_map ..
    rcases HI with ⟨hks, hf, HW⟩ | ⟨rfl, HW⟩
    · have k2 : (k : Int) ≤ (s.size : Int) := by omega
      have fk : (f : Int) ≤ (k : Int) := by omega
      by_cases hlt : k < s.size
      · have k1 : (k : Int) < (s.size : Int) := by omega
        have k3 : ((k : Int) == (s.size : Int)) = false := by rw [beq_eq_false_iff_ne]; omega
        have hkl : k < s.data.toList.length := by rw [← HL.out]; exact hlt
        by_cases c : s[k] = 32
        · have q : ((s[k].toNat : Int) == 32) = true := by rw [byte_is32, decide_eq_true c]
          by_cases hfk : f < k
          · have fk1 : (f : Int) < (k : Int) := by omega
            have N := hideIt (wd_yes hkl hfk HW.out (by rw [byte_at s k hlt]; exact c))
            have MN : Hid ((ds ++ [(s.data.toList.take k).drop f]).map mkB = ds.map mkB ++ [s.extract f k]) := by unfold Hid; rw [List.map_append, ← mkB_extract]; rfl
            have JB : Hid (SnI w (wr.alloc (.cells #[.string (s.extract f k)] 9)) u3 (ds.map mkB)) := I.out.below ((Below.refl _ _).alloc (Nat.le_refl _) _)
            have RB := hideIt (rd_str wr (s.extract f k))
            have hzb := JB.out.z
            simp only [World.size_alloc] at hzb
            clear I c HW
            go_wp2_with (at_builtin; refine wpList_append_rd _ rfl (.tmp 26) (.tmp 31) 31 rfl w.heap.size 9 (.string ⟨#[]⟩) 1 16 Tryz.underlying31 info9 rfl (by decide) _ _ _ rfl JB.out.l _ 1 _ rfl RB.out (strs_one _) (by simp [maxLen]; omega) (by simp; omega) JB.out.z ?_)
            intro vN wN hownN hgrN
            have G := hideIt (JB.out.grow [s.extract f k] rfl (by rw [List.length_map]; exact hownN) hgrN)
            rw [← MN.out] at G
            clear hownN hgrN JB RB q MN
            go_wp2
            go_roundg (s.size + 1 - (k + 1))
            case measure => omega
            case rel => exact ⟨k + 1, k + 1, ds ++ [(s.data.toList.take k).drop f], by omega, by go_num, by go_num, by simp; omega, G.out, .inl ⟨by omega, by omega, N.out⟩⟩
          · obtain rfl : f = k := by omega
            have N := hideIt (wd_skip hkl HW.out (by rw [byte_at s f hlt]; exact c))
            have fk1 : ¬ (f : Int) < (f : Int) := by omega
            clear HW c
            go_wp2
            go_roundg (s.size + 1 - (f + 1))
            case measure => omega
            case rel => exact ⟨f + 1, f + 1, ds, by omega, by go_num, by go_num, by omega, I.out, .inl ⟨by omega, by omega, N.out⟩⟩
        · have q : ((s[k].toNat : Int) == 32) = false := by rw [byte_is32, decide_eq_false c]
          have N := hideIt (wd_no hkl hf HW.out (by rw [byte_at s k hlt]; exact c))
          clear HW c
          go_wp2
          go_roundg (s.size + 1 - (k + 1))
          case measure => omega
          case rel => exact ⟨k + 1, f, ds, by omega, rfl, by go_num, by omega, I.out, .inl ⟨by omega, by omega, N.out⟩⟩
      · obtain rfl : k = s.size := by omega
        have N := hideIt (wd_end (by rw [← HL.out]) HW.out)
        by_cases hfk : f < s.size
        · have fk1 : (f : Int) < (s.size : Int) := by omega
          have N2 : Hid (wdG [] s.data.toList = ds ++ [(s.data.toList.take s.size).drop f]) := N.out.trans (if_pos hfk)
          have MN : Hid ((ds ++ [(s.data.toList.take s.size).drop f]).map mkB = ds.map mkB ++ [s.extract f s.size]) := by unfold Hid; rw [List.map_append, ← mkB_extract]; rfl
          have JB : Hid (SnI w (wr.alloc (.cells #[.string (s.extract f s.size)] 9)) u3 (ds.map mkB)) := I.out.below ((Below.refl _ _).alloc (Nat.le_refl _) _)
          have RB := hideIt (rd_str wr (s.extract f s.size))
          have hzb := JB.out.z
          simp only [World.size_alloc] at hzb
          clear I HW N
          go_wp2_with (at_builtin; refine wpList_append_rd _ rfl (.tmp 26) (.tmp 31) 31 rfl w.heap.size 9 (.string ⟨#[]⟩) 1 16 Tryz.underlying31 info9 rfl (by decide) _ _ _ rfl JB.out.l _ 1 _ rfl RB.out (strs_one _) (by simp [maxLen]; omega) (by simp; omega) JB.out.z ?_)
          intro vN wN hownN hgrN
          have G := hideIt (JB.out.grow [s.extract f s.size] rfl (by rw [List.length_map]; exact hownN) hgrN)
          rw [← MN.out] at G
          clear hownN hgrN JB RB MN
          go_wp2
          go_roundg (s.size + 1 - (s.size + 1))
          case measure => omega
          case rel => exact ⟨s.size + 1, s.size + 1, ds ++ [(s.data.toList.take s.size).drop f], by omega, by go_num, by go_num, by simp; omega, G.out, .inr ⟨rfl, N2.out⟩⟩
        · have fk1 : ¬ (f : Int) < (s.size : Int) := by omega
          have N2 : Hid (wdG [] s.data.toList = ds) := N.out.trans (if_neg hfk)
          clear HW N
          go_wp2
          go_roundg (s.size + 1 - (s.size + 1))
          case measure => omega
          case rel => exact ⟨s.size + 1, s.size + 1, ds, by omega, by go_num, by go_num, by omega, I.out, .inr ⟨rfl, N2.out⟩⟩
    · have k2 : ¬ ((s.size + 1 : Nat) : Int) ≤ (s.size : Int) := by omega
      have RW := hideIt (own_block I.out.l)
      have BR := hideIt I.out.b
      rw [← WE.out ds HW.out] at RW
      clear I HW WE
      obtain ⟨-, aL, cL, hvL, -⟩ := id RW.out.rd
      subst hvL
      go_wp2
      go_ret
      exact ⟨.slice aL R.length cL, rfl, RW.out, BR.out⟩
end Go.Proofs.YtkchiplcjlgflaaGreatDoor
