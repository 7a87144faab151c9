/- Several texts laid together: IgE, NmU, RdA, IgF. -/
import Derived.Test.YtlgghookekokaaaGreatDoorZAW
import Derived.Test.YtlgghookekokaaaGreatDoorZAF
import Derived.Test.YtlgghookekokaaaGreatDoorZAK
import Derived.Test.YtlgghookekokaaaGreatDoorZAR
import Derived.Test.YtlgghookekokaaaGreatDoorZAB
namespace Go.Proofs.YtlgghookekokaaaGreatDoor
open Go.RowKit

/-- An inode of a list of pages. -/
def inoM (kind size links : Int) (zs : List Int) : Ino := ⟨kind, size, links, zs.getD 0 0, zs.getD 1 0, zs.getD 2 0, zs.getD 3 0, zs.getD 4 0, zs.getD 5 0, zs.getD 6 0, zs.getD 7 0⟩
theorem inoM_map {kind size links : Int} {zs : List Int} (h : zs.length = 8) : (inoM kind size links zs).map = zs := by
  match zs, h with
  | [a, b, c, d, e, f, g, i], _ => rfl
theorem img_inode {ws : List Ino} {ps : List Den} (h : Img ws ps) {i : Nat} {x : Ino} (hi : i < 16) (kx : x.kind = (inoAt ws i).kind) (lx : x.links = (inoAt ws i).links) (ox : inoB x = true) (sx : (mapped (ws.set i x)).Pairwise fun x y => x ≠ y) :
    Img (ws.set i x) ps := by
  have hi' : i < ws.length := by rw [h.l16]; exact hi
  have KA : ∀ c, 0 ≤ c → kindAt (ws.set i x) c = kindAt ws c := by
    intro c hc
    rw [kind_set hi' _ c hc]
    by_cases e : c = (i : Int)
    · rw [if_pos e, e, kindAt_ino, kx]
    · rw [if_neg e]
  refine ⟨by rw [List.length_set]; exact h.l16, h.l24, ?_, ?_, ?_, h.once, ?_, ?_, sx⟩
  · rw [KA 0 (by omega)]; exact h.root
  · intro j hj
    rw [inoAt_set hi']
    by_cases e : j = i
    · rw [if_pos e]; exact ox
    · rw [if_neg e]; exact h.ok j hj
  · intro k hk
    rcases h.ent k hk with q | q
    · exact .inl q
    · obtain ⟨q1, q2, q3, q4, q5⟩ := q
      exact .inr ⟨q1, q2, q3, by rw [KA _ (by omega)]; exact q4, by rw [KA _ q2.1]; exact q5⟩
  · intro j hj
    rw [inoAt_set hi']
    by_cases e : j = i
    · rw [if_pos e, lx, ← e]; exact h.links j hj
    · rw [if_neg e]; exact h.links j hj
  · intro j hj kj
    rw [inoAt_set hi'] at kj
    by_cases e : j = i
    · rw [if_pos e, kx, ← e] at kj; exact h.hang j hj kj
    · rw [if_neg e] at kj; exact h.hang j hj kj
theorem somes_set {l : List Int} {p : Nat} {e : Int} (hp : p < l.length) (he : ¬ e = 0) : somes (l.set p e) = somes (l.take p) ++ [e] ++ somes (l.drop (p + 1)) := by
  unfold somes
  rw [List.set_eq_take_append_cons_drop, if_pos hp, List.filter_append, List.filter_cons, if_pos (by simpa using he), List.append_assoc]
  rfl
theorem somes_split {l : List Int} {p : Nat} (hp : p < l.length) : (somes (l.take p) ++ somes (l.drop (p + 1))).Sublist (somes l) := by
  unfold somes
  rw [← List.filter_append]
  apply List.Sublist.filter
  have : l = l.take p ++ (l[p] :: l.drop (p + 1)) := by rw [← List.drop_eq_getElem_cons hp, List.take_append_drop]
  conv => rhs; rw [this]
  exact List.Sublist.append (List.Sublist.refl _) (List.sublist_cons_self _ _)
/-- A page that is nowhere yet is put somewhere. -/
theorem sing_put {ws : List Ino} {i p : Nat} {e : Int} {x : Ino} (hi : i < ws.length) (hp : p < 8) (he : ¬ e = 0) (s : (mapped ws).Pairwise fun x y => x ≠ y) (new : ¬ e ∈ mapped ws) (hx : x.map = (inoAt ws i).map.set p e) : (mapped (ws.set i x)).Pairwise fun x y => x ≠ y := by
  have hl : p < (inoAt ws i).map.length := hp
  rw [mapped_set hi, hx, somes_set hl he]
  rw [mapped_split hi] at s new
  have sub : (mapped (ws.take i) ++ (somes ((inoAt ws i).map.take p) ++ somes ((inoAt ws i).map.drop (p + 1))) ++ mapped (ws.drop (i + 1))).Sublist (mapped (ws.take i) ++ somes (inoAt ws i).map ++ mapped (ws.drop (i + 1))) :=
    List.Sublist.append (List.Sublist.append (List.Sublist.refl _) (somes_split hl)) (List.Sublist.refl _)
  have s2 := s.sublist sub
  have new2 : ¬ e ∈ mapped (ws.take i) ++ (somes ((inoAt ws i).map.take p) ++ somes ((inoAt ws i).map.drop (p + 1))) ++ mapped (ws.drop (i + 1)) := fun q => new (sub.subset q)
  generalize mapped (ws.take i) = A at *
  generalize somes ((inoAt ws i).map.take p) = P at *
  generalize somes ((inoAt ws i).map.drop (p + 1)) = Q at *
  generalize mapped (ws.drop (i + 1)) = B at *
  have e1 : A ++ (P ++ [e] ++ Q) ++ B = (A ++ P) ++ e :: (Q ++ B) := by simp
  have e2 : A ++ (P ++ Q) ++ B = (A ++ P) ++ (Q ++ B) := by simp
  rw [e2] at s2 new2
  rw [e1]
  rw [List.pairwise_append] at s2 ⊢
  refine ⟨s2.1, ?_, ?_⟩
  · rw [List.pairwise_cons]
    exact ⟨fun y hy q => new2 (by rw [List.mem_append]; right; rw [q]; exact hy), s2.2.1⟩
  · intro a ha b hb
    rw [List.mem_cons] at hb
    rcases hb with rfl | hb
    · intro q
      exact new2 (by rw [List.mem_append]; left; rw [← q]; exact ha)
    · exact s2.2.2 a ha b hb
theorem map_len (x : Ino) : x.map.length = 8 := rfl
theorem put_ok {x : Ino} {p : Nat} {e sz : Int} (h : inoB x = true) (k : x.kind = 1) (hp : p < 8) (te : tieB e = true) (sx : x.size ≤ sz) (s8 : sz ≤ 8) (ps : (p : Int) < sz) : inoB (inoM x.kind sz x.links (x.map.set p e)) = true := by
  obtain ⟨a, b, c, d, f⟩ := ino_parts h
  refine ino_mk a ⟨by show 0 ≤ sz; omega, s8⟩ c ?_ ?_
  · rw [inoM_map (by rw [List.length_set]; rfl)]
    apply mapB_of
    intro j hj
    have q := mapB_to d j hj
    show entB j ((x.map.set p e).getD j 0) sz = true
    rw [List.getD_eq_getElem?_getD, List.getElem?_set]
    by_cases e1 : p = j
    · subst e1
      rw [if_pos rfl, if_pos (by rw [map_len]; exact hp)]
      show entB p e sz = true
      unfold entB
      rw [te, decide_eq_true ps]
      simp
    · rw [if_neg e1]
      unfold entB at q ⊢
      rw [List.getD_eq_getElem?_getD] at q
      rw [Bool.and_eq_true, Bool.or_eq_true] at q ⊢
      refine ⟨q.1, ?_⟩
      rcases q.2 with r | r
      · exact .inl r
      · right
        have : (j : Int) < x.size := by simpa using r
        simp only [decide_eq_true_eq]
        omega
  · unfold kindB at f ⊢
    rw [if_neg (by omega), if_neg (by omega)] at f
    rw [if_neg (by show ¬ x.kind = 0; omega), if_neg (by show ¬ x.kind = 2; omega)]
    exact f
theorem img_write {ws : List Ino} {ps : List Den} (h : Img ws ps) {i p : Nat} {e sz : Int} (hi : i < 16) (k : (inoAt ws i).kind = 1) (hp : p < 8) (te : tieB e = true) (he : ¬ e = 0) (new : ¬ e ∈ mapped ws) (hsz : sz = if (p : Int) < (inoAt ws i).size then (inoAt ws i).size else (p : Int) + 1) :
    Img (ws.set i (inoM (inoAt ws i).kind sz (inoAt ws i).links ((inoAt ws i).map.set p e))) ps := by
  have o := ino_parts (h.ok i hi)
  refine img_inode h hi rfl rfl (put_ok (h.ok i hi) k hp te ?_ ?_ ?_) (sing_put (by rw [h.l16]; exact hi) hp he h.sing new (inoM_map (by rw [List.length_set]; rfl)))
  · rw [hsz]; split <;> omega
  · rw [hsz]; split <;> omega
  · rw [hsz]; split <;> omega
/-- A page of a file that is mapped lies ahead of its end. -/
theorem page_size {x : Ino} (h : inoB x = true) {p : Nat} (hp : p < 8) (e : ¬ x.map.getD p 0 = 0) : (p : Int) < x.size ∧ x.kind = 1 := by
  obtain ⟨a, b, c, d, f⟩ := ino_parts h
  have q := mapB_to d p hp
  unfold entB at q
  rw [Bool.and_eq_true, Bool.or_eq_true, beq_iff_eq, decide_eq_true_eq] at q
  have s : (p : Int) < x.size := by
    rcases q.2 with r | r
    · exact absurd r e
    · exact r
  refine ⟨s, ?_⟩
  unfold kindB at f
  by_cases k0 : x.kind = 0
  · rw [if_pos k0] at f
    have := (of_decide_eq_true f).1
    omega
  · by_cases k2 : x.kind = 2
    · rw [if_neg k0, if_pos k2] at f
      rw [Bool.and_eq_true, beq_iff_eq] at f
      omega
    · omega
/-- The first pages alone. -/
def cutM (zs : List Int) (n : Nat) : List Int := (List.range 8).map fun j => if j < n then zs.getD j 0 else 0
theorem cutM_len (zs : List Int) (n : Nat) : (cutM zs n).length = 8 := by simp [cutM]
theorem cutM_at (zs : List Int) (n j : Nat) (hj : j < 8) : (cutM zs n).getD j 0 = if j < n then zs.getD j 0 else 0 := by
  unfold cutM
  rw [List.getD_eq_getElem?_getD, List.getElem?_map, List.getElem?_range hj]
  rfl
theorem cut_ok {x : Ino} {n : Nat} (h : inoB x = true) (k : x.kind = 1) (hn : n ≤ 8) : inoB (inoM x.kind (n : Int) x.links (cutM x.map n)) = true := by
  obtain ⟨a, b, c, d, f⟩ := ino_parts h
  refine ino_mk a ⟨by show 0 ≤ (n : Int); omega, by show (n : Int) ≤ 8; omega⟩ c ?_ ?_
  · rw [inoM_map (cutM_len _ _)]
    apply mapB_of
    intro j hj
    have q := mapB_to d j hj
    show entB j ((cutM x.map n).getD j 0) (n : Int) = true
    rw [cutM_at _ _ _ hj]
    unfold entB at q ⊢
    by_cases e1 : j < n
    · rw [if_pos e1]
      rw [Bool.and_eq_true] at q ⊢
      refine ⟨q.1, ?_⟩
      rw [decide_eq_true (show (j : Int) < (n : Int) by omega)]
      simp
    · rw [if_neg e1]
      rfl
  · unfold kindB at f ⊢
    rw [if_neg (by omega), if_neg (by omega)] at f
    rw [if_neg (by show ¬ x.kind = 0; omega), if_neg (by show ¬ x.kind = 2; omega)]
    exact f
theorem cut_maps (x : Ino) (n : Nat) : (somes (cutM x.map n)).Sublist (somes x.map) := by
  have e : x.map = (List.range 8).map fun j => x.map.getD j 0 := rfl
  have gen : ∀ (l : List Nat), (somes (l.map fun j => if j < n then x.map.getD j 0 else 0)).Sublist (somes (l.map fun j => x.map.getD j 0)) := by
    intro l
    unfold somes
    induction l with
    | nil => exact List.Sublist.refl _
    | cons a l ih =>
      rw [List.map_cons, List.map_cons]
      by_cases q : a < n
      · rw [if_pos q, List.filter_cons, List.filter_cons]
        split
        · exact ih.cons_cons _
        · exact ih
      · rw [if_neg q, List.filter_cons, if_neg (by decide), List.filter_cons]
        split
        · exact ih.cons _
        · exact ih
  have := gen (List.range 8)
  rw [← e] at this
  exact this
theorem img_cut {ws : List Ino} {ps : List Den} (h : Img ws ps) {i n : Nat} (hi : i < 16) (k : (inoAt ws i).kind = 1) (hn : n ≤ 8) :
    Img (ws.set i (inoM (inoAt ws i).kind (n : Int) (inoAt ws i).links (cutM (inoAt ws i).map n))) ps := by
  refine img_inode h hi rfl rfl (cut_ok (h.ok i hi) k hn) (sing_sub (by rw [h.l16]; exact hi) h.sing ?_)
  rw [inoM_map (cutM_len _ _)]
  exact cut_maps _ _
end Go.Proofs.YtlgghookekokaaaGreatDoor

namespace Go.Proofs.YtlgghookekokaaaGreatDoor
open Go.RowKit

set_option maxRecDepth 100000 in
set_option maxHeartbeats 4000000 in
theorem l03Unpack_any (n : Int) (w : World) (hn : n ≤ 9223372036854775807) : Calls Tryz.prog 142 #[.int .i64 n] w fun e w' => (∃ s, e = .returned (.tuple #[.string s, .bool (goodN n)]) ∧ (goodN n = true → s = unpS n)) ∧ Below w.heap.size w w' := by
  obtain ⟨N, hN, hN2, hN3⟩ : ∃ N : Nat, (0 < n → n = (N : Int)) ∧ (¬ 0 < n → N = 0) ∧ N ≤ 9223372036854775807 := ⟨n.toNat, fun h => by omega, fun h => by omega, by omega⟩
  have hdl : (digs N).length ≤ 14 := digs_len 14 N (by omega)
  go_enter Tryz.func142, Tryz.ntmps142
  go_wp2
  go_loopw [0, 4, 5] (fun x o _ wr => ∃ (y : Int) (ds : List Nat), x = .int .i64 y ∧ o = .string (bytesOf ds) ∧ y ≤ 9223372036854775807 ∧ Hid ((0 < n → ∃ m : Nat, y = (m : Int) ∧ Dg N m ds) ∧ (¬ 0 < n → ¬ 0 < y ∧ ds = [])) ∧ Hid (Below w.heap.size w wr)) (fun x _ _ _ => (intOf x).toNat)
  case atStart => exact ⟨n, [], rfl, rfl, hn, ⟨fun h => ⟨N, hN h, Dg.start N⟩, fun h => ⟨h, rfl⟩⟩, Below.refl _ _⟩
  case round =>
    obtain ⟨y, ds, rfl, rfl, hy, D, B⟩ := hrel
    by_cases c1 : 0 < y
    · have hp : 0 < n := by
        rcases Decidable.em (0 < n) with h | h
        · exact h
        · exact absurd c1 (D.out.2 h).1
      obtain ⟨m, rfl, D1⟩ := D.out.1 hp
      have D0 := hideIt D1
      clear D D1
      by_cases c2 : m % 27 = 0
      · have E : Hid (goodN n = false) := by
          rw [hN hp]
          exact unp_zero D0.out (by omega) c2
        have c2' : ((m : Int) % 27 == 0) = true := by rw [beq_iff_eq]; omega
        go_wp2
        go_ret2
        exact ⟨⟨_, ret_sb rfl E.out.symm, fun h => by rw [E.out] at h; cases h⟩, B.out⟩
      · have c2' : ((m : Int) % 27 == 0) = false := by rw [beq_eq_false_iff_ne]; omega
        have D2 := hideIt (D0.out.step (by omega) c2)
        have hl14 : ds.length ≤ 14 := Nat.le_trans D0.out.len hdl
        have hcv := run_convert_bytes_arg (P := Tryz.prog) (wr.alloc (.cells #[.int .u8 (97 + (m : Int) % 27 - 1)] 5)) 22 5 Tryz.underlying22 Tryz.underlying5 wr.heap.size 0 1 1 [97 + (m : Int) % 27 - 1] rfl (fun i hi => by
          obtain rfl : i = 0 := by omega
          exact World.cell?_alloc_mark wr #[.int .u8 (97 + (m : Int) % 27 - 1)] 5 (0, 0) 0) 9 Tryz.underlying9
        have eb : strOfNums [97 + (m : Int) % 27 - 1] = ⟨#[UInt8.ofNat (96 + m % 27)]⟩ := by
          unfold strOfNums
          simp only [List.map_cons, List.map_nil]
          rw [show (97 + (m : Int) % 27 - 1).toNat = 96 + m % 27 by omega]
        rw [eb] at hcv
        have had := run_string_add_sum (P := Tryz.prog) (wr.alloc (.cells #[.int .u8 (97 + (m : Int) % 27 - 1)] 5)) ⟨#[UInt8.ofNat (96 + m % 27)]⟩ (bytesOf ds) (by rw [bytesOf_size]; show 1 + _ ≤ _; omega)
        rw [bytesOf_cons] at had
        have B2 : Hid (Below w.heap.size w (wr.alloc (.cells #[.int .u8 (97 + (m : Int) % 27 - 1)] 5))) := B.out.alloc B.out.size _
        clear eb
        generalize hbb : (⟨#[UInt8.ofNat (96 + m % 27)]⟩ : ByteArray) = bb at hcv had
        clear hbb
        go_wp2
        go_roundw
        case rel => exact ⟨(m : Int) / 27, m % 27 :: ds, rfl, rfl, by omega, ⟨fun _ => ⟨m / 27, by omega, D2.out⟩, fun h => absurd hp h⟩, B2.out⟩
        case measure => simp [intOf]; omega
    · have LEN : Hid (ds.length ≤ 14 ∧ nmB (bytesOf ds) = goodN n ∧ (goodN n = true → bytesOf ds = unpS n)) := by
        rcases Decidable.em (0 < n) with hp | hp
        · obtain ⟨m, em, D1⟩ := D.out.1 hp
          obtain rfl : m = 0 := by omega
          have en := hN hp
          have hl := D1.len
          have hd := D1.done
          refine ⟨by omega, ?_, fun h => ?_⟩
          · by_cases c6 : ds.length ≤ 6
            · have h1 : 1 ≤ ds.length := by rw [← hd]; exact digs_ne (by omega)
              rw [nmB_bytesOf D1.ok h1 c6, en]
              exact (decide_eq_true ⟨by omega, by rw [Int.toNat_natCast, hd]; exact fun d x => (D1.ok d x).1, by rw [Int.toNat_natCast, hd]; exact c6⟩).symm
            · rw [nmB_long (by rw [bytesOf_size]; omega), en]
              exact (decide_eq_false (fun x => by have := x.2.2; rw [Int.toNat_natCast, hd] at this; omega)).symm
          · unfold unpS
            rw [if_pos h, en, Int.toNat_natCast, hd]
        · obtain ⟨_, rfl⟩ := D.out.2 hp
          refine ⟨by simp, ?_, fun h => ?_⟩
          · rw [nmB_short (by rw [bytesOf_size]; simp), unp_low hp]
          · rw [unp_low hp] at h; cases h
      have hsz : (bytesOf ds).size ≤ maxLen := by
        have := LEN.out.1
        rw [bytesOf_size]
        unfold maxLen
        omega
      go_wp2_with (go_at_call 61; refine (l03Name_any _ _ hsz).mono ?_; rintro e w' ⟨rfl, rfl⟩)
      go_ret2
      exact ⟨⟨_, ret_sb rfl LEN.out.2.1, LEN.out.2.2⟩, B.out⟩

end Go.Proofs.YtlgghookekokaaaGreatDoor

namespace Go.Proofs.YtlgghookekokaaaGreatDoor
open Go.RowKit

/-- A word, by its place. -/
def wdI (ls : List Int) (z : Int) : Int := ls.getD z.toNat 0
theorem wdI_of {ls : List Int} {n : Nat} (h : n < ls.length) : wdI ls (n : Int) = ls[n] := by
  unfold wdI
  rw [Int.toNat_natCast, List.getD_eq_getElem?_getD, List.getElem?_eq_getElem h]; rfl
/-- An inode's words, an entry's. -/
def inoOf (ls : List Int) (i : Nat) : Ino := ⟨wdI ls (48 + 12 * (i : Int)), wdI ls (48 + 12 * (i : Int) + 1), wdI ls (48 + 12 * (i : Int) + 2), wdI ls (48 + 12 * (i : Int) + 3), wdI ls (48 + 12 * (i : Int) + 4), wdI ls (48 + 12 * (i : Int) + 5), wdI ls (48 + 12 * (i : Int) + 6), wdI ls (48 + 12 * (i : Int) + 7), wdI ls (48 + 12 * (i : Int) + 8), wdI ls (48 + 12 * (i : Int) + 9), wdI ls (48 + 12 * (i : Int) + 10)⟩
def denOf (ls : List Int) (k : Nat) : Den := if wdI ls (240 + 3 * (k : Int) + 2) = 0 then ⟨0, ⟨#[]⟩, -1⟩ else ⟨wdI ls (240 + 3 * (k : Int)), unpS (wdI ls (240 + 3 * (k : Int) + 1)), wdI ls (240 + 3 * (k : Int) + 2) - 1⟩
def denGood (ls : List Int) (k : Nat) : Bool := if wdI ls (240 + 3 * (k : Int) + 2) = 0 then wdI ls (240 + 3 * (k : Int)) == 0 && wdI ls (240 + 3 * (k : Int) + 1) == 0 else goodN (wdI ls (240 + 3 * (k : Int) + 1))
def inosOf (ls : List Int) (n : Nat) : List Ino := (List.range n).map (inoOf ls)
def densOf (ls : List Int) (n : Nat) : List Den := (List.range n).map (denOf ls)
def allGood (ls : List Int) (n : Nat) : Bool := (List.range n).all (denGood ls)
theorem inosOf_succ (ls : List Int) (n : Nat) : inosOf ls (n + 1) = inosOf ls n ++ [inoOf ls n] := by unfold inosOf; rw [List.range_succ, List.map_append]; rfl
theorem densOf_succ (ls : List Int) (n : Nat) : densOf ls (n + 1) = densOf ls n ++ [denOf ls n] := by unfold densOf; rw [List.range_succ, List.map_append]; rfl
theorem inosOf_len (ls : List Int) (n : Nat) : (inosOf ls n).length = n := by simp [inosOf]
theorem densOf_len (ls : List Int) (n : Nat) : (densOf ls n).length = n := by simp [densOf]
theorem allGood_no {ls : List Int} {n k : Nat} (hk : k < n) (h : denGood ls k = false) : allGood ls n = false := by
  unfold allGood
  rw [List.all_eq_false]
  exact ⟨k, List.mem_range.2 hk, by rw [h]; simp⟩
theorem allGood_yes {ls : List Int} {n : Nat} (h : ∀ k, k < n → denGood ls k = true) : allGood ls n = true := by
  unfold allGood
  rw [List.all_eq_true]
  intro k hk
  exact h k (List.mem_range.1 hk)
/-- The words of a right memory, as they are loaded. -/
theorem lay_word {ws : List Int} {ps : List St} (h : pmB ws ps = true) : ∀ k (h : k < (layW ws ps).length), wordB (layW ws ps)[k] = true := by
  have h1 := pmB_word h
  have h2 : ∀ p ∈ ps, wordB p.val = true := fun p hp => by
    obtain ⟨i, hi, rfl⟩ := List.getElem_of_mem hp
    exact (pmB_store h i hi).2
  clear h
  have gen : ∀ (ps : List St) (ws : List Int), (∀ x ∈ ws, wordB x = true) → (∀ p ∈ ps, wordB p.val = true) → ∀ x ∈ layW ws ps, wordB x = true := by
    intro ps
    induction ps with
    | nil => intro ws h _ x hx; exact h x hx
    | cons p ps ih =>
      intro ws h1 h2 x hx
      refine ih (ws.set p.at_.toNat p.val) (fun y hy => ?_) (fun q hq => h2 q (List.mem_cons_of_mem _ hq)) x hx
      rcases List.mem_or_eq_of_mem_set hy with hy | hy
      · exact h1 y hy
      · rw [hy]; exact h2 p (List.mem_cons_self ..)
  intro k hk
  exact gen ps ws (fun x hx => by obtain ⟨i, hi, rfl⟩ := List.getElem_of_mem hx; exact h1 i hi) h2 _ (List.getElem_mem hk)
theorem wdI_range {ws : List Int} {ps : List St} (h : pmB ws ps = true) (z : Int) : 0 ≤ wdI (layW ws ps) z ∧ wdI (layW ws ps) z < 1099511627776 := by
  unfold wdI
  rw [List.getD_eq_getElem?_getD]
  by_cases c : z.toNat < (layW ws ps).length
  · rw [List.getElem?_eq_getElem c]
    have := lay_word h _ c
    unfold wordB at this
    simp at this
    simpa using this
  · rw [List.getElem?_eq_none (by omega)]
    exact ⟨by simp, by simp⟩
theorem inoOf_R {ws : List Int} {ps : List St} (h : pmB ws ps = true) (i : Nat) : (inoOf (layW ws ps) i).R := by
  intro z hz
  have all : ∀ y, -9223372036854775808 ≤ wdI (layW ws ps) y ∧ wdI (layW ws ps) y ≤ 9223372036854775807 := fun y => by have := wdI_range h y; omega
  simp only [Ino.map, inoOf, List.mem_cons, List.not_mem_nil, or_false] at hz
  rcases hz with rfl | rfl | rfl | rfl | rfl | rfl | rfl | rfl <;> exact all _
theorem unpS_len (n : Int) : (unpS n).size ≤ 6 := by
  unfold unpS
  split
  · rename_i h
    have := (of_decide_eq_true h).2.2
    show ((digs n.toNat).map fun d => UInt8.ofNat (96 + d)).toArray.size ≤ 6
    simpa using this
  · exact Nat.zero_le _
theorem denOf_name (ls : List Int) (k : Nat) : (denOf ls k).name.size ≤ maxLen := by
  unfold denOf
  split
  · exact Nat.zero_le _
  · have := unpS_len (wdI ls (240 + 3 * (k : Int) + 1))
    show (unpS _).size ≤ maxLen
    unfold maxLen
    omega

theorem ld_any (v : Value) (ws : List Int) (ps : List St) (z : Int) (w : World) (h : RdPm w v ws ps) (hp : pmB ws ps = true) (h0 : 0 ≤ z ∧ z < 336) :
    Calls Tryz.prog 141 #[v, .int .i64 z] w fun e w' => e = .returned (.int .i64 (wdI (layW ws ps) z)) ∧ Below w.heap.size w w' := by
  obtain ⟨n, rfl⟩ : ∃ n : Nat, z = (n : Int) := ⟨z.toNat, by omega⟩
  obtain ⟨l1, l2⟩ := pmB_len hp
  have hn : n < ws.length := by omega
  rw [wdI_of (by rw [layW_len]; exact hn), layW_at ps ws n hn (fun p hq => by obtain ⟨i, hi, rfl⟩ := List.getElem_of_mem hq; exact (pmB_at hp i hi).1)]
  exact l01Load_any v ws ps n w h (by omega) (by omega) hn
end Go.Proofs.YtlgghookekokaaaGreatDoor

namespace Go.Proofs.YtlgghookekokaaaGreatDoor
open Go.RowKit

/-- The words behind updates. -/
def updL (ls : List Int) (us : List Se) : List Int := us.foldl (fun l u => l.set u.at_.toNat u.val) ls
theorem updL_nil (ls : List Int) : updL ls [] = ls := rfl
theorem updL_cons (ls : List Int) (u : Se) (us : List Se) : updL ls (u :: us) = updL (ls.set u.at_.toNat u.val) us := rfl
theorem updL_app (ls : List Int) (us vs : List Se) : updL ls (us ++ vs) = updL (updL ls us) vs := by unfold updL; rw [List.foldl_append]
theorem updL_len (us : List Se) : ∀ (ls : List Int), (updL ls us).length = ls.length := by
  induction us with
  | nil => intro ls; rfl
  | cons u us ih => intro ls; rw [updL_cons, ih, List.length_set]
theorem wdI_set {ls : List Int} {a z v : Int} (ha : 0 ≤ a) (hl : a < (ls.length : Int)) (hz : 0 ≤ z) : wdI (ls.set a.toNat v) z = if z = a then v else wdI ls z := by
  unfold wdI
  rw [List.getD_eq_getElem?_getD, List.getD_eq_getElem?_getD, List.getElem?_set]
  by_cases e : z = a
  · rw [if_pos e, e, if_pos rfl, if_pos (by omega)]; rfl
  · rw [if_neg e, if_neg (by omega)]
theorem upd_out {z : Int} (hz : 0 ≤ z) : ∀ (us : List Se) (ls : List Int), (∀ u ∈ us, 0 ≤ u.at_ ∧ u.at_ < (ls.length : Int) ∧ ¬ u.at_ = z) → wdI (updL ls us) z = wdI ls z := by
  intro us
  induction us with
  | nil => intro ls _; rfl
  | cons u us ih =>
    intro ls h
    rw [updL_cons, ih _ (fun v hv => by rw [List.length_set]; exact h v (List.mem_cons_of_mem _ hv))]
    obtain ⟨a, b, c⟩ := h u (List.mem_cons_self ..)
    rw [wdI_set a b hz, if_neg (fun e => c e.symm)]
/-- All words of updates that reach inodes and entries alone. -/
def UpIn (us : List Se) : Prop := ∀ u ∈ us, 48 ≤ u.at_ ∧ u.at_ < 312
theorem UpIn.app {us vs : List Se} (h : UpIn us) (k : UpIn vs) : UpIn (us ++ vs) := fun u hu => by
  rcases List.mem_append.1 hu with q | q
  · exact h u q
  · exact k u q
theorem inos_upd {ls : List Int} {us : List Se} {i : Nat} {x : Ino} (hl : ls.length = 336) (ui : UpIn us) (hi : i < 16) (hx : inoOf (updL ls us) i = x) (ho : ∀ j : Nat, j < 16 → ¬ j = i → ∀ u ∈ us, ¬ (48 + 12 * (j : Int) ≤ u.at_ ∧ u.at_ < 48 + 12 * (j : Int) + 11)) : inosOf (updL ls us) 16 = (inosOf ls 16).set i x := by
  apply List.ext_getElem?
  intro j
  rw [List.getElem?_set]
  unfold inosOf
  rw [List.length_map, List.length_range, List.getElem?_map, List.getElem?_map]
  by_cases hj : j < 16
  · rw [List.getElem?_range hj]
    by_cases e : i = j
    · rw [if_pos e, if_pos (by omega), ← e]
      show some (inoOf (updL ls us) i) = some x
      rw [hx]
    · rw [if_neg e]
      show some (inoOf (updL ls us) j) = some (inoOf ls j)
      have W : ∀ z, 48 + 12 * (j : Int) ≤ z ∧ z < 48 + 12 * (j : Int) + 11 → wdI (updL ls us) z = wdI ls z := fun z hz => upd_out (by omega) us ls (fun u hu => by
        have a := ui u hu
        have b := ho j hj (fun q => e q.symm) u hu
        refine ⟨by omega, by omega, ?_⟩
        intro q
        exact b (by omega))
      unfold inoOf
      rw [W _ (by omega), W _ (by omega), W _ (by omega), W _ (by omega), W _ (by omega), W _ (by omega), W _ (by omega), W _ (by omega), W _ (by omega), W _ (by omega), W _ (by omega)]
  · rw [List.getElem?_eq_none (by simp; omega)]
    by_cases e : i = j
    · omega
    · rw [if_neg e]; rfl
theorem dens_upd {ls : List Int} {us : List Se} {k : Nat} {x : Den} (hl : ls.length = 336) (ui : UpIn us) (hk : k < 24) (hx : denOf (updL ls us) k = x) (ho : ∀ j : Nat, j < 24 → ¬ j = k → ∀ u ∈ us, ¬ (240 + 3 * (j : Int) ≤ u.at_ ∧ u.at_ < 240 + 3 * (j : Int) + 3)) : densOf (updL ls us) 24 = (densOf ls 24).set k x := by
  apply List.ext_getElem?
  intro j
  rw [List.getElem?_set]
  unfold densOf
  rw [List.length_map, List.length_range, List.getElem?_map, List.getElem?_map]
  by_cases hj : j < 24
  · rw [List.getElem?_range hj]
    by_cases e : k = j
    · rw [if_pos e, if_pos (by omega), ← e]
      show some (denOf (updL ls us) k) = some x
      rw [hx]
    · rw [if_neg e]
      show some (denOf (updL ls us) j) = some (denOf ls j)
      have W : ∀ z, 240 + 3 * (j : Int) ≤ z ∧ z < 240 + 3 * (j : Int) + 3 → wdI (updL ls us) z = wdI ls z := fun z hz => upd_out (by omega) us ls (fun u hu => by
        have a := ui u hu
        have b := ho j hj (fun q => e q.symm) u hu
        refine ⟨by omega, by omega, ?_⟩
        intro q
        exact b (by omega))
      unfold denOf
      rw [W _ (by omega), W _ (by omega), W _ (by omega)]
  · rw [List.getElem?_eq_none (by simp; omega)]
    by_cases e : k = j
    · omega
    · rw [if_neg e]; rfl
theorem dens_same {ls : List Int} {us : List Se} (hl : ls.length = 336) (ui : UpIn us) (ho : ∀ u ∈ us, u.at_ < 240) : densOf (updL ls us) 24 = densOf ls 24 := by
  have q := dens_upd (k := 0) (x := denOf (updL ls us) 0) hl ui (by omega) rfl (fun j _ _ u hu => by have := ho u hu; omega)
  rw [q]
  have W : ∀ z, 240 ≤ z → wdI (updL ls us) z = wdI ls z := fun z hz => upd_out (by omega) us ls (fun u hu => by
    have a := ui u hu
    have b := ho u hu
    exact ⟨by omega, by omega, by omega⟩)
  have e : denOf (updL ls us) 0 = denOf ls 0 := by
    unfold denOf
    rw [W _ (by omega), W _ (by omega), W _ (by omega)]
  rw [e]
  rfl
theorem inos_same {ls : List Int} {us : List Se} (hl : ls.length = 336) (ui : UpIn us) (ho : ∀ u ∈ us, 240 ≤ u.at_) : inosOf (updL ls us) 16 = inosOf ls 16 := by
  have q := inos_upd (i := 0) (x := inoOf (updL ls us) 0) hl ui (by omega) rfl (fun j _ _ u hu => by have := ho u hu; omega)
  rw [q]
  have W : ∀ z, 48 ≤ z ∧ z < 240 → wdI (updL ls us) z = wdI ls z := fun z hz => upd_out (by omega) us ls (fun u hu => by
    have a := ui u hu
    have b := ho u hu
    exact ⟨by omega, by omega, by omega⟩)
  have e : inoOf (updL ls us) 0 = inoOf ls 0 := by
    unfold inoOf
    rw [W _ (by omega), W _ (by omega), W _ (by omega), W _ (by omega), W _ (by omega), W _ (by omega), W _ (by omega), W _ (by omega), W _ (by omega), W _ (by omega), W _ (by omega)]
  rw [e]
  rfl
/-- The entries' words are right behind updates. -/
theorem good_upd {ls : List Int} {us : List Se} {k : Nat} (hl : ls.length = 336) (ui : UpIn us) (h : allGood ls 24 = true) (hk : denGood (updL ls us) k = true) (ho : ∀ j : Nat, j < 24 → ¬ j = k → ∀ u ∈ us, ¬ (240 + 3 * (j : Int) ≤ u.at_ ∧ u.at_ < 240 + 3 * (j : Int) + 3)) : allGood (updL ls us) 24 = true := by
  unfold allGood at h
  rw [List.all_eq_true] at h
  refine allGood_yes fun j hj => ?_
  by_cases e : j = k
  · rw [e]; exact hk
  · have g := h j (List.mem_range.2 hj)
    have W : ∀ z, 240 + 3 * (j : Int) ≤ z ∧ z < 240 + 3 * (j : Int) + 3 → wdI (updL ls us) z = wdI ls z := fun z hz => upd_out (by omega) us ls (fun u hu => by
      have a := ui u hu
      have b := ho j hj e u hu
      refine ⟨by omega, by omega, ?_⟩
      intro q
      exact b (by omega))
    unfold denGood at g ⊢
    rw [W _ (by omega), W _ (by omega), W _ (by omega)]
    exact g
theorem good_same {ls : List Int} {us : List Se} (hl : ls.length = 336) (ui : UpIn us) (h : allGood ls 24 = true) (ho : ∀ u ∈ us, u.at_ < 240) : allGood (updL ls us) 24 = true := by
  unfold allGood at h
  rw [List.all_eq_true] at h
  refine allGood_yes fun j hj => ?_
  have g := h j (List.mem_range.2 hj)
  have W : ∀ z, 240 ≤ z → wdI (updL ls us) z = wdI ls z := fun z hz => upd_out (by omega) us ls (fun u hu => by
    have a := ui u hu
    have b := ho u hu
    exact ⟨by omega, by omega, by omega⟩)
  unfold denGood at g ⊢
  rw [W _ (by omega), W _ (by omega), W _ (by omega)]
  exact g
/-- The entry that an entry's updates say. -/
theorem en_words {ls : List Int} {k : Nat} {x : Den} {us : List Se} (hl : ls.length = 336) (hk : k < 24) (ui : UpIn us) (ho : ∀ u ∈ us, ¬ (240 + 3 * (k : Int) ≤ u.at_ ∧ u.at_ < 240 + 3 * (k : Int) + 3)) :
    wdI (updL ls (enL (k : Int) x ++ us)) (240 + 3 * (k : Int)) = x.dir ∧ wdI (updL ls (enL (k : Int) x ++ us)) (240 + 3 * (k : Int) + 1) = ((pk x.name x.name.size : Nat) : Int) ∧ wdI (updL ls (enL (k : Int) x ++ us)) (240 + 3 * (k : Int) + 2) = x.child + 1 := by
  have W : ∀ z, 240 + 3 * (k : Int) ≤ z ∧ z < 240 + 3 * (k : Int) + 3 → wdI (updL ls (enL (k : Int) x ++ us)) z = wdI (updL ls (enL (k : Int) x)) z := fun z hz => by
    rw [updL_app]
    refine upd_out (by omega) us _ (fun u hu => ?_)
    have a := ui u hu
    have b := ho u hu
    rw [updL_len]
    refine ⟨by omega, by omega, ?_⟩
    intro q
    exact b (by omega)
  rw [W _ (by omega), W _ (by omega), W _ (by omega)]
  unfold enL
  simp only [updL_cons, updL_nil]
  have l2 : (240 + 3 * (k : Int) + 2) < (336 : Int) := by omega
  refine ⟨?_, ?_, ?_⟩
  · rw [wdI_set (by omega) (by simp only [List.length_set]; omega) (by omega), if_neg (by omega), wdI_set (by omega) (by simp only [List.length_set]; omega) (by omega), if_neg (by omega), wdI_set (by omega) (by omega) (by omega), if_pos rfl]
  · rw [wdI_set (by omega) (by simp only [List.length_set]; omega) (by omega), if_neg (by omega), wdI_set (by omega) (by simp only [List.length_set]; omega) (by omega), if_pos rfl]
  · rw [wdI_set (by omega) (by simp only [List.length_set]; omega) (by omega), if_pos rfl]
theorem en_read {ls : List Int} {k : Nat} {x : Den} {us : List Se} (hl : ls.length = 336) (hk : k < 24) (ui : UpIn us) (ho : ∀ u ∈ us, ¬ (240 + 3 * (k : Int) ≤ u.at_ ∧ u.at_ < 240 + 3 * (k : Int) + 3)) (hx : x = freeD ∨ (0 ≤ x.child ∧ nmB x.name = true)) :
    denOf (updL ls (enL (k : Int) x ++ us)) k = x ∧ denGood (updL ls (enL (k : Int) x ++ us)) k = true := by
  obtain ⟨a, b, c⟩ := en_words (x := x) hl hk ui ho
  unfold denOf denGood
  rw [a, b, c]
  rcases hx with rfl | ⟨h0, hn⟩
  · exact ⟨rfl, rfl⟩
  · have p := (pack_yes hn).1
    obtain ⟨g, s⟩ := unp_pack hn
    rw [p] at g s
    rw [if_neg (by omega), if_neg (by omega), s]
    refine ⟨?_, g⟩
    obtain ⟨d, n, ch⟩ := x
    show Den.mk d n (ch + 1 - 1) = _
    congr 1
    omega
theorem enL_in {k : Nat} (hk : k < 24) (x : Den) : UpIn (enL (k : Int) x) := fun u hu => by
  simp only [enL, List.mem_cons, List.not_mem_nil, or_false] at hu
  rcases hu with rfl | rfl | rfl
  · exact ⟨by show 48 ≤ 240 + 3 * (k : Int); omega, by show 240 + 3 * (k : Int) < 312; omega⟩
  · exact ⟨by show 48 ≤ 240 + 3 * (k : Int) + 1; omega, by show 240 + 3 * (k : Int) + 1 < 312; omega⟩
  · exact ⟨by show 48 ≤ 240 + 3 * (k : Int) + 2; omega, by show 240 + 3 * (k : Int) + 2 < 312; omega⟩
end Go.Proofs.YtlgghookekokaaaGreatDoor
