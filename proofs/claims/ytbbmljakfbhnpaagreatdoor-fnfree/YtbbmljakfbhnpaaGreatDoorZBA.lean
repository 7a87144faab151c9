/- Several texts laid together: IgE, NmU, RdA. -/
import Derived.Test.YtbbmljakfbhnpaaGreatDoorZAZ
import Derived.Test.YtbbmljakfbhnpaaGreatDoorZAG
import Derived.Test.YtbbmljakfbhnpaaGreatDoorZAM
import Derived.Test.YtbbmljakfbhnpaaGreatDoorZAT
import Derived.Test.YtbbmljakfbhnpaaGreatDoorZAB
namespace Go.Proofs.YtbbmljakfbhnpaaGreatDoor
open Go.RowKit

/-- An inode of a list of pages. -/
def inoM (kind size links : Int) (zs : List Int) : Ino := ⟨kind, size, links, zs.getD 0 0, zs.getD 1 0, zs.getD 2 0, zs.getD 3 0, zs.getD 4 0, zs.getD 5 0, zs.getD 6 0, zs.getD 7 0⟩
theorem zme {kind size links : Int} {zs : List Int} (h : zs.length = 8) : (inoM kind size links zs).map = zs := by
 match zs, h with
 | [a, b, c, d, e, f, g, i], _ => rfl
theorem zuh {ws : List Ino} {ps : List Den} (h : Img ws ps) {i : Nat} {x : Ino} (hi : i < 16) (kx : x.kind = (zam ws i).kind) (lx : x.links = (zam ws i).links) (ox : zdj x = true) (sx : (zai (ws.set i x)).Pairwise fun x y => x ≠ y) :
  Img (ws.set i x) ps := by
 have hi' : i < ws.length := by rw [h.l16]; exact hi
 have KA : ∀ c, 0 ≤ c → zaj (ws.set i x) c = zaj ws c := by
  intro c hc
  rw [zmb hi' _ c hc]
  by_cases e : c = (i : Int)
  ·rw [if_pos e, e, zbe, kx]
  ·rw [if_neg e]
 refine ⟨by rw [List.length_set]; exact h.l16, h.l24, ?_, ?_, ?_, h.once, ?_, ?_, sx⟩
 ·rw [KA 0 (by omega)]; exact h.root
 ·intro j hj
  rw [zcj hi']
  by_cases e : j = i
  ·rw [if_pos e]; exact ox
  ·rw [if_neg e]; exact h.ok j hj
 ·intro k hk
  rcases h.ent k hk with q | q
  ·exact .inl q
  ·obtain ⟨q1, q2, q3, q4, q5⟩ := q
   exact .inr ⟨q1, q2, q3, by rw [KA _ (by omega)]; exact q4, by rw [KA _ q2.1]; exact q5⟩
 ·intro j hj
  rw [zcj hi']
  by_cases e : j = i
  ·rw [if_pos e, lx, ← e]; exact h.links j hj
  ·rw [if_neg e]; exact h.links j hj
 ·intro j hj kj
  rw [zcj hi'] at kj
  by_cases e : j = i
  ·rw [if_pos e, kx, ← e] at kj; exact h.hang j hj kj
  ·rw [if_neg e] at kj; exact h.hang j hj kj
theorem somes_set {l : List Int} {p : Nat} {e : Int} (hp : p < l.length) (he : ¬ e = 0) : zda (l.set p e) = zda (l.take p) ++ [e] ++ zda (l.drop (p + 1)) := by
 unfold zda
 rw [List.set_eq_take_append_cons_drop, if_pos hp, List.filter_append, List.filter_cons, if_pos (by simpa using he), List.append_assoc]
 rfl
theorem zwy {l : List Int} {p : Nat} (hp : p < l.length) : (zda (l.take p) ++ zda (l.drop (p + 1))).Sublist (zda l) := by
 unfold zda
 rw [← List.filter_append]
 apply List.Sublist.filter
 have : l = l.take p ++ (l[p] :: l.drop (p + 1)) := by rw [← List.drop_eq_getElem_cons hp, List.take_append_drop]
 conv => rhs; rw [this]
 exact List.Sublist.append (List.Sublist.refl _) (List.sublist_cons_self _ _)
/-- A page that is nowhere yet is put somewhere. -/
theorem sing_put {ws : List Ino} {i p : Nat} {e : Int} {x : Ino} (hi : i < ws.length) (hp : p < 8) (he : ¬ e = 0) (s : (zai ws).Pairwise fun x y => x ≠ y) (new : ¬ e ∈ zai ws) (hx : x.map = (zam ws i).map.set p e) : (zai (ws.set i x)).Pairwise fun x y => x ≠ y := by
 have hl : p < (zam ws i).map.length := hp
 rw [zkb hi, hx, somes_set hl he]
 rw [zkr hi] at s new
 have sub : (zai (ws.take i) ++ (zda ((zam ws i).map.take p) ++ zda ((zam ws i).map.drop (p + 1))) ++ zai (ws.drop (i + 1))).Sublist (zai (ws.take i) ++ zda (zam ws i).map ++ zai (ws.drop (i + 1))) :=
  List.Sublist.append (List.Sublist.append (List.Sublist.refl _) (zwy hl)) (List.Sublist.refl _)
 have s2 := s.sublist sub
 have new2 : ¬ e ∈ zai (ws.take i) ++ (zda ((zam ws i).map.take p) ++ zda ((zam ws i).map.drop (p + 1))) ++ zai (ws.drop (i + 1)) := fun q => new (sub.subset q)
 generalize zai (ws.take i) = A at *
 generalize zda ((zam ws i).map.take p) = P at *
 generalize zda ((zam ws i).map.drop (p + 1)) = Q at *
 generalize zai (ws.drop (i + 1)) = B at *
 have e1 : A ++ (P ++ [e] ++ Q) ++ B = (A ++ P) ++ e :: (Q ++ B) := by simp
 have e2 : A ++ (P ++ Q) ++ B = (A ++ P) ++ (Q ++ B) := by simp
 rw [e2] at s2 new2
 rw [e1]
 rw [List.pairwise_append] at s2 ⊢
 refine ⟨s2.1, ?_, ?_⟩
 ·rw [List.pairwise_cons]
  exact ⟨fun y hy q => new2 (by rw [List.mem_append]; right; rw [q]; exact hy), s2.2.1⟩
 ·intro a ha b hb
  rw [List.mem_cons] at hb
  rcases hb with rfl | hb
  ·intro q
   exact new2 (by rw [List.mem_append]; left; rw [← q]; exact ha)
  ·exact s2.2.2 a ha b hb
theorem map_len (x : Ino) : x.map.length = 8 := rfl
theorem put_ok {x : Ino} {p : Nat} {e sz : Int} (h : zdj x = true) (k : x.kind = 1) (hp : p < 8) (te : zej e = true) (sx : x.size ≤ sz) (s8 : sz ≤ 8) (ps : (p : Int) < sz) : zdj (inoM x.kind sz x.links (x.map.set p e)) = true := by
 obtain ⟨a, b, c, d, f⟩ := zci h
 refine ino_mk a ⟨by show 0 ≤ sz; omega, s8⟩ c ?_ ?_
 ·rw [zme (by rw [List.length_set]; rfl)]
  apply zqe
  intro j hj
  have q := zig d j hj
  show zpt j ((x.map.set p e).getD j 0) sz = true
  rw [List.getD_eq_getElem?_getD, List.getElem?_set]
  by_cases e1 : p = j
  ·subst e1
   rw [if_pos rfl, if_pos (by rw [map_len]; exact hp)]
   show zpt p e sz = true
   unfold zpt
   rw [te, decide_eq_true ps]
   simp
  ·rw [if_neg e1]
   unfold zpt at q ⊢
   rw [List.getD_eq_getElem?_getD] at q
   rw [Bool.and_eq_true, Bool.or_eq_true] at q ⊢
   refine ⟨q.1, ?_⟩
   rcases q.2 with r | r
   ·exact .inl r
   ·right
    have : (j : Int) < x.size := by simpa using r
    simp only [decide_eq_true_eq]
    omega
 ·unfold zek at f ⊢
  rw [if_neg (by omega), if_neg (by omega)] at f
  rw [if_neg (by show ¬ x.kind = 0; omega), if_neg (by show ¬ x.kind = 2; omega)]
  exact f
theorem img_write {ws : List Ino} {ps : List Den} (h : Img ws ps) {i p : Nat} {e sz : Int} (hi : i < 16) (k : (zam ws i).kind = 1) (hp : p < 8) (te : zej e = true) (he : ¬ e = 0) (new : ¬ e ∈ zai ws) (hsz : sz = if (p : Int) < (zam ws i).size then (zam ws i).size else (p : Int) + 1) :
  Img (ws.set i (inoM (zam ws i).kind sz (zam ws i).links ((zam ws i).map.set p e))) ps := by
 have o := zci (h.ok i hi)
 refine zuh h hi rfl rfl (put_ok (h.ok i hi) k hp te ?_ ?_ ?_) (sing_put (by rw [h.l16]; exact hi) hp he h.sing new (zme (by rw [List.length_set]; rfl)))
 ·rw [hsz]; split <;> omega
 ·rw [hsz]; split <;> omega
 ·rw [hsz]; split <;> omega
/-- A page of a file that is zai lies ahead of its end. -/
theorem page_size {x : Ino} (h : zdj x = true) {p : Nat} (hp : p < 8) (e : ¬ x.map.getD p 0 = 0) : (p : Int) < x.size ∧ x.kind = 1 := by
 obtain ⟨a, b, c, d, f⟩ := zci h
 have q := zig d p hp
 unfold zpt at q
 rw [Bool.and_eq_true, Bool.or_eq_true, beq_iff_eq, decide_eq_true_eq] at q
 have s : (p : Int) < x.size := by
  rcases q.2 with r | r
  ·exact absurd r e
  ·exact r
 refine ⟨s, ?_⟩
 unfold zek at f
 by_cases k0 : x.kind = 0
 ·rw [if_pos k0] at f
  have := (of_decide_eq_true f).1
  omega
 ·by_cases k2 : x.kind = 2
  ·rw [if_neg k0, if_pos k2] at f
   rw [Bool.and_eq_true, beq_iff_eq] at f
   omega
  ·omega
/-- The first pages alone. -/
def cutM (zs : List Int) (n : Nat) : List Int := (List.range 8).map fun j => if j < n then zs.getD j 0 else 0
theorem cutM_len (zs : List Int) (n : Nat) : (cutM zs n).length = 8 := by simp [cutM]
theorem cutM_at (zs : List Int) (n j : Nat) (hj : j < 8) : (cutM zs n).getD j 0 = if j < n then zs.getD j 0 else 0 := by
 unfold cutM
 rw [List.getD_eq_getElem?_getD, List.getElem?_map, List.getElem?_range hj]
 rfl
theorem cut_ok {x : Ino} {n : Nat} (h : zdj x = true) (k : x.kind = 1) (hn : n ≤ 8) : zdj (inoM x.kind (n : Int) x.links (cutM x.map n)) = true := by
 obtain ⟨a, b, c, d, f⟩ := zci h
 refine ino_mk a ⟨by show 0 ≤ (n : Int); omega, by show (n : Int) ≤ 8; omega⟩ c ?_ ?_
 ·rw [zme (cutM_len _ _)]
  apply zqe
  intro j hj
  have q := zig d j hj
  show zpt j ((cutM x.map n).getD j 0) (n : Int) = true
  rw [cutM_at _ _ _ hj]
  unfold zpt at q ⊢
  by_cases e1 : j < n
  ·rw [if_pos e1]
   rw [Bool.and_eq_true] at q ⊢
   refine ⟨q.1, ?_⟩
   rw [decide_eq_true (show (j : Int) < (n : Int) by omega)]
   simp
  ·rw [if_neg e1]
   rfl
 ·unfold zek at f ⊢
  rw [if_neg (by omega), if_neg (by omega)] at f
  rw [if_neg (by show ¬ x.kind = 0; omega), if_neg (by show ¬ x.kind = 2; omega)]
  exact f
theorem cut_maps (x : Ino) (n : Nat) : (zda (cutM x.map n)).Sublist (zda x.map) := by
 have e : x.map = (List.range 8).map fun j => x.map.getD j 0 := rfl
 have gen : ∀ (l : List Nat), (zda (l.map fun j => if j < n then x.map.getD j 0 else 0)).Sublist (zda (l.map fun j => x.map.getD j 0)) := by
  intro l
  unfold zda
  induction l with
  | nil => exact List.Sublist.refl _
  | cons a l ih =>
   rw [List.map_cons, List.map_cons]
   by_cases q : a < n
   ·rw [if_pos q, List.filter_cons, List.filter_cons]
    split
    ·exact ih.cons_cons _
    ·exact ih
   ·rw [if_neg q, List.filter_cons, if_neg (by decide), List.filter_cons]
    split
    ·exact ih.cons _
    ·exact ih
 have := gen (List.range 8)
 rw [← e] at this
 exact this
theorem img_cut {ws : List Ino} {ps : List Den} (h : Img ws ps) {i n : Nat} (hi : i < 16) (k : (zam ws i).kind = 1) (hn : n ≤ 8) :
  Img (ws.set i (inoM (zam ws i).kind (n : Int) (zam ws i).links (cutM (zam ws i).map n))) ps := by
 refine zuh h hi rfl rfl (cut_ok (h.ok i hi) k hn) (zlv (by rw [h.l16]; exact hi) h.sing ?_)
 rw [zme (cutM_len _ _)]
 exact cut_maps _ _
end Go.Proofs.YtbbmljakfbhnpaaGreatDoor

namespace Go.Proofs.YtbbmljakfbhnpaaGreatDoor
open Go.RowKit

/-- What the array holds when ds are read. -/
def arrD (ds : List Nat) (j : Nat) : Value := if j < 6 - ds.length then .int .u8 0 else .int .u8 (96 + ((ds[j - (6 - ds.length)]?.getD 0 : Nat) : Int))
theorem arrD_nil (j : Nat) (h : j < 6) : arrD [] j = .int .u8 0 := by unfold arrD; rw [if_pos (by simpa using h)]
theorem arrD_cons (d : Nat) (ds : List Nat) (h : ds.length < 6) (j : Nat) : (if j = 6 - ds.length - 1 then Value.int .u8 (96 + (d : Int)) else arrD ds j) = arrD (d :: ds) j := by
 unfold arrD
 by_cases e : j = 6 - ds.length - 1
 ·subst e
  rw [if_pos rfl, if_neg (by simp only [List.length_cons]; omega)]
  simp only [List.length_cons]
  rw [show 6 - ds.length - 1 - (6 - (ds.length + 1)) = 0 by omega]
  rfl
 ·rw [if_neg e]
  simp only [List.length_cons]
  by_cases e2 : j < 6 - ds.length
  ·rw [if_pos e2, if_pos (by omega)]
  ·rw [if_neg e2, if_neg (by omega), show j - (6 - (ds.length + 1)) = (j - (6 - ds.length)) + 1 by omega]
   rfl
theorem strOf_digs (ds : List Nat) : strOfNums (ds.map fun d => (96 : Int) + (d : Nat)) = zcf ds := by
 unfold strOfNums zcf
 rw [List.map_map]
 congr 2

theorem slice6 (w : World) (b l : Nat) (h1 : 1 ≤ l) (h6 : l ≤ 6) : (Instr.sliceAt 166 (.pointer (some ⟨b, 0, none⟩)) (some (.int .i64 (6 - (l : Int)))) none none).run Tryz.prog w = .ok (.slice (some ⟨b, 6 - l, none⟩) l l) w := by
 have al : Tryz.prog.arrayLen 166 = 6 := by kernel_rfl
 rw [run_sliceAt_array_l w 166 ⟨b, 0, none⟩ (by kernel_rfl) .i64 (6 - (l : Int)) (by omega) (by rw [al]; omega), al]
 have sz : (sizeOf (Tryz.prog.elem 166)).run Tryz.prog w = .ok 1 w := by kernel_rfl
 rw [sz]
 simp only [Result.andThen, slicedAt]
 rw [if_neg (by omega), show (6 - (l : Int)).toNat = 6 - l by omega, show 6 - (6 - l) = l by omega, Nat.mul_one]
 simp [Addr.add]
 omega

set_option maxRecDepth 100000 in
set_option maxHeartbeats 4000000 in
theorem zjq (n : Int) (w : World) (hn : n ≤ 9223372036854775807) : Calls Tryz.prog 90 #[.int .i64 n] w fun e w' => e = .returned (.tuple #[.string (zsc n), .int .i64 (unpC n)]) ∧ Below w.heap.size w w' := by
 by_cases c0 : n < 1
 ·have E := zaa (unp_bad (unp_low (n := n) (by omega)))
  go_enter Tryz.func90, Tryz.ntmps90
  go_wp2
  go_ret2
  exact ⟨ret_si E.out.1.symm E.out.2.symm, Below.refl _ _⟩
 obtain ⟨N, rfl⟩ := Int.eq_ofNat_of_zero_le (show 0 ≤ n by omega)
 have START : Hid ((w.alloc (.cells #[.int .u8 0, .int .u8 0, .int .u8 0, .int .u8 0, .int .u8 0, .int .u8 0] 166)).rowIs w.heap.size 166 6 (arrD [])) := by
  refine World.rowIs_alloc w #[.int .u8 0, .int .u8 0, .int .u8 0, .int .u8 0, .int .u8 0, .int .u8 0] 166 (arrD []) (fun i hi => ?_)
  have hi' : i < 6 := hi
  rw [arrD_nil i hi']
  rcases (show i = 0 ∨ i = 1 ∨ i = 2 ∨ i = 3 ∨ i = 4 ∨ i = 5 by omega) with rfl | rfl | rfl | rfl | rfl | rfl <;> rfl
 have BH : Hid (Below w.heap.size w (w.alloc (.cells #[.int .u8 0, .int .u8 0, .int .u8 0, .int .u8 0, .int .u8 0, .int .u8 0] 166))) := (Below.refl _ _).alloc (Nat.le_refl _) _
 go_enter Tryz.func90, Tryz.ntmps90
 go_wp2
 go_loopw [0, 5, 6] (fun x f _ wr => ∃ (m : Nat) (ds : List Nat), x = .int .i64 (m : Int) ∧ f = .int .i64 (6 - (ds.length : Int)) ∧ m ≤ N ∧ ds.length ≤ 6 ∧ Hid (Dg N m ds) ∧ Hid (wr.rowIs w.heap.size 166 6 (arrD ds)) ∧ Hid (Below w.heap.size w wr)) (fun x _ _ _ => (intOf x).toNat)
 case atStart => exact ⟨N, [], rfl, rfl, Nat.le_refl _, by simp, Dg.start N, START.out, BH.out⟩
 case round =>
  obtain ⟨m, ds, rfl, rfl, hm, hl, D, R, B⟩ := hrel
  by_cases c1 : 0 < m
  ·have m0 : (0 : Int) < (m : Int) := by omega
   by_cases c2 : m % 27 = 0
   ·have E := zaa (unp_bad (unp_zero D.out c1 c2))
    have c2' : ((m : Int) % 27 == 0) = true := by rw [beq_iff_eq]; omega
    go_wp2
    go_ret2
    exact ⟨ret_si E.out.1.symm E.out.2.symm, B.out⟩
   ·have c2' : ((m : Int) % 27 == 0) = false := by rw [beq_eq_false_iff_ne]; omega
    by_cases c3 : 6 ≤ ds.length
    ·have E := zaa (unp_bad (unp_many D.out c1 c3))
     have c3' : ((6 : Int) - (ds.length : Int) == 0) = true := by rw [beq_iff_eq]; omega
     go_wp2
     go_ret2
     exact ⟨ret_si E.out.1.symm E.out.2.symm, B.out⟩
    ·have c3' : ((6 : Int) - (ds.length : Int) == 0) = false := by rw [beq_eq_false_iff_ne]; omega
     have D2 := zaa (D.out.step c1 c2)
     have g0 := R.out.frozen (6 - ds.length - 1)
     have g1 := R.out.cell (show 6 - ds.length - 1 < 6 by omega)
     generalize hv : arrD ds (6 - ds.length - 1) = v0 at g1
     have ev : (97 + (m : Int) % 27 - 1) = 96 + ((m % 27 : Nat) : Int) := by omega
     have R2 : Hid ((wr.setCell ⟨w.heap.size, 6 - ds.length - 1, none⟩ (.int .u8 (97 + (m : Int) % 27 - 1))).rowIs w.heap.size 166 6 (arrD (m % 27 :: ds))) := by
      rw [ev]
      exact (R.out.set (6 - ds.length - 1) (.int .u8 (96 + ((m % 27 : Nat) : Int)))).congr (fun j _ => arrD_cons (m % 27) ds (by omega) j)
     have B2 : Hid (Below w.heap.size w (wr.setCell ⟨w.heap.size, 6 - ds.length - 1, none⟩ (.int .u8 (97 + (m : Int) % 27 - 1)))) := B.out.setCell (by simp only; omega) _
     clear ev
     clear hv
     go_wp2
     go_roundw
     case rel => exact ⟨m / 27, m % 27 :: ds, by go_num, by go_num, by omega, by simp; omega, D2.out, R2.out, B2.out⟩
     case measure => simp [intOf]; omega
  ·obtain rfl : m = 0 := by omega
   have E := zaa (unp_done D.out (by omega) hl)
   have hconv := fun cap => run_convert_bytes_arg (P := Tryz.prog) wr 22 5 Tryz.underlying22 Tryz.underlying5 w.heap.size (6 - ds.length) ds.length cap (ds.map fun d => (96 : Int) + (d : Nat)) (by simp) (fun i hi => by
    rw [R.out.cell (show 6 - ds.length + i < 6 by omega)]
    unfold arrD
    rw [if_neg (by omega), show 6 - ds.length + i - (6 - ds.length) = i by omega]
    simp [List.getD, hi]) 9 Tryz.underlying9
   rw [strOf_digs] at hconv
   have l1 : 1 ≤ ds.length := by
    have := digs_ne (n := N) (by omega)
    rw [D.out.done] at this
    exact this
   have hsl := slice6 wr w.heap.size ds.length l1 hl
   have hcv := hconv ds.length
   clear hconv
   go_wp2
   go_ret2
   exact ⟨ret_si E.out.1.symm E.out.2.symm, B.out⟩

set_option maxRecDepth 100000 in
set_option maxHeartbeats 4000000 in
theorem zql (n : Int) (w : World) (hn : n ≤ 9223372036854775807) : Calls Tryz.prog 110 #[.int .i64 n] w fun e w' => (∃ s, e = .returned (.tuple #[.string s, .bool (zfm n)]) ∧ (zfm n = true → s = zsc n)) ∧ Below w.heap.size w w' := by
 obtain ⟨N, hN, hN2, hN3⟩ : ∃ N : Nat, (0 < n → n = (N : Int)) ∧ (¬ 0 < n → N = 0) ∧ N ≤ 9223372036854775807 := ⟨n.toNat, fun h => by omega, fun h => by omega, by omega⟩
 have hdl : (zos N).length ≤ 14 := digs_len 14 N (by omega)
 go_enter Tryz.func110, Tryz.ntmps110
 go_wp2
 go_loopw [0, 4, 5] (fun x o _ wr => ∃ (y : Int) (ds : List Nat), x = .int .i64 y ∧ o = .string (zcf ds) ∧ y ≤ 9223372036854775807 ∧ Hid ((0 < n → ∃ m : Nat, y = (m : Int) ∧ Dg N m ds) ∧ (¬ 0 < n → ¬ 0 < y ∧ ds = [])) ∧ Hid (Below w.heap.size w wr)) (fun x _ _ _ => (intOf x).toNat)
 case atStart => exact ⟨n, [], rfl, rfl, hn, ⟨fun h => ⟨N, hN h, Dg.start N⟩, fun h => ⟨h, rfl⟩⟩, Below.refl _ _⟩
 case round =>
  obtain ⟨y, ds, rfl, rfl, hy, D, B⟩ := hrel
  by_cases c1 : 0 < y
  ·have hp : 0 < n := by
    rcases Decidable.em (0 < n) with h | h
    ·exact h
    ·exact absurd c1 (D.out.2 h).1
   obtain ⟨m, rfl, D1⟩ := D.out.1 hp
   have D0 := zaa D1
   clear D D1
   by_cases c2 : m % 27 = 0
   ·have E : Hid (zfm n = false) := by
     rw [hN hp]
     exact unp_zero D0.out (by omega) c2
    have c2' : ((m : Int) % 27 == 0) = true := by rw [beq_iff_eq]; omega
    go_wp2
    go_ret2
    exact ⟨⟨_, ret_sb rfl E.out.symm, fun h => by rw [E.out] at h; cases h⟩, B.out⟩
   ·have c2' : ((m : Int) % 27 == 0) = false := by rw [beq_eq_false_iff_ne]; omega
    have D2 := zaa (D0.out.step (by omega) c2)
    have hl14 : ds.length ≤ 14 := Nat.le_trans D0.out.len hdl
    have hcv := run_convert_bytes_arg (P := Tryz.prog) (wr.alloc (.cells #[.int .u8 (97 + (m : Int) % 27 - 1)] 5)) 22 5 Tryz.underlying22 Tryz.underlying5 wr.heap.size 0 1 1 [97 + (m : Int) % 27 - 1] rfl (fun i hi => by
     obtain rfl : i = 0 := by omega
     exact World.cell?_alloc_mark wr #[.int .u8 (97 + (m : Int) % 27 - 1)] 5 (0, 0) 0) 9 Tryz.underlying9
    have eb : strOfNums [97 + (m : Int) % 27 - 1] = ⟨#[UInt8.ofNat (96 + m % 27)]⟩ := by
     unfold strOfNums
     simp only [List.map_cons, List.map_nil]
     rw [show (97 + (m : Int) % 27 - 1).toNat = 96 + m % 27 by omega]
    rw [eb] at hcv
    have had := run_string_add_sum (P := Tryz.prog) (wr.alloc (.cells #[.int .u8 (97 + (m : Int) % 27 - 1)] 5)) ⟨#[UInt8.ofNat (96 + m % 27)]⟩ (zcf ds) (by rw [zcc]; show 1 + _ ≤ _; omega)
    rw [zte] at had
    have B2 : Hid (Below w.heap.size w (wr.alloc (.cells #[.int .u8 (97 + (m : Int) % 27 - 1)] 5))) := B.out.alloc B.out.size _
    clear eb
    generalize hbb : (⟨#[UInt8.ofNat (96 + m % 27)]⟩ : ByteArray) = bb at hcv had
    clear hbb
    go_wp2
    go_roundw
    case rel => exact ⟨(m : Int) / 27, m % 27 :: ds, rfl, rfl, by omega, ⟨fun _ => ⟨m / 27, by omega, D2.out⟩, fun h => absurd hp h⟩, B2.out⟩
    case measure => simp [intOf]; omega
  ·have LEN : Hid (ds.length ≤ 14 ∧ nmB (zcf ds) = zfm n ∧ (zfm n = true → zcf ds = zsc n)) := by
    rcases Decidable.em (0 < n) with hp | hp
    ·obtain ⟨m, em, D1⟩ := D.out.1 hp
     obtain rfl : m = 0 := by omega
     have en := hN hp
     have hl := D1.len
     have hd := D1.done
     refine ⟨by omega, ?_, fun h => ?_⟩
     ·by_cases c6 : ds.length ≤ 6
      ·have h1 : 1 ≤ ds.length := by rw [← hd]; exact digs_ne (by omega)
       rw [nmB_bytesOf D1.ok h1 c6, en]
       exact (decide_eq_true ⟨by omega, by rw [Int.toNat_natCast, hd]; exact fun d x => (D1.ok d x).1, by rw [Int.toNat_natCast, hd]; exact c6⟩).symm
      ·rw [zsb (by rw [zcc]; omega), en]
       exact (decide_eq_false (fun x => by have := x.2.2; rw [Int.toNat_natCast, hd] at this; omega)).symm
     ·unfold zsc
      rw [if_pos h, en, Int.toNat_natCast, hd]
    ·obtain ⟨_, rfl⟩ := D.out.2 hp
     refine ⟨by simp, ?_, fun h => ?_⟩
     ·rw [zud (by rw [zcc]; simp), unp_low hp]
     ·rw [unp_low hp] at h; cases h
   have hsz : (zcf ds).size ≤ maxLen := by
    have := LEN.out.1
    rw [zcc]
    unfold maxLen
    omega
   go_wp2_with (go_at_call 51; refine (zdz _ _ hsz).mono ?_; rintro e w' ⟨rfl, rfl⟩)
   go_ret2
   exact ⟨⟨_, ret_sb rfl LEN.out.2.1, LEN.out.2.2⟩, B.out⟩

end Go.Proofs.YtbbmljakfbhnpaaGreatDoor

namespace Go.Proofs.YtbbmljakfbhnpaaGreatDoor
open Go.RowKit

/-- A word, by its place. -/
def wdI (ls : List Int) (z : Int) : Int := ls.getD z.toNat 0
theorem wdI_of {ls : List Int} {n : Nat} (h : n < ls.length) : wdI ls (n : Int) = ls[n] := by
 unfold wdI
 rw [Int.toNat_natCast, List.getD_eq_getElem?_getD, List.getElem?_eq_getElem h]; rfl
/-- An inode's words, an entry's. -/
def zdg (ls : List Int) (i : Nat) : Ino := ⟨wdI ls (48 + 12 * (i : Int)), wdI ls (48 + 12 * (i : Int) + 1), wdI ls (48 + 12 * (i : Int) + 2), wdI ls (48 + 12 * (i : Int) + 3), wdI ls (48 + 12 * (i : Int) + 4), wdI ls (48 + 12 * (i : Int) + 5), wdI ls (48 + 12 * (i : Int) + 6), wdI ls (48 + 12 * (i : Int) + 7), wdI ls (48 + 12 * (i : Int) + 8), wdI ls (48 + 12 * (i : Int) + 9), wdI ls (48 + 12 * (i : Int) + 10)⟩
def zez (ls : List Int) (k : Nat) : Den := if wdI ls (240 + 3 * (k : Int) + 2) = 0 then ⟨0, ⟨#[]⟩, -1⟩ else ⟨wdI ls (240 + 3 * (k : Int)), zsc (wdI ls (240 + 3 * (k : Int) + 1)), wdI ls (240 + 3 * (k : Int) + 2) - 1⟩
def zbr (ls : List Int) (k : Nat) : Bool := if wdI ls (240 + 3 * (k : Int) + 2) = 0 then wdI ls (240 + 3 * (k : Int)) == 0 && wdI ls (240 + 3 * (k : Int) + 1) == 0 else zfm (wdI ls (240 + 3 * (k : Int) + 1))
def zbd (ls : List Int) (n : Nat) : List Ino := (List.range n).map (zdg ls)
def zbg (ls : List Int) (n : Nat) : List Den := (List.range n).map (zez ls)
def zbx (ls : List Int) (n : Nat) : Bool := (List.range n).all (zbr ls)
theorem zoe (ls : List Int) (n : Nat) : zbd ls (n + 1) = zbd ls n ++ [zdg ls n] := by unfold zbd; rw [List.range_succ, List.map_append]; rfl
theorem zim (ls : List Int) (n : Nat) : zbg ls (n + 1) = zbg ls n ++ [zez ls n] := by unfold zbg; rw [List.range_succ, List.map_append]; rfl
theorem zck (ls : List Int) (n : Nat) : (zbd ls n).length = n := by simp [zbd]
theorem zbt (ls : List Int) (n : Nat) : (zbg ls n).length = n := by simp [zbg]
theorem zhg {ls : List Int} {n k : Nat} (hk : k < n) (h : zbr ls k = false) : zbx ls n = false := by
 unfold zbx
 rw [List.all_eq_false]
 exact ⟨k, List.mem_range.2 hk, by rw [h]; simp⟩
theorem zgf {ls : List Int} {n : Nat} (h : ∀ k, k < n → zbr ls k = true) : zbx ls n = true := by
 unfold zbx
 rw [List.all_eq_true]
 intro k hk
 exact h k (List.mem_range.1 hk)
/-- The words say a right image. -/
def riB (ls : List Int) : Bool := wdI ls 0 == 7 && (zbx ls 24 && zcm (zbd ls 16) (zbg ls 24))
def riC (ws : List Int) (ps : List St) : Int := if pmB ws ps = true then (if riB (zcl ws ps) = true then 0 else 3) else 1
def riN (ws : List Int) (ps : List St) : List Ino := if riC ws ps = 0 then zbd (zcl ws ps) 16 else []
def riD (ws : List Int) (ps : List St) : List Den := if riC ws ps = 0 then zbg (zcl ws ps) 24 else []
/-- The words of a right memory, as they are loaded. -/
theorem lay_word {ws : List Int} {ps : List St} (h : pmB ws ps = true) : ∀ k (h : k < (zcl ws ps).length), zbc (zcl ws ps)[k] = true := by
 have h1 := pmB_word h
 have h2 : ∀ p ∈ ps, zbc p.val = true := fun p hp => by
  obtain ⟨i, hi, rfl⟩ := List.getElem_of_mem hp
  exact (zjc h i hi).2
 clear h
 have gen : ∀ (ps : List St) (ws : List Int), (∀ x ∈ ws, zbc x = true) → (∀ p ∈ ps, zbc p.val = true) → ∀ x ∈ zcl ws ps, zbc x = true := by
  intro ps
  induction ps with
  | nil => intro ws h _ x hx; exact h x hx
  | cons p ps ih =>
   intro ws h1 h2 x hx
   refine ih (ws.set p.at_.toNat p.val) (fun y hy => ?_) (fun q hq => h2 q (List.mem_cons_of_mem _ hq)) x hx
   rcases List.mem_or_eq_of_mem_set hy with hy | hy
   ·exact h1 y hy
   ·rw [hy]; exact h2 p (List.mem_cons_self ..)
 intro k hk
 exact gen ps ws (fun x hx => by obtain ⟨i, hi, rfl⟩ := List.getElem_of_mem hx; exact h1 i hi) h2 _ (List.getElem_mem hk)
theorem znk {ws : List Int} {ps : List St} (h : pmB ws ps = true) (z : Int) : 0 ≤ wdI (zcl ws ps) z ∧ wdI (zcl ws ps) z < 1099511627776 := by
 unfold wdI
 rw [List.getD_eq_getElem?_getD]
 by_cases c : z.toNat < (zcl ws ps).length
 ·rw [List.getElem?_eq_getElem c]
  have := lay_word h _ c
  unfold zbc at this
  simp at this
  simpa using this
 ·rw [List.getElem?_eq_none (by omega)]
  exact ⟨by simp, by simp⟩
theorem inoOf_R {ws : List Int} {ps : List St} (h : pmB ws ps = true) (i : Nat) : (zdg (zcl ws ps) i).R := by
 intro z hz
 have all : ∀ y, -9223372036854775808 ≤ wdI (zcl ws ps) y ∧ wdI (zcl ws ps) y ≤ 9223372036854775807 := fun y => by have := znk h y; omega
 simp only [Ino.map, zdg, List.mem_cons, List.not_mem_nil, or_false] at hz
 rcases hz with rfl | rfl | rfl | rfl | rfl | rfl | rfl | rfl <;> exact all _
theorem unpS_len (n : Int) : (zsc n).size ≤ 6 := by
 unfold zsc
 split
 ·rename_i h
  have := (of_decide_eq_true h).2.2
  show ((zos n.toNat).map fun d => UInt8.ofNat (96 + d)).toArray.size ≤ 6
  simpa using this
 ·exact Nat.zero_le _
theorem denOf_name (ls : List Int) (k : Nat) : (zez ls k).name.size ≤ maxLen := by
 unfold zez
 split
 ·exact Nat.zero_le _
 ·have := unpS_len (wdI ls (240 + 3 * (k : Int) + 1))
  show (zsc _).size ≤ maxLen
  unfold maxLen
  omega

theorem ld_any (v : Value) (ws : List Int) (ps : List St) (z : Int) (w : World) (h : RdPm w v ws ps) (hp : pmB ws ps = true) (h0 : 0 ≤ z ∧ z < 336) :
  Calls Tryz.prog 109 #[v, .int .i64 z] w fun e w' => e = .returned (.int .i64 (wdI (zcl ws ps) z)) ∧ Below w.heap.size w w' := by
 obtain ⟨n, rfl⟩ : ∃ n : Nat, z = (n : Int) := ⟨z.toNat, by omega⟩
 obtain ⟨l1, l2⟩ := zgm hp
 have hn : n < ws.length := by omega
 rw [wdI_of (by rw [zce]; exact hn), layW_at ps ws n hn (fun p hq => by obtain ⟨i, hi, rfl⟩ := List.getElem_of_mem hq; exact (pmB_at hp i hi).1)]
 exact zmo v ws ps n w h (by omega) (by omega) hn
end Go.Proofs.YtbbmljakfbhnpaaGreatDoor
