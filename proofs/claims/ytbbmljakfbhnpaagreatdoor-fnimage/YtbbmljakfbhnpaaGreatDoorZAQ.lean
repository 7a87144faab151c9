/- Several texts laid together: IgE, StoreT, Pm, PmOK, Ev, PmOKI, PmLoad, Small. -/
import Derived.Test.YtbbmljakfbhnpaaGreatDoorZAP
import Derived.Test.YtbbmljakfbhnpaaGreatDoorZAD
import Derived.Deep.RegionWith
import Derived.Test.YtbbmljakfbhnpaaGreatDoorZAE
namespace Go.Proofs.YtbbmljakfbhnpaaGreatDoor
open Go.RowKit

/-- An inode of a list of pages. -/
def inoM (kind size links : Int) (zs : List Int) : Ino := ⟨kind, size, links, zs.getD 0 0, zs.getD 1 0, zs.getD 2 0, zs.getD 3 0, zs.getD 4 0, zs.getD 5 0, zs.getD 6 0, zs.getD 7 0⟩
theorem zlx {kind size links : Int} {zs : List Int} (h : zs.length = 8) : (inoM kind size links zs).map = zs := by
 match zs, h with
 | [a, b, c, d, e, f, g, i], _ => rfl
theorem zsw {ws : List Ino} {ps : List Den} (h : Img ws ps) {i : Nat} {x : Ino} (hi : i < 16) (kx : x.kind = (zal ws i).kind) (lx : x.links = (zal ws i).links) (ox : zdm x = true) (sx : (zap (ws.set i x)).Pairwise fun x y => x ≠ y) :
  Img (ws.set i x) ps := by
 have hi' : i < ws.length := by rw [h.l16]; exact hi
 have KA : ∀ c, 0 ≤ c → zak (ws.set i x) c = zak ws c := by
  intro c hc
  rw [zlv hi' _ c hc]
  by_cases e : c = (i : Int)
  ·rw [if_pos e, e, zbd, kx]
  ·rw [if_neg e]
 refine ⟨by rw [List.length_set]; exact h.l16, h.l24, ?_, ?_, ?_, h.once, ?_, ?_, sx⟩
 ·rw [KA 0 (by omega)]; exact h.root
 ·intro j hj
  rw [zci hi']
  by_cases e : j = i
  ·rw [if_pos e]; exact ox
  ·rw [if_neg e]; exact h.ok j hj
 ·intro k hk
  rcases h.ent k hk with q | q
  ·exact .inl q
  ·obtain ⟨q1, q2, q3, q4, q5⟩ := q
   exact .inr ⟨q1, q2, q3, by rw [KA _ (by omega)]; exact q4, by rw [KA _ q2.1]; exact q5⟩
 ·intro j hj
  rw [zci hi']
  by_cases e : j = i
  ·rw [if_pos e, lx, ← e]; exact h.links j hj
  ·rw [if_neg e]; exact h.links j hj
 ·intro j hj kj
  rw [zci hi'] at kj
  by_cases e : j = i
  ·rw [if_pos e, kx, ← e] at kj; exact h.hang j hj kj
  ·rw [if_neg e] at kj; exact h.hang j hj kj
theorem somes_set {l : List Int} {p : Nat} {e : Int} (hp : p < l.length) (he : ¬ e = 0) : zcy (l.set p e) = zcy (l.take p) ++ [e] ++ zcy (l.drop (p + 1)) := by
 unfold zcy
 rw [List.set_eq_take_append_cons_drop, if_pos hp, List.filter_append, List.filter_cons, if_pos (by simpa using he), List.append_assoc]
 rfl
theorem zuy {l : List Int} {p : Nat} (hp : p < l.length) : (zcy (l.take p) ++ zcy (l.drop (p + 1))).Sublist (zcy l) := by
 unfold zcy
 rw [← List.filter_append]
 apply List.Sublist.filter
 have : l = l.take p ++ (l[p] :: l.drop (p + 1)) := by rw [← List.drop_eq_getElem_cons hp, List.take_append_drop]
 conv => rhs; rw [this]
 exact List.Sublist.append (List.Sublist.refl _) (List.sublist_cons_self _ _)
/-- A page that is nowhere yet is put somewhere. -/
theorem sing_put {ws : List Ino} {i p : Nat} {e : Int} {x : Ino} (hi : i < ws.length) (hp : p < 8) (he : ¬ e = 0) (s : (zap ws).Pairwise fun x y => x ≠ y) (new : ¬ e ∈ zap ws) (hx : x.map = (zal ws i).map.set p e) : (zap (ws.set i x)).Pairwise fun x y => x ≠ y := by
 have hl : p < (zal ws i).map.length := hp
 rw [zjt hi, hx, somes_set hl he]
 rw [zki hi] at s new
 have sub : (zap (ws.take i) ++ (zcy ((zal ws i).map.take p) ++ zcy ((zal ws i).map.drop (p + 1))) ++ zap (ws.drop (i + 1))).Sublist (zap (ws.take i) ++ zcy (zal ws i).map ++ zap (ws.drop (i + 1))) :=
  List.Sublist.append (List.Sublist.append (List.Sublist.refl _) (zuy hl)) (List.Sublist.refl _)
 have s2 := s.sublist sub
 have new2 : ¬ e ∈ zap (ws.take i) ++ (zcy ((zal ws i).map.take p) ++ zcy ((zal ws i).map.drop (p + 1))) ++ zap (ws.drop (i + 1)) := fun q => new (sub.subset q)
 generalize zap (ws.take i) = A at *
 generalize zcy ((zal ws i).map.take p) = P at *
 generalize zcy ((zal ws i).map.drop (p + 1)) = Q at *
 generalize zap (ws.drop (i + 1)) = B at *
 have e1 : A ++ (P ++ [e] ++ Q) ++ B = (A ++ P) ++ e :: (Q ++ B) := by simp
 have e2 : A ++ (P ++ Q) ++ B = (A ++ P) ++ (Q ++ B) := by simp
 rw [e2] at s2 new2
 rw [e1]
 rw [List.pairwise_append] at s2 ⊢
 refine ⟨s2.1, ?_, ?_⟩
 ·rw [List.pairwise_cons]
  exact ⟨fun y hy q => new2 (by rw [List.mem_append]; right; rw [q]; exact hy), s2.2.1⟩
 ·intro a ha b hb
  rw [List.mem_cons] at hb
  rcases hb with rfl | hb
  ·intro q
   exact new2 (by rw [List.mem_append]; left; rw [← q]; exact ha)
  ·exact s2.2.2 a ha b hb
theorem map_len (x : Ino) : x.map.length = 8 := rfl
theorem put_ok {x : Ino} {p : Nat} {e sz : Int} (h : zdm x = true) (k : x.kind = 1) (hp : p < 8) (te : zdz e = true) (sx : x.size ≤ sz) (s8 : sz ≤ 8) (ps : (p : Int) < sz) : zdm (inoM x.kind sz x.links (x.map.set p e)) = true := by
 obtain ⟨a, b, c, d, f⟩ := zcj h
 refine ino_mk a ⟨by show 0 ≤ sz; omega, s8⟩ c ?_ ?_
 ·rw [zlx (by rw [List.length_set]; rfl)]
  apply zrc
  intro j hj
  have q := zia d j hj
  show zoy j ((x.map.set p e).getD j 0) sz = true
  rw [List.getD_eq_getElem?_getD, List.getElem?_set]
  by_cases e1 : p = j
  ·subst e1
   rw [if_pos rfl, if_pos (by rw [map_len]; exact hp)]
   show zoy p e sz = true
   unfold zoy
   rw [te, decide_eq_true ps]
   simp
  ·rw [if_neg e1]
   unfold zoy at q ⊢
   rw [List.getD_eq_getElem?_getD] at q
   rw [Bool.and_eq_true, Bool.or_eq_true] at q ⊢
   refine ⟨q.1, ?_⟩
   rcases q.2 with r | r
   ·exact .inl r
   ·right
    have : (j : Int) < x.size := by simpa using r
    simp only [decide_eq_true_eq]
    omega
 ·unfold zej at f ⊢
  rw [if_neg (by omega), if_neg (by omega)] at f
  rw [if_neg (by show ¬ x.kind = 0; omega), if_neg (by show ¬ x.kind = 2; omega)]
  exact f
theorem img_write {ws : List Ino} {ps : List Den} (h : Img ws ps) {i p : Nat} {e sz : Int} (hi : i < 16) (k : (zal ws i).kind = 1) (hp : p < 8) (te : zdz e = true) (he : ¬ e = 0) (new : ¬ e ∈ zap ws) (hsz : sz = if (p : Int) < (zal ws i).size then (zal ws i).size else (p : Int) + 1) :
  Img (ws.set i (inoM (zal ws i).kind sz (zal ws i).links ((zal ws i).map.set p e))) ps := by
 have o := zcj (h.ok i hi)
 refine zsw h hi rfl rfl (put_ok (h.ok i hi) k hp te ?_ ?_ ?_) (sing_put (by rw [h.l16]; exact hi) hp he h.sing new (zlx (by rw [List.length_set]; rfl)))
 ·rw [hsz]; split <;> omega
 ·rw [hsz]; split <;> omega
 ·rw [hsz]; split <;> omega
/-- A page of a file that is zap lies ahead of its end. -/
theorem page_size {x : Ino} (h : zdm x = true) {p : Nat} (hp : p < 8) (e : ¬ x.map.getD p 0 = 0) : (p : Int) < x.size ∧ x.kind = 1 := by
 obtain ⟨a, b, c, d, f⟩ := zcj h
 have q := zia d p hp
 unfold zoy at q
 rw [Bool.and_eq_true, Bool.or_eq_true, beq_iff_eq, decide_eq_true_eq] at q
 have s : (p : Int) < x.size := by
  rcases q.2 with r | r
  ·exact absurd r e
  ·exact r
 refine ⟨s, ?_⟩
 unfold zej at f
 by_cases k0 : x.kind = 0
 ·rw [if_pos k0] at f
  have := (of_decide_eq_true f).1
  omega
 ·by_cases k2 : x.kind = 2
  ·rw [if_neg k0, if_pos k2] at f
   rw [Bool.and_eq_true, beq_iff_eq] at f
   omega
  ·omega
/-- The first pages alone. -/
def cutM (zs : List Int) (n : Nat) : List Int := (List.range 8).map fun j => if j < n then zs.getD j 0 else 0
theorem cutM_len (zs : List Int) (n : Nat) : (cutM zs n).length = 8 := by simp [cutM]
theorem cutM_at (zs : List Int) (n j : Nat) (hj : j < 8) : (cutM zs n).getD j 0 = if j < n then zs.getD j 0 else 0 := by
 unfold cutM
 rw [List.getD_eq_getElem?_getD, List.getElem?_map, List.getElem?_range hj]
 rfl
theorem cut_ok {x : Ino} {n : Nat} (h : zdm x = true) (k : x.kind = 1) (hn : n ≤ 8) : zdm (inoM x.kind (n : Int) x.links (cutM x.map n)) = true := by
 obtain ⟨a, b, c, d, f⟩ := zcj h
 refine ino_mk a ⟨by show 0 ≤ (n : Int); omega, by show (n : Int) ≤ 8; omega⟩ c ?_ ?_
 ·rw [zlx (cutM_len _ _)]
  apply zrc
  intro j hj
  have q := zia d j hj
  show zoy j ((cutM x.map n).getD j 0) (n : Int) = true
  rw [cutM_at _ _ _ hj]
  unfold zoy at q ⊢
  by_cases e1 : j < n
  ·rw [if_pos e1]
   rw [Bool.and_eq_true] at q ⊢
   refine ⟨q.1, ?_⟩
   rw [decide_eq_true (show (j : Int) < (n : Int) by omega)]
   simp
  ·rw [if_neg e1]
   rfl
 ·unfold zej at f ⊢
  rw [if_neg (by omega), if_neg (by omega)] at f
  rw [if_neg (by show ¬ x.kind = 0; omega), if_neg (by show ¬ x.kind = 2; omega)]
  exact f
theorem cut_maps (x : Ino) (n : Nat) : (zcy (cutM x.map n)).Sublist (zcy x.map) := by
 have e : x.map = (List.range 8).map fun j => x.map.getD j 0 := rfl
 have gen : ∀ (l : List Nat), (zcy (l.map fun j => if j < n then x.map.getD j 0 else 0)).Sublist (zcy (l.map fun j => x.map.getD j 0)) := by
  intro l
  unfold zcy
  induction l with
  | nil => exact List.Sublist.refl _
  | cons a l ih =>
   rw [List.map_cons, List.map_cons]
   by_cases q : a < n
   ·rw [if_pos q, List.filter_cons, List.filter_cons]
    split
    ·exact ih.cons_cons _
    ·exact ih
   ·rw [if_neg q, List.filter_cons, if_neg (by decide), List.filter_cons]
    split
    ·exact ih.cons _
    ·exact ih
 have := gen (List.range 8)
 rw [← e] at this
 exact this
theorem img_cut {ws : List Ino} {ps : List Den} (h : Img ws ps) {i n : Nat} (hi : i < 16) (k : (zal ws i).kind = 1) (hn : n ≤ 8) :
  Img (ws.set i (inoM (zal ws i).kind (n : Int) (zal ws i).links (cutM (zal ws i).map n))) ps := by
 refine zsw h hi rfl rfl (cut_ok (h.ok i hi) k hn) (zly (by rw [h.l16]; exact hi) h.sing ?_)
 rw [zlx (cutM_len _ _)]
 exact cut_maps _ _
end Go.Proofs.YtbbmljakfbhnpaaGreatDoor

namespace Go.Proofs.YtbbmljakfbhnpaaGreatDoor
open Go.RowKit

/-- Cells of stores: numbers and bools, in their turn. -/
def IsSts (xs : List Value) (n : Nat) : Prop := ∀ k, k < n → ∃ a b c, xs[k * 3]? = some (.int .i64 a) ∧ xs[k * 3 + 1]? = some (.int .i64 b) ∧ xs[k * 3 + 2]? = some (.bool c)
theorem IsSts.put3 {ys : List Value} {n : Nat} (h : IsSts ys n) (hl : ys.length = n * 3) (k : Nat) (a b : Int) (c : Bool) : IsSts (put3 ys k (.int .i64 a) (.int .i64 b) (.bool c)) n := by
 intro j hj
 rw [zwq (by omega), zwq (by omega), zwq (by omega)]
 by_cases e : j = k
 ·subst e
  exact ⟨a, b, c, by simp, by simp, by simp⟩
 ·obtain ⟨x, y, z, h0, h1, h2⟩ := h j hj
  refine ⟨x, y, z, ?_, ?_, ?_⟩
  ·rw [if_neg (by omega), if_neg (by omega), if_neg (by omega)]; exact h0
  ·rw [if_neg (by omega), if_neg (by omega), if_neg (by omega)]; exact h1
  ·rw [if_neg (by omega), if_neg (by omega), if_neg (by omega)]; exact h2

end Go.Proofs.YtbbmljakfbhnpaaGreatDoor

namespace Go.Proofs.YtbbmljakfbhnpaaGreatDoor
open Go.RowKit

/-- A memory that can be read: its words, and its stores. -/
def RdPm (w : World) (v : Value) (ws : List Int) (ps : List St) : Prop := ∃ vW vP, v = .agg #[vW, vP] ∧ RdI w vW ws ∧ RdS w vP ps
/-- A memory of a call's own. -/
def RowPm (w : World) (lo hi : Nat) (v : Value) (ws : List Int) (ps : List St) : Prop := ∃ vW vP, v = .agg #[vW, vP] ∧ Row w 3 1 lo hi vW ws.length (zco ws) ∧ Row w 136 3 lo hi vP ps.length (sts ps)

theorem RowPm.rd {w : World} {lo hi : Nat} {v : Value} {ws : List Int} {ps : List St} (h : RowPm w lo hi v ws ps) : RdPm w v ws ps := by
 obtain ⟨vW, vP, rfl, h1, h2⟩ := h
 exact ⟨vW, vP, rfl, h1.rd, h2.rd⟩
theorem RdPm.below {w w' : World} {v : Value} {ws : List Int} {ps : List St} (h : RdPm w v ws ps) (hb : Below w.heap.size w w') : RdPm w' v ws ps := by
 obtain ⟨vW, vP, rfl, h1, h2⟩ := h
 exact ⟨vW, vP, rfl, Rd.below h1 hb, Rd.below h2 hb⟩
theorem RowPm.below {w w' : World} {lo hi : Nat} {v : Value} {ws : List Int} {ps : List St} (h : RowPm w lo hi v ws ps) {B : Nat} (hb : Below B w w') (hB : hi ≤ B) : RowPm w' lo hi v ws ps := by
 obtain ⟨vW, vP, rfl, h1, h2⟩ := h
 exact ⟨vW, vP, rfl, h1.below hb hB, h2.below hb hB⟩
theorem RowPm.outside {w w' : World} {lo hi : Nat} {v : Value} {ws : List Int} {ps : List St} (h : RowPm w lo hi v ws ps) {lo' hi' : Nat} (ho : Outside lo' hi' w w') (hd : hi ≤ lo' ∨ hi' ≤ lo) (hz : hi ≤ w.heap.size) : RowPm w' lo hi v ws ps := by
 obtain ⟨vW, vP, rfl, h1, h2⟩ := h
 exact ⟨vW, vP, rfl, h1.outside ho hd hz, h2.outside ho hd hz⟩
theorem RowPm.wide {w : World} {lo hi : Nat} {v : Value} {ws : List Int} {ps : List St} (h : RowPm w lo hi v ws ps) {lo' hi' : Nat} (h1 : lo' ≤ lo) (h2 : hi ≤ hi') : RowPm w lo' hi' v ws ps := by
 obtain ⟨vW, vP, rfl, a, b⟩ := h
 exact ⟨vW, vP, rfl, a.wide h1 h2, b.wide h1 h2⟩

end Go.Proofs.YtbbmljakfbhnpaaGreatDoor

namespace Go.Proofs.YtbbmljakfbhnpaaGreatDoor
open Go.RowKit

/-- A right memory. -/
def pmB (ws : List Int) (ps : List St) : Bool := decide (ws.length = 336 ∧ ps.length ≤ 400 ∧ (∀ k (h : k < ws.length), zbb ws[k] = true) ∧ ∀ k (h : k < ps.length), zer ps[k].at_ = true ∧ zbb ps[k].val = true)
theorem pmB_mk {ws : List Int} {ps : List St} (h1 : ws.length = 336) (h2 : ps.length ≤ 400) (h3 : ∀ k (h : k < ws.length), zbb ws[k] = true) (h4 : ∀ k (h : k < ps.length), zer ps[k].at_ = true ∧ zbb ps[k].val = true) : pmB ws ps = true := decide_eq_true ⟨h1, h2, h3, h4⟩
theorem zgc {ws : List Int} {ps : List St} (h : pmB ws ps = true) : ws.length = 336 ∧ ps.length ≤ 400 := ⟨(of_decide_eq_true h).1, (of_decide_eq_true h).2.1⟩
theorem pmB_word {ws : List Int} {ps : List St} (h : pmB ws ps = true) (k : Nat) (hk : k < ws.length) : zbb ws[k] = true := (of_decide_eq_true h).2.2.1 k hk
theorem zit {ws : List Int} {ps : List St} (h : pmB ws ps = true) (k : Nat) (hk : k < ps.length) : zer ps[k].at_ = true ∧ zbb ps[k].val = true := (of_decide_eq_true h).2.2.2 k hk
theorem pmB_len1 {ws : List Int} {ps : List St} (h : ¬ ws.length = 336) : pmB ws ps = false := decide_eq_false (fun x => h x.1)
theorem pmB_len2 {ws : List Int} {ps : List St} (h : 400 < ps.length) : pmB ws ps = false := decide_eq_false (fun x => absurd x.2.1 (by omega))
theorem pmB_w {ws : List Int} {ps : List St} {k : Nat} (hk : k < ws.length) (h : zbb ws[k] = false) : pmB ws ps = false := decide_eq_false (fun x => by have := x.2.2.1 k hk; rw [h] at this; cases this)
theorem pmB_a {ws : List Int} {ps : List St} {k : Nat} (hk : k < ps.length) (h : zer ps[k].at_ = false) : pmB ws ps = false := decide_eq_false (fun x => by have := (x.2.2.2 k hk).1; rw [h] at this; cases this)
theorem pmB_v {ws : List Int} {ps : List St} {k : Nat} (hk : k < ps.length) (h : zbb ps[k].val = false) : pmB ws ps = false := decide_eq_false (fun x => by have := (x.2.2.2 k hk).2; rw [h] at this; cases this)

end Go.Proofs.YtbbmljakfbhnpaaGreatDoor

namespace Go.Proofs.YtbbmljakfbhnpaaGreatDoor
open Go.RowKit

set_option maxHeartbeats 2000000 in
theorem zfs (v : Value) (zs : List Int) (w : World) (h : RdI w v zs) (hn : zs.length ≤ 2147483648) :
  Calls Tryz.prog 97 #[v, .func (.func 98) #[] #[]] w fun e w' => e = .returned (.bool (zke zs)) ∧ w' = w := by
 obtain ⟨ao, cap, rfl, _, hc⟩ := h.shape
 clear h
 go_enter Tryz.func97, Tryz.ntmps97
 go_wp2
 go_loop [6, 9] (fun _ i => ∃ k : Nat, k ≤ zs.length ∧ i = .int .i64 k ∧ Hid (∀ j (h : j < zs.length), j < k → zbb zs[j] = true)) (fun _ i => zs.length - (intOf i).toNat)
 case atStart => exact ⟨0, by omega, rfl, fun j h a => absurd a (by omega)⟩
 case round =>
  obtain ⟨k, hk, rfl, H⟩ := hrel
  by_cases hlt : k < zs.length
  ·obtain ⟨b, o, rfl, hbl, hcell⟩ := hc (by omega)
   have hck := hcell k hlt
   clear hcell hc
   by_cases q : zbb zs[k] = true
   ·go_wp2_with (go_at_call 98; refine (zjj _ _).mono ?_; rintro e w' ⟨rfl, rfl⟩)
    go_round
    case rel =>
     refine ⟨k + 1, by omega, by go_num, fun j h a => ?_⟩
     by_cases e : j = k
     ·subst e; exact q
     ·exact H.out j h (by omega)
    case measure => simp [intOf]; omega
   ·have q' : zbb zs[k] = false := by simpa using q
    have E := zaa (wordsB_not hlt q')
    go_wp2_with (go_at_call 98; refine (zjj _ _).mono ?_; rintro e w' ⟨rfl, rfl⟩)
    go_ret
    exact ⟨zah E.out.symm, rfl⟩
  ·have E := zaa (zua (fun j h => H.out j h (by omega)))
   clear H
   go_wp2
   go_ret
   exact ⟨zah E.out.symm, rfl⟩

end Go.Proofs.YtbbmljakfbhnpaaGreatDoor

namespace Go.Proofs.YtbbmljakfbhnpaaGreatDoor
open Go.RowKit

/-- A store that is right. -/
def stB (s : St) : Bool := zer s.at_ && zbb s.val
theorem stB_true {s : St} (h : stB s = true) : zer s.at_ = true ∧ zbb s.val = true := by unfold stB at h; simpa using h
theorem stB_false {s : St} {p : Prop} (h : stB s = false) (h1 : zer s.at_ = false → p) (h2 : zbb s.val = false → p) : p := by
 unfold stB at h
 rw [Bool.and_eq_false_iff] at h
 exact h.elim h1 h2
/-- All stores are right. -/
def stsB (ps : List St) : Bool := decide (∀ k (h : k < ps.length), stB ps[k] = true)
theorem stsB_true {ps : List St} (h : stsB ps = true) : ∀ k (h : k < ps.length), stB ps[k] = true := of_decide_eq_true h
theorem stsB_mk {ps : List St} (h : ∀ k (h : k < ps.length), stB ps[k] = true) : stsB ps = true := decide_eq_true h
theorem stsB_not {ps : List St} {k : Nat} (hk : k < ps.length) (h : stB ps[k] = false) : stsB ps = false := decide_eq_false (fun x => by have := x k hk; rw [h] at this; cases this)
theorem stsB_ex {ps : List St} (h : stsB ps = false) : ∃ k, ∃ h : k < ps.length, stB ps[k] = false := by
 apply Classical.byContradiction
 intro hn
 have : stsB ps = true := stsB_mk (fun k hk => by
  cases e : stB ps[k] with
  | true => rfl
  | false => exact absurd ⟨k, hk, e⟩ hn)
 rw [h] at this
 cases this

set_option maxHeartbeats 1000000 in
theorem znc (s : St) (w : World) : Calls Tryz.prog 100 #[.agg #[.int .i64 s.at_, .int .i64 s.val, .bool s.fl]] w fun e w' => e = .returned (.bool (stB s)) ∧ Below w.heap.size w w' := by
 have hb0 : Below w.heap.size w (w.alloc (.cells #[.int .i64 s.at_, .int .i64 s.val, .bool s.fl] 136)) := (Below.refl _ _).alloc (Nat.le_refl _) _
 by_cases q : zer s.at_ = true
 ·have E := zaa (show stB s = zbb s.val by unfold stB; rw [q]; rfl)
  have Q := zaa q
  clear q
  go_enter Tryz.func100, Tryz.ntmps100
  go_wp2_with (first | (go_at_call 139; refine (zmi _ _).mono ?_; rw [Q.out]; rintro e w' ⟨rfl, rfl⟩) | (go_at_call 98; refine (zjj _ _).mono ?_; rintro e w' ⟨rfl, rfl⟩))
  go_ret
  exact ⟨zah E.out.symm, hb0⟩
 ·have q' : zer s.at_ = false := by simpa using q
  have E := zaa (show stB s = false by unfold stB; rw [q']; rfl)
  have Q := zaa q'
  clear q q'
  go_enter Tryz.func100, Tryz.ntmps100
  go_wp2_with (go_at_call 139; refine (zmi _ _).mono ?_; rw [Q.out]; rintro e w' ⟨rfl, rfl⟩)
  go_ret
  exact ⟨zah E.out.symm, hb0⟩

set_option maxHeartbeats 4000000 in
theorem zhj (v : Value) (ps : List St) (w : World) (h : RdS w v ps) (hn : ps.length ≤ 1048576) :
  Calls Tryz.prog 99 #[v, .func (.func 100) #[] #[]] w fun e w' => e = .returned (.bool (stsB ps)) ∧ Below w.heap.size w w' := by
 obtain ⟨aP, cP, rfl, _, hcP⟩ := h.shape
 clear h
 go_enter Tryz.func99, Tryz.ntmps99
 go_wp2
 go_loopw [6, 9] (fun _ i wr => ∃ k : Nat, k ≤ ps.length ∧ i = .int .i64 k ∧ Hid (∀ j (h : j < ps.length), j < k → stB ps[j] = true) ∧ Below w.heap.size w wr) (fun _ i _ => ps.length - (intOf i).toNat)
 case atStart => exact ⟨0, by omega, rfl, fun j h a => absurd a (by omega), Below.refl _ _⟩
 case round =>
  obtain ⟨m, hm, rfl, H, hbw⟩ := hrel
  have hz := hbw.size
  by_cases hlt2 : m < ps.length
  ·obtain ⟨b2, o2, rfl, hbl2, hcell2⟩ := hcP (by omega)
   obtain ⟨d0, d1, d2⟩ := hcell2 m hlt2
   have e0 := (hbw.cell (p := ⟨b2, o2 + m * 3, none⟩) hbl2).trans d0
   have e1 := (hbw.cell (p := ⟨b2, o2 + m * 3 + 1, none⟩) hbl2).trans d1
   have e2 := (hbw.cell (p := ⟨b2, o2 + m * 3 + 2, none⟩) hbl2).trans d2
   have hb1 := zaa (hbw.alloc hz (.cells #[.int .i64 ps[m].at_, .int .i64 ps[m].val, .bool ps[m].fl] 136))
   clear d0 d1 d2 hcell2 hcP
   by_cases q : stB ps[m] = true
   ·have Q := zaa q
    clear q
    go_wp2_with (go_at_call 100; refine (znc ps[m] _).mono ?_; rw [Q.out]; rintro e w' ⟨rfl, hw'⟩)
    have hw2 := hb1.out.trans (hw'.mono (by simp; omega))
    clear hb1 hw'
    go_roundw
    case rel =>
     refine ⟨m + 1, by omega, by go_num, fun j h a => ?_, hw2⟩
     by_cases e : j = m
     ·subst e; exact Q.out
     ·exact H.out j h (by omega)
    case measure => simp [intOf]; omega
   ·have Q := zaa (show stB ps[m] = false by simpa using q)
    have E := zaa (stsB_not hlt2 Q.out)
    clear q
    go_wp2_with (go_at_call 100; refine (znc ps[m] _).mono ?_; rw [Q.out]; rintro e w' ⟨rfl, hw'⟩)
    have hw2 := hb1.out.trans (hw'.mono (by simp; omega))
    go_ret
    exact ⟨zah E.out.symm, hw2⟩
  ·have E := zaa (stsB_mk (fun j h => H.out j h (by omega)))
   go_wp2
   go_ret
   exact ⟨zah E.out.symm, hbw⟩

set_option maxHeartbeats 4000000 in
theorem zkj (v : Value) (ws : List Int) (ps : List St) (w : World) (h : RdPm w v ws ps) (hw : ws.length ≤ 1048576) (hp : ps.length ≤ 1048576) :
  Calls Tryz.prog 63 #[v] w fun e w' => e = .returned (.bool (pmB ws ps)) ∧ Below w.heap.size w w' := by
 obtain ⟨vW, vP, rfl, h1, h2⟩ := h
 obtain ⟨aW, cW, rfl, _, hcW⟩ := h1.shape
 obtain ⟨aP, cP, rfl, _, hcP⟩ := h2.shape
 have H1 := zaa h1
 have H2 := zaa h2
 clear h1 h2 hcW hcP
 have hb0 : Below w.heap.size w (w.alloc (.cells #[.slice aW ws.length cW, .slice aP ps.length cP] 31)) := (Below.refl _ _).alloc (Nat.le_refl _) _
 have HB := zaa hb0
 by_cases c1 : ws.length = 336
 case neg =>
  have E := zaa (pmB_len1 (ps := ps) c1)
  have c1' : ((ws.length : Int) == 336) = false := by rw [beq_eq_false_iff_ne]; omega
  clear c1
  go_enter Tryz.func63, Tryz.ntmps63
  go_wp2
  go_ret
  exact ⟨zah E.out.symm, HB.out⟩
 have c1n : ((ws.length : Int) == 336) = true := by simp; omega
 have C1 := zaa c1
 clear c1
 by_cases c2 : 400 < ps.length
 ·have E := zaa (pmB_len2 (ws := ws) c2)
  have c2' : decide ((ps.length : Int) ≤ 400) = false := by simp; omega
  go_enter Tryz.func63, Tryz.ntmps63
  go_wp2
  go_ret
  exact ⟨zah E.out.symm, HB.out⟩
 by_cases c3 : zke ws = true
 case neg =>
  have c3' : zke ws = false := by simpa using c3
  obtain ⟨k, hk, hkf⟩ := wordsB_ex c3'
  have E := zaa (pmB_w (ps := ps) hk hkf)
  have W0 := zaa c3'
  clear c3 c3' hkf hk
  go_enter Tryz.func63, Tryz.ntmps63
  go_wp2_with (go_at_call 97; refine (zfs _ ws _ (Rd.below H1.out HB.out) (by omega)).mono ?_; rw [W0.out]; rintro e w' ⟨rfl, rfl⟩)
  go_ret
  exact ⟨zah E.out.symm, HB.out⟩
 have HW := zaa (zwa c3)
 have W1 := zaa c3
 clear c3
 cases c4 : stsB ps with
 | true =>
  have E := zaa (pmB_mk C1.out (by omega) HW.out (fun j h => stB_true (stsB_true c4 j h)))
  have W2 := zaa c4
  clear c4
  go_enter Tryz.func63, Tryz.ntmps63
  go_wp2_with (first | (go_at_call 97; refine (zfs _ ws _ (Rd.below H1.out HB.out) (by omega)).mono ?_; rw [W1.out]; rintro e w' ⟨rfl, rfl⟩) | (go_at_call 99; refine (zhj _ ps _ (Rd.below H2.out HB.out) (by omega)).mono ?_; rw [W2.out]; rintro e w' ⟨rfl, hw'⟩))
  go_ret
  exact ⟨zah E.out.symm, HB.out.trans (hw'.mono (by simp))⟩
 | false =>
  obtain ⟨k, hk, hkf⟩ := stsB_ex c4
  have E := zaa (show pmB ws ps = false from stB_false hkf (pmB_a (ws := ws) hk) (pmB_v (ws := ws) hk))
  have W2 := zaa c4
  clear c4 hk hkf
  go_enter Tryz.func63, Tryz.ntmps63
  go_wp2_with (first | (go_at_call 97; refine (zfs _ ws _ (Rd.below H1.out HB.out) (by omega)).mono ?_; rw [W1.out]; rintro e w' ⟨rfl, rfl⟩) | (go_at_call 99; refine (zhj _ ps _ (Rd.below H2.out HB.out) (by omega)).mono ?_; rw [W2.out]; rintro e w' ⟨rfl, hw'⟩))
  go_ret
  exact ⟨zah E.out.symm, HB.out.trans (hw'.mono (by simp))⟩
end Go.Proofs.YtbbmljakfbhnpaaGreatDoor

namespace Go.Proofs.YtbbmljakfbhnpaaGreatDoor
open Go.RowKit

/-- The last of some stores at a place, or what was there. -/
def zjo (at_ d : Int) (ps : List St) : Int := ps.foldl (fun acc p => if p.at_ = at_ then p.val else acc) d
theorem zjz {at_ d : Int} : ∀ {ps : List St}, (∀ p ∈ ps, ¬ p.at_ = at_) → zjo at_ d ps = d
 | [], _ => rfl
 | p :: ps, h => by
  show zjo at_ (if p.at_ = at_ then p.val else d) ps = d
  rw [if_neg (h p (by simp))]
  exact zjz (fun q hq => h q (by simp [hq]))
theorem ztl (at_ d : Int) (ps qs : List St) : zjo at_ d (ps ++ qs) = zjo at_ (zjo at_ d ps) qs := by simp [zjo]
theorem lastW_hit {at_ d : Int} {ps : List St} {k : Nat} (hk : k < ps.length) (h : ps[k].at_ = at_) (ha : ∀ j (hj : j < ps.length), k < j → ¬ ps[j].at_ = at_) : zjo at_ d ps = ps[k].val := by
 have e : ps = ps.take k ++ (ps[k] :: ps.drop (k + 1)) := by rw [← List.drop_eq_getElem_cons hk, List.take_append_drop]
 conv => lhs; rw [e]
 rw [ztl]
 show zjo at_ (if ps[k].at_ = at_ then ps[k].val else _) (ps.drop (k + 1)) = _
 rw [if_pos h]
 apply zjz
 intro p hp
 obtain ⟨i, hi, rfl⟩ := List.getElem_of_mem hp
 rw [List.getElem_drop]
 exact ha _ _ (by omega)

set_option maxHeartbeats 2000000 in
theorem zod (v : Value) (ws : List Int) (ps : List St) (at_ : Nat) (w : World) (h : RdPm w v ws ps) (hw : ws.length ≤ 1048576) (hp : ps.length ≤ 1048576) (ha : at_ < ws.length) :
  Calls Tryz.prog 109 #[v, .int .i64 (at_ : Int)] w fun e w' => e = .returned (.int .i64 (zjo (at_ : Int) ws[at_] ps)) ∧ Below w.heap.size w w' := by
 obtain ⟨vW, vP, rfl, h1, h2⟩ := h
 obtain ⟨aW, cW, rfl, _, hcW⟩ := h1.shape
 obtain ⟨aP, cP, rfl, _, hcP⟩ := h2.shape
 clear h1 h2
 obtain ⟨bW, oW, rfl, hbW, hcellW⟩ := hcW (by omega)
 have hb0 : Below w.heap.size w (w.alloc (.cells #[.slice (some ⟨bW, oW, none⟩) ws.length cW, .slice aP ps.length cP] 31)) := (Below.refl _ _).alloc (Nat.le_refl _) _
 have hcw := (hb0.cell (p := ⟨bW, oW + at_, none⟩) hbW).trans (hcellW at_ ha)
 clear hcW hcellW
 go_enter Tryz.func109, Tryz.ntmps109
 go_wp2
 go_loop [5] (fun i => ∃ k : Nat, k ≤ ps.length ∧ i = .int .i64 ((k : Int) - 1) ∧ Hid (∀ j (h : j < ps.length), k ≤ j → ¬ ps[j].at_ = (at_ : Int))) (fun i => (intOf i + 1).toNat)
 case atStart => exact ⟨ps.length, Nat.le_refl _, rfl, fun j h a => absurd h (by omega)⟩
 case round =>
  obtain ⟨k, hk, rfl, H⟩ := hrel
  cases k with
  | zero =>
   have E := zaa (zjz (d := ws[at_]) (fun p hp => by obtain ⟨i, hi, rfl⟩ := List.getElem_of_mem hp; exact H.out i hi (by omega)))
   clear H hcP
   go_wp2
   go_ret
   exact ⟨zcw E.out.symm, hb0⟩
  | succ m =>
   have em : (((m + 1 : Nat) : Int) - 1) = (m : Int) := by omega
   rw [em]
   clear em
   obtain ⟨b, o, rfl, hbl, hcell⟩ := hcP (by omega)
   obtain ⟨d0, d1, _⟩ := hcell m (by omega)
   have e0 := (hb0.cell (p := ⟨b, o + m * 3, none⟩) hbl).trans d0
   have e1 := (hb0.cell (p := ⟨b, o + m * 3 + 1, none⟩) hbl).trans d1
   clear d0 d1 hcell hcP
   have hm : m < ps.length := by omega
   by_cases c : ps[m].at_ = (at_ : Int)
   ·have c' : (ps[m].at_ == (at_ : Int)) = true := by simpa using c
    have E := zaa (lastW_hit (d := ws[at_]) hm c (fun j hj hlt => H.out j hj (by omega)))
    clear H c
    go_wp2
    go_ret
    exact ⟨zcw E.out.symm, hb0⟩
   ·have c' : (ps[m].at_ == (at_ : Int)) = false := by simpa using c
    have C := zaa c
    clear c
    go_wp2
    go_round
    case rel =>
     refine ⟨m, by omega, by go_num, fun j hj hle => ?_⟩
     by_cases e : j = m
     ·subst e; exact C.out
     ·exact H.out j hj (by omega)
    case measure => simp [intOf] <;> omega

end Go.Proofs.YtbbmljakfbhnpaaGreatDoor

namespace Go.Proofs.YtbbmljakfbhnpaaGreatDoor
open Go.RowKit

theorem zwc (ps : List St) : ∀ u ∈ sts ps, u.oneCell' = true := by
 intro u hu
 simp only [sts, List.mem_flatMap, St.cells] at hu
 obtain ⟨s, _, hs⟩ := hu
 simp at hs
 rcases hs with rfl | rfl | rfl <;> rfl
theorem RowPm.setCell {w : World} {lo hi : Nat} {v : Value} {ws : List Int} {ps : List St} (h : RowPm w lo hi v ws ps) {a : Addr} (ha : a.block < lo) (u : Value) : RowPm (w.setCell a u) lo hi v ws ps := by
 obtain ⟨vW, vP, rfl, h1, h2⟩ := h
 exact ⟨vW, vP, rfl, h1.same (fun b hb _ => Below.heap_setCell _ _ _ _ (by omega)), h2.same (fun b hb _ => Below.heap_setCell _ _ _ _ (by omega))⟩
theorem RowPm.alloc {w : World} {lo hi : Nat} {v : Value} {ws : List Int} {ps : List St} (h : RowPm w lo hi v ws ps) (hi1 : hi ≤ w.heap.size) (o : Obj) : RowPm (w.alloc o) lo hi v ws ps :=
 h.below ((Below.refl _ _).alloc (Nat.le_refl _) o) hi1
theorem RowPm.zero (w : World) (lo hi : Nat) : RowPm w lo hi (.agg #[.slice none 0 0, .slice none 0 0]) [] [] := ⟨_, _, rfl, Row.nil _ _ _ _ _, Row.nil _ _ _ _ _⟩
theorem sts_snoc (ps : List St) (s : St) : sts (ps ++ [s]) = sts ps ++ s.cells := by simp [sts]
/-- The shape of a slice, its length as it is wanted. -/
theorem RdS.form {w : World} {v : Value} {ps : List St} (h : RdS w v ps) {n : Nat} (hn : ps.length = n) : ∃ ao cap, v = .slice ao n cap := by
 obtain ⟨ao, cap, e, _⟩ := h.shape
 exact ⟨ao, cap, by rw [← hn]; exact e⟩
theorem pmB_at {ws : List Int} {ps : List St} (h : pmB ws ps = true) : ∀ j (hj : j < ps.length), 0 ≤ ps[j].at_ ∧ ps[j].at_ < 336 := fun j hj => zni (zit h j hj).1
theorem pmB_in {ws : List Int} {ps : List St} (h : pmB ws ps = true) : ∀ j (hj : j < ps.length), 0 ≤ ps[j].at_ ∧ ps[j].at_ < ws.length := fun j hj => by
 have h1 := pmB_at h j hj
 have h2 := (zgc h).1
 omega
/-- One store, laid in a block of its own, as a slice of one. -/
theorem rd_one (w1 : World) (a x : Int) (f : Bool) : Rd (w1.alloc (.cells #[.int .i64 a, .int .i64 x, .bool f] 136)) 3 (.slice (some ⟨w1.heap.size, 0, none⟩) 1 1) 1 (St.cells ⟨a, x, f⟩) := by
 refine ⟨rfl, _, _, rfl, ⟨Nat.le_refl _, fun e => by cases e⟩, fun _ => ⟨w1.heap.size, 0, rfl, by simp, fun j hj => ?_⟩⟩
 obtain ⟨e0, e1, e2⟩ := zba (zag (w := w1) (o := .cells #[.int .i64 a, .int .i64 x, .bool f] 136) rfl)
 rw [Nat.zero_add]
 rcases (show j = 0 ∨ j = 1 ∨ j = 2 from by omega) with rfl | rfl | rfl
 ·exact e0
 ·exact e1
 ·exact e2
theorem cells_one (p : St) : ∀ u ∈ St.cells p, u.oneCell' = true := by
 intro u hu
 simp [St.cells] at hu
 rcases hu with rfl | rfl | rfl <;> rfl
end Go.Proofs.YtbbmljakfbhnpaaGreatDoor
