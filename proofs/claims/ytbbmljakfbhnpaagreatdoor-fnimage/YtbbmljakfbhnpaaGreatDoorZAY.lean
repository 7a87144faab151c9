/- Several texts laid together: IgH, JrF, JrP. -/
import Derived.Test.YtbbmljakfbhnpaaGreatDoorZAS
import Derived.Test.YtbbmljakfbhnpaaGreatDoorZAX
import Derived.Test.YtbbmljakfbhnpaaGreatDoorZAW
import Derived.BigRegion
import Derived.BigQuiet
import Derived.Deep.QuietTactic
import Derived.Deep.DeepCutAuto
import Derived.Deep.RegionWith
import Derived.Test.YtbbmljakfbhnpaaGreatDoorZAB
import Derived.Deep.RegionHeld3
namespace Go.Proofs.YtbbmljakfbhnpaaGreatDoor
open Go.RowKit

theorem zth {ps : List Den} {k : Nat} (h : k < ps.length) : zat ps k = (zaq ps k).child := zwo h
theorem zqh {ws : List Ino} {ps : List Den} (h : Img ws ps) (f : ¬ feI ps < 0) : ∃ k : Nat, feI ps = (k : Int) ∧ k < 24 ∧ zaq ps k = freeD := by
 have hit := znv (p := fun i => decide (zat ps i < 0)) (n := ps.length) f
 have b := (zdu (fun i => decide (zat ps i < 0)) ps.length).2
 have e : feI ps = zbv (fun i => decide (zat ps i < 0)) ps.length := rfl
 rw [← e] at hit b
 refine ⟨(feI ps).toNat, by omega, by have := h.l24; omega, ?_⟩
 have hk : (feI ps).toNat < ps.length := by omega
 have c : zat ps (feI ps).toNat < 0 := of_decide_eq_true hit
 rw [zth hk] at c
 rcases h.ent (feI ps).toNat (by have := h.l24; omega) with q | q
 ·exact q
 ·have := q.1; omega
theorem zvm {ws : List Ino} {ps : List Den} (h : Img ws ps) (f : ¬ fiI ws < 0) : ∃ i : Nat, fiI ws = (i : Int) ∧ i < 16 ∧ (zal ws i).kind = 0 := by
 have hit := znv (p := fun i => decide (1 ≤ i) && zak ws (i : Int) == 0) (n := ws.length) f
 have b := (zdu (fun i => decide (1 ≤ i) && zak ws (i : Int) == 0) ws.length).2
 have e : fiI ws = zbv (fun i => decide (1 ≤ i) && zak ws (i : Int) == 0) ws.length := rfl
 rw [← e] at hit b
 refine ⟨(fiI ws).toNat, by omega, by have := h.l16; omega, ?_⟩
 simp only [Bool.and_eq_true, beq_iff_eq] at hit
 rw [← zbd]
 exact hit.2
theorem ent_new {ps : List Den} (l : ps.length = 24) {d : Int} {nm : ByteArray} (h : zbz ps d nm = none) : ∀ j, j < 24 → 0 ≤ (zaq ps j).child → (zaq ps j).dir = d → ¬ (zaq ps j).name = nm := by
 intro j hj a b c
 unfold zbz at h
 rw [List.findIdx?_eq_none_iff] at h
 have := h ps[j] (List.getElem_mem (by omega))
 rw [zbw (by omega)] at a b c
 rw [zjv.2 ⟨a, b, c⟩] at this
 cases this
theorem zkp {ws : List Ino} {ps : List Den} (h : Img ws ps) {d : Int} {nm : ByteArray} {k : Nat} (e : zbz ps d nm = some k) : k < 24 ∧ ∃ i : Nat, zat ps k = (i : Int) ∧ (zaq ps k).child = (i : Int) ∧ i < 16 ∧ zgx ws (zaq ps k) ∧ (zaq ps k).dir = d ∧ (zaq ps k).name = nm := by
 obtain ⟨hk, q⟩ := ent_some e
 have hk24 : k < 24 := by have := h.l24; omega
 obtain ⟨c, hd, hn⟩ := zjv.1 q
 rw [← zbw hk] at c hd hn
 have ok : zgx ws (zaq ps k) := by
  rcases h.ent k hk24 with r | r
  ·rw [r] at c; exact absurd c (by decide)
  ·exact r
 refine ⟨hk24, (zaq ps k).child.toNat, ?_, by omega, by have := ok.1; omega, ok, hd, hn⟩
 rw [zth hk]
 omega
theorem names_none {ps : List Den} (l : ps.length = 24) {d : Int} (h : zbo ps d = []) : ∀ j, j < 24 → ¬ (0 ≤ (zaq ps j).child ∧ (zaq ps j).dir = d) := by
 intro j hj
 rintro ⟨a, b⟩
 unfold zbo at h
 rw [List.map_eq_nil_iff, List.filter_eq_nil_iff] at h
 have := h ps[j] (List.getElem_mem (by omega))
 rw [zbw (by omega)] at a b
 rw [decide_eq_true_eq] at this
 omega
/-- What is made. -/
theorem wi_make {ls : List Int} {ws : List Ino} {ps : List Den} {s : ByteArray} {kind : Int} {us : List Se} (h : Wi ls ws ps) (kd : kind = 1 ∨ kind = 2) (e : mkI ws ps s kind = (us, 0)) :
  ∃ (i k : Nat) (d : Int) (nm : ByteArray), paI ws ps s = (d, nm, 0) ∧ zbz ps d nm = none ∧ (i < 16 ∧ 1 ≤ i ∧ (zal ws i).kind = 0) ∧ (k < 24 ∧ zaq ps k = freeD) ∧ Wi (zbx ls us) (ws.set i ⟨kind, 0, 1, 0, 0, 0, 0, 0, 0, 0, 0⟩) (ps.set k ⟨d, nm, (i : Int)⟩) := by
 unfold mkI at e
 by_cases c : (paI ws ps s).2.2 = 0
 ·rw [if_pos c] at e
  obtain ⟨hd, dd, hn⟩ := ziw (zbp.2 h.img) c
  unfold mkN at e
  by_cases c1 : 0 ≤ zka ps (paI ws ps s).1 (paI ws ps s).2.1
  ·rw [if_pos c1] at e; cases e
  ·rw [if_neg c1] at e
   by_cases c2 : fiI ws < 0
   ·rw [if_pos c2] at e; cases e
   ·rw [if_neg c2] at e
    by_cases c3 : feI ps < 0
    ·rw [if_pos c3] at e; cases e
    ·rw [if_neg c3] at e
     obtain ⟨i, ei, hi, ki⟩ := zvm h.img c2
     obtain ⟨k, ek, hk, fk⟩ := zqh h.img c3
     have en := zmp.2 c1
     generalize paI ws ps s = pr at *
     obtain ⟨d, nm, pc⟩ := pr
     simp only at c hd dd hn en e
     subst c
     rw [ei, ek] at e
     have eu : us = zkh i [(0, kind), (2, 1)] ++ enL (k : Int) ⟨d, nm, (i : Int)⟩ := by
      injection e with e _
      rw [← e]
      unfold mkU zkh
      simp only [List.map_cons, List.map_nil]
      rw [show 48 + 12 * (i : Int) + ((0 : Nat) : Int) = 48 + 12 * (i : Int) by omega]
      rfl
     obtain ⟨z, _, i0⟩ := h.img.free hi ki
     have xp : zrv (zal ws i) [(0, kind), (2, 1)] = ⟨kind, 0, 1, 0, 0, 0, 0, 0, 0, 0, 0⟩ := by rw [z]; rfl
     refine ⟨i, k, d, nm, rfl, en, ⟨hi, by omega, ki⟩, ⟨hk, fk⟩, ?_⟩
     rw [eu, ← xp]
     refine (wi_upd h hi hk (fun f hf => ?_) (.inr ⟨by show (0 : Int) ≤ (i : Int); omega, hn⟩) ?_).1
     ·simp only [List.mem_cons, List.not_mem_nil, or_false] at hf
      rcases hf with rfl | rfl
      ·show (0 : Nat) < 11; omega
      ·show (2 : Nat) < 11; omega
     ·rw [xp]
      exact img_make h.img hi ki hk fk kd hd dd hn (ent_new h.img.l24 en)
 ·rw [if_neg c] at e
  injection e with _ e
  exact absurd e c
theorem wr_zero (i : Nat) : wrL (i : Int) zgq 8 = zkh i [(0, 0), (1, 0), (2, 0), (3, 0), (4, 0), (5, 0), (6, 0), (7, 0), (8, 0), (9, 0), (10, 0)] := by
 unfold wrL zkh
 simp only [List.map_cons, List.map_nil, List.range_succ, List.range_zero, List.nil_append, List.cons_append]
 rw [show 48 + 12 * (i : Int) + ((0 : Nat) : Int) = 48 + 12 * (i : Int) by omega]
 rfl
/-- What is removed. -/
theorem wi_remove {ls : List Int} {ws : List Ino} {ps : List Den} {s : ByteArray} {us : List Se} (h : Wi ls ws ps) (e : rmI ws ps s = (us, 0)) :
  ∃ (i k : Nat) (d : Int) (nm : ByteArray), paI ws ps s = (d, nm, 0) ∧ zbz ps d nm = some k ∧ (zaq ps k).child = (i : Int) ∧ i < 16 ∧ k < 24 ∧ zbo ps (i : Int) = [] ∧ Wi (zbx ls us) (ws.set i (zch (zal ws i))) (ps.set k freeD) := by
 unfold rmI at e
 by_cases c : (paI ws ps s).2.2 = 0
 ·rw [if_pos c] at e
  generalize paI ws ps s = pr at *
  obtain ⟨d, nm, pc⟩ := pr
  simp only at c e
  subst c
  unfold rmN at e
  cases en : zbz ps d nm with
  | none => rw [en] at e; cases e
  | some k =>
   rw [en] at e
   have e' : rmC ws ps k = (us, 0) := e
   obtain ⟨hk, i, ci, ck, hi, ok, _, _⟩ := zkp h.img en
   unfold rmC at e'
   rw [ci] at e'
   by_cases c1 : zak ws (i : Int) = 2 ∧ ¬ zbo ps (i : Int) = []
   ·rw [if_pos c1] at e'; cases e'
   ·rw [if_neg c1] at e'
    have nn : zbo ps (i : Int) = [] := by
     by_cases q : zak ws (i : Int) = 2
     ·exact Classical.byContradiction fun r => c1 ⟨q, r⟩
     ·exact file_empty (zbp.2 h.img) q
    refine ⟨i, k, d, nm, rfl, en, ck, hi, hk, nn, ?_⟩
    have img := img_remove h.img hk ck (names_none h.img.l24 nn)
    injection e' with e' _
    rw [← e']
    unfold rmU
    rw [zpm]
    by_cases two : 1 < (zal ws i).links
    ·rw [if_pos two]
     have xp : zrv (zal ws i) [(2, (zal ws i).links - 1)] = zch (zal ws i) := by
      unfold zch
      rw [if_pos two]
      rfl
     rw [← xp] at img ⊢
     exact (wi_upd h hi hk (fun f hf => by simp only [List.mem_cons, List.not_mem_nil, or_false] at hf; rw [hf]; show (2 : Nat) < 11; omega) (.inl rfl) img).2
    ·rw [if_neg two, wr_zero]
     have xp : zrv (zal ws i) [(0, 0), (1, 0), (2, 0), (3, 0), (4, 0), (5, 0), (6, 0), (7, 0), (8, 0), (9, 0), (10, 0)] = zch (zal ws i) := by
      unfold zch
      rw [if_neg two]
      rfl
     rw [← xp] at img ⊢
     refine (wi_upd h hi hk (fun f hf => ?_) (.inl rfl) img).2
     simp only [List.mem_cons, List.not_mem_nil, or_false] at hf
     rcases hf with rfl | rfl | rfl | rfl | rfl | rfl | rfl | rfl | rfl | rfl | rfl <;> decide
 ·rw [if_neg c] at e
  injection e with _ e
  exact absurd e c
theorem wk_kind {ws : List Ino} {ps : List Den} (h : Img ws ps) : ∀ (ns : List ByteArray) (z : Int), (wk ws ps z ns).2 = 0 → ¬ zak ws z = 0 → ¬ zak ws (wk ws ps z ns).1 = 0
 | [], z, _, k => k
 | n :: ns, z, c, k => by
  by_cases q : zak ws z = 2
  ·cases e : zbz ps z n with
   | none => rw [zrg q e] at c; cases c
   | some j =>
    rw [zqx q e] at c ⊢
    obtain ⟨_, i, ci, ck, _, ok, _, _⟩ := zkp h e
    refine wk_kind h ns _ c ?_
    rw [ci, ← ck]
    exact ok.2.2.2.1
  ·rw [zlf q] at c; cases c
theorem wk_root {ws : List Ino} {ps : List Den} (h : Img ws ps) : ∀ (ns : List ByteArray) (z : Int), (wk ws ps z ns).2 = 0 → (wk ws ps z ns).1 = z ∨ 1 ≤ (wk ws ps z ns).1
 | [], z, _ => .inl rfl
 | n :: ns, z, c => by
  by_cases q : zak ws z = 2
  ·cases e : zbz ps z n with
   | none => rw [zrg q e] at c; cases c
   | some k =>
    rw [zqx q e] at c ⊢
    obtain ⟨_, i, ci, ck, _, ok, _, _⟩ := zkp h e
    have := ok.1
    rcases wk_root h ns _ c with r | r
    ·right
     rw [r, ci]
     omega
    ·exact .inr r
  ·rw [zlf q] at c; cases c
/-- A file that is looked up. -/
theorem zle {ws : List Ino} {ps : List Den} {s : ByteArray} (h : Img ws ps) (c : (lkI ws ps s).2 = 0) (k : ¬ zak ws (lkI ws ps s).1 = 2) : ∃ i : Nat, (lkI ws ps s).1 = (i : Int) ∧ i < 16 ∧ ¬ i = 0 ∧ (zal ws i).kind = 1 := by
 have rg := lkI_ok (s := s) (zbp.2 h)
 refine ⟨(lkI ws ps s).1.toNat, by omega, by omega, ?_⟩
 unfold lkI at c k rg ⊢
 by_cases q : spB s = true
 ·rw [if_pos q] at c k rg ⊢
  have r1 : zak ws 0 = 2 := h.root
  have kk := wk_kind h (spL s) 0 c (by rw [r1]; decide)
  have hp : 1 ≤ (wk ws ps 0 (spL s)).1 := by
   rcases wk_root h _ 0 c with r | r
   ·rw [r] at k; exact absurd r1 k
   ·exact r
  refine ⟨by omega, ?_⟩
  obtain ⟨n, hn⟩ : ∃ n : Nat, (wk ws ps 0 (spL s)).1 = (n : Int) := ⟨(wk ws ps 0 (spL s)).1.toNat, by omega⟩
  rw [hn] at k kk rg ⊢
  rw [Int.toNat_natCast]
  rw [zbd] at k kk
  have := (zcj (h.ok n (by omega))).1
  omega
 ·rw [if_neg q] at c; cases c
/-- What is linked. -/
theorem wi_link {ls : List Int} {ws : List Ino} {ps : List Den} {s t : ByteArray} {us : List Se} (h : Wi ls ws ps) (e : lnI ws ps s t = (us, 0)) :
  ∃ (i k : Nat) (d : Int) (nm : ByteArray), lkI ws ps s = ((i : Int), 0) ∧ (i < 16 ∧ ¬ i = 0 ∧ (zal ws i).kind = 1) ∧ paI ws ps t = (d, nm, 0) ∧ zbz ps d nm = none ∧ (k < 24 ∧ zaq ps k = freeD) ∧ Wi (zbx ls us) (ws.set i (zgd (zal ws i))) (ps.set k ⟨d, nm, (i : Int)⟩) := by
 unfold lnI at e
 by_cases c0 : (lkI ws ps s).2 = 0
 ·rw [if_pos c0] at e
  by_cases c1 : zak ws (lkI ws ps s).1 = 2
  ·rw [if_pos c1] at e; cases e
  ·rw [if_neg c1] at e
   obtain ⟨i, ei, hi, i0, ki⟩ := zle h.img c0 c1
   have el : lkI ws ps s = ((i : Int), 0) := Prod.ext ei c0
   rw [ei] at e
   unfold lnP at e
   by_cases c : (paI ws ps t).2.2 = 0
   ·rw [if_pos c] at e
    obtain ⟨hd, dd, hn⟩ := ziw (zbp.2 h.img) c
    unfold lnN at e
    by_cases c2 : 0 ≤ zka ps (paI ws ps t).1 (paI ws ps t).2.1
    ·rw [if_pos c2] at e; cases e
    ·rw [if_neg c2] at e
     by_cases c3 : feI ps < 0
     ·rw [if_pos c3] at e; cases e
     ·rw [if_neg c3] at e
      obtain ⟨k, ek, hk, fk⟩ := zqh h.img c3
      have en := zmp.2 c2
      generalize paI ws ps t = pr at *
      obtain ⟨d, nm, pc⟩ := pr
      simp only at c hd dd hn en e
      subst c
      rw [ek, zpm] at e
      injection e with e _
      refine ⟨i, k, d, nm, el, ⟨hi, i0, ki⟩, rfl, en, ⟨hk, fk⟩, ?_⟩
      have img := img_link h.img hi i0 ki hk fk hd dd hn (ent_new h.img.l24 en)
      have xp : zrv (zal ws i) [(2, (zal ws i).links + 1)] = zgd (zal ws i) := rfl
      rw [← e]
      rw [← xp] at img ⊢
      exact (wi_upd h hi hk (fun f hf => by simp only [List.mem_cons, List.not_mem_nil, or_false] at hf; rw [hf]; show (2 : Nat) < 11; omega) (.inr ⟨by show (0 : Int) ≤ (i : Int); omega, hn⟩) img).2
   ·rw [if_neg c] at e
    injection e with _ e
    exact absurd e c
 ·rw [if_neg c0] at e
  injection e with _ e
  exact absurd e c0
/-- What is renamed. -/
theorem wi_rename {ls : List Int} {ws : List Ino} {ps : List Den} {s t : ByteArray} {us : List Se} (h : Wi ls ws ps) (e : rnI ws ps s t = (us, 0)) :
  ∃ (i k : Nat) (d0 d : Int) (n0 nm : ByteArray), paI ws ps s = (d0, n0, 0) ∧ zbz ps d0 n0 = some k ∧ (zaq ps k).child = (i : Int) ∧ i < 16 ∧ k < 24 ∧ paI ws ps t = (d, nm, 0) ∧ zbz ps d nm = none ∧ Wi (zbx ls us) ws (ps.set k ⟨d, nm, (i : Int)⟩) := by
 unfold rnI at e
 by_cases c0 : (paI ws ps s).2.2 = 0
 ·rw [if_pos c0] at e
  unfold rnE at e
  cases en0 : zbz ps (paI ws ps s).1 (paI ws ps s).2.1 with
  | none => rw [en0] at e; cases e
  | some k =>
   rw [en0] at e
   have e' : rnP ws ps t k = (us, 0) := e
   obtain ⟨hk, i, ci, ck, hi, ok, _, _⟩ := zkp h.img en0
   unfold rnP at e'
   by_cases c : (paI ws ps t).2.2 = 0
   ·rw [if_pos c] at e'
    obtain ⟨hd, dd, hn⟩ := ziw (zbp.2 h.img) c
    unfold rnN at e'
    rw [ci] at e'
    by_cases c2 : 0 ≤ zka ps (paI ws ps t).1 (paI ws ps t).2.1
    ·rw [if_pos c2] at e'; cases e'
    ·rw [if_neg c2] at e'
     have en := zmp.2 c2
     by_cases c3 : zak ws (i : Int) = 2 ∧ zos ps 17 (paI ws ps t).1 (i : Int) = true
     ·rw [if_pos c3] at e'; cases e'
     ·rw [if_neg c3] at e'
      generalize paI ws ps t = pr at *
      obtain ⟨d, nm, pc⟩ := pr
      generalize paI ws ps s = pq at *
      obtain ⟨d0, n0, qc⟩ := pq
      simp only at c hd dd hn en e' c0 en0 c3
      subst c c0
      injection e' with e' _
      refine ⟨i, k, d0, d, n0, nm, rfl, en0, ck, hi, hk, rfl, en, ?_⟩
      rw [← e']
      exact wi_den h hk (.inr ⟨by show (0 : Int) ≤ (i : Int); omega, hn⟩) (img_rename h.img hk ck hd dd hn (ent_new h.img.l24 en) c3)
   ·rw [if_neg c] at e'
    injection e' with _ e'
    exact absurd e' c
 ·rw [if_neg c0] at e
  injection e with _ e
  exact absurd e c0
end Go.Proofs.YtbbmljakfbhnpaaGreatDoor

namespace Go.Proofs.YtbbmljakfbhnpaaGreatDoor
open Go.RowKit

theorem mis_snoc (l : List Mi) (m : Mi) : mis (l ++ [m]) = mis l ++ m.cells := by simp [mis]
theorem zpf (l l' : List Mi) : mis (l ++ l') = mis l ++ mis l' := by simp [mis]
theorem zhs (m : Mi) : ∀ u ∈ m.cells, u.oneCell' = true := by
 intro u hu
 simp [Mi.cells] at hu
 rcases hu with rfl | rfl | rfl <;> rfl
theorem zcr (l : List Mi) : ∀ u ∈ mis l, u.oneCell' = true := by
 intro u hu
 simp only [mis, List.mem_flatMap] at hu
 obtain ⟨m, _, hm⟩ := hu
 exact zhs m u hm
theorem zpn (w1 : World) (k a x : Int) : Rd (w1.alloc (.cells #[.int .i64 k, .int .i64 a, .int .i64 x] 215)) 3 (.slice (some ⟨w1.heap.size, 0, none⟩) 1 1) 1 (Mi.cells ⟨k, a, x⟩) := by
 refine ⟨rfl, _, _, rfl, ⟨Nat.le_refl _, fun e => by cases e⟩, fun _ => ⟨w1.heap.size, 0, rfl, by simp, fun j hj => ?_⟩⟩
 obtain ⟨e0, e1, e2⟩ := zba (zag (w := w1) (o := .cells #[.int .i64 k, .int .i64 a, .int .i64 x] 215) rfl)
 rw [Nat.zero_add]
 rcases (show j = 0 ∨ j = 1 ∨ j = 2 from by omega) with rfl | rfl | rfl
 ·exact e0
 ·exact e1
 ·exact e2
theorem RdM.form {w : World} {v : Value} {ps : List Mi} (h : RdM w v ps) {n : Nat} (hn : ps.length = n) : ∃ ao cap, v = .slice ao n cap := by
 obtain ⟨ao, cap, e, _⟩ := h.shape
 exact ⟨ao, cap, hn ▸ e⟩
theorem owns_drewN {w : World} {base : Nat} {e : TypeId} {size : Nat} {v : Value} {n : Nat} {xs : List Value} (h : w.ownsRow base e size v n xs) (k : Nat) : (w.drewN k).ownsRow base e size v n xs := by
 induction k with
 | zero => exact h
 | succ k ih => exact ih
theorem zwd {B : Nat} {a w : World} (h : Below B a w) (n : Nat) : Below B a (w.drewN n) := by
 induction n with
 | zero => exact h
 | succ n ih => exact ⟨ih.os, ih.tape, ih.output, ih.size, ih.block⟩
theorem size_drewN (w : World) (n : Nat) : (w.drewN n).heap.size = w.heap.size := by
 induction n with
 | zero => rfl
 | succ n ih => exact ih

def zis (ks : List Int) (i k : Nat) : Bool := (List.range k).any (fun j => ks[j]?.getD 0 / 8 == ks[i]?.getD 0 / 8)
theorem zvz (ks : List Int) (i k : Nat) : zis ks i (k + 1) = (zis ks i k || (ks[k]?.getD 0 / 8 == ks[i]?.getD 0 / 8)) := by
 unfold zis
 rw [List.range_succ, List.any_append]
 simp
theorem nl_le (ks : List Int) : ∀ i, (nl ks i).length ≤ i
 | 0 => Nat.le_refl _
 | i + 1 => by
  rw [nl]
  split
  ·have := nl_le ks i; omega
  ·have := nl_le ks i; simp; omega

set_option maxRecDepth 100000 in
set_option maxHeartbeats 4000000 in
theorem zct (v : Value) (zs : List Int) (w : World) (h : RdI w v zs) (hn : zs.length ≤ 4096) (hz0 : ∀ k (h : k < zs.length), 0 ≤ zs[k] ∧ zs[k] < 336) :
  Calls Tryz.prog 188 #[v] w fun e w' => ∃ v', e = .returned v' ∧ Row w' 215 3 w.heap.size w'.heap.size v' (zbg zs).length (mis (zbg zs)) ∧ Below w.heap.size w w' := by
 obtain ⟨aZ, cZ, rfl, _, hcZ⟩ := h.shape
 have HZ := zaa hcZ
 have Z0 := zaa hz0
 clear h hcZ hz0
 have ho : (w.alloc (.cells #[] 215)).ownsRow w.heap.size 215 3 (.slice (some ⟨w.heap.size, 0, none⟩) 0 0) 0 [] := by
  simpa using World.ownsRow_lit (base := w.heap.size) (e := 215) (size := 3) w #[] 0 (by simp) (by simp) rfl
 have START := zaa (And.intro ho ((Below.refl w.heap.size w).alloc (Nat.le_refl _) (.cells #[] 215)))
 clear ho
 go_enter Tryz.func188, Tryz.ntmps188
 go_wp2
 go_loopw [3, 4, 5, 6] (fun vL i _ _ wr => ∃ m : Nat, m ≤ zs.length ∧ i = .int .i64 m ∧ Hid (wr.ownsRow w.heap.size 215 3 vL (nl zs m).length (mis (nl zs m)) ∧ Below w.heap.size w wr) ∧ w.heap.size ≤ wr.heap.size) (fun _ i _ _ _ => zs.length - (intOf i).toNat)
 case atStart => exact ⟨0, by omega, rfl, ⟨by simpa [nl, mis] using START.out.1, START.out.2⟩, by simp⟩
 case round =>
  obtain ⟨m, hm, rfl, I, hz⟩ := hrel
  by_cases hlt : m < zs.length
  ·obtain ⟨b, o, rfl, hbl, hcell⟩ := HZ.out (by omega)
   have CELL := zaa hcell
   clear hcell
   have m0 : (0 : Int) ≤ (m : Int) := by omega
   have m1 : (m : Int) < (zs.length : Int) := by omega
   go_wp2
   go_loopw [5, 6] (fun f kk wr2 => ∃ k : Nat, k ≤ m ∧ kk = .int .i64 k ∧ f = .bool (zis zs m k) ∧ Hid (wr2.ownsRow w.heap.size 215 3 u3 (nl zs m).length (mis (nl zs m)) ∧ Below w.heap.size w wr2) ∧ w.heap.size ≤ wr2.heap.size) (fun _ kk _ => m - (intOf kk).toNat)
   case atStart => exact ⟨0, by omega, rfl, rfl, I, hz⟩
   case round =>
    obtain ⟨k, hk, rfl, rfl, J, hz2⟩ := hrel
    by_cases hlk : k < m
    ·have k0 : (0 : Int) ≤ (k : Int) := by omega
     have k1 : (k : Int) < (m : Int) := by omega
     have k2 : (k : Int) < (zs.length : Int) := by omega
     have hkz : k < zs.length := by omega
     have d0 := (J.out.2.cell (p := ⟨b, o + k, none⟩) hbl).trans (CELL.out k hkz)
     have d1 := (J.out.2.cell (p := ⟨b, o + m, none⟩) hbl).trans (CELL.out m hlt)
     have p0 := Z0.out k hkz
     have p1 := Z0.out m hlt
     have SU := zaa (show zis zs m (k + 1) = (zis zs m k || (zs[k] / 8 == zs[m] / 8)) by rw [zvz, List.getElem?_eq_getElem hkz, List.getElem?_eq_getElem hlt]; rfl)
     generalize zs[k] = x at *
     generalize zs[m] = y at *
     generalize zis zs m k = fb at *
     rcases (show fb = true ∨ (fb = false ∧ (x / 8 == y / 8) = true) ∨ (fb = false ∧ (x / 8 == y / 8) = false) by cases fb <;> cases (x / 8 == y / 8) <;> simp) with rfl | ⟨rfl, q⟩ | ⟨rfl, q⟩
     all_goals
      go_wp2
      go_quiet (fail)
      go_wp2
      go_roundw
      case rel => exact ⟨k + 1, by omega, by go_num, by rw [SU.out]; first | rfl | (rw [q]; rfl), ⟨owns_drewN J.out.1 _, zwd J.out.2 _⟩, by rw [size_drewN]; exact hz2⟩
      case measure => simp [intOf]; omega
    ·obtain rfl : k = m := by omega
     by_cases c : zis zs k k = true
     ·have E := zaa (show nl zs (k + 1) = nl zs k by rw [nl]; exact if_pos c)
      rw [c]
      clear c
      go_wp2
      go_roundw
      case rel => exact ⟨k + 1, by omega, by go_num, by rw [E.out]; exact J, hz2⟩
      case measure => simp [intOf]; omega
     ·have c' : zis zs k k = false := by simpa using c
      have d1 := (J.out.2.cell (p := ⟨b, o + k, none⟩) hbl).trans (CELL.out k hlt)
      have E := zaa (show nl zs (k + 1) = nl zs k ++ [⟨2, zs[k], 0⟩] by
       rw [nl]
       have : ¬ knownL zs k = true := fun x => c x
       rw [if_neg this, List.getElem?_eq_getElem hlt]
       rfl)
      rw [c']
      clear c c'
      generalize zs[k] = y at *
      have O2 := zaa (J.out.1.alloc (.cells #[.int .i64 2, .int .i64 y, .int .i64 0] 215))
      have HRD := zaa (zpn wr 2 y 0)
      have hle := nl_le zs k
      go_wp2_with (at_builtin; refine zae _ rfl (.tmp 35) (.tmp 41) 121 rfl w.heap.size 215 (.agg #[.int .i64 0, .int .i64 0, .int .i64 0]) 3 24 Tryz.underlying121 zbs rfl (by decide) _ _ _ rfl O2.out _ 1 _ rfl HRD.out (zhs _) (by simp [maxLen]; omega) (by omega) (by simp; omega) ?_)
      intro vN wN hownN hgrN
      have hl := fun q hq => (O2.out.lt q hq).1
      have hzN := hgrN.size
      simp only [World.size_alloc] at hzN
      have G : Hid (wN.ownsRow w.heap.size 215 3 vN (nl zs (k + 1)).length (mis (nl zs (k + 1))) ∧ Below w.heap.size w wN) := by
       refine ⟨?_, (J.out.2.alloc (by omega) (.cells #[.int .i64 2, .int .i64 y, .int .i64 0] 215)).grown hgrN (by simp; omega) (fun q hq => hl q hq)⟩
       rw [E.out, mis_snoc, List.length_append]
       exact hownN
      clear hownN hgrN hl
      go_wp2
      go_roundw
      case rel => exact ⟨k + 1, by omega, by go_num, G, by omega⟩
      case measure => simp [intOf]; omega
  ·obtain rfl : m = zs.length := by omega
   have E := zaa (show zbg zs = nl zs zs.length ++ [⟨3, 0, 0⟩] from rfl)
   have O2 := zaa (I.out.1.alloc (.cells #[.int .i64 3, .int .i64 0, .int .i64 0] 215))
   have HRD := zaa (zpn wr 3 0 0)
   have hle := nl_le zs zs.length
   go_wp2_with (at_builtin; refine zae _ rfl (.tmp 43) (.tmp 45) 121 rfl w.heap.size 215 (.agg #[.int .i64 0, .int .i64 0, .int .i64 0]) 3 24 Tryz.underlying121 zbs rfl (by decide) _ _ _ rfl O2.out _ 1 _ rfl HRD.out (zhs _) (by simp [maxLen]; omega) (by omega) (by simp; omega) ?_)
   intro vN wN hownN hgrN
   have hl := fun q hq => (O2.out.lt q hq).1
   have G : Hid (wN.ownsRow w.heap.size 215 3 vN (zbg zs).length (mis (zbg zs)) ∧ Below w.heap.size w wN) := by
    refine ⟨?_, (I.out.2.alloc (by omega) (.cells #[.int .i64 3, .int .i64 0, .int .i64 0] 215)).grown hgrN (by simp; omega) (fun q hq => hl q hq)⟩
    rw [E.out, mis_snoc, List.length_append]
    exact hownN
   clear hownN hgrN hl
   obtain ⟨aL, cL, hvL⟩ := RdM.form (zac G.out.1).rd rfl
   subst hvL
   go_wp2
   go_ret
   exact ⟨_, rfl, zac G.out.1, G.out.2⟩

theorem zbr (zs : List Int) : (zbg zs).length ≤ zs.length + 1 := by
 unfold zbg
 have := nl_le zs zs.length
 simp
 omega
theorem znb (w : World) (t : TypeId) (size : Nat) : Row (w.alloc (.cells #[] t)) t size w.heap.size (w.alloc (.cells #[] t)).heap.size (.slice (some ⟨w.heap.size, 0, none⟩) 0 0) 0 [] :=
 zac (by simpa using World.ownsRow_lit (base := w.heap.size) (e := t) (size := size) w #[] 0 (by simp) (by simp) (by simp))

end Go.Proofs.YtbbmljakfbhnpaaGreatDoor

namespace Go.Proofs.YtbbmljakfbhnpaaGreatDoor
open Go.RowKit

theorem zcp (a x : Int) (w : World) : Calls Tryz.prog 186 #[.int .i64 a, .int .i64 x] w fun e w' => e = .returned (.agg #[.int .i64 1, .int .i64 a, .int .i64 x]) ∧ Below w.heap.size w w' := by
 go_enter Tryz.func186, Tryz.ntmps186
 go_wp2
 refine bodyPost_ret (v := .agg #[.int .i64 1, .int .i64 a, .int .i64 x]) (by simp [results, Tryz.results186, go_sem]) rfl ⟨rfl, ?_⟩
 repeat (refine Below.alloc ?_ (by simp <;> omega) _)
 exact Below.refl _ _

end Go.Proofs.YtbbmljakfbhnpaaGreatDoor
