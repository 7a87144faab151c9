/- Several texts laid together: RdA, IgF, IgH, Draw, CrashS, PmCopy, PmFlush, DrawP, OpenA, Open, SeenM, MemM, MiS, JrD. -/
import Derived.Test.YtcilodgoognmnaaGreatDoorZAT
import Derived.Test.YtcilodgoognmnaaGreatDoorZAL
import Derived.Test.YtcilodgoognmnaaGreatDoorZAB
import Derived.Test.YtcilodgoognmnaaGreatDoorZAR
import Derived.Test.YtcilodgoognmnaaGreatDoorZAA
import Derived.BigRegion
import Derived.BigQuiet
import Derived.Deep.QuietTactic
import Derived.Test.YtcilodgoognmnaaGreatDoorZAE
import Derived.Deep.DeepCutAuto
import Derived.Deep.RegionLaw
import Derived.Deep.RegionWith
import Derived.ProofKit
import Derived.OpenShut
import Derived.ShutString
import Derived.ChangeOld
import Derived.Lib.SmallJoins
import Derived.Deep.Slices
import Derived.Deep.Strs
import Derived.Test.YtcilodgoognmnaaGreatDoorZAS
import Derived.Test.YtcilodgoognmnaaGreatDoorZAD
namespace Go.Proofs.YtcilodgoognmnaaGreatDoor
open Go.RowKit

/-- A word, by its place. -/
def wdI (ls : List Int) (z : Int) : Int := ls.getD z.toNat 0
theorem wdI_of {ls : List Int} {n : Nat} (h : n < ls.length) : wdI ls (n : Int) = ls[n] := by
  unfold wdI
  rw [Int.toNat_natCast, List.getD_eq_getElem?_getD, List.getElem?_eq_getElem h]; rfl
/-- An inode's words, an entry's. -/
def inoOf (ls : List Int) (i : Nat) : Ino := ⟨wdI ls (48 + 12 * (i : Int)), wdI ls (48 + 12 * (i : Int) + 1), wdI ls (48 + 12 * (i : Int) + 2), wdI ls (48 + 12 * (i : Int) + 3), wdI ls (48 + 12 * (i : Int) + 4), wdI ls (48 + 12 * (i : Int) + 5), wdI ls (48 + 12 * (i : Int) + 6), wdI ls (48 + 12 * (i : Int) + 7), wdI ls (48 + 12 * (i : Int) + 8), wdI ls (48 + 12 * (i : Int) + 9), wdI ls (48 + 12 * (i : Int) + 10)⟩
def denOf (ls : List Int) (k : Nat) : Den := if wdI ls (240 + 3 * (k : Int) + 2) = 0 then ⟨0, ⟨#[]⟩, -1⟩ else ⟨wdI ls (240 + 3 * (k : Int)), unpS (wdI ls (240 + 3 * (k : Int) + 1)), wdI ls (240 + 3 * (k : Int) + 2) - 1⟩
def denGood (ls : List Int) (k : Nat) : Bool := if wdI ls (240 + 3 * (k : Int) + 2) = 0 then wdI ls (240 + 3 * (k : Int)) == 0 && wdI ls (240 + 3 * (k : Int) + 1) == 0 else goodN (wdI ls (240 + 3 * (k : Int) + 1))
def inosOf (ls : List Int) (n : Nat) : List Ino := (List.range n).map (inoOf ls)
def densOf (ls : List Int) (n : Nat) : List Den := (List.range n).map (denOf ls)
def allGood (ls : List Int) (n : Nat) : Bool := (List.range n).all (denGood ls)
theorem inosOf_succ (ls : List Int) (n : Nat) : inosOf ls (n + 1) = inosOf ls n ++ [inoOf ls n] := by unfold inosOf; rw [List.range_succ, List.map_append]; rfl
theorem densOf_succ (ls : List Int) (n : Nat) : densOf ls (n + 1) = densOf ls n ++ [denOf ls n] := by unfold densOf; rw [List.range_succ, List.map_append]; rfl
theorem inosOf_len (ls : List Int) (n : Nat) : (inosOf ls n).length = n := by simp [inosOf]
theorem densOf_len (ls : List Int) (n : Nat) : (densOf ls n).length = n := by simp [densOf]
theorem allGood_no {ls : List Int} {n k : Nat} (hk : k < n) (h : denGood ls k = false) : allGood ls n = false := by
  unfold allGood
  rw [List.all_eq_false]
  exact ⟨k, List.mem_range.2 hk, by rw [h]; simp⟩
theorem allGood_yes {ls : List Int} {n : Nat} (h : ∀ k, k < n → denGood ls k = true) : allGood ls n = true := by
  unfold allGood
  rw [List.all_eq_true]
  intro k hk
  exact h k (List.mem_range.1 hk)
/-- The words say a right image. -/
def riB (ls : List Int) : Bool := wdI ls 0 == 7 && (allGood ls 24 && imgB (inosOf ls 16) (densOf ls 24))
def riC (ws : List Int) (ps : List St) : Int := if pmB ws ps = true then (if riB (layW ws ps) = true then 0 else 3) else 1
def riN (ws : List Int) (ps : List St) : List Ino := if riC ws ps = 0 then inosOf (layW ws ps) 16 else []
def riD (ws : List Int) (ps : List St) : List Den := if riC ws ps = 0 then densOf (layW ws ps) 24 else []
/-- The words of a right memory, as they are loaded. -/
theorem lay_word {ws : List Int} {ps : List St} (h : pmB ws ps = true) : ∀ k (h : k < (layW ws ps).length), wordB (layW ws ps)[k] = true := by
  have h1 := pmB_word h
  have h2 : ∀ p ∈ ps, wordB p.val = true := fun p hp => by
    obtain ⟨i, hi, rfl⟩ := List.getElem_of_mem hp
    exact (pmB_store h i hi).2
  clear h
  have gen : ∀ (ps : List St) (ws : List Int), (∀ x ∈ ws, wordB x = true) → (∀ p ∈ ps, wordB p.val = true) → ∀ x ∈ layW ws ps, wordB x = true := by
    intro ps
    induction ps with
    | nil => intro ws h _ x hx; exact h x hx
    | cons p ps ih =>
      intro ws h1 h2 x hx
      refine ih (ws.set p.at_.toNat p.val) (fun y hy => ?_) (fun q hq => h2 q (List.mem_cons_of_mem _ hq)) x hx
      rcases List.mem_or_eq_of_mem_set hy with hy | hy
      · exact h1 y hy
      · rw [hy]; exact h2 p (List.mem_cons_self ..)
  intro k hk
  exact gen ps ws (fun x hx => by obtain ⟨i, hi, rfl⟩ := List.getElem_of_mem hx; exact h1 i hi) h2 _ (List.getElem_mem hk)
theorem wdI_range {ws : List Int} {ps : List St} (h : pmB ws ps = true) (z : Int) : 0 ≤ wdI (layW ws ps) z ∧ wdI (layW ws ps) z < 1099511627776 := by
  unfold wdI
  rw [List.getD_eq_getElem?_getD]
  by_cases c : z.toNat < (layW ws ps).length
  · rw [List.getElem?_eq_getElem c]
    have := lay_word h _ c
    unfold wordB at this
    simp at this
    simpa using this
  · rw [List.getElem?_eq_none (by omega)]
    exact ⟨by simp, by simp⟩
theorem inoOf_R {ws : List Int} {ps : List St} (h : pmB ws ps = true) (i : Nat) : (inoOf (layW ws ps) i).R := by
  intro z hz
  have all : ∀ y, -9223372036854775808 ≤ wdI (layW ws ps) y ∧ wdI (layW ws ps) y ≤ 9223372036854775807 := fun y => by have := wdI_range h y; omega
  simp only [Ino.map, inoOf, List.mem_cons, List.not_mem_nil, or_false] at hz
  rcases hz with rfl | rfl | rfl | rfl | rfl | rfl | rfl | rfl <;> exact all _
theorem unpS_len (n : Int) : (unpS n).size ≤ 6 := by
  unfold unpS
  split
  · rename_i h
    have := (of_decide_eq_true h).2.2
    show ((digs n.toNat).map fun d => UInt8.ofNat (96 + d)).toArray.size ≤ 6
    simpa using this
  · exact Nat.zero_le _
theorem denOf_name (ls : List Int) (k : Nat) : (denOf ls k).name.size ≤ maxLen := by
  unfold denOf
  split
  · exact Nat.zero_le _
  · have := unpS_len (wdI ls (240 + 3 * (k : Int) + 1))
    show (unpS _).size ≤ maxLen
    unfold maxLen
    omega

theorem ld_any (v : Value) (ws : List Int) (ps : List St) (z : Int) (w : World) (h : RdPm w v ws ps) (hp : pmB ws ps = true) (h0 : 0 ≤ z ∧ z < 336) :
    Calls Tryz.prog 151 #[v, .int .i64 z] w fun e w' => e = .returned (.int .i64 (wdI (layW ws ps) z)) ∧ Below w.heap.size w w' := by
  obtain ⟨n, rfl⟩ : ∃ n : Nat, z = (n : Int) := ⟨z.toNat, by omega⟩
  obtain ⟨l1, l2⟩ := pmB_len hp
  have hn : n < ws.length := by omega
  rw [wdI_of (by rw [layW_len]; exact hn), layW_at ps ws n hn (fun p hq => by obtain ⟨i, hi, rfl⟩ := List.getElem_of_mem hq; exact (pmB_at hp i hi).1)]
  exact l01Load_any v ws ps n w h (by omega) (by omega) hn
end Go.Proofs.YtcilodgoognmnaaGreatDoor

namespace Go.Proofs.YtcilodgoognmnaaGreatDoor
open Go.RowKit

/-- All words of updates that reach inodes and entries alone. -/
def UpIn (us : List Se) : Prop := ∀ u ∈ us, 48 ≤ u.at_ ∧ u.at_ < 312
theorem UpIn.app {us vs : List Se} (h : UpIn us) (k : UpIn vs) : UpIn (us ++ vs) := fun u hu => by
  rcases List.mem_append.1 hu with q | q
  · exact h u q
  · exact k u q
theorem enL_in {k : Nat} (hk : k < 24) (x : Den) : UpIn (enL (k : Int) x) := fun u hu => by
  simp only [enL, List.mem_cons, List.not_mem_nil, or_false] at hu
  rcases hu with rfl | rfl | rfl
  · exact ⟨by show 48 ≤ 240 + 3 * (k : Int); omega, by show 240 + 3 * (k : Int) < 312; omega⟩
  · exact ⟨by show 48 ≤ 240 + 3 * (k : Int) + 1; omega, by show 240 + 3 * (k : Int) + 1 < 312; omega⟩
  · exact ⟨by show 48 ≤ 240 + 3 * (k : Int) + 2; omega, by show 240 + 3 * (k : Int) + 2 < 312; omega⟩
end Go.Proofs.YtcilodgoognmnaaGreatDoor

namespace Go.Proofs.YtcilodgoognmnaaGreatDoor
open Go.RowKit

theorem den_child {ps : List Den} {k : Nat} (h : k < ps.length) : childAt ps k = (denAt ps k).child := childAt_den h
theorem fe_free {ws : List Ino} {ps : List Den} (h : Img ws ps) (f : ¬ feI ps < 0) : ∃ k : Nat, feI ps = (k : Int) ∧ k < 24 ∧ denAt ps k = freeD := by
  have hit := first_hit (p := fun i => decide (childAt ps i < 0)) (n := ps.length) f
  have b := (first_bound (fun i => decide (childAt ps i < 0)) ps.length).2
  have e : feI ps = firstIx (fun i => decide (childAt ps i < 0)) ps.length := rfl
  rw [← e] at hit b
  refine ⟨(feI ps).toNat, by omega, by have := h.l24; omega, ?_⟩
  have hk : (feI ps).toNat < ps.length := by omega
  have c : childAt ps (feI ps).toNat < 0 := of_decide_eq_true hit
  rw [den_child hk] at c
  rcases h.ent (feI ps).toNat (by have := h.l24; omega) with q | q
  · exact q
  · have := q.1; omega
theorem fi_free {ws : List Ino} {ps : List Den} (h : Img ws ps) (f : ¬ fiI ws < 0) : ∃ i : Nat, fiI ws = (i : Int) ∧ i < 16 ∧ (inoAt ws i).kind = 0 := by
  have hit := first_hit (p := fun i => decide (1 ≤ i) && kindAt ws (i : Int) == 0) (n := ws.length) f
  have b := (first_bound (fun i => decide (1 ≤ i) && kindAt ws (i : Int) == 0) ws.length).2
  have e : fiI ws = firstIx (fun i => decide (1 ≤ i) && kindAt ws (i : Int) == 0) ws.length := rfl
  rw [← e] at hit b
  refine ⟨(fiI ws).toNat, by omega, by have := h.l16; omega, ?_⟩
  simp only [Bool.and_eq_true, beq_iff_eq] at hit
  rw [← kindAt_ino]
  exact hit.2
theorem ent_at {ws : List Ino} {ps : List Den} (h : Img ws ps) {d : Int} {nm : ByteArray} {k : Nat} (e : entAt ps d nm = some k) : k < 24 ∧ ∃ i : Nat, childAt ps k = (i : Int) ∧ (denAt ps k).child = (i : Int) ∧ i < 16 ∧ EntOK ws (denAt ps k) ∧ (denAt ps k).dir = d ∧ (denAt ps k).name = nm := by
  obtain ⟨hk, q⟩ := ent_some e
  have hk24 : k < 24 := by have := h.l24; omega
  obtain ⟨c, hd, hn⟩ := hit_iff.1 q
  rw [← denAt_of hk] at c hd hn
  have ok : EntOK ws (denAt ps k) := by
    rcases h.ent k hk24 with r | r
    · rw [r] at c; exact absurd c (by decide)
    · exact r
  refine ⟨hk24, (denAt ps k).child.toNat, ?_, by omega, by have := ok.1; omega, ok, hd, hn⟩
  rw [den_child hk]
  omega
theorem wk_kind {ws : List Ino} {ps : List Den} (h : Img ws ps) : ∀ (ns : List ByteArray) (z : Int), (wk ws ps z ns).2 = 0 → ¬ kindAt ws z = 0 → ¬ kindAt ws (wk ws ps z ns).1 = 0
  | [], z, _, k => k
  | n :: ns, z, c, k => by
    by_cases q : kindAt ws z = 2
    · cases e : entAt ps z n with
      | none => rw [wk_none q e] at c; cases c
      | some j =>
        rw [wk_some q e] at c ⊢
        obtain ⟨_, i, ci, ck, _, ok, _, _⟩ := ent_at h e
        refine wk_kind h ns _ c ?_
        rw [ci, ← ck]
        exact ok.2.2.2.1
    · rw [wk_nodir q] at c; cases c
theorem wk_root {ws : List Ino} {ps : List Den} (h : Img ws ps) : ∀ (ns : List ByteArray) (z : Int), (wk ws ps z ns).2 = 0 → (wk ws ps z ns).1 = z ∨ 1 ≤ (wk ws ps z ns).1
  | [], z, _ => .inl rfl
  | n :: ns, z, c => by
    by_cases q : kindAt ws z = 2
    · cases e : entAt ps z n with
      | none => rw [wk_none q e] at c; cases c
      | some k =>
        rw [wk_some q e] at c ⊢
        obtain ⟨_, i, ci, ck, _, ok, _, _⟩ := ent_at h e
        have := ok.1
        rcases wk_root h ns _ c with r | r
        · right
          rw [r, ci]
          omega
        · exact .inr r
    · rw [wk_nodir q] at c; cases c
/-- A file that is looked up. -/
theorem lk_plain {ws : List Ino} {ps : List Den} {s : ByteArray} (h : Img ws ps) (c : (lkI ws ps s).2 = 0) (k : ¬ kindAt ws (lkI ws ps s).1 = 2) : ∃ i : Nat, (lkI ws ps s).1 = (i : Int) ∧ i < 16 ∧ ¬ i = 0 ∧ (inoAt ws i).kind = 1 := by
  have rg := lkI_ok (s := s) (img_iff.2 h)
  refine ⟨(lkI ws ps s).1.toNat, by omega, by omega, ?_⟩
  unfold lkI at c k rg ⊢
  by_cases q : spB s = true
  · rw [if_pos q] at c k rg ⊢
    have r1 : kindAt ws 0 = 2 := h.root
    have kk := wk_kind h (spL s) 0 c (by rw [r1]; decide)
    have hp : 1 ≤ (wk ws ps 0 (spL s)).1 := by
      rcases wk_root h _ 0 c with r | r
      · rw [r] at k; exact absurd r1 k
      · exact r
    refine ⟨by omega, ?_⟩
    obtain ⟨n, hn⟩ : ∃ n : Nat, (wk ws ps 0 (spL s)).1 = (n : Int) := ⟨(wk ws ps 0 (spL s)).1.toNat, by omega⟩
    rw [hn] at k kk rg ⊢
    rw [Int.toNat_natCast]
    rw [kindAt_ino] at k kk
    have := (ino_parts (h.ok n (by omega))).1
    omega
  · rw [if_neg q] at c; cases c
end Go.Proofs.YtcilodgoognmnaaGreatDoor

namespace Go.Proofs.YtcilodgoognmnaaGreatDoor
open Go.RowKit

/-- The cells of a list of bytes. -/
def bys (zs : List Int) : List Value := zs.map (Value.int .u8)
theorem bys_at (zs : List Int) (k : Nat) (h : k < zs.length) : (bys zs)[k]? = some (.int .u8 zs[k]) := by simp [bys, h]

/-- A slice of bytes that can be read. -/
def RdB (w : World) (v : Value) (zs : List Int) : Prop := Rd w 1 v zs.length (bys zs) ∧ ∀ k (h : k < zs.length), 0 ≤ zs[k] ∧ zs[k] < 256
theorem RdB.shape {w : World} {v : Value} {zs : List Int} (h : RdB w v zs) : ∃ ao cap, v = .slice ao zs.length cap ∧ zs.length ≤ cap ∧ (0 < zs.length → ∃ b o, ao = some ⟨b, o, none⟩ ∧ b < w.heap.size ∧ ∀ k (h : k < zs.length), w.cell? ⟨b, o + k, none⟩ = some (.int .u8 zs[k])) := by
  obtain ⟨⟨_, ao, cap, rfl, h2, h3⟩, _⟩ := h
  refine ⟨ao, cap, rfl, h2.1, fun hn => ?_⟩
  obtain ⟨b, o, rfl, hb, hc⟩ := h3 hn
  exact ⟨b, o, rfl, hb, fun k hk => (hc k (by omega)).trans (bys_at zs k hk)⟩
theorem RdB.below {w w' : World} {v : Value} {zs : List Int} (h : RdB w v zs) (hb : Below w.heap.size w w') : RdB w' v zs := ⟨h.1.below hb, h.2⟩

end Go.Proofs.YtcilodgoognmnaaGreatDoor

namespace Go.Proofs.YtcilodgoognmnaaGreatDoor
open Go.RowKit

/-- In the midst of the model's crash: the words so far, the stores, the places. -/
structure CrInv (w wr : World) (n : Nat) (X : List Int) (ps : List St) (us : List Int) (lo hi hi2 : Nat) (vW vP vU : Value) : Prop where
  words : Row wr 3 1 lo hi vW n (ints X)
  pend : Row wr 197 3 lo hi vP ps.length (sts ps)
  plc : Row wr 3 1 hi hi2 vU us.length (ints us)
  box : wr.heap[w.heap.size]? = some (.cells #[vW, vP] 36 (0, 0))
  res : wr.heap[w.heap.size + 1]? = some (.cells #[.slice none 0 0, .slice none 0 0] 36 (0, 0))
  below : Below w.heap.size w wr
  size : hi2 ≤ wr.heap.size

theorem CrInv.drew {w wr : World} {n : Nat} {X : List Int} {ps : List St} {us : List Int} {lo hi hi2 : Nat} {vW vP vU : Value} (h : CrInv w wr n X ps us lo hi hi2 vW vP vU) : CrInv w wr.drew n X ps us lo hi hi2 vW vP vU := by
  obtain ⟨h1, h2, h3, h4, h5, h6, h7⟩ := h
  exact ⟨h1.same (fun _ _ _ => rfl), h2.same (fun _ _ _ => rfl), h3.same (fun _ _ _ => rfl), h4, h5, h6.drew, h7⟩
theorem CrInv.store {w wr : World} {n : Nat} {X : List Int} {ps : List St} {us : List Int} {lo hi hi2 : Nat} {b cap : Nat} {vP vU : Value} (h : CrInv w wr n X ps us lo hi hi2 (.slice (some ⟨b, 0, none⟩) n cap) vP vU) (hlo : w.heap.size + 2 ≤ lo) (a : Nat) (x : Int) :
    CrInv w (wr.setCell ⟨b, a, none⟩ (.int .i64 x)) n (X.set a x) ps us lo hi hi2 (.slice (some ⟨b, 0, none⟩) n cap) vP vU := by
  obtain ⟨h1, h2, h3, h4, h5, h6, h7⟩ := h
  obtain ⟨_, hb1, hb2, _⟩ := h1.at
  refine ⟨?_, h2.apart h1 (by decide) (World.ownsRow.stored h1.1 _ _).2, h3.same (fun k hk _ => Below.heap_setCell _ _ _ _ (by simp only; omega)), ?_, ?_, h6.setCell (by simp only; omega) _, by simp; omega⟩
  · rw [← ints_set]; exact h1.stored _ _
  · rw [Below.heap_setCell _ _ _ _ (by simp only; omega)]; exact h4
  · rw [Below.heap_setCell _ _ _ _ (by simp only; omega)]; exact h5

end Go.Proofs.YtcilodgoognmnaaGreatDoor

namespace Go.Proofs.YtcilodgoognmnaaGreatDoor
open Go.RowKit

/-- In the midst of a copy: what was there is as it was; the argument's box and the answer's variable. -/
def CopyInv (w a : World) (x y : Value) : Prop := Below w.heap.size w a ∧ a.heap[w.heap.size]? = some (.cells #[x, y] 36 (0, 0)) ∧ a.heap[w.heap.size + 1]? = some (.cells #[.slice none 0 0, .slice none 0 0] 36 (0, 0))
theorem CopyInv.grown {w a b : World} {x y : Value} (h : CopyInv w a x y) (hg : a.grownBy b none) : CopyInv w b x y := by
  obtain ⟨h1, h2, h3⟩ := h
  have l2 := (Array.getElem?_eq_some_iff.1 h2).1
  have l3 := (Array.getElem?_eq_some_iff.1 h3).1
  exact ⟨h1.grown hg h1.size (fun k hk => by cases hk), (hg.block _ l2 (by simp)).trans h2, (hg.block _ l3 (by simp)).trans h3⟩
theorem CopyInv.rd {w a : World} {x y : Value} (h : CopyInv w a x y) {size : Nat} {v : Value} {n : Nat} {xs : List Value} (hr : Rd w size v n xs) : Rd a size v n xs := hr.below h.1
theorem CopyInv.base {w a : World} {x y : Value} (h : CopyInv w a x y) : w.heap.size + 2 ≤ a.heap.size := (Array.getElem?_eq_some_iff.1 h.2.2).1
end Go.Proofs.YtcilodgoognmnaaGreatDoor

namespace Go.Proofs.YtcilodgoognmnaaGreatDoor
open Go.RowKit

/-- A store of the line is flushed; any other is as it was. -/
def fl1 (k : Int) (p : St) : St := if p.at_ / 8 = k / 8 then ⟨p.at_, p.val, true⟩ else p
end Go.Proofs.YtcilodgoognmnaaGreatDoor

namespace Go.Proofs.YtcilodgoognmnaaGreatDoor
open Go.RowKit

/-- A memory that the document allows, with at most n stores. -/
structure PmP (ws : List Int) (ps : List St) (n : Nat) : Prop where
  len : ws.length = 336
  few : ps.length ≤ n
  word : ∀ z ∈ ws, 0 ≤ z ∧ z < 1099511627776
  store : ∀ p ∈ ps, (0 ≤ p.at_ ∧ p.at_ < 336) ∧ 0 ≤ p.val ∧ p.val < 1099511627776
  ord : ps.Pairwise (fun p q => p.at_ = q.at_ → q.fl = true → p.fl = true)
theorem PmP.ok {ws : List Int} {ps : List St} {n : Nat} (h : PmP ws ps n) (hn : n ≤ 400) : pmB ws ps = true :=
  pmB_mk h.len (Nat.le_trans h.few hn) (fun _ hk => decide_eq_true (h.word _ (List.getElem_mem hk))) (fun _ hk => ⟨decide_eq_true (h.store _ (List.getElem_mem hk)).1, decide_eq_true (h.store _ (List.getElem_mem hk)).2⟩)
theorem PmP.at {ws : List Int} {ps : List St} {n : Nat} (h : PmP ws ps n) : ∀ j (hj : j < ps.length), 0 ≤ ps[j].at_ ∧ ps[j].at_ < 336 := fun _ hj => (h.store _ (List.getElem_mem hj)).1
/-- A memory that can be read lies in no block that is too small for it, or has no such cells: what is written there does not reach it. -/
theorem RdPm.away {w w' : World} {b : Nat} {v : Value} {ws : List Int} {ps : List St} {cs : Array Value} {t : TypeId} {fr : Nat × Nat} (h : RdPm w v ws ps) (hl : ws.length = 336) (hb : w.heap[b]? = some (.cells cs t fr)) (hcs : ∀ o f, cs[o + 3]? = none ∧ ¬ cs[o + 2]? = some (.bool f)) (hz : w.heap.size ≤ w'.heap.size) (ho : ∀ j, j < w.heap.size → ¬ j = b → w'.heap[j]? = w.heap[j]?) : RdPm w' v ws ps := by
  obtain ⟨vW, vP, rfl, h1, h2⟩ := h
  refine ⟨vW, vP, rfl, h1.same hz (fun j hj he => ho j hj (fun e => ?_)), ?_⟩
  · subst e
    obtain ⟨_, ao, cap, rfl, _, hc⟩ := h1
    obtain ⟨b', o, rfl, _, hc⟩ := hc (by omega)
    simp only [Value.ownBlock, Option.some.injEq] at he
    subst he
    have := hc 3 (by omega)
    rw [ints_at ws 3 (by omega)] at this
    simp only [World.cell?, hb] at this
    have e := (hcs o true).1
    simp_all
  · by_cases hp : 0 < ps.length
    · refine h2.same hz (fun j hj he => ho j hj (fun e => ?_))
      subst e
      obtain ⟨_, ao, cap, rfl, _, hc⟩ := h2
      obtain ⟨b', o, rfl, _, hc⟩ := hc hp
      simp only [Value.ownBlock, Option.some.injEq] at he
      subst he
      have := hc 2 (by omega)
      rw [show (2 : Nat) = 0 * 3 + 2 by omega, sts_at2 ps 0 hp] at this
      simp only [World.cell?, hb] at this
      have e := (hcs o ps[0].fl).2
      simp_all
    · obtain ⟨h3, ao, cap, rfl, h4, _⟩ := h2
      exact ⟨h3, ao, cap, rfl, h4, fun h => absurd h hp⟩
theorem RdPm.boxed {w w' : World} {b : Nat} {v x y : Value} {ws : List Int} {ps : List St} {t : TypeId} {fr : Nat × Nat} (h : RdPm w v ws ps) (hl : ws.length = 336) (hb : w.heap[b]? = some (.cells #[x, y] t fr)) (hz : w.heap.size ≤ w'.heap.size) (ho : ∀ j, j < w.heap.size → ¬ j = b → w'.heap[j]? = w.heap[j]?) : RdPm w' v ws ps :=
  h.away hl hb (fun o f => ⟨by simp, by simp⟩) hz ho

end Go.Proofs.YtcilodgoognmnaaGreatDoor

namespace Go.Proofs.YtcilodgoognmnaaGreatDoor
open Go.ChangeShapes Go.WideShapes Go.ChangeAt Go.RowKit Go.Joins

theorem own : ownKnob Tryz.prog.godebug = none := by kernel_rfl
theorem laidOut : laidOutB Tryz.prog = true := by kernel_rfl
theorem cells3 : Tryz.prog.cellsOf 3 = 1 := by kernel_rfl
theorem cells4 : Tryz.prog.cellsOf 4 = 1 := by kernel_rfl

theorem exists_list {α : Type} {P : Nat → α → Prop} : ∀ (n : Nat), (∀ i, i < n → ∃ x, P i x) → ∃ l : List α, l.length = n ∧ ∀ i (hi : i < l.length), P i l[i]
  | 0, _ => ⟨[], rfl, fun i hi => absurd hi (by simp)⟩
  | n + 1, h => by
    obtain ⟨l, hl, hp⟩ := exists_list n (fun i hi => h i (by omega))
    obtain ⟨x, hx⟩ := h n (by omega)
    refine ⟨l ++ [x], by simp [hl], fun i hi => ?_⟩
    by_cases e : i < l.length
    · rw [List.getElem_append_left e]; exact hp i e
    · have e' : i = n := by simp at hi; omega
      subst e'
      rw [List.getElem_append_right (by omega)]
      simpa [hl] using hx

section

variable {H : Type} {enc : TypeId × Value → H} {W : World} {sp : Nat → Bool} {held : Bool} {fuel : Nat} {v : Value} {y : DataW H × List MemPlace}

theorem open_RdI (h : DataW.trod enc Tryz.prog W 0 sp held fuel 22 [v] = some y) : ∃ zs : List Int, RdI W v zs ∧ zs.length ≤ maxLen ∧ ∀ z ∈ zs, (Lit.int .i64 z).wf = true := by
  rcases open_ints Tryz.underlying22 Tryz.underlying3 cells3 h with ⟨hcs, _⟩ | ⟨a, len, cap, zs, hcs, _, hl, hm, hz, _, hcell, hwz⟩
  · simp only [List.cons.injEq, and_true] at hcs
    subst hcs
    exact ⟨[], ⟨rfl, none, 0, rfl, ⟨Nat.le_refl _, fun _ => rfl⟩, fun h => absurd h (by simp)⟩, by simp, fun z hz => by simp at hz⟩
  · simp only [List.cons.injEq, and_true] at hcs
    subst hcs
    have hzl : len ≤ zs.length := by rw [hz]; split <;> omega
    have e : (zs.take len).length = len := by simp; omega
    refine ⟨zs.take len, ⟨by simp [ints], some a, cap, by rw [e], ⟨by rw [e]; exact hl, fun e => by cases e⟩, fun hn => ?_⟩, by rw [e]; omega, fun z hz => hwz z (List.mem_of_mem_take hz)⟩
    rw [e] at hn
    obtain ⟨b, off, spot⟩ := a
    have hc := hcell 0 (by omega)
    have hspot : spot = none := by simpa [Addr.add] using World.cell?_spot hc
    subst hspot
    refine ⟨b, off, rfl, World.block_lt_of_cell? W _ (by simpa [Addr.add] using hc), fun j hj => ?_⟩
    rw [e] at hj
    have hc := hcell j (by omega)
    rw [Addr.add_lit] at hc
    rw [hc, ints_at _ j (by rw [e]; omega)]
    simp [List.getD, show j < zs.length by omega]

end

end Go.Proofs.YtcilodgoognmnaaGreatDoor

namespace Go.Proofs.YtcilodgoognmnaaGreatDoor
open Go.ChangeShapes Go.WideShapes Go.ChangeAt Go.RowKit Go.Joins

theorem cellsStore : Tryz.prog.cellsOf 199 = 3 := by kernel_rfl
theorem cellsPm : Tryz.prog.cellsOf 25 = 2 := by kernel_rfl

section

variable {H : Type} {enc : TypeId × Value → H} {W : World} {sp : Nat → Bool} {held : Bool} {fuel : Nat} {v : Value} {y : DataW H × List MemPlace}

set_option maxRecDepth 100000 in
theorem open_RdS (h : DataW.trod enc Tryz.prog W 0 sp held fuel 23 [v] = some y) : ∃ ps : List St, RdS W v ps ∧ ps.length ≤ maxLen ∧ ∀ p ∈ ps, (Lit.int .i64 p.at_).wf = true ∧ (Lit.int .i64 p.val).wf = true := by
  rcases Deep.open_slice Tryz.underlying23 h with ⟨hcs, _⟩ | ⟨a, len, cap, m, n, D, Pl, hcs, _, hl, hm, hmm, _, hel⟩
  · simp only [List.cons.injEq, and_true] at hcs
    subst hcs
    exact ⟨[], ⟨rfl, none, 0, rfl, ⟨Nat.le_refl _, fun _ => rfl⟩, fun h => absurd h (by simp)⟩, by simp, fun p hp => by simp at hp⟩
  · simp only [List.cons.injEq, and_true] at hcs
    subst hcs
    have hlm : len ≤ m := by rw [hmm]; split <;> omega
    have one : ∀ i, i < len → ∃ s : St, (W.cell? ((a.add (i * 3)).add 0) = some (.int .i64 s.at_) ∧ W.cell? ((a.add (i * 3)).add 1) = some (.int .i64 s.val) ∧ W.cell? ((a.add (i * 3)).add 2) = some (.bool s.fl)) ∧ (Lit.int .i64 s.at_).wf = true ∧ (Lit.int .i64 s.val).wf = true := by
      intro i hi
      obtain ⟨cs, hcs, ht⟩ := hel i (by omega)
      rw [cellsStore] at hcs
      obtain ⟨_, hlen, hc⟩ := World.cells?_some hcs
      obtain ⟨y0, y1, y2, n', _, _, t0, t1, t2⟩ := Deep.trod_struct3 Tryz.underlying199 ht
      obtain ⟨z0, e0, _, w0⟩ := DataW.trod_int Tryz.underlying3 t0
      obtain ⟨z1, e1, _, w1⟩ := DataW.trod_int Tryz.underlying3 t1
      obtain ⟨z2, e2, _⟩ := DataW.trod_bool Tryz.underlying4 t2
      simp only [cells3, cells4] at e0 e1 e2
      match cs, hlen with
      | [c0, c1, c2], _ =>
        simp at e0 e1 e2
        subst e0 e1 e2
        exact ⟨⟨z0, z1, z2⟩, ⟨by simpa using hc 0 (by omega), by simpa using hc 1 (by omega), by simpa using hc 2 (by omega)⟩, w0, w1⟩
    obtain ⟨ps, hpl, hps⟩ := exists_list len one
    refine ⟨ps, ⟨sts_len ps, some a, cap, by rw [hpl], ⟨by rw [hpl]; exact hl, fun e => by cases e⟩, fun hn => ?_⟩, by rw [hpl]; omega, fun p hp => ?_⟩
    · obtain ⟨b, off, spot⟩ := a
      have hc := (hps 0 hn).1.1
      have hspot : spot = none := by simpa [Addr.add] using World.cell?_spot hc
      subst hspot
      refine ⟨b, off, rfl, World.block_lt_of_cell? W _ (by simpa [Addr.add] using hc), fun j hj => ?_⟩
      have hk : j / 3 < ps.length := by omega
      obtain ⟨⟨q0, q1, q2⟩, _⟩ := hps (j / 3) hk
      simp only [Addr.add_lit, Nat.add_zero] at q0 q1 q2
      have hj3 : j = j / 3 * 3 + j % 3 := by omega
      rcases (show j % 3 = 0 ∨ j % 3 = 1 ∨ j % 3 = 2 from by omega) with r | r | r
      · rw [hj3, r, Nat.add_zero, q0, sts_at0 ps _ hk]
      · rw [hj3, r, ← Nat.add_assoc, q1, sts_at1 ps _ hk]
      · rw [hj3, r, ← Nat.add_assoc, q2, sts_at2 ps _ hk]
    · obtain ⟨i, hi, rfl⟩ := List.getElem_of_mem hp
      exact (hps i hi).2

end

end Go.Proofs.YtcilodgoognmnaaGreatDoor

namespace Go.Proofs.YtcilodgoognmnaaGreatDoor
open Go.RowKit

/-- Behind the region that draws a place and flushes there. -/
structure CutF (w3 wx : World) (ws : List Int) (ps : List St) (k : Int) (aW aP : Option Addr) (cW cP bx : Nat) : Prop where
  k0 : 0 ≤ k
  k1 : k < 336
  lo : w3.heap.size ≤ bx
  hi : bx < wx.heap.size
  box : wx.heap[bx]? = some (.cells #[.slice aW 336 cW, .slice aP ps.length cP] 36 (0, 0))
  rd : RdPm wx (.agg #[.slice aW 336 cW, .slice aP ps.length cP]) ws (ps.map (fl1 k))
  below : Below w3.heap.size w3 wx
theorem CutF.drew {w3 wx : World} {ws : List Int} {ps : List St} {k : Int} {aW aP : Option Addr} {cW cP bx : Nat} (h : CutF w3 wx ws ps k aW aP cW cP bx) : CutF w3 wx.drew ws ps k aW aP cW cP bx :=
  ⟨h.k0, h.k1, h.lo, h.hi, h.box, h.rd.below ((Below.refl _ _).drew), h.below.drew⟩
theorem CutF.new {w3 wf : World} {ws : List Int} {ps : List St} {k : Int} {aW aP : Option Addr} {cW cP : Nat} (k0 : 0 ≤ k) (k1 : k < 336) (hr : RdPm wf (.agg #[.slice aW 336 cW, .slice aP ps.length cP]) ws (ps.map (fl1 k))) (hb : Below w3.heap.size w3 wf) : CutF w3 (wf.alloc (.cells #[.slice aW 336 cW, .slice aP ps.length cP] 36)) ws ps k aW aP cW cP wf.heap.size :=
  ⟨k0, k1, hb.size, by simp, at_new rfl, hr.below ((Below.refl _ _).alloc (Nat.le_refl _) _), below_allocS hb _⟩
theorem CutF.old {w3 wf : World} {ws : List Int} {ps : List St} {k : Int} {aW aP : Option Addr} {cW cP bx : Nat} (k0 : 0 ≤ k) (k1 : k < 336) (hl : ws.length = 336) (hr : RdPm wf (.agg #[.slice aW 336 cW, .slice aP ps.length cP]) ws (ps.map (fl1 k))) (hb : Below w3.heap.size w3 wf) (hx : w3.heap.size ≤ bx) (hv : wf.heap[bx]? = some (.cells #[.slice none 0 0, .slice none 0 0] 36 (0, 0))) : CutF w3 ((wf.setCell ⟨bx, 0, none⟩ (.slice aW 336 cW)).setCell ⟨bx, 1, none⟩ (.slice aP ps.length cP)) ws ps k aW aP cW cP bx :=
  ⟨k0, k1, hx, by have := (Array.getElem?_eq_some_iff.1 hv).1; simpa [World.setCell] using this, by simp [World.setCell, Array.getElem?_modify, hv],
    hr.boxed hl hv (by simp [World.setCell]) (fun j _ hne => by rw [Below.heap_setCell _ _ _ _ (by simp only; omega), Below.heap_setCell _ _ _ _ (by simp only; omega)]),
    (hb.setCell (by simp only; omega) _).setCell (by simp only; omega) _⟩
end Go.Proofs.YtcilodgoognmnaaGreatDoor

namespace Go.Proofs.YtcilodgoognmnaaGreatDoor
open Go.RowKit

/-- Behind a region that draws what is kept, and crashes. -/
structure CutC (w0 wx : World) (X : List Int) (aW aP : Option Addr) (cW cP bx : Nat) : Prop where
  lo : w0.heap.size ≤ bx
  hi : bx < wx.heap.size
  box : wx.heap[bx]? = some (.cells #[.slice aW 336 cW, .slice aP 0 cP] 36 (0, 0))
  rd : RdPm wx (.agg #[.slice aW 336 cW, .slice aP 0 cP]) X []
  below : Below w0.heap.size w0 wx
theorem CutC.drew {w0 wx : World} {X : List Int} {aW aP : Option Addr} {cW cP bx : Nat} (h : CutC w0 wx X aW aP cW cP bx) : CutC w0 wx.drew X aW aP cW cP bx :=
  ⟨h.lo, h.hi, h.box, h.rd.below ((Below.refl _ _).drew), h.below.drew⟩
theorem CutC.new {w0 wf : World} {X : List Int} {aW aP : Option Addr} {cW cP : Nat} (hr : RdPm wf (.agg #[.slice aW 336 cW, .slice aP 0 cP]) X []) (hb : Below w0.heap.size w0 wf) : CutC w0 (wf.alloc (.cells #[.slice aW 336 cW, .slice aP 0 cP] 36)) X aW aP cW cP wf.heap.size :=
  ⟨hb.size, by simp, at_new rfl, hr.below ((Below.refl _ _).alloc (Nat.le_refl _) _), below_allocS hb _⟩
theorem CutC.old {w0 wf : World} {X : List Int} {aW aP : Option Addr} {cW cP bx : Nat} (hl : X.length = 336) (hr : RdPm wf (.agg #[.slice aW 336 cW, .slice aP 0 cP]) X []) (hb : Below w0.heap.size w0 wf) (hx : w0.heap.size ≤ bx) (hv : wf.heap[bx]? = some (.cells #[.slice none 0 0, .slice none 0 0] 36 (0, 0))) : CutC w0 ((wf.setCell ⟨bx, 0, none⟩ (.slice aW 336 cW)).setCell ⟨bx, 1, none⟩ (.slice aP 0 cP)) X aW aP cW cP bx :=
  ⟨hx, by have := (Array.getElem?_eq_some_iff.1 hv).1; simpa [World.setCell] using this, by simp [World.setCell, Array.getElem?_modify, hv],
    hr.boxed hl hv (by simp [World.setCell]) (fun j _ hne => by rw [Below.heap_setCell _ _ _ _ (by simp only; omega), Below.heap_setCell _ _ _ _ (by simp only; omega)]),
    (hb.setCell (by simp only; omega) _).setCell (by simp only; omega) _⟩
end Go.Proofs.YtcilodgoognmnaaGreatDoor

namespace Go.Proofs.YtcilodgoognmnaaGreatDoor
open Go.RowKit

/-- A step. -/
structure Mi where
  kind : Int
  at_ : Int
  val : Int
/-- A step as a value. -/
def Mi.v (m : Mi) : Value := .agg #[.int .i64 m.kind, .int .i64 m.at_, .int .i64 m.val]
end Go.Proofs.YtcilodgoognmnaaGreatDoor

namespace Go.Proofs.YtcilodgoognmnaaGreatDoor

/-- An update: a place and a value; as a store that is not flushed. -/
def up (a v : Int) : St := ⟨a, v, false⟩
def stM (p : St) : Mi := ⟨1, p.at_, p.val⟩
/-- The flushes of the first places: one for each line that no place ahead has. -/
def knownL (ks : List Int) (i : Nat) : Bool := (List.range i).any (fun k => ks[k]?.getD 0 / 8 == ks[i]?.getD 0 / 8)
def nl (ks : List Int) : Nat → List Mi
  | 0 => []
  | i + 1 => if knownL ks i = true then nl ks i else nl ks i ++ [⟨2, ks[i]?.getD 0, 0⟩]
def flushL (ks : List Int) : List Mi := nl ks ks.length ++ [⟨3, 0, 0⟩]
/-- Stores, then their lines flushed, then a fence. -/
def seg (S : List St) : List Mi := S.map stM ++ flushL (S.map (·.at_))
/-- The updates as they stand in the journal. -/
def jrn : Nat → List St → List St
  | _, [] => []
  | i, u :: us => ⟨9 + 2 * (i : Int), u.at_, false⟩ :: ⟨9 + 2 * (i : Int) + 1, u.val, false⟩ :: jrn (i + 1) us
def cnt (n : Int) : List St := [⟨8, n, false⟩]
def applyL (us : List St) : List Mi := seg us ++ seg (cnt 0)
def planL (us : List St) : List Mi := if us.length = 0 then [] else seg (jrn 0 us) ++ seg (cnt (us.length : Int)) ++ applyL us
end Go.Proofs.YtcilodgoognmnaaGreatDoor
