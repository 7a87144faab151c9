/- Several texts laid together: IgH, Draw, CrashS, PmCopy, PmFlush, DrawP, OpenA, SeenM, MemM, MiS. -/
import Derived.Test.YtcilodgoognmnaaGreatDoorZBI
import Derived.Test.YtcilodgoognmnaaGreatDoorZAG
import Derived.Test.YtcilodgoognmnaaGreatDoorWt
import Derived.Test.YtcilodgoognmnaaGreatDoorZBC
import Derived.Test.YtcilodgoognmnaaGreatDoorZAB
import Derived.BigRegion
import Derived.BigQuiet
import Derived.Deep.QuietTactic
import Derived.Deep.DeepCutAuto
import Derived.Deep.RegionLaw
import Derived.Deep.RegionWith
import Derived.ProofKit
import Derived.OpenShut
import Derived.ShutString
import Derived.ChangeOld
import Derived.Lib.SmallJoins
import Derived.Deep.Slices
import Derived.Deep.Strs
namespace Go.Proofs.YtcilodgoognmnaaGreatDoor
open Go.RowKit

theorem den_child {ps : List Den} {k : Nat} (h : k < ps.length) : childAt ps k = (denAt ps k).child := childAt_den h
theorem ent_at {ws : List Ino} {ps : List Den} (h : Img ws ps) {d : Int} {nm : ByteArray} {k : Nat} (e : entAt ps d nm = some k) : k < 24 ∧ ∃ i : Nat, childAt ps k = (i : Int) ∧ (denAt ps k).child = (i : Int) ∧ i < 16 ∧ EntOK ws (denAt ps k) ∧ (denAt ps k).dir = d ∧ (denAt ps k).name = nm := by
  obtain ⟨hk, q⟩ := ent_some e
  have hk24 : k < 24 := by have := h.l24; omega
  obtain ⟨c, hd, hn⟩ := hit_iff.1 q
  rw [← denAt_of hk] at c hd hn
  have ok : EntOK ws (denAt ps k) := by
    rcases h.ent k hk24 with r | r
    · rw [r] at c; exact absurd c (by decide)
    · exact r
  refine ⟨hk24, (denAt ps k).child.toNat, ?_, by omega, by have := ok.1; omega, ok, hd, hn⟩
  rw [den_child hk]
  omega
theorem wk_kind {ws : List Ino} {ps : List Den} (h : Img ws ps) : ∀ (ns : List ByteArray) (z : Int), (wk ws ps z ns).2 = 0 → ¬ kindAt ws z = 0 → ¬ kindAt ws (wk ws ps z ns).1 = 0
  | [], z, _, k => k
  | n :: ns, z, c, k => by
    by_cases q : kindAt ws z = 2
    · cases e : entAt ps z n with
      | none => rw [wk_none q e] at c; cases c
      | some j =>
        rw [wk_some q e] at c ⊢
        obtain ⟨_, i, ci, ck, _, ok, _, _⟩ := ent_at h e
        refine wk_kind h ns _ c ?_
        rw [ci, ← ck]
        exact ok.2.2.2.1
    · rw [wk_nodir q] at c; cases c
theorem wk_root {ws : List Ino} {ps : List Den} (h : Img ws ps) : ∀ (ns : List ByteArray) (z : Int), (wk ws ps z ns).2 = 0 → (wk ws ps z ns).1 = z ∨ 1 ≤ (wk ws ps z ns).1
  | [], z, _ => .inl rfl
  | n :: ns, z, c => by
    by_cases q : kindAt ws z = 2
    · cases e : entAt ps z n with
      | none => rw [wk_none q e] at c; cases c
      | some k =>
        rw [wk_some q e] at c ⊢
        obtain ⟨_, i, ci, ck, _, ok, _, _⟩ := ent_at h e
        have := ok.1
        rcases wk_root h ns _ c with r | r
        · right
          rw [r, ci]
          omega
        · exact .inr r
    · rw [wk_nodir q] at c; cases c
/-- A file that is looked up. -/
theorem lk_plain {ws : List Ino} {ps : List Den} {s : ByteArray} (h : Img ws ps) (c : (lkI ws ps s).2 = 0) (k : ¬ kindAt ws (lkI ws ps s).1 = 2) : ∃ i : Nat, (lkI ws ps s).1 = (i : Int) ∧ i < 16 ∧ ¬ i = 0 ∧ (inoAt ws i).kind = 1 := by
  have rg := lkI_ok (s := s) (img_iff.2 h)
  refine ⟨(lkI ws ps s).1.toNat, by omega, by omega, ?_⟩
  unfold lkI at c k rg ⊢
  by_cases q : spB s = true
  · rw [if_pos q] at c k rg ⊢
    have r1 : kindAt ws 0 = 2 := h.root
    have kk := wk_kind h (spL s) 0 c (by rw [r1]; decide)
    have hp : 1 ≤ (wk ws ps 0 (spL s)).1 := by
      rcases wk_root h _ 0 c with r | r
      · rw [r] at k; exact absurd r1 k
      · exact r
    refine ⟨by omega, ?_⟩
    obtain ⟨n, hn⟩ : ∃ n : Nat, (wk ws ps 0 (spL s)).1 = (n : Int) := ⟨(wk ws ps 0 (spL s)).1.toNat, by omega⟩
    rw [hn] at k kk rg ⊢
    rw [Int.toNat_natCast]
    rw [kindAt_ino] at k kk
    have := (ino_parts (h.ok n (by omega))).1
    omega
  · rw [if_neg q] at c; cases c
end Go.Proofs.YtcilodgoognmnaaGreatDoor

namespace Go.Proofs.YtcilodgoognmnaaGreatDoor
open Go.RowKit

/-- The cells of a list of bytes. -/
def bys (zs : List Int) : List Value := zs.map (Value.int .u8)
theorem bys_at (zs : List Int) (k : Nat) (h : k < zs.length) : (bys zs)[k]? = some (.int .u8 zs[k]) := by simp [bys, h]

/-- A slice of bytes that can be read. -/
def RdB (w : World) (v : Value) (zs : List Int) : Prop := Rd w 1 v zs.length (bys zs) ∧ ∀ k (h : k < zs.length), 0 ≤ zs[k] ∧ zs[k] < 256
theorem RdB.shape {w : World} {v : Value} {zs : List Int} (h : RdB w v zs) : ∃ ao cap, v = .slice ao zs.length cap ∧ zs.length ≤ cap ∧ (0 < zs.length → ∃ b o, ao = some ⟨b, o, none⟩ ∧ b < w.heap.size ∧ ∀ k (h : k < zs.length), w.cell? ⟨b, o + k, none⟩ = some (.int .u8 zs[k])) := by
  obtain ⟨⟨_, ao, cap, rfl, h2, h3⟩, _⟩ := h
  refine ⟨ao, cap, rfl, h2.1, fun hn => ?_⟩
  obtain ⟨b, o, rfl, hb, hc⟩ := h3 hn
  exact ⟨b, o, rfl, hb, fun k hk => (hc k (by omega)).trans (bys_at zs k hk)⟩
theorem RdB.below {w w' : World} {v : Value} {zs : List Int} (h : RdB w v zs) (hb : Below w.heap.size w w') : RdB w' v zs := ⟨h.1.below hb, h.2⟩

end Go.Proofs.YtcilodgoognmnaaGreatDoor

namespace Go.Proofs.YtcilodgoognmnaaGreatDoor
open Go.RowKit

/-- In the midst of the model's crash: the words so far, the stores, the places. -/
structure CrInv (w wr : World) (n : Nat) (X : List Int) (ps : List St) (us : List Int) (lo hi hi2 : Nat) (vW vP vU : Value) : Prop where
  words : Row wr 3 1 lo hi vW n (ints X)
  pend : Row wr 197 3 lo hi vP ps.length (sts ps)
  plc : Row wr 3 1 hi hi2 vU us.length (ints us)
  box : wr.heap[w.heap.size]? = some (.cells #[vW, vP] 36 (0, 0))
  res : wr.heap[w.heap.size + 1]? = some (.cells #[.slice none 0 0, .slice none 0 0] 36 (0, 0))
  below : Below w.heap.size w wr
  size : hi2 ≤ wr.heap.size

theorem CrInv.drew {w wr : World} {n : Nat} {X : List Int} {ps : List St} {us : List Int} {lo hi hi2 : Nat} {vW vP vU : Value} (h : CrInv w wr n X ps us lo hi hi2 vW vP vU) : CrInv w wr.drew n X ps us lo hi hi2 vW vP vU := by
  obtain ⟨h1, h2, h3, h4, h5, h6, h7⟩ := h
  exact ⟨h1.same (fun _ _ _ => rfl), h2.same (fun _ _ _ => rfl), h3.same (fun _ _ _ => rfl), h4, h5, h6.drew, h7⟩
theorem CrInv.store {w wr : World} {n : Nat} {X : List Int} {ps : List St} {us : List Int} {lo hi hi2 : Nat} {b cap : Nat} {vP vU : Value} (h : CrInv w wr n X ps us lo hi hi2 (.slice (some ⟨b, 0, none⟩) n cap) vP vU) (hlo : w.heap.size + 2 ≤ lo) (a : Nat) (x : Int) :
    CrInv w (wr.setCell ⟨b, a, none⟩ (.int .i64 x)) n (X.set a x) ps us lo hi hi2 (.slice (some ⟨b, 0, none⟩) n cap) vP vU := by
  obtain ⟨h1, h2, h3, h4, h5, h6, h7⟩ := h
  obtain ⟨_, hb1, hb2, _⟩ := h1.at
  refine ⟨?_, h2.apart h1 (by decide) (World.ownsRow.stored h1.1 _ _).2, h3.same (fun k hk _ => Below.heap_setCell _ _ _ _ (by simp only; omega)), ?_, ?_, h6.setCell (by simp only; omega) _, by simp; omega⟩
  · rw [← ints_set]; exact h1.stored _ _
  · rw [Below.heap_setCell _ _ _ _ (by simp only; omega)]; exact h4
  · rw [Below.heap_setCell _ _ _ _ (by simp only; omega)]; exact h5

end Go.Proofs.YtcilodgoognmnaaGreatDoor

namespace Go.Proofs.YtcilodgoognmnaaGreatDoor
open Go.RowKit

/-- In the midst of a copy: what was there is as it was; the argument's box and the answer's variable. -/
def CopyInv (w a : World) (x y : Value) : Prop := Below w.heap.size w a ∧ a.heap[w.heap.size]? = some (.cells #[x, y] 36 (0, 0)) ∧ a.heap[w.heap.size + 1]? = some (.cells #[.slice none 0 0, .slice none 0 0] 36 (0, 0))
theorem CopyInv.rd {w a : World} {x y : Value} (h : CopyInv w a x y) {size : Nat} {v : Value} {n : Nat} {xs : List Value} (hr : Rd w size v n xs) : Rd a size v n xs := hr.below h.1
theorem CopyInv.base {w a : World} {x y : Value} (h : CopyInv w a x y) : w.heap.size + 2 ≤ a.heap.size := (Array.getElem?_eq_some_iff.1 h.2.2).1
end Go.Proofs.YtcilodgoognmnaaGreatDoor

namespace Go.Proofs.YtcilodgoognmnaaGreatDoor
open Go.RowKit

/-- A store of the line is flushed; any other is as it was. -/
def fl1 (k : Int) (p : St) : St := if p.at_ / 8 = k / 8 then ⟨p.at_, p.val, true⟩ else p
end Go.Proofs.YtcilodgoognmnaaGreatDoor

namespace Go.Proofs.YtcilodgoognmnaaGreatDoor
open Go.RowKit

/-- A memory that the document allows, with at most n stores. -/
structure PmP (ws : List Int) (ps : List St) (n : Nat) : Prop where
  len : ws.length = 336
  few : ps.length ≤ n
  word : ∀ z ∈ ws, 0 ≤ z ∧ z < 1099511627776
  store : ∀ p ∈ ps, (0 ≤ p.at_ ∧ p.at_ < 336) ∧ 0 ≤ p.val ∧ p.val < 1099511627776
  ord : ps.Pairwise (fun p q => p.at_ = q.at_ → q.fl = true → p.fl = true)
theorem PmP.at {ws : List Int} {ps : List St} {n : Nat} (h : PmP ws ps n) : ∀ j (hj : j < ps.length), 0 ≤ ps[j].at_ ∧ ps[j].at_ < 336 := fun _ hj => (h.store _ (List.getElem_mem hj)).1
end Go.Proofs.YtcilodgoognmnaaGreatDoor

namespace Go.Proofs.YtcilodgoognmnaaGreatDoor
open Go.ChangeShapes Go.WideShapes Go.ChangeAt Go.RowKit Go.Joins

theorem own : ownKnob Tryz.prog.godebug = none := by kernel_rfl
theorem laidOut : laidOutB Tryz.prog = true := by kernel_rfl
theorem cells3 : Tryz.prog.cellsOf 3 = 1 := by kernel_rfl
theorem exists_list {α : Type} {P : Nat → α → Prop} : ∀ (n : Nat), (∀ i, i < n → ∃ x, P i x) → ∃ l : List α, l.length = n ∧ ∀ i (hi : i < l.length), P i l[i]
  | 0, _ => ⟨[], rfl, fun i hi => absurd hi (by simp)⟩
  | n + 1, h => by
    obtain ⟨l, hl, hp⟩ := exists_list n (fun i hi => h i (by omega))
    obtain ⟨x, hx⟩ := h n (by omega)
    refine ⟨l ++ [x], by simp [hl], fun i hi => ?_⟩
    by_cases e : i < l.length
    · rw [List.getElem_append_left e]; exact hp i e
    · have e' : i = n := by simp at hi; omega
      subst e'
      rw [List.getElem_append_right (by omega)]
      simpa [hl] using hx

section

variable {H : Type} {enc : TypeId × Value → H} {W : World} {sp : Nat → Bool} {held : Bool} {fuel : Nat} {v : Value} {y : DataW H × List MemPlace}

end

end Go.Proofs.YtcilodgoognmnaaGreatDoor

namespace Go.Proofs.YtcilodgoognmnaaGreatDoor
open Go.RowKit

/-- Behind the region that draws a place and flushes there. -/
structure CutF (w3 wx : World) (ws : List Int) (ps : List St) (k : Int) (aW aP : Option Addr) (cW cP bx : Nat) : Prop where
  k0 : 0 ≤ k
  k1 : k < 336
  lo : w3.heap.size ≤ bx
  hi : bx < wx.heap.size
  box : wx.heap[bx]? = some (.cells #[.slice aW 336 cW, .slice aP ps.length cP] 36 (0, 0))
  rd : RdPm wx (.agg #[.slice aW 336 cW, .slice aP ps.length cP]) ws (ps.map (fl1 k))
  below : Below w3.heap.size w3 wx
theorem CutF.drew {w3 wx : World} {ws : List Int} {ps : List St} {k : Int} {aW aP : Option Addr} {cW cP bx : Nat} (h : CutF w3 wx ws ps k aW aP cW cP bx) : CutF w3 wx.drew ws ps k aW aP cW cP bx :=
  ⟨h.k0, h.k1, h.lo, h.hi, h.box, h.rd.below ((Below.refl _ _).drew), h.below.drew⟩
end Go.Proofs.YtcilodgoognmnaaGreatDoor

namespace Go.Proofs.YtcilodgoognmnaaGreatDoor
open Go.RowKit

/-- Behind a region that draws what is kept, and crashes. -/
structure CutC (w0 wx : World) (X : List Int) (aW aP : Option Addr) (cW cP bx : Nat) : Prop where
  lo : w0.heap.size ≤ bx
  hi : bx < wx.heap.size
  box : wx.heap[bx]? = some (.cells #[.slice aW 336 cW, .slice aP 0 cP] 36 (0, 0))
  rd : RdPm wx (.agg #[.slice aW 336 cW, .slice aP 0 cP]) X []
  below : Below w0.heap.size w0 wx
theorem CutC.drew {w0 wx : World} {X : List Int} {aW aP : Option Addr} {cW cP bx : Nat} (h : CutC w0 wx X aW aP cW cP bx) : CutC w0 wx.drew X aW aP cW cP bx :=
  ⟨h.lo, h.hi, h.box, h.rd.below ((Below.refl _ _).drew), h.below.drew⟩
end Go.Proofs.YtcilodgoognmnaaGreatDoor

namespace Go.Proofs.YtcilodgoognmnaaGreatDoor
open Go.RowKit

/-- A step. -/
structure Mi where
  kind : Int
  at_ : Int
  val : Int
/-- A step as a value. -/
def Mi.v (m : Mi) : Value := .agg #[.int .i64 m.kind, .int .i64 m.at_, .int .i64 m.val]
end Go.Proofs.YtcilodgoognmnaaGreatDoor
