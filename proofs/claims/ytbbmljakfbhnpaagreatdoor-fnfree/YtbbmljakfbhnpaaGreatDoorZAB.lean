/- Several texts laid together: Word, PmOK, BlkOK, Dev, Wd, MiS, Ev, PmOKI, PmLoad. -/
import Derived.Test.YtbbmljakfbhnpaaGreatDoorZAA
namespace Go.Proofs.YtbbmljakfbhnpaaGreatDoor
open Go.RowKit

def zbc (n : Int) : Bool := decide (0 ≤ n ∧ n < 1099511627776)
def zfd (n : Int) : Bool := decide (0 ≤ n ∧ n < 336)
def zvm (n : Int) : Bool := decide (0 ≤ n ∧ n < 32)
theorem secB_true {n : Int} (h : zvm n = true) : 0 ≤ n ∧ n < 32 := of_decide_eq_true h
theorem znr {n : Int} (h : zfd n = true) : 0 ≤ n ∧ n < 336 := of_decide_eq_true h

theorem zhi (n : Int) (w : World) : Calls Tryz.prog 98 #[.int .i64 n] w fun e w' => e = .returned (.bool (zbc n)) ∧ w' = w := by
 by_cases h0 : 0 ≤ n
 ·by_cases h1 : n < 1099511627776
  ·have e : zbc n = true := decide_eq_true ⟨h0, h1⟩
   rw [e]; clear e
   go_enter Tryz.func98, Tryz.ntmps98
   go_wp2
   go_ret
   exact ⟨rfl, rfl⟩
  ·have e : zbc n = false := decide_eq_false (fun h => h1 h.2)
   rw [e]; clear e
   go_enter Tryz.func98, Tryz.ntmps98
   go_wp2
   go_ret
   exact ⟨rfl, rfl⟩
 ·have e : zbc n = false := decide_eq_false (fun h => h0 h.1)
  rw [e]; clear e
  go_enter Tryz.func98, Tryz.ntmps98
  go_wp2
  go_ret
  exact ⟨rfl, rfl⟩

theorem zmv (n : Int) (w : World) : Calls Tryz.prog 139 #[.int .i64 n] w fun e w' => e = .returned (.bool (zfd n)) ∧ w' = w := by
 by_cases h0 : 0 ≤ n
 ·by_cases h1 : n < 336
  ·have e : zfd n = true := decide_eq_true ⟨h0, h1⟩
   rw [e]; clear e
   go_enter Tryz.func139, Tryz.ntmps139
   go_wp2
   go_ret
   exact ⟨rfl, rfl⟩
  ·have e : zfd n = false := decide_eq_false (fun h => h1 h.2)
   rw [e]; clear e
   go_enter Tryz.func139, Tryz.ntmps139
   go_wp2
   go_ret
   exact ⟨rfl, rfl⟩
 ·have e : zfd n = false := decide_eq_false (fun h => h0 h.1)
  rw [e]; clear e
  go_enter Tryz.func139, Tryz.ntmps139
  go_wp2
  go_ret
  exact ⟨rfl, rfl⟩

theorem zkt (n : Int) (w : World) : Calls Tryz.prog 140 #[.int .i64 n] w fun e w' => e = .returned (.bool (zvm n)) ∧ w' = w := by
 by_cases h0 : 0 ≤ n
 ·by_cases h1 : n < 32
  ·have e : zvm n = true := decide_eq_true ⟨h0, h1⟩
   rw [e]; clear e
   go_enter Tryz.func140, Tryz.ntmps140
   go_wp2
   go_ret
   exact ⟨rfl, rfl⟩
  ·have e : zvm n = false := decide_eq_false (fun h => h1 h.2)
   rw [e]; clear e
   go_enter Tryz.func140, Tryz.ntmps140
   go_wp2
   go_ret
   exact ⟨rfl, rfl⟩
 ·have e : zvm n = false := decide_eq_false (fun h => h0 h.1)
  rw [e]; clear e
  go_enter Tryz.func140, Tryz.ntmps140
  go_wp2
  go_ret
  exact ⟨rfl, rfl⟩

def inB (n lo hi : Int) : Bool := decide (lo ≤ n ∧ n ≤ hi)
theorem l01In_any (n lo hi : Int) (w : World) : Calls Tryz.prog 45 #[.int .i64 n, .int .i64 lo, .int .i64 hi] w fun e w' => e = .returned (.bool (inB n lo hi)) ∧ w' = w := by
 by_cases h0 : lo ≤ n
 ·by_cases h1 : n ≤ hi
  ·have e : inB n lo hi = true := decide_eq_true ⟨h0, h1⟩
   rw [e]; clear e
   go_enter Tryz.func45, Tryz.ntmps45
   go_wp2
   go_ret
   exact ⟨rfl, rfl⟩
  ·have e : inB n lo hi = false := decide_eq_false (fun h => h1 h.2)
   rw [e]; clear e
   go_enter Tryz.func45, Tryz.ntmps45
   go_wp2
   go_ret
   exact ⟨rfl, rfl⟩
 ·have e : inB n lo hi = false := decide_eq_false (fun h => h0 h.1)
  rw [e]; clear e
  go_enter Tryz.func45, Tryz.ntmps45
  go_wp2
  go_ret
  exact ⟨rfl, rfl⟩
theorem inB_word (n : Int) : inB n 0 1099511627775 = zbc n := by
 unfold inB zbc
 rw [decide_eq_decide]
 omega
theorem zwu (n : Int) (w : World) : Calls Tryz.prog 217 #[.int .i64 n] w fun e w' => e = .returned (.bool (zbc n)) ∧ w' = w := by
 have E := zaa (inB_word n)
 go_enter Tryz.func217, Tryz.ntmps217
 go_wp2_with fail
 refine (l01In_any n 0 1099511627775 _).mono ?_
 rw [E.out]
 rintro e w' ⟨rfl, rfl⟩
 go_wp2
 go_ret
 exact ⟨rfl, rfl⟩

/-- All are words. -/
def zhz (zs : List Int) : Bool := decide (∀ k (h : k < zs.length), zbc zs[k] = true)
theorem znj {zs : List Int} (h : zhz zs = true) : ∀ k (h : k < zs.length), zbc zs[k] = true := of_decide_eq_true h
theorem zus {zs : List Int} (h : ∀ k (h : k < zs.length), zbc zs[k] = true) : zhz zs = true := decide_eq_true h
theorem wordsB_not {zs : List Int} {k : Nat} (hk : k < zs.length) (h : zbc zs[k] = false) : zhz zs = false := decide_eq_false (fun x => by have := x k hk; rw [h] at this; cases this)
theorem ztu {zs : List Int} (h : zhz zs = false) : ∃ k, ∃ h : k < zs.length, zbc zs[k] = false := by
 apply Classical.byContradiction
 intro hn
 have : zhz zs = true := zus (fun k hk => by
  cases e : zbc zs[k] with
  | true => rfl
  | false => exact absurd ⟨k, hk, e⟩ hn)
 rw [h] at this
 cases this

end Go.Proofs.YtbbmljakfbhnpaaGreatDoor

namespace Go.Proofs.YtbbmljakfbhnpaaGreatDoor
open Go.RowKit

/-- A right memory. -/
def pmB (ws : List Int) (ps : List St) : Bool := decide (ws.length = 336 ∧ ps.length ≤ 400 ∧ (∀ k (h : k < ws.length), zbc ws[k] = true) ∧ ∀ k (h : k < ps.length), zfd ps[k].at_ = true ∧ zbc ps[k].val = true)
theorem pmB_mk {ws : List Int} {ps : List St} (h1 : ws.length = 336) (h2 : ps.length ≤ 400) (h3 : ∀ k (h : k < ws.length), zbc ws[k] = true) (h4 : ∀ k (h : k < ps.length), zfd ps[k].at_ = true ∧ zbc ps[k].val = true) : pmB ws ps = true := decide_eq_true ⟨h1, h2, h3, h4⟩
theorem zgm {ws : List Int} {ps : List St} (h : pmB ws ps = true) : ws.length = 336 ∧ ps.length ≤ 400 := ⟨(of_decide_eq_true h).1, (of_decide_eq_true h).2.1⟩
theorem pmB_word {ws : List Int} {ps : List St} (h : pmB ws ps = true) (k : Nat) (hk : k < ws.length) : zbc ws[k] = true := (of_decide_eq_true h).2.2.1 k hk
theorem zjc {ws : List Int} {ps : List St} (h : pmB ws ps = true) (k : Nat) (hk : k < ps.length) : zfd ps[k].at_ = true ∧ zbc ps[k].val = true := (of_decide_eq_true h).2.2.2 k hk
theorem pmB_len1 {ws : List Int} {ps : List St} (h : ¬ ws.length = 336) : pmB ws ps = false := decide_eq_false (fun x => h x.1)
theorem pmB_len2 {ws : List Int} {ps : List St} (h : 400 < ps.length) : pmB ws ps = false := decide_eq_false (fun x => absurd x.2.1 (by omega))
theorem pmB_w {ws : List Int} {ps : List St} {k : Nat} (hk : k < ws.length) (h : zbc ws[k] = false) : pmB ws ps = false := decide_eq_false (fun x => by have := x.2.2.1 k hk; rw [h] at this; cases this)
theorem pmB_a {ws : List Int} {ps : List St} {k : Nat} (hk : k < ps.length) (h : zfd ps[k].at_ = false) : pmB ws ps = false := decide_eq_false (fun x => by have := (x.2.2.2 k hk).1; rw [h] at this; cases this)
theorem pmB_v {ws : List Int} {ps : List St} {k : Nat} (hk : k < ps.length) (h : zbc ps[k].val = false) : pmB ws ps = false := decide_eq_false (fun x => by have := (x.2.2.2 k hk).2; rw [h] at this; cases this)

end Go.Proofs.YtbbmljakfbhnpaaGreatDoor

namespace Go.Proofs.YtbbmljakfbhnpaaGreatDoor
open Go.RowKit

/-- A right device. -/
def zip (ws : List Int) (ps : List Se) : Bool := decide (ws.length = 32 ∧ ps.length ≤ 400 ∧ (∀ k (h : k < ws.length), zbc ws[k] = true) ∧ ∀ k (h : k < ps.length), zvm ps[k].at_ = true ∧ zbc ps[k].val = true)
theorem blkB_mk {ws : List Int} {ps : List Se} (h1 : ws.length = 32) (h2 : ps.length ≤ 400) (h3 : ∀ k (h : k < ws.length), zbc ws[k] = true) (h4 : ∀ k (h : k < ps.length), zvm ps[k].at_ = true ∧ zbc ps[k].val = true) : zip ws ps = true := decide_eq_true ⟨h1, h2, h3, h4⟩
theorem zeu {ws : List Int} {ps : List Se} (h : zip ws ps = true) : ws.length = 32 ∧ ps.length ≤ 400 := ⟨(of_decide_eq_true h).1, (of_decide_eq_true h).2.1⟩
theorem blkB_word {ws : List Int} {ps : List Se} (h : zip ws ps = true) (k : Nat) (hk : k < ws.length) : zbc ws[k] = true := (of_decide_eq_true h).2.2.1 k hk
theorem zqb {ws : List Int} {ps : List Se} (h : zip ws ps = true) (k : Nat) (hk : k < ps.length) : zvm ps[k].at_ = true ∧ zbc ps[k].val = true := (of_decide_eq_true h).2.2.2 k hk
theorem blkB_len1 {ws : List Int} {ps : List Se} (h : ¬ ws.length = 32) : zip ws ps = false := decide_eq_false (fun x => h x.1)
theorem blkB_len2 {ws : List Int} {ps : List Se} (h : 400 < ps.length) : zip ws ps = false := decide_eq_false (fun x => absurd x.2.1 (by omega))
theorem blkB_w {ws : List Int} {ps : List Se} {k : Nat} (hk : k < ws.length) (h : zbc ws[k] = false) : zip ws ps = false := decide_eq_false (fun x => by have := x.2.2.1 k hk; rw [h] at this; cases this)
theorem blkB_a {ws : List Int} {ps : List Se} {k : Nat} (hk : k < ps.length) (h : zvm ps[k].at_ = false) : zip ws ps = false := decide_eq_false (fun x => by have := (x.2.2.2 k hk).1; rw [h] at this; cases this)
theorem blkB_v {ws : List Int} {ps : List Se} {k : Nat} (hk : k < ps.length) (h : zbc ps[k].val = false) : zip ws ps = false := decide_eq_false (fun x => by have := (x.2.2.2 k hk).2; rw [h] at this; cases this)

end Go.Proofs.YtbbmljakfbhnpaaGreatDoor

namespace Go.Proofs.YtbbmljakfbhnpaaGreatDoor
open Go.RowKit

theorem zap {w : World} {b : Nat} {t : TypeId} {x y z u : Value} (h : w.heap[b]? = some (.cells #[x, y, z, u] t (0, 0))) :
  w.cell? ⟨b, 0, none⟩ = some x ∧ w.cell? ⟨b, 1, none⟩ = some y ∧ w.cell? ⟨b, 2, none⟩ = some z ∧ w.cell? ⟨b, 3, none⟩ = some u ∧ w.frozen? ⟨b, 0, none⟩ = false ∧ w.frozen? ⟨b, 1, none⟩ = false ∧ w.frozen? ⟨b, 2, none⟩ = false ∧ w.frozen? ⟨b, 3, none⟩ = false := by
 simp [World.cell?, World.frozen?, h]
/-- The devices as they can be read. -/
def RdDev (w : World) (v : Value) (ws : List Int) (ps : List St) (es : List Int) (qs : List Se) : Prop := ∃ vW vP vS vQ, v = .agg #[vW, vP, vS, vQ] ∧ RdPm w (.agg #[vW, vP]) ws ps ∧ RdBlk w (.agg #[vS, vQ]) es qs
/-- The devices of a call's own: each lies in blocks of its own. -/
def RowDev (w : World) (lo hi : Nat) (v : Value) (ws : List Int) (ps : List St) (es : List Int) (qs : List Se) : Prop :=
 ∃ vW vP vS vQ l1 h1 l2 h2, v = .agg #[vW, vP, vS, vQ] ∧ RowPm w l1 h1 (.agg #[vW, vP]) ws ps ∧ RowBlk w l2 h2 (.agg #[vS, vQ]) es qs ∧ (lo ≤ l1 ∧ h1 ≤ hi ∧ lo ≤ l2 ∧ h2 ≤ hi ∧ (h1 ≤ l2 ∨ h2 ≤ l1))
theorem RowDev.rd {w : World} {lo hi : Nat} {v : Value} {ws : List Int} {ps : List St} {es : List Int} {qs : List Se} (h : RowDev w lo hi v ws ps es qs) : RdDev w v ws ps es qs := by
 obtain ⟨vW, vP, vS, vQ, _, _, _, _, e, h1, h2, _⟩ := h
 exact ⟨vW, vP, vS, vQ, e, h1.rd, h2.rd⟩
theorem RdDev.below {w w' : World} {v : Value} {ws : List Int} {ps : List St} {es : List Int} {qs : List Se} (h : RdDev w v ws ps es qs) (hb : Below w.heap.size w w') : RdDev w' v ws ps es qs := by
 obtain ⟨vW, vP, vS, vQ, e, h1, h2⟩ := h
 exact ⟨vW, vP, vS, vQ, e, h1.below hb, h2.below hb⟩
theorem RowDev.below {w w' : World} {lo hi : Nat} {v : Value} {ws : List Int} {ps : List St} {es : List Int} {qs : List Se} (h : RowDev w lo hi v ws ps es qs) {B : Nat} (hb : Below B w w') (hB : hi ≤ B) : RowDev w' lo hi v ws ps es qs := by
 obtain ⟨vW, vP, vS, vQ, l1, h1, l2, h2, e, r1, r2, c⟩ := h
 exact ⟨vW, vP, vS, vQ, l1, h1, l2, h2, e, r1.below hb (by omega), r2.below hb (by omega), c⟩
theorem RowDev.outside {w w' : World} {lo hi : Nat} {v : Value} {ws : List Int} {ps : List St} {es : List Int} {qs : List Se} (h : RowDev w lo hi v ws ps es qs) {lo' hi' : Nat} (ho : Outside lo' hi' w w') (hd : hi ≤ lo' ∨ hi' ≤ lo) (hz : hi ≤ w.heap.size) : RowDev w' lo hi v ws ps es qs := by
 obtain ⟨vW, vP, vS, vQ, l1, h1, l2, h2, e, r1, r2, c⟩ := h
 exact ⟨vW, vP, vS, vQ, l1, h1, l2, h2, e, r1.outside ho (by omega) (by omega), r2.outside ho (by omega) (by omega), c⟩
theorem RowDev.wide {w : World} {lo hi : Nat} {v : Value} {ws : List Int} {ps : List St} {es : List Int} {qs : List Se} (h : RowDev w lo hi v ws ps es qs) {lo' hi' : Nat} (a : lo' ≤ lo) (b : hi ≤ hi') : RowDev w lo' hi' v ws ps es qs := by
 obtain ⟨vW, vP, vS, vQ, l1, h1, l2, h2, e, r1, r2, c⟩ := h
 exact ⟨vW, vP, vS, vQ, l1, h1, l2, h2, e, r1, r2, by omega⟩
theorem RowDev.alloc {w : World} {lo hi : Nat} {v : Value} {ws : List Int} {ps : List St} {es : List Int} {qs : List Se} (h : RowDev w lo hi v ws ps es qs) (hz : hi ≤ w.heap.size) (o : Obj) : RowDev (w.alloc o) lo hi v ws ps es qs := h.below ((Below.refl _ _).alloc (Nat.le_refl _) o) hz
theorem RdDev.form {w : World} {v : Value} {ws : List Int} {ps : List St} {es : List Int} {qs : List Se} (h : RdDev w v ws ps es qs) : ∃ aW cW aP cP aS cS aQ cQ, v = .agg #[.slice aW ws.length cW, .slice aP ps.length cP, .slice aS es.length cS, .slice aQ qs.length cQ] ∧ RdPm w (.agg #[.slice aW ws.length cW, .slice aP ps.length cP]) ws ps ∧ RdBlk w (.agg #[.slice aS es.length cS, .slice aQ qs.length cQ]) es qs := by
 obtain ⟨vW, vP, vS, vQ, rfl, ⟨_, _, e1, h1, h2⟩, ⟨_, _, e2, h3, h4⟩⟩ := h
 cases e1
 cases e2
 obtain ⟨aW, cW, rfl, _⟩ := h1.shape
 obtain ⟨aP, cP, rfl, _⟩ := h2.shape
 obtain ⟨aS, cS, rfl, _⟩ := h3.shape
 obtain ⟨aQ, cQ, rfl, _⟩ := h4.shape
 exact ⟨aW, cW, aP, cP, aS, cS, aQ, cQ, rfl, ⟨_, _, rfl, h1, h2⟩, ⟨_, _, rfl, h3, h4⟩⟩
theorem RowPm.form {w : World} {lo hi : Nat} {v : Value} {ws : List Int} {ps : List St} (h : RowPm w lo hi v ws ps) : ∃ aW cW aP cP, v = .agg #[.slice aW ws.length cW, .slice aP ps.length cP] := by
 obtain ⟨vW, vP, rfl, h1, h2⟩ := h.rd
 obtain ⟨aW, cW, rfl, _⟩ := h1.shape
 obtain ⟨aP, cP, rfl, _⟩ := h2.shape
 exact ⟨aW, cW, aP, cP, rfl⟩
theorem RowBlk.form {w : World} {lo hi : Nat} {v : Value} {ws : List Int} {ps : List Se} (h : RowBlk w lo hi v ws ps) : ∃ aW cW aP cP, v = .agg #[.slice aW ws.length cW, .slice aP ps.length cP] := by
 obtain ⟨vW, vP, rfl, h1, h2⟩ := h.rd
 obtain ⟨aW, cW, rfl, _⟩ := h1.shape
 obtain ⟨aP, cP, rfl, _⟩ := h2.shape
 exact ⟨aW, cW, aP, cP, rfl⟩

end Go.Proofs.YtbbmljakfbhnpaaGreatDoor

namespace Go.Proofs.YtbbmljakfbhnpaaGreatDoor
open Go.RowKit

theorem zbk (n lo hi : Int) (w : World) (h : lo ≤ n ∧ n ≤ hi) : Calls Tryz.prog 45 #[.int .i64 n, .int .i64 lo, .int .i64 hi] w fun e w' => e = .returned (.bool true) ∧ w' = w := by
 obtain ⟨h1, h2⟩ := h
 go_enter Tryz.func45, Tryz.ntmps45
 go_wp2
 go_ret
 exact ⟨rfl, rfl⟩

theorem zfg (n lo hi : Int) (w : World) (h : ¬ (lo ≤ n ∧ n ≤ hi)) : Calls Tryz.prog 45 #[.int .i64 n, .int .i64 lo, .int .i64 hi] w fun e w' => e = .returned (.bool false) ∧ w' = w := by
 rcases (show ¬ lo ≤ n ∨ (lo ≤ n ∧ ¬ n ≤ hi) by omega) with h1 | ⟨h1, h2⟩
 all_goals
  clear h
  go_enter Tryz.func45, Tryz.ntmps45
  go_wp2
  go_ret
  exact ⟨rfl, rfl⟩

theorem zbq (n hi : Int) (w : World) (h : 0 ≤ n ∧ n < hi) : Calls Tryz.prog 61 #[.int .i64 n, .int .i64 hi] w fun e w' => e = .returned (.bool true) ∧ w' = w := by
 obtain ⟨h1, h2⟩ := h
 go_enter Tryz.func61, Tryz.ntmps61
 go_wp2
 go_ret
 exact ⟨rfl, rfl⟩

theorem zdl (n hi : Int) (w : World) (h : ¬ (0 ≤ n ∧ n < hi)) : Calls Tryz.prog 61 #[.int .i64 n, .int .i64 hi] w fun e w' => e = .returned (.bool false) ∧ w' = w := by
 rcases (show ¬ 0 ≤ n ∨ (0 ≤ n ∧ ¬ n < hi) by omega) with h1 | ⟨h1, h2⟩
 all_goals
  clear h
  go_enter Tryz.func61, Tryz.ntmps61
  go_wp2
  go_ret
  exact ⟨rfl, rfl⟩

/-- Where a field stands, and the code. -/
def inoV (i f : Int) : Int := if (0 ≤ i ∧ i < 16) ∧ 0 ≤ f ∧ f < 11 then 48 + 12 * i + f else 0
def inoC (i f : Int) : Int := if (0 ≤ i ∧ i < 16) ∧ 0 ≤ f ∧ f < 11 then 0 else 4
theorem ino_in {i f : Int} (h : 0 ≤ i ∧ i < 16) (k : 0 ≤ f ∧ f < 11) : inoV i f = 48 + 12 * i + f ∧ inoC i f = 0 := by unfold inoV inoC; rw [if_pos ⟨h, k⟩, if_pos ⟨h, k⟩]; exact ⟨rfl, rfl⟩
theorem ino_out {i f : Int} (h : ¬ ((0 ≤ i ∧ i < 16) ∧ 0 ≤ f ∧ f < 11)) : inoV i f = 0 ∧ inoC i f = 4 := by unfold inoV inoC; rw [if_neg h, if_neg h]; exact ⟨rfl, rfl⟩

theorem zba (i f : Int) (w : World) (h : 0 ≤ i ∧ i < 16) (k : 0 ≤ f ∧ f < 11) : Calls Tryz.prog 87 #[.int .i64 i, .int .i64 f] w fun e w' => e = .returned (.int .i64 (48 + 12 * i + f)) ∧ w' = w := by
 go_enter Tryz.func87, Tryz.ntmps87
 go_wp2
 go_ret
 exact ⟨zcp (by first | rfl | omega | (go_num; omega)), rfl⟩

theorem zgl (i f : Int) (w : World) : Calls Tryz.prog 42 #[.int .i64 i, .int .i64 f] w fun e w' => e = .returned (.tuple #[.int .i64 (inoV i f), .int .i64 (inoC i f)]) ∧ w' = w := by
 by_cases c1 : 0 ≤ i ∧ i < 16
 ·by_cases c2 : 0 ≤ f ∧ f < 11
  ·have c3 := c1.1
   have c4 := c1.2
   have E := zaa (ino_in c1 c2)
   go_enter Tryz.func42, Tryz.ntmps42
   go_wp2_with (first | (go_at_call 61; refine (zbq _ _ _ (by omega)).mono ?_; rintro e w' ⟨rfl, rfl⟩) | (go_at_call 61; refine (zdl _ _ _ (by omega)).mono ?_; rintro e w' ⟨rfl, rfl⟩))
   go_ret2
   exact ⟨zey (by rw [E.out.1]) E.out.2.symm, rfl⟩
  ·have c3 : ¬ ((0 ≤ i ∧ i < 16) ∧ 0 ≤ f ∧ f < 11) := fun x => c2 x.2
   have E := zaa (ino_out c3)
   go_enter Tryz.func42, Tryz.ntmps42
   go_wp2_with (first | (go_at_call 61; refine (zbq _ _ _ (by omega)).mono ?_; rintro e w' ⟨rfl, rfl⟩) | (go_at_call 61; refine (zdl _ _ _ (by omega)).mono ?_; rintro e w' ⟨rfl, rfl⟩))
   go_ret2
   exact ⟨zey (by rw [E.out.1]) E.out.2.symm, rfl⟩
 ·have c3 : ¬ ((0 ≤ i ∧ i < 16) ∧ 0 ≤ f ∧ f < 11) := fun x => c1 x.1
  have E := zaa (ino_out c3)
  go_enter Tryz.func42, Tryz.ntmps42
  go_wp2_with (first | (go_at_call 61; refine (zbq _ _ _ (by omega)).mono ?_; rintro e w' ⟨rfl, rfl⟩) | (go_at_call 61; refine (zdl _ _ _ (by omega)).mono ?_; rintro e w' ⟨rfl, rfl⟩))
  go_ret2
  exact ⟨zey (by rw [E.out.1]) E.out.2.symm, rfl⟩

theorem zdu (i f : Int) (w : World) (h : 0 ≤ i ∧ i < 24) (k : 0 ≤ f ∧ f < 3) : Calls Tryz.prog 88 #[.int .i64 i, .int .i64 f] w fun e w' => e = .returned (.int .i64 (240 + 3 * i + f)) ∧ w' = w := by
 go_enter Tryz.func88, Tryz.ntmps88
 go_wp2
 go_ret
 exact ⟨zcp (by first | rfl | omega | (go_num; omega)), rfl⟩

end Go.Proofs.YtbbmljakfbhnpaaGreatDoor

namespace Go.Proofs.YtbbmljakfbhnpaaGreatDoor
open Go.RowKit

/-- A step. -/
structure Mi where
 kind : Int
 at_ : Int
 val : Int
/-- A step as a value. -/
def Mi.v (m : Mi) : Value := .agg #[.int .i64 m.kind, .int .i64 m.at_, .int .i64 m.val]
/-- A step that is right. -/
def miB (m : Mi) : Bool := decide ((m.kind = 1 ∧ (0 ≤ m.at_ ∧ m.at_ < 336) ∧ 0 ≤ m.val ∧ m.val < 1099511627776) ∨ (m.kind = 2 ∧ (0 ≤ m.at_ ∧ m.at_ < 336) ∧ m.val = 0) ∨ (m.kind = 4 ∧ (0 ≤ m.at_ ∧ m.at_ < 32) ∧ 0 ≤ m.val ∧ m.val < 1099511627776) ∨ ((m.kind = 3 ∨ m.kind = 5) ∧ m.at_ = 0 ∧ m.val = 0))
theorem miB_iff {m : Mi} : miB m = true ↔ ((m.kind = 1 ∧ (0 ≤ m.at_ ∧ m.at_ < 336) ∧ 0 ≤ m.val ∧ m.val < 1099511627776) ∨ (m.kind = 2 ∧ (0 ≤ m.at_ ∧ m.at_ < 336) ∧ m.val = 0) ∨ (m.kind = 4 ∧ (0 ≤ m.at_ ∧ m.at_ < 32) ∧ 0 ≤ m.val ∧ m.val < 1099511627776) ∨ ((m.kind = 3 ∨ m.kind = 5) ∧ m.at_ = 0 ∧ m.val = 0)) := by unfold miB; exact decide_eq_true_iff
theorem zku (k a v : Int) : miB ⟨k, a, v⟩ = true ↔ ((k = 1 ∧ (0 ≤ a ∧ a < 336) ∧ 0 ≤ v ∧ v < 1099511627776) ∨ (k = 2 ∧ (0 ≤ a ∧ a < 336) ∧ v = 0) ∨ (k = 4 ∧ (0 ≤ a ∧ a < 32) ∧ 0 ≤ v ∧ v < 1099511627776) ∨ ((k = 3 ∨ k = 5) ∧ a = 0 ∧ v = 0)) := miB_iff
end Go.Proofs.YtbbmljakfbhnpaaGreatDoor

namespace Go.Proofs.YtbbmljakfbhnpaaGreatDoor
open Go.RowKit

set_option maxHeartbeats 2000000 in
theorem zcx (v : Value) (zs : List Int) (w : World) (h : RdI w v zs) (hn : zs.length ≤ 2147483648) :
  Calls Tryz.prog 97 #[v, .func (.func 98) #[] #[]] w fun e w' => e = .returned (.bool (zhz zs)) ∧ w' = w := by
 obtain ⟨ao, cap, rfl, _, hc⟩ := h.shape
 clear h
 go_enter Tryz.func97, Tryz.ntmps97
 go_wp2
 go_loop [6, 9] (fun _ i => ∃ k : Nat, k ≤ zs.length ∧ i = .int .i64 k ∧ Hid (∀ j (h : j < zs.length), j < k → zbc zs[j] = true)) (fun _ i => zs.length - (intOf i).toNat)
 case atStart => exact ⟨0, by omega, rfl, fun j h a => absurd a (by omega)⟩
 case round =>
  obtain ⟨k, hk, rfl, H⟩ := hrel
  by_cases hlt : k < zs.length
  ·obtain ⟨b, o, rfl, hbl, hcell⟩ := hc (by omega)
   have hck := hcell k hlt
   clear hcell hc
   by_cases q : zbc zs[k] = true
   ·go_wp2_with (go_at_call 98; refine (zhi _ _).mono ?_; rintro e w' ⟨rfl, rfl⟩)
    go_round
    case rel =>
     refine ⟨k + 1, by omega, by go_num, fun j h a => ?_⟩
     by_cases e : j = k
     ·subst e; exact q
     ·exact H.out j h (by omega)
    case measure => simp [intOf]; omega
   ·have q' : zbc zs[k] = false := by simpa using q
    have E := zaa (wordsB_not hlt q')
    go_wp2_with (go_at_call 98; refine (zhi _ _).mono ?_; rintro e w' ⟨rfl, rfl⟩)
    go_ret
    exact ⟨zag E.out.symm, rfl⟩
  ·have E := zaa (zus (fun j h => H.out j h (by omega)))
   clear H
   go_wp2
   go_ret
   exact ⟨zag E.out.symm, rfl⟩

end Go.Proofs.YtbbmljakfbhnpaaGreatDoor

namespace Go.Proofs.YtbbmljakfbhnpaaGreatDoor
open Go.RowKit

/-- A store that is right. -/
def stB (s : St) : Bool := zfd s.at_ && zbc s.val
theorem stB_true {s : St} (h : stB s = true) : zfd s.at_ = true ∧ zbc s.val = true := by unfold stB at h; simpa using h
theorem stB_false {s : St} {p : Prop} (h : stB s = false) (h1 : zfd s.at_ = false → p) (h2 : zbc s.val = false → p) : p := by
 unfold stB at h
 rw [Bool.and_eq_false_iff] at h
 exact h.elim h1 h2
/-- All stores are right. -/
def stsB (ps : List St) : Bool := decide (∀ k (h : k < ps.length), stB ps[k] = true)
theorem stsB_true {ps : List St} (h : stsB ps = true) : ∀ k (h : k < ps.length), stB ps[k] = true := of_decide_eq_true h
theorem stsB_mk {ps : List St} (h : ∀ k (h : k < ps.length), stB ps[k] = true) : stsB ps = true := decide_eq_true h
theorem stsB_not {ps : List St} {k : Nat} (hk : k < ps.length) (h : stB ps[k] = false) : stsB ps = false := decide_eq_false (fun x => by have := x k hk; rw [h] at this; cases this)
theorem stsB_ex {ps : List St} (h : stsB ps = false) : ∃ k, ∃ h : k < ps.length, stB ps[k] = false := by
 apply Classical.byContradiction
 intro hn
 have : stsB ps = true := stsB_mk (fun k hk => by
  cases e : stB ps[k] with
  | true => rfl
  | false => exact absurd ⟨k, hk, e⟩ hn)
 rw [h] at this
 cases this

set_option maxHeartbeats 1000000 in
theorem zmx (s : St) (w : World) : Calls Tryz.prog 100 #[.agg #[.int .i64 s.at_, .int .i64 s.val, .bool s.fl]] w fun e w' => e = .returned (.bool (stB s)) ∧ Below w.heap.size w w' := by
 have hb0 : Below w.heap.size w (w.alloc (.cells #[.int .i64 s.at_, .int .i64 s.val, .bool s.fl] 136)) := (Below.refl _ _).alloc (Nat.le_refl _) _
 by_cases q : zfd s.at_ = true
 ·have E := zaa (show stB s = zbc s.val by unfold stB; rw [q]; rfl)
  have Q := zaa q
  clear q
  go_enter Tryz.func100, Tryz.ntmps100
  go_wp2_with (first | (go_at_call 139; refine (zmv _ _).mono ?_; rw [Q.out]; rintro e w' ⟨rfl, rfl⟩) | (go_at_call 98; refine (zhi _ _).mono ?_; rintro e w' ⟨rfl, rfl⟩))
  go_ret
  exact ⟨zag E.out.symm, hb0⟩
 ·have q' : zfd s.at_ = false := by simpa using q
  have E := zaa (show stB s = false by unfold stB; rw [q']; rfl)
  have Q := zaa q'
  clear q q'
  go_enter Tryz.func100, Tryz.ntmps100
  go_wp2_with (go_at_call 139; refine (zmv _ _).mono ?_; rw [Q.out]; rintro e w' ⟨rfl, rfl⟩)
  go_ret
  exact ⟨zag E.out.symm, hb0⟩

set_option maxHeartbeats 4000000 in
theorem zic (v : Value) (ps : List St) (w : World) (h : RdS w v ps) (hn : ps.length ≤ 1048576) :
  Calls Tryz.prog 99 #[v, .func (.func 100) #[] #[]] w fun e w' => e = .returned (.bool (stsB ps)) ∧ Below w.heap.size w w' := by
 obtain ⟨aP, cP, rfl, _, hcP⟩ := h.shape
 clear h
 go_enter Tryz.func99, Tryz.ntmps99
 go_wp2
 go_loopw [6, 9] (fun _ i wr => ∃ k : Nat, k ≤ ps.length ∧ i = .int .i64 k ∧ Hid (∀ j (h : j < ps.length), j < k → stB ps[j] = true) ∧ Below w.heap.size w wr) (fun _ i _ => ps.length - (intOf i).toNat)
 case atStart => exact ⟨0, by omega, rfl, fun j h a => absurd a (by omega), Below.refl _ _⟩
 case round =>
  obtain ⟨m, hm, rfl, H, hbw⟩ := hrel
  have hz := hbw.size
  by_cases hlt2 : m < ps.length
  ·obtain ⟨b2, o2, rfl, hbl2, hcell2⟩ := hcP (by omega)
   obtain ⟨d0, d1, d2⟩ := hcell2 m hlt2
   have e0 := (hbw.cell (p := ⟨b2, o2 + m * 3, none⟩) hbl2).trans d0
   have e1 := (hbw.cell (p := ⟨b2, o2 + m * 3 + 1, none⟩) hbl2).trans d1
   have e2 := (hbw.cell (p := ⟨b2, o2 + m * 3 + 2, none⟩) hbl2).trans d2
   have hb1 := zaa (hbw.alloc hz (.cells #[.int .i64 ps[m].at_, .int .i64 ps[m].val, .bool ps[m].fl] 136))
   clear d0 d1 d2 hcell2 hcP
   by_cases q : stB ps[m] = true
   ·have Q := zaa q
    clear q
    go_wp2_with (go_at_call 100; refine (zmx ps[m] _).mono ?_; rw [Q.out]; rintro e w' ⟨rfl, hw'⟩)
    have hw2 := hb1.out.trans (hw'.mono (by simp; omega))
    clear hb1 hw'
    go_roundw
    case rel =>
     refine ⟨m + 1, by omega, by go_num, fun j h a => ?_, hw2⟩
     by_cases e : j = m
     ·subst e; exact Q.out
     ·exact H.out j h (by omega)
    case measure => simp [intOf]; omega
   ·have Q := zaa (show stB ps[m] = false by simpa using q)
    have E := zaa (stsB_not hlt2 Q.out)
    clear q
    go_wp2_with (go_at_call 100; refine (zmx ps[m] _).mono ?_; rw [Q.out]; rintro e w' ⟨rfl, hw'⟩)
    have hw2 := hb1.out.trans (hw'.mono (by simp; omega))
    go_ret
    exact ⟨zag E.out.symm, hw2⟩
  ·have E := zaa (stsB_mk (fun j h => H.out j h (by omega)))
   go_wp2
   go_ret
   exact ⟨zag E.out.symm, hbw⟩

set_option maxHeartbeats 4000000 in
theorem zfk (v : Value) (ws : List Int) (ps : List St) (w : World) (h : RdPm w v ws ps) (hw : ws.length ≤ 1048576) (hp : ps.length ≤ 1048576) :
  Calls Tryz.prog 63 #[v] w fun e w' => e = .returned (.bool (pmB ws ps)) ∧ Below w.heap.size w w' := by
 obtain ⟨vW, vP, rfl, h1, h2⟩ := h
 obtain ⟨aW, cW, rfl, _, hcW⟩ := h1.shape
 obtain ⟨aP, cP, rfl, _, hcP⟩ := h2.shape
 have H1 := zaa h1
 have H2 := zaa h2
 clear h1 h2 hcW hcP
 have hb0 : Below w.heap.size w (w.alloc (.cells #[.slice aW ws.length cW, .slice aP ps.length cP] 31)) := (Below.refl _ _).alloc (Nat.le_refl _) _
 have HB := zaa hb0
 by_cases c1 : ws.length = 336
 case neg =>
  have E := zaa (pmB_len1 (ps := ps) c1)
  have c1' : ((ws.length : Int) == 336) = false := by rw [beq_eq_false_iff_ne]; omega
  clear c1
  go_enter Tryz.func63, Tryz.ntmps63
  go_wp2
  go_ret
  exact ⟨zag E.out.symm, HB.out⟩
 have c1n : ((ws.length : Int) == 336) = true := by simp; omega
 have C1 := zaa c1
 clear c1
 by_cases c2 : 400 < ps.length
 ·have E := zaa (pmB_len2 (ws := ws) c2)
  have c2' : decide ((ps.length : Int) ≤ 400) = false := by simp; omega
  go_enter Tryz.func63, Tryz.ntmps63
  go_wp2
  go_ret
  exact ⟨zag E.out.symm, HB.out⟩
 by_cases c3 : zhz ws = true
 case neg =>
  have c3' : zhz ws = false := by simpa using c3
  obtain ⟨k, hk, hkf⟩ := ztu c3'
  have E := zaa (pmB_w (ps := ps) hk hkf)
  have W0 := zaa c3'
  clear c3 c3' hkf hk
  go_enter Tryz.func63, Tryz.ntmps63
  go_wp2_with (go_at_call 97; refine (zcx _ ws _ (Rd.below H1.out HB.out) (by omega)).mono ?_; rw [W0.out]; rintro e w' ⟨rfl, rfl⟩)
  go_ret
  exact ⟨zag E.out.symm, HB.out⟩
 have HW := zaa (znj c3)
 have W1 := zaa c3
 clear c3
 cases c4 : stsB ps with
 | true =>
  have E := zaa (pmB_mk C1.out (by omega) HW.out (fun j h => stB_true (stsB_true c4 j h)))
  have W2 := zaa c4
  clear c4
  go_enter Tryz.func63, Tryz.ntmps63
  go_wp2_with (first | (go_at_call 97; refine (zcx _ ws _ (Rd.below H1.out HB.out) (by omega)).mono ?_; rw [W1.out]; rintro e w' ⟨rfl, rfl⟩) | (go_at_call 99; refine (zic _ ps _ (Rd.below H2.out HB.out) (by omega)).mono ?_; rw [W2.out]; rintro e w' ⟨rfl, hw'⟩))
  go_ret
  exact ⟨zag E.out.symm, HB.out.trans (hw'.mono (by simp))⟩
 | false =>
  obtain ⟨k, hk, hkf⟩ := stsB_ex c4
  have E := zaa (show pmB ws ps = false from stB_false hkf (pmB_a (ws := ws) hk) (pmB_v (ws := ws) hk))
  have W2 := zaa c4
  clear c4 hk hkf
  go_enter Tryz.func63, Tryz.ntmps63
  go_wp2_with (first | (go_at_call 97; refine (zcx _ ws _ (Rd.below H1.out HB.out) (by omega)).mono ?_; rw [W1.out]; rintro e w' ⟨rfl, rfl⟩) | (go_at_call 99; refine (zic _ ps _ (Rd.below H2.out HB.out) (by omega)).mono ?_; rw [W2.out]; rintro e w' ⟨rfl, hw'⟩))
  go_ret
  exact ⟨zag E.out.symm, HB.out.trans (hw'.mono (by simp))⟩
end Go.Proofs.YtbbmljakfbhnpaaGreatDoor

namespace Go.Proofs.YtbbmljakfbhnpaaGreatDoor
open Go.RowKit

/-- The last of some stores at a place, or what was there. -/
def zjx (at_ d : Int) (ps : List St) : Int := ps.foldl (fun acc p => if p.at_ = at_ then p.val else acc) d
theorem zka {at_ d : Int} : ∀ {ps : List St}, (∀ p ∈ ps, ¬ p.at_ = at_) → zjx at_ d ps = d
 | [], _ => rfl
 | p :: ps, h => by
  show zjx at_ (if p.at_ = at_ then p.val else d) ps = d
  rw [if_neg (h p (by simp))]
  exact zka (fun q hq => h q (by simp [hq]))
theorem zts (at_ d : Int) (ps qs : List St) : zjx at_ d (ps ++ qs) = zjx at_ (zjx at_ d ps) qs := by simp [zjx]
theorem lastW_hit {at_ d : Int} {ps : List St} {k : Nat} (hk : k < ps.length) (h : ps[k].at_ = at_) (ha : ∀ j (hj : j < ps.length), k < j → ¬ ps[j].at_ = at_) : zjx at_ d ps = ps[k].val := by
 have e : ps = ps.take k ++ (ps[k] :: ps.drop (k + 1)) := by rw [← List.drop_eq_getElem_cons hk, List.take_append_drop]
 conv => lhs; rw [e]
 rw [zts]
 show zjx at_ (if ps[k].at_ = at_ then ps[k].val else _) (ps.drop (k + 1)) = _
 rw [if_pos h]
 apply zka
 intro p hp
 obtain ⟨i, hi, rfl⟩ := List.getElem_of_mem hp
 rw [List.getElem_drop]
 exact ha _ _ (by omega)

set_option maxHeartbeats 2000000 in
theorem zmo (v : Value) (ws : List Int) (ps : List St) (at_ : Nat) (w : World) (h : RdPm w v ws ps) (hw : ws.length ≤ 1048576) (hp : ps.length ≤ 1048576) (ha : at_ < ws.length) :
  Calls Tryz.prog 109 #[v, .int .i64 (at_ : Int)] w fun e w' => e = .returned (.int .i64 (zjx (at_ : Int) ws[at_] ps)) ∧ Below w.heap.size w w' := by
 obtain ⟨vW, vP, rfl, h1, h2⟩ := h
 obtain ⟨aW, cW, rfl, _, hcW⟩ := h1.shape
 obtain ⟨aP, cP, rfl, _, hcP⟩ := h2.shape
 clear h1 h2
 obtain ⟨bW, oW, rfl, hbW, hcellW⟩ := hcW (by omega)
 have hb0 : Below w.heap.size w (w.alloc (.cells #[.slice (some ⟨bW, oW, none⟩) ws.length cW, .slice aP ps.length cP] 31)) := (Below.refl _ _).alloc (Nat.le_refl _) _
 have hcw := (hb0.cell (p := ⟨bW, oW + at_, none⟩) hbW).trans (hcellW at_ ha)
 clear hcW hcellW
 go_enter Tryz.func109, Tryz.ntmps109
 go_wp2
 go_loop [5] (fun i => ∃ k : Nat, k ≤ ps.length ∧ i = .int .i64 ((k : Int) - 1) ∧ Hid (∀ j (h : j < ps.length), k ≤ j → ¬ ps[j].at_ = (at_ : Int))) (fun i => (intOf i + 1).toNat)
 case atStart => exact ⟨ps.length, Nat.le_refl _, rfl, fun j h a => absurd h (by omega)⟩
 case round =>
  obtain ⟨k, hk, rfl, H⟩ := hrel
  cases k with
  | zero =>
   have E := zaa (zka (d := ws[at_]) (fun p hp => by obtain ⟨i, hi, rfl⟩ := List.getElem_of_mem hp; exact H.out i hi (by omega)))
   clear H hcP
   go_wp2
   go_ret
   exact ⟨zcp E.out.symm, hb0⟩
  | succ m =>
   have em : (((m + 1 : Nat) : Int) - 1) = (m : Int) := by omega
   rw [em]
   clear em
   obtain ⟨b, o, rfl, hbl, hcell⟩ := hcP (by omega)
   obtain ⟨d0, d1, _⟩ := hcell m (by omega)
   have e0 := (hb0.cell (p := ⟨b, o + m * 3, none⟩) hbl).trans d0
   have e1 := (hb0.cell (p := ⟨b, o + m * 3 + 1, none⟩) hbl).trans d1
   clear d0 d1 hcell hcP
   have hm : m < ps.length := by omega
   by_cases c : ps[m].at_ = (at_ : Int)
   ·have c' : (ps[m].at_ == (at_ : Int)) = true := by simpa using c
    have E := zaa (lastW_hit (d := ws[at_]) hm c (fun j hj hlt => H.out j hj (by omega)))
    clear H c
    go_wp2
    go_ret
    exact ⟨zcp E.out.symm, hb0⟩
   ·have c' : (ps[m].at_ == (at_ : Int)) = false := by simpa using c
    have C := zaa c
    clear c
    go_wp2
    go_round
    case rel =>
     refine ⟨m, by omega, by go_num, fun j hj hle => ?_⟩
     by_cases e : j = m
     ·subst e; exact C.out
     ·exact H.out j hj (by omega)
    case measure => simp [intOf] <;> omega

end Go.Proofs.YtbbmljakfbhnpaaGreatDoor
