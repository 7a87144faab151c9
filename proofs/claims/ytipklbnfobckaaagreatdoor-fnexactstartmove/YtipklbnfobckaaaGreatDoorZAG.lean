/- Several texts laid together: PmOwn, PmCopy, PmFlush, PmFence, BlkOKI, BlkRead, BlkSm. -/
import Derived.Test.YtipklbnfobckaaaGreatDoorZAF
import Derived.Deep.RegionLaw
import Derived.Test.YtipklbnfobckaaaGreatDoorZAD
namespace Go.Proofs.YtipklbnfobckaaaGreatDoor
open Go.RowKit


set_option maxHeartbeats 2000000 in
theorem l01Own_any (v : Value) (ws : List Int) (ps : List St) (w : World) (h : RdPm w v ws ps) (hw : ws.length ≤ 2147483648) (hp : ps.length ≤ 2147483648) :
  Calls Tryz.prog 180 #[v] w fun e w' => ∃ v', e = .returned v' ∧ RowPm w' w.heap.size w'.heap.size v' ws ps ∧ Below w.heap.size w w' := by
 obtain ⟨vW, vP, rfl, h1, h2⟩ := h
 have H1 := zaa h1
 have H2 := zaa h2
 obtain ⟨aW, cW, rfl, _⟩ := h1.shape
 obtain ⟨aP, cP, rfl, _⟩ := h2.shape
 clear h1 h2
 have hb0 : Below w.heap.size w (((w.alloc (.cells #[.slice aW ws.length cW, .slice aP ps.length cP] 41)).alloc (.cells #[.slice none 0 0, .slice none 0 0] 41)).alloc (.cells #[] 3)) := by
  repeat (refine Below.alloc ?_ (by simp <;> omega) _)
  exact Below.refl _ _
 have ho0 : (((w.alloc (.cells #[.slice aW ws.length cW, .slice aP ps.length cP] 41)).alloc (.cells #[.slice none 0 0, .slice none 0 0] 41)).alloc (.cells #[] 3)).ownsRow (w.heap.size + 2) 3 1 (.slice (some ⟨w.heap.size + 1 + 1, 0, none⟩) 0 0) 0 [] := by
  simpa using World.ownsRow_lit (base := w.heap.size + 2) (e := 3) (size := 1) ((w.alloc (.cells #[.slice aW ws.length cW, .slice aP ps.length cP] 41)).alloc (.cells #[.slice none 0 0, .slice none 0 0] 41)) #[] 0 (by simp) (by simp) rfl
 have HO := zaa ho0
 have HB := zaa hb0
 clear ho0 hb0
 go_enter Tryz.func180, Tryz.ntmps180
 go_wp2_with (at_builtin; refine zai _ rfl (.tmp 3) (.tmp 5) 22 rfl (w.heap.size + 2) 3 (.int .i64 0) 1 8 Tryz.underlying22 zkh rfl (by decide) _ 0 [] rfl HO.out _ ws.length (zca ws) rfl (Rd.below H1.out HB.out) (zem ws) (by simp [maxLen]; omega) (by omega) (by simp) ?_)
 intro v1 w1 hown1 hgr1
 have hown1 : w1.ownsRow (w.heap.size + 2) 3 1 v1 ws.length (zca ws) := by simpa using hown1
 have R1 := zaa (zaf hown1)
 obtain ⟨_, a1, c1, rfl, _⟩ := (zaf hown1).rd
 have hz1 : w.heap.size + 3 ≤ w1.heap.size := by have := hgr1.size; simp at this; omega
 have V0 := (hgr1.block w.heap.size (by simp <;> omega) (by simp [Value.ownBlock] <;> omega)).trans (zap (zap (zah rfl)))
 have V1 := (hgr1.block (w.heap.size + 1) (by simp <;> omega) (by simp [Value.ownBlock] <;> omega)).trans (zap (zah (by simp)))
 have B1 := HB.out.grown hgr1 (by simp <;> omega) (fun k hk => by simp [Value.ownBlock] at hk; omega)
 have V0' := zap (o := .cells #[] 165) (zig V0 (.slice a1 ws.length c1))
 have V1' := zap (o := .cells #[] 165) ((Below.heap_setCell w1 ⟨w.heap.size, 0, none⟩ (.slice a1 ws.length c1) (w.heap.size + 1) (by simp)).trans V1)
 obtain ⟨x1, x2, x3, x4⟩ := zad V0
 obtain ⟨x5, x6, x7, x8⟩ := zad V0'
 have HV := zaa (And.intro V0' V1')
 have hB2 := (B1.setCell (p := ⟨w.heap.size, 0, none⟩) (Nat.le_refl _) (.slice a1 ws.length c1)).alloc (by simp; omega) (.cells #[] 165)
 have ho2 : ((w1.setCell ⟨w.heap.size, 0, none⟩ (.slice a1 ws.length c1)).alloc (.cells #[] 165)).ownsRow w1.heap.size 165 3 (.slice (some ⟨w1.heap.size, 0, none⟩) 0 0) 0 [] := by
  simpa using World.ownsRow_lit (base := w1.heap.size) (e := 165) (size := 3) (w1.setCell ⟨w.heap.size, 0, none⟩ (.slice a1 ws.length c1)) #[] 0 (by simp) (by simp) rfl
 have HB2 := zaa hB2
 have HO2 := zaa ho2
 clear hown1 hgr1 V0 V1 B1 V0' V1' hB2 ho2
 go_wp2_with (at_builtin; refine zai _ rfl (.tmp 8) (.tmp 10) 39 rfl w1.heap.size 165 (.agg #[.int .i64 0, .int .i64 0, .bool false]) 3 24 Tryz.underlying39 info52 rfl (by decide) _ 0 [] rfl HO2.out _ ps.length (sts ps) rfl (Rd.below H2.out HB2.out) (sts_one ps) (by simp [maxLen]; omega) (by omega) (by simp) ?_)
 intro v2 w2 hown2 hgr2
 have hown2 : w2.ownsRow w1.heap.size 165 3 v2 ps.length (sts ps) := by simpa using hown2
 have R2 := zaa (zaf hown2)
 obtain ⟨_, a2, c2, rfl, _⟩ := (zaf hown2).rd
 have hz2 : w1.heap.size + 1 ≤ w2.heap.size := by have := hgr2.size; simp at this; omega
 have V0 := (hgr2.block w.heap.size (by simp <;> omega) (by simp [Value.ownBlock]; omega)).trans HV.out.1
 have V1 := (hgr2.block (w.heap.size + 1) (by simp <;> omega) (by simp [Value.ownBlock]; omega)).trans HV.out.2
 have B2 := zaa (HB2.out.grown hgr2 (by simp <;> omega) (fun k hk => by simp [Value.ownBlock] at hk; omega))
 have K2 : Hid (∀ b, w.heap.size + 2 ≤ b → b < w1.heap.size → w2.heap[b]? = w1.heap[b]?) := by
  intro b h1 h2
  rw [hgr2.block b (by simp <;> omega) (by simp [Value.ownBlock]; omega), zdy, if_neg (by simp; omega), Below.heap_setCell _ _ _ _ (by simp only; omega)]
 obtain ⟨z1, z2, z3, z4⟩ := zad V0
 obtain ⟨t1, t2, t3, t4⟩ := zad V1
 clear hown2 hgr2 V0 V1
 go_wp2
 refine bodyPost_ret (v := .agg #[.slice a1 ws.length c1, .slice a2 ps.length c2]) (by simp [results, Tryz.results180, go_sem, t1, t2]) rfl ?_
 refine ⟨_, rfl, ⟨_, _, rfl, (R1.out.same fun b h1 h2 => ?_).wide (by omega) (by simp; omega), (R2.out.same fun b h1 h2 => ?_).wide (by omega) (by simp)⟩, ?_⟩
 ·rw [Below.heap_setCell _ _ _ _ (by simp only; omega), Below.heap_setCell _ _ _ _ (by simp only; omega), Below.heap_setCell _ _ _ _ (by simp only; omega), K2.out b h1 h2]
 ·rw [Below.heap_setCell _ _ _ _ (by simp only; omega), Below.heap_setCell _ _ _ _ (by simp only; omega), Below.heap_setCell _ _ _ _ (by simp only; omega)]
 ·exact ((B2.out.setCell (by simp only; omega) _).setCell (by simp only; omega) _).setCell (by simp only; omega) _
end Go.Proofs.YtipklbnfobckaaaGreatDoor

namespace Go.Proofs.YtipklbnfobckaaaGreatDoor
open Go.RowKit

/-- In the midst of a copy: what was there is as it was; the argument's box and the answer's variable. -/
def CopyInv (w a : World) (x y : Value) : Prop := Below w.heap.size w a ∧ a.heap[w.heap.size]? = some (.cells #[x, y] 41 (0, 0)) ∧ a.heap[w.heap.size + 1]? = some (.cells #[.slice none 0 0, .slice none 0 0] 41 (0, 0))
theorem CopyInv.grown {w a b : World} {x y : Value} (h : CopyInv w a x y) (hg : a.grownBy b none) : CopyInv w b x y := by
 obtain ⟨h1, h2, h3⟩ := h
 have l2 := (Array.getElem?_eq_some_iff.1 h2).1
 have l3 := (Array.getElem?_eq_some_iff.1 h3).1
 exact ⟨h1.grown hg h1.size (fun k hk => by cases hk), (hg.block _ l2 (by simp)).trans h2, (hg.block _ l3 (by simp)).trans h3⟩
theorem CopyInv.rd {w a : World} {x y : Value} (h : CopyInv w a x y) {size : Nat} {v : Value} {n : Nat} {xs : List Value} (hr : Rd w size v n xs) : Rd a size v n xs := hr.below h.1
theorem CopyInv.base {w a : World} {x y : Value} (h : CopyInv w a x y) : w.heap.size + 2 ≤ a.heap.size := (Array.getElem?_eq_some_iff.1 h.2.2).1
theorem Row.grownNone {a b : World} {e : TypeId} {size lo : Nat} {v : Value} {n : Nat} {xs : List Value} (h : Row a e size lo a.heap.size v n xs) (hg : a.grownBy b none) : Row b e size lo b.heap.size v n xs :=
 (h.same (fun k _ hk => hg.block k hk (by simp))).wide (Nat.le_refl _) hg.size
theorem copy_end {w b : World} {x y v1 v2 : Value} {ws : List Int} {ps : List St} (hI : CopyInv w b x y) (r1 : Row b 3 1 (w.heap.size + 2) b.heap.size v1 ws.length (zca ws)) (r2 : Row b 165 3 (w.heap.size + 2) b.heap.size v2 ps.length (sts ps)) :
  RowPm ((b.setCell ⟨w.heap.size + 1, 0, none⟩ v1).setCell ⟨w.heap.size + 1, 1, none⟩ v2) w.heap.size ((b.setCell ⟨w.heap.size + 1, 0, none⟩ v1).setCell ⟨w.heap.size + 1, 1, none⟩ v2).heap.size (.agg #[v1, v2]) ws ps ∧
   Below w.heap.size w ((b.setCell ⟨w.heap.size + 1, 0, none⟩ v1).setCell ⟨w.heap.size + 1, 1, none⟩ v2) := by
 refine ⟨⟨_, _, rfl, (r1.same fun k h1 h2 => ?_).wide (by omega) (by simp), (r2.same fun k h1 h2 => ?_).wide (by omega) (by simp)⟩, (hI.1.setCell (by simp only; omega) _).setCell (by simp only; omega) _⟩
 ·rw [Below.heap_setCell _ _ _ _ (by simp only; omega), Below.heap_setCell _ _ _ _ (by simp only; omega)]
 ·rw [Below.heap_setCell _ _ _ _ (by simp only; omega), Below.heap_setCell _ _ _ _ (by simp only; omega)]

set_option maxHeartbeats 4000000 in
theorem copyPm_any (v : Value) (ws : List Int) (ps : List St) (w : World) (h : RdPm w v ws ps) (hw : ws.length ≤ 2147483648) (hp : ps.length ≤ 2147483648) :
  Calls Tryz.prog 182 #[v] w fun e w' => ∃ v', e = .returned v' ∧ RowPm w' w.heap.size w'.heap.size v' ws ps ∧ Below w.heap.size w w' := by
 obtain ⟨vW, vP, rfl, h1, h2⟩ := h
 have H1 := zaa h1
 have H2 := zaa h2
 obtain ⟨aW, cW, rfl, _⟩ := h1.shape
 obtain ⟨aP, cP, rfl, _⟩ := h2.shape
 clear h1 h2
 have I0 : CopyInv w ((w.alloc (.cells #[.slice aW ws.length cW, .slice aP ps.length cP] 41)).alloc (.cells #[.slice none 0 0, .slice none 0 0] 41)).drew (.slice aW ws.length cW) (.slice aP ps.length cP) := by
  refine ⟨Below.drew ?_, zap (zah rfl), zah (by simp)⟩
  repeat (refine Below.alloc ?_ (by simp <;> omega) _)
  exact Below.refl _ _
 have HI := zaa I0
 clear I0
 go_enter Tryz.func182, Tryz.ntmps182
 go_wp2_with fail
 go_region_law (first
  | (refine zbu rfl (.const (.slice none 0 0)) (.tmp 4) 22 rfl (w.heap.size + 2) 3 (.int .i64 0) 1 8 Tryz.underlying22 zkh rfl (by decide) (.slice none 0 0) 0 [] rfl (World.ownsRow_nil _ _ _ _) (.slice aW ws.length cW) ws.length (zca ws) rfl (by first | exact HI.out.rd H1.out | exact CopyInv.rd (Hid.out ‹_›) H1.out) (zem ws) (by simp [maxLen]; omega) (by omega) (by first | exact HI.out.base | exact CopyInv.base (Hid.out ‹_›)) ?_; intro v1 w1 hown1 hgr1; have hown1 : w1.ownsRow (w.heap.size + 2) 3 1 v1 ws.length (zca ws) := (by simpa using hown1); have I1 := zaa (CopyInv.grown (by first | exact HI.out | exact Hid.out ‹_›) hgr1); obtain ⟨_, a1, c1, rfl, _⟩ := (zaf hown1).rd; obtain ⟨x1, x2, x3, x4⟩ := zad I1.out.2.1; obtain ⟨y1, y2, y3, y4⟩ := zad I1.out.2.2)
  | (refine zbu rfl (.const (.slice none 0 0)) (.tmp 7) 39 rfl (w.heap.size + 2) 165 (.agg #[.int .i64 0, .int .i64 0, .bool false]) 3 24 Tryz.underlying39 info52 rfl (by decide) (.slice none 0 0) 0 [] rfl (World.ownsRow_nil _ _ _ _) (.slice aP ps.length cP) ps.length (sts ps) rfl (by first | exact HI.out.rd H2.out | exact CopyInv.rd (Hid.out ‹_›) H2.out) (sts_one ps) (by simp [maxLen]; omega) (by omega) (by first | exact HI.out.base | exact CopyInv.base (Hid.out ‹_›)) ?_; intro v2 w2 hown2 hgr2; have hown2 : w2.ownsRow (w.heap.size + 2) 165 3 v2 ps.length (sts ps) := (by simpa using hown2); have I2 := zaa (CopyInv.grown (by first | exact HI.out | exact Hid.out ‹_›) hgr2); obtain ⟨_, a2, c2, rfl, _⟩ := (zaf hown2).rd; obtain ⟨z1, z2, z3, z4⟩ := zad I2.out.2.1; obtain ⟨t1, t2, t3, t4⟩ := zad I2.out.2.2))
 all_goals
  go_wp2
  refine bodyPost_ret (v := .agg #[.slice a1 ws.length c1, .slice a2 ps.length c2]) (by first | (simp [results, Tryz.results182, go_sem, t1, t2]; done) | (simp [results, Tryz.results182, go_sem, y1, y2]; done)) rfl ?_
  refine ⟨_, rfl, ?_⟩
  first
   | exact copy_end I2.out (Row.grownNone (zaf hown1) hgr2) (zaf hown2)
   | exact copy_end I1.out (zaf hown1) (Row.grownNone (zaf hown2) hgr1)
end Go.Proofs.YtipklbnfobckaaaGreatDoor

namespace Go.Proofs.YtipklbnfobckaaaGreatDoor
open Go.RowKit

/-- A store of the line is flushed; any other is as it was. -/
def fl1 (k : Int) (p : St) : St := if p.at_ / 8 = k / 8 then ⟨p.at_, p.val, true⟩ else p
end Go.Proofs.YtipklbnfobckaaaGreatDoor

namespace Go.Proofs.YtipklbnfobckaaaGreatDoor
open Go.RowKit

/-- The words behind a fence, a store after the other; and what is left. -/
def fenW (ws : List Int) (ps : List St) : List Int := ps.foldl (fun acc p => if p.fl then acc.set p.at_.toNat p.val else acc) ws
def fenP (ps : List St) : List St := ps.filter (fun p => !p.fl)
theorem fenW_len (ws : List Int) : ∀ ps : List St, (fenW ws ps).length = ws.length := by
 intro ps
 unfold fenW
 induction ps generalizing ws with
 | nil => rfl
 | cons p ps ih =>
  rw [List.foldl_cons, ih]
  split <;> simp
end Go.Proofs.YtipklbnfobckaaaGreatDoor

namespace Go.Proofs.YtipklbnfobckaaaGreatDoor
open Go.RowKit

/-- A write that is right. -/
def seB (s : Se) : Bool := zij s.at_ && zat s.val
theorem seB_true {s : Se} (h : seB s = true) : zij s.at_ = true ∧ zat s.val = true := by unfold seB at h; simpa using h
theorem seB_false {s : Se} {p : Prop} (h : seB s = false) (h1 : zij s.at_ = false → p) (h2 : zat s.val = false → p) : p := by
 unfold seB at h
 rw [Bool.and_eq_false_iff] at h
 exact h.elim h1 h2
/-- All writes are right. -/
def sesB (ps : List Se) : Bool := decide (∀ k (h : k < ps.length), seB ps[k] = true)
theorem sesB_true {ps : List Se} (h : sesB ps = true) : ∀ k (h : k < ps.length), seB ps[k] = true := of_decide_eq_true h
theorem sesB_mk {ps : List Se} (h : ∀ k (h : k < ps.length), seB ps[k] = true) : sesB ps = true := decide_eq_true h
theorem sesB_not {ps : List Se} {k : Nat} (hk : k < ps.length) (h : seB ps[k] = false) : sesB ps = false := decide_eq_false (fun x => by have := x k hk; rw [h] at this; cases this)
theorem sesB_ex {ps : List Se} (h : sesB ps = false) : ∃ k, ∃ h : k < ps.length, seB ps[k] = false := by
 apply Classical.byContradiction
 intro hn
 have : sesB ps = true := sesB_mk (fun k hk => by
  cases e : seB ps[k] with
  | true => rfl
  | false => exact absurd ⟨k, hk, e⟩ hn)
 rw [h] at this
 cases this

set_option maxHeartbeats 1000000 in
theorem zld (s : Se) (w : World) : Calls Tryz.prog 160 #[.agg #[.int .i64 s.at_, .int .i64 s.val]] w fun e w' => e = .returned (.bool (seB s)) ∧ Below w.heap.size w w' := by
 have hb0 : Below w.heap.size w (w.alloc (.cells #[.int .i64 s.at_, .int .i64 s.val] 167)) := (Below.refl _ _).alloc (Nat.le_refl _) _
 by_cases q : zij s.at_ = true
 ·have E := zaa (show seB s = zat s.val by unfold seB; rw [q]; rfl)
  have Q := zaa q
  clear q
  go_enter Tryz.func160, Tryz.ntmps160
  go_wp2_with (first | (go_at_call 223; refine (zdj _ _).mono ?_; rw [Q.out]; rintro e w' ⟨rfl, rfl⟩) | (go_at_call 156; refine (zgh _ _).mono ?_; rintro e w' ⟨rfl, rfl⟩))
  go_ret
  exact ⟨zac E.out.symm, hb0⟩
 ·have q' : zij s.at_ = false := by simpa using q
  have E := zaa (show seB s = false by unfold seB; rw [q']; rfl)
  have Q := zaa q'
  clear q q'
  go_enter Tryz.func160, Tryz.ntmps160
  go_wp2_with (go_at_call 223; refine (zdj _ _).mono ?_; rw [Q.out]; rintro e w' ⟨rfl, rfl⟩)
  go_ret
  exact ⟨zac E.out.symm, hb0⟩

set_option maxHeartbeats 4000000 in
theorem zgp (v : Value) (ps : List Se) (w : World) (h : RdE w v ps) (hn : ps.length ≤ 1048576) :
  Calls Tryz.prog 159 #[v, .func (.func 160) #[] #[]] w fun e w' => e = .returned (.bool (sesB ps)) ∧ Below w.heap.size w w' := by
 obtain ⟨aP, cP, rfl, _, hcP⟩ := h.shape
 clear h
 go_enter Tryz.func159, Tryz.ntmps159
 go_wp2
 go_loopw [6, 9] (fun _ i wr => ∃ k : Nat, k ≤ ps.length ∧ i = .int .i64 k ∧ Hid (∀ j (h : j < ps.length), j < k → seB ps[j] = true) ∧ Below w.heap.size w wr) (fun _ i _ => ps.length - (intOf i).toNat)
 case atStart => exact ⟨0, by omega, rfl, fun j h a => absurd a (by omega), Below.refl _ _⟩
 case round =>
  obtain ⟨m, hm, rfl, H, hbw⟩ := hrel
  have hz := hbw.size
  by_cases hlt2 : m < ps.length
  ·obtain ⟨b2, o2, rfl, hbl2, hcell2⟩ := hcP (by omega)
   obtain ⟨d0, d1⟩ := hcell2 m hlt2
   have e0 := (hbw.cell (p := ⟨b2, o2 + m * 2, none⟩) hbl2).trans d0
   have e1 := (hbw.cell (p := ⟨b2, o2 + m * 2 + 1, none⟩) hbl2).trans d1
   have hb1 := zaa (hbw.alloc hz (.cells #[.int .i64 ps[m].at_, .int .i64 ps[m].val] 167))
   clear d0 d1 hcell2 hcP
   by_cases q : seB ps[m] = true
   ·have Q := zaa q
    clear q
    go_wp2_with (go_at_call 160; refine (zld ps[m] _).mono ?_; rw [Q.out]; rintro e w' ⟨rfl, hw'⟩)
    have hw2 := hb1.out.trans (hw'.mono (by simp; omega))
    clear hb1 hw'
    go_roundw
    case rel =>
     refine ⟨m + 1, by omega, by go_num, fun j h a => ?_, hw2⟩
     by_cases e : j = m
     ·subst e; exact Q.out
     ·exact H.out j h (by omega)
    case measure => simp [intOf]; omega
   ·have Q := zaa (show seB ps[m] = false by simpa using q)
    have E := zaa (sesB_not hlt2 Q.out)
    clear q
    go_wp2_with (go_at_call 160; refine (zld ps[m] _).mono ?_; rw [Q.out]; rintro e w' ⟨rfl, hw'⟩)
    have hw2 := hb1.out.trans (hw'.mono (by simp; omega))
    go_ret
    exact ⟨zac E.out.symm, hw2⟩
  ·have E := zaa (sesB_mk (fun j h => H.out j h (by omega)))
   go_wp2
   go_ret
   exact ⟨zac E.out.symm, hbw⟩

set_option maxHeartbeats 4000000 in
theorem zcx (v : Value) (ws : List Int) (ps : List Se) (w : World) (h : RdBlk w v ws ps) (hw : ws.length ≤ 1048576) (hp : ps.length ≤ 1048576) :
  Calls Tryz.prog 104 #[v] w fun e w' => e = .returned (.bool (zeh ws ps)) ∧ Below w.heap.size w w' := by
 obtain ⟨vW, vP, rfl, h1, h2⟩ := h
 obtain ⟨aW, cW, rfl, _, hcW⟩ := h1.shape
 obtain ⟨aP, cP, rfl, _, hcP⟩ := h2.shape
 have H1 := zaa h1
 have H2 := zaa h2
 clear h1 h2 hcW hcP
 have hb0 : Below w.heap.size w (w.alloc (.cells #[.slice aW ws.length cW, .slice aP ps.length cP] 44)) := (Below.refl _ _).alloc (Nat.le_refl _) _
 have HB := zaa hb0
 by_cases c1 : ws.length = 32
 case neg =>
  have E := zaa (zsl (ps := ps) c1)
  have c1' : ((ws.length : Int) == 32) = false := by rw [beq_eq_false_iff_ne]; omega
  clear c1
  go_enter Tryz.func104, Tryz.ntmps104
  go_wp2
  go_ret
  exact ⟨zac E.out.symm, HB.out⟩
 have c1n : ((ws.length : Int) == 32) = true := by simp; omega
 have C1 := zaa c1
 clear c1
 by_cases c2 : 400 < ps.length
 ·have E := zaa (ztq (ws := ws) c2)
  have c2' : decide ((ps.length : Int) ≤ 400) = false := by simp; omega
  go_enter Tryz.func104, Tryz.ntmps104
  go_wp2
  go_ret
  exact ⟨zac E.out.symm, HB.out⟩
 by_cases c3 : zgv ws = true
 case neg =>
  have c3' : zgv ws = false := by simpa using c3
  obtain ⟨k, hk, hkf⟩ := zuc c3'
  have E := zaa (blkB_w (ps := ps) hk hkf)
  have W0 := zaa c3'
  clear c3 c3' hkf hk
  go_enter Tryz.func104, Tryz.ntmps104
  go_wp2_with (go_at_call 105; refine (zce _ ws _ (Rd.below H1.out HB.out) (by omega)).mono ?_; rw [W0.out]; rintro e w' ⟨rfl, rfl⟩)
  go_ret
  exact ⟨zac E.out.symm, HB.out⟩
 have HW := zaa (zkw c3)
 have W1 := zaa c3
 clear c3
 cases c4 : sesB ps with
 | true =>
  have E := zaa (zvx C1.out (by omega) HW.out (fun j h => seB_true (sesB_true c4 j h)))
  have W2 := zaa c4
  clear c4
  go_enter Tryz.func104, Tryz.ntmps104
  go_wp2_with (first | (go_at_call 105; refine (zce _ ws _ (Rd.below H1.out HB.out) (by omega)).mono ?_; rw [W1.out]; rintro e w' ⟨rfl, rfl⟩) | (go_at_call 159; refine (zgp _ ps _ (Rd.below H2.out HB.out) (by omega)).mono ?_; rw [W2.out]; rintro e w' ⟨rfl, hw'⟩))
  go_ret
  exact ⟨zac E.out.symm, HB.out.trans (hw'.mono (by simp))⟩
 | false =>
  obtain ⟨k, hk, hkf⟩ := sesB_ex c4
  have E := zaa (show zeh ws ps = false from seB_false hkf (blkB_a (ws := ws) hk) (blkB_v (ws := ws) hk))
  have W2 := zaa c4
  clear c4 hk hkf
  go_enter Tryz.func104, Tryz.ntmps104
  go_wp2_with (first | (go_at_call 105; refine (zce _ ws _ (Rd.below H1.out HB.out) (by omega)).mono ?_; rw [W1.out]; rintro e w' ⟨rfl, rfl⟩) | (go_at_call 159; refine (zgp _ ps _ (Rd.below H2.out HB.out) (by omega)).mono ?_; rw [W2.out]; rintro e w' ⟨rfl, hw'⟩))
  go_ret
  exact ⟨zac E.out.symm, HB.out.trans (hw'.mono (by simp))⟩
end Go.Proofs.YtipklbnfobckaaaGreatDoor

namespace Go.Proofs.YtipklbnfobckaaaGreatDoor
open Go.RowKit

/-- The code that the calls with a place ask first. -/
def zqy (ws : List Int) (ps : List Se) (at_ : Int) : Int := if zeh ws ps = false then 1 else if zij at_ = false then 14 else 0
theorem askE_bad {ws : List Int} {ps : List Se} {at_ : Int} (h : zeh ws ps = false) : zqy ws ps at_ = 1 := by unfold zqy; rw [if_pos h]
theorem zof {ws : List Int} {ps : List Se} {at_ : Int} (h : zeh ws ps = true) (h2 : zij at_ = false) : zqy ws ps at_ = 14 := by unfold zqy; rw [if_neg (by rw [h]; simp), if_pos h2]
theorem askE_ok {ws : List Int} {ps : List Se} {at_ : Int} (h : zeh ws ps = true) (h2 : zij at_ = true) : zqy ws ps at_ = 0 := by unfold zqy; rw [if_neg (by rw [h]; simp), if_neg (by rw [h2]; simp)]

set_option maxHeartbeats 1000000 in
theorem zfp (v : Value) (ws : List Int) (ps : List Se) (at_ : Int) (w : World) (h : RdBlk w v ws ps) (hw : ws.length ≤ 1048576) (hp : ps.length ≤ 1048576) :
  Calls Tryz.prog 294 #[v, .int .i64 at_] w fun e w' => e = .returned (.int .i64 (zqy ws ps at_)) ∧ Below w.heap.size w w' := by
 have HR := zaa h
 obtain ⟨vW, vP, rfl, h1, h2⟩ := h
 obtain ⟨aW, cW, rfl, _⟩ := h1.shape
 obtain ⟨aP, cP, rfl, _⟩ := h2.shape
 clear h1 h2
 have hb0 : Below w.heap.size w (w.alloc (.cells #[.slice aW ws.length cW, .slice aP ps.length cP] 44)) := (Below.refl _ _).alloc (Nat.le_refl _) _
 by_cases c1 : zeh ws ps = true
 ·by_cases c2 : zij at_ = true
  ·rw [askE_ok c1 c2]
   go_enter Tryz.func294, Tryz.ntmps294
   go_wp2_with (first | (go_at_call 104; refine (zcx _ ws ps _ (HR.out.below hb0) hw hp).mono ?_; rintro e w1 ⟨rfl, hb1⟩) | (go_at_call 223; refine (zdj _ _).mono ?_; rintro e w2 ⟨rfl, rfl⟩))
   go_ret
   exact ⟨rfl, zab hb0 hb1 (by simp)⟩
  ·have c2' : zij at_ = false := by simpa using c2
   rw [zof c1 c2']
   clear c2
   go_enter Tryz.func294, Tryz.ntmps294
   go_wp2_with (first | (go_at_call 104; refine (zcx _ ws ps _ (HR.out.below hb0) hw hp).mono ?_; rintro e w1 ⟨rfl, hb1⟩) | (go_at_call 223; refine (zdj _ _).mono ?_; rintro e w2 ⟨rfl, rfl⟩))
   go_ret
   exact ⟨rfl, zab hb0 hb1 (by simp)⟩
 ·have c1' : zeh ws ps = false := by simpa using c1
  rw [askE_bad c1']
  clear c1
  go_enter Tryz.func294, Tryz.ntmps294
  go_wp2_with (first | (go_at_call 104; refine (zcx _ ws ps _ (HR.out.below hb0) hw hp).mono ?_; rintro e w1 ⟨rfl, hb1⟩) | (go_at_call 223; refine (zdj _ _).mono ?_; rintro e w2 ⟨rfl, rfl⟩))
  go_ret
  exact ⟨rfl, zab hb0 hb1 (by simp)⟩

/-- The last of some writes at a place, or what was there. -/
def zer (at_ d : Int) (ps : List Se) : Int := ps.foldl (fun acc p => if p.at_ = at_ then p.val else acc) d
theorem zev {at_ d : Int} : ∀ {ps : List Se}, (∀ p ∈ ps, ¬ p.at_ = at_) → zer at_ d ps = d
 | [], _ => rfl
 | p :: ps, h => by
  show zer at_ (if p.at_ = at_ then p.val else d) ps = d
  rw [if_neg (h p (by simp))]
  exact zev (fun q hq => h q (by simp [hq]))
theorem zsq (at_ d : Int) (ps qs : List Se) : zer at_ d (ps ++ qs) = zer at_ (zer at_ d ps) qs := by simp [zer]
theorem lastE_hit {at_ d : Int} {ps : List Se} {k : Nat} (hk : k < ps.length) (h : ps[k].at_ = at_) (ha : ∀ j (hj : j < ps.length), k < j → ¬ ps[j].at_ = at_) : zer at_ d ps = ps[k].val := by
 have e : ps = ps.take k ++ (ps[k] :: ps.drop (k + 1)) := by rw [← List.drop_eq_getElem_cons hk, List.take_append_drop]
 conv => lhs; rw [e]
 rw [zsq]
 show zer at_ (if ps[k].at_ = at_ then ps[k].val else _) (ps.drop (k + 1)) = _
 rw [if_pos h]
 apply zev
 intro p hp
 obtain ⟨i, hi, rfl⟩ := List.getElem_of_mem hp
 rw [List.getElem_drop]
 exact ha _ _ (by omega)

set_option maxHeartbeats 2000000 in
theorem zvt (v : Value) (ws : List Int) (ps : List Se) (at_ : Nat) (w : World) (h : RdBlk w v ws ps) (hw : ws.length ≤ 1048576) (hp : ps.length ≤ 1048576) (ha : at_ < ws.length) :
  Calls Tryz.prog 266 #[v, .int .i64 (at_ : Int)] w fun e w' => e = .returned (.int .i64 (zer (at_ : Int) ws[at_] ps)) ∧ Below w.heap.size w w' := by
 obtain ⟨vW, vP, rfl, h1, h2⟩ := h
 obtain ⟨aW, cW, rfl, _, hcW⟩ := h1.shape
 obtain ⟨aP, cP, rfl, _, hcP⟩ := h2.shape
 clear h1 h2
 obtain ⟨bW, oW, rfl, hbW, hcellW⟩ := hcW (by omega)
 have hb0 : Below w.heap.size w (w.alloc (.cells #[.slice (some ⟨bW, oW, none⟩) ws.length cW, .slice aP ps.length cP] 44)) := (Below.refl _ _).alloc (Nat.le_refl _) _
 have hcw := (hb0.cell (p := ⟨bW, oW + at_, none⟩) hbW).trans (hcellW at_ ha)
 clear hcW hcellW
 go_enter Tryz.func266, Tryz.ntmps266
 go_wp2
 go_loop [5] (fun i => ∃ k : Nat, k ≤ ps.length ∧ i = .int .i64 ((k : Int) - 1) ∧ Hid (∀ j (h : j < ps.length), k ≤ j → ¬ ps[j].at_ = (at_ : Int))) (fun i => (intOf i + 1).toNat)
 case atStart => exact ⟨ps.length, Nat.le_refl _, rfl, fun j h a => absurd h (by omega)⟩
 case round =>
  obtain ⟨k, hk, rfl, H⟩ := hrel
  cases k with
  | zero =>
   have E := zaa (zev (d := ws[at_]) (fun p hp => by obtain ⟨i, hi, rfl⟩ := List.getElem_of_mem hp; exact H.out i hi (by omega)))
   clear H hcP
   go_wp2
   go_ret
   exact ⟨zeo E.out.symm, hb0⟩
  | succ m =>
   have em : (((m + 1 : Nat) : Int) - 1) = (m : Int) := by omega
   rw [em]
   clear em
   obtain ⟨b, o, rfl, hbl, hcell⟩ := hcP (by omega)
   obtain ⟨d0, d1⟩ := hcell m (by omega)
   have e0 := (hb0.cell (p := ⟨b, o + m * 2, none⟩) hbl).trans d0
   have e1 := (hb0.cell (p := ⟨b, o + m * 2 + 1, none⟩) hbl).trans d1
   clear d0 d1 hcell hcP
   have hm : m < ps.length := by omega
   by_cases c : ps[m].at_ = (at_ : Int)
   ·have c' : (ps[m].at_ == (at_ : Int)) = true := by simpa using c
    have E := zaa (lastE_hit (d := ws[at_]) hm c (fun j hj hlt => H.out j hj (by omega)))
    clear H c
    go_wp2
    go_ret
    exact ⟨zeo E.out.symm, hb0⟩
   ·have c' : (ps[m].at_ == (at_ : Int)) = false := by simpa using c
    have C := zaa c
    clear c
    go_wp2
    go_round
    case rel =>
     refine ⟨m, by omega, by go_num, fun j hj hle => ?_⟩
     by_cases e : j = m
     ·subst e; exact C.out
     ·exact H.out j hj (by omega)
    case measure => simp [intOf] <;> omega

/-- What is loaded: 0 with a code. -/
def zwi (ws : List Int) (ps : List Se) (at_ : Int) : Int := if zqy ws ps at_ = 0 then zer at_ (ws[at_.toNat]?.getD 0) ps else 0
theorem readV_not {ws : List Int} {ps : List Se} {at_ : Int} (h : ¬ zqy ws ps at_ = 0) : zwi ws ps at_ = 0 := by unfold zwi; rw [if_neg h]
theorem readV_ok {ws : List Int} {ps : List Se} {k : Nat} (h : zqy ws ps (k : Int) = 0) (hk : k < ws.length) : zwi ws ps (k : Int) = zer (k : Int) ws[k] ps := by
 unfold zwi; rw [if_pos h]; simp [hk]
/-- Either a code, or a right device and a place. -/
theorem askE_cases (ws : List Int) (ps : List Se) (at_ : Int) : (zqy ws ps at_ = 1 ∨ zqy ws ps at_ = 14) ∨ (zqy ws ps at_ = 0 ∧ zeh ws ps = true ∧ ∃ k : Nat, at_ = (k : Int) ∧ k < 32 ∧ k < ws.length) := by
 by_cases c1 : zeh ws ps = true
 ·by_cases c2 : zij at_ = true
  ·have := secB_true c2
   have hl := (zff c1).1
   exact .inr ⟨askE_ok c1 c2, c1, at_.toNat, by omega, by omega, by omega⟩
  ·exact .inl (.inr (zof c1 (by simpa using c2)))
 ·exact .inl (.inl (askE_bad (by simpa using c1)))

end Go.Proofs.YtipklbnfobckaaaGreatDoor

namespace Go.Proofs.YtipklbnfobckaaaGreatDoor
open Go.RowKit

theorem ses_one (ps : List Se) : ∀ u ∈ ses ps, u.oneCell' = true := by
 intro u hu
 simp only [ses, List.mem_flatMap, Se.cells] at hu
 obtain ⟨s, _, hs⟩ := hu
 simp at hs
 rcases hs with rfl | rfl <;> rfl
theorem RowBlk.setCell {w : World} {lo hi : Nat} {v : Value} {ws : List Int} {ps : List Se} (h : RowBlk w lo hi v ws ps) {a : Addr} (ha : a.block < lo) (u : Value) : RowBlk (w.setCell a u) lo hi v ws ps := by
 obtain ⟨vW, vP, rfl, h1, h2⟩ := h
 exact ⟨vW, vP, rfl, h1.same (fun b hb _ => Below.heap_setCell _ _ _ _ (by omega)), h2.same (fun b hb _ => Below.heap_setCell _ _ _ _ (by omega))⟩
theorem RowBlk.alloc {w : World} {lo hi : Nat} {v : Value} {ws : List Int} {ps : List Se} (h : RowBlk w lo hi v ws ps) (hi1 : hi ≤ w.heap.size) (o : Obj) : RowBlk (w.alloc o) lo hi v ws ps :=
 h.below ((Below.refl _ _).alloc (Nat.le_refl _) o) hi1
theorem RowBlk.zero (w : World) (lo hi : Nat) : RowBlk w lo hi (.agg #[.slice none 0 0, .slice none 0 0]) [] [] := ⟨_, _, rfl, RowZ.nil _ _ _, Row.nil _ _ _ _ _⟩
/-- The shape of a slice, its length as it is wanted. -/
theorem RdE.form {w : World} {v : Value} {ps : List Se} (h : RdE w v ps) {n : Nat} (hn : ps.length = n) : ∃ ao cap, v = .slice ao n cap := by
 obtain ⟨ao, cap, e, _⟩ := h.shape
 exact ⟨ao, cap, by rw [← hn]; exact e⟩
end Go.Proofs.YtipklbnfobckaaaGreatDoor
