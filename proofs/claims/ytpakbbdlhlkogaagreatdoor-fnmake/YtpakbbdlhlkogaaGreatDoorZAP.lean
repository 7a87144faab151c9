/- Several texts laid together: PmOK, Ev, PmOKI, PmLoad, Small, PmSeen, NmU. -/
import Derived.Test.YtpakbbdlhlkogaaGreatDoorZAO
import Derived.Test.YtpakbbdlhlkogaaGreatDoorZAD
import Derived.Test.YtpakbbdlhlkogaaGreatDoorZAC
import Derived.Test.YtpakbbdlhlkogaaGreatDoorZAA
namespace Go.Proofs.YtpakbbdlhlkogaaGreatDoor
open Go.RowKit
def pmB (ws : List Int) (ps : List St) : Bool := decide (ws.length = 336 ∧ ps.length ≤ 400 ∧ (∀ k (h : k < ws.length), zbc ws[k] = true) ∧ ∀ k (h : k < ps.length), zen ps[k].at_ = true ∧ zbc ps[k].val = true)
theorem yapm {ws : List Int} {ps : List St} (h1 : ws.length = 336) (h2 : ps.length ≤ 400) (h3 : ∀ k (h : k < ws.length), zbc ws[k] = true) (h4 : ∀ k (h : k < ps.length), zen ps[k].at_ = true ∧ zbc ps[k].val = true) : pmB ws ps = true := decide_eq_true ⟨h1, h2, h3, h4⟩
theorem zfk {ws : List Int} {ps : List St} (h : pmB ws ps = true) : ws.length = 336 ∧ ps.length ≤ 400 := ⟨(of_decide_eq_true h).1, (of_decide_eq_true h).2.1⟩
theorem yaab {ws : List Int} {ps : List St} (h : pmB ws ps = true) (k : Nat) (hk : k < ws.length) : zbc ws[k] = true := (of_decide_eq_true h).2.2.1 k hk
theorem zjt {ws : List Int} {ps : List St} (h : pmB ws ps = true) (k : Nat) (hk : k < ps.length) : zen ps[k].at_ = true ∧ zbc ps[k].val = true := (of_decide_eq_true h).2.2.2 k hk
theorem yaos {ws : List Int} {ps : List St} (h : ¬ ws.length = 336) : pmB ws ps = false := decide_eq_false (fun x => h x.1)
theorem yann {ws : List Int} {ps : List St} (h : 400 < ps.length) : pmB ws ps = false := decide_eq_false (fun x => absurd x.2.1 (by omega))
theorem yawr {ws : List Int} {ps : List St} {k : Nat} (hk : k < ws.length) (h : zbc ws[k] = false) : pmB ws ps = false := decide_eq_false (fun x => by have := x.2.2.1 k hk; rw [h] at this; cases this)
theorem yavr {ws : List Int} {ps : List St} {k : Nat} (hk : k < ps.length) (h : zen ps[k].at_ = false) : pmB ws ps = false := decide_eq_false (fun x => by have := (x.2.2.2 k hk).1; rw [h] at this; cases this)
theorem yawc {ws : List Int} {ps : List St} {k : Nat} (hk : k < ps.length) (h : zbc ps[k].val = false) : pmB ws ps = false := decide_eq_false (fun x => by have := (x.2.2.2 k hk).2; rw [h] at this; cases this)
set_option maxHeartbeats 2000000 in
theorem zgj (v : Value) (zs : List Int) (w : World) (h : RdI w v zs) (hn : zs.length ≤ 2147483648) :
  Calls Tryz.prog 84 #[v, .func (.func 85) #[] #[]] w fun e w' => e = .returned (.bool (zlr zs)) ∧ w' = w := by
 obtain ⟨ao, cap, rfl, _, hc⟩ := h.shape
 clear h
 go_enter Tryz.func84, Tryz.ntmps84
 go_wp2
 go_loop [6, 9] (fun _ i => ∃ k : Nat, k ≤ zs.length ∧ i = .int .i64 k ∧ Hid (∀ j (h : j < zs.length), j < k → zbc zs[j] = true)) (fun _ i => zs.length - (intOf i).toNat)
 case atStart => exact ⟨0, by omega, rfl, fun j h a => absurd a (by omega)⟩
 case round =>
  obtain ⟨k, hk, rfl, H⟩ := hrel
  by_cases hlt : k < zs.length
  ·obtain ⟨b, o, rfl, hbl, hcell⟩ := hc (by omega)
   have hck := hcell k hlt
   clear hcell hc
   by_cases q : zbc zs[k] = true
   ·go_wp2_with (go_at_call 85; refine (zia _ _).mono ?_; rintro e w' ⟨rfl, rfl⟩)
    go_round
    case rel =>
     refine ⟨k + 1, by omega, by go_num, fun j h a => ?_⟩
     by_cases e : j = k
     ·subst e; exact q
     ·exact H.out j h (by omega)
    case measure => simp [intOf]; omega
   ·have q' : zbc zs[k] = false := by simpa using q
    have E := zaa (yacv hlt q')
    go_wp2_with (go_at_call 85; refine (zia _ _).mono ?_; rintro e w' ⟨rfl, rfl⟩)
    go_ret
    exact ⟨zag E.out.symm, rfl⟩
  ·have E := zaa (zuu (fun j h => H.out j h (by omega)))
   clear H
   go_wp2
   go_ret
   exact ⟨zag E.out.symm, rfl⟩
def stB (s : St) : Bool := zen s.at_ && zbc s.val
theorem yala {s : St} (h : stB s = true) : zen s.at_ = true ∧ zbc s.val = true := by unfold stB at h; simpa using h
theorem yahv {s : St} {p : Prop} (h : stB s = false) (h1 : zen s.at_ = false → p) (h2 : zbc s.val = false → p) : p := by
 unfold stB at h
 rw [Bool.and_eq_false_iff] at h
 exact h.elim h1 h2
def stsB (ps : List St) : Bool := decide (∀ k (h : k < ps.length), stB ps[k] = true)
theorem yahp {ps : List St} (h : stsB ps = true) : ∀ k (h : k < ps.length), stB ps[k] = true := of_decide_eq_true h
theorem yajl {ps : List St} (h : ∀ k (h : k < ps.length), stB ps[k] = true) : stsB ps = true := decide_eq_true h
theorem yamn {ps : List St} {k : Nat} (hk : k < ps.length) (h : stB ps[k] = false) : stsB ps = false := decide_eq_false (fun x => by have := x k hk; rw [h] at this; cases this)
theorem yaqq {ps : List St} (h : stsB ps = false) : ∃ k, ∃ h : k < ps.length, stB ps[k] = false := by
 apply Classical.byContradiction
 intro hn
 have : stsB ps = true := yajl (fun k hk => by
  cases e : stB ps[k] with
  | true => rfl
  | false => exact absurd ⟨k, hk, e⟩ hn)
 rw [h] at this
 cases this
set_option maxHeartbeats 1000000 in
theorem zni (s : St) (w : World) : Calls Tryz.prog 87 #[.agg #[.int .i64 s.at_, .int .i64 s.val, .bool s.fl]] w fun e w' => e = .returned (.bool (stB s)) ∧ Below w.heap.size w w' := by
 have hb0 : Below w.heap.size w (w.alloc (.cells #[.int .i64 s.at_, .int .i64 s.val, .bool s.fl] 108)) := (Below.refl _ _).alloc (Nat.le_refl _) _
 by_cases q : zen s.at_ = true
 ·have E := zaa (show stB s = zbc s.val by unfold stB; rw [q]; rfl)
  have Q := zaa q
  clear q
  go_enter Tryz.func87, Tryz.ntmps87
  go_wp2_with (first | (go_at_call 88; refine (zgl _ _).mono ?_; rw [Q.out]; rintro e w' ⟨rfl, rfl⟩) | (go_at_call 85; refine (zia _ _).mono ?_; rintro e w' ⟨rfl, rfl⟩))
  go_ret
  exact ⟨zag E.out.symm, hb0⟩
 ·have q' : zen s.at_ = false := by simpa using q
  have E := zaa (show stB s = false by unfold stB; rw [q']; rfl)
  have Q := zaa q'
  clear q q'
  go_enter Tryz.func87, Tryz.ntmps87
  go_wp2_with (go_at_call 88; refine (zgl _ _).mono ?_; rw [Q.out]; rintro e w' ⟨rfl, rfl⟩)
  go_ret
  exact ⟨zag E.out.symm, hb0⟩
set_option maxHeartbeats 4000000 in
theorem zio (v : Value) (ps : List St) (w : World) (h : RdS w v ps) (hn : ps.length ≤ 1048576) :
  Calls Tryz.prog 86 #[v, .func (.func 87) #[] #[]] w fun e w' => e = .returned (.bool (stsB ps)) ∧ Below w.heap.size w w' := by
 obtain ⟨aP, cP, rfl, _, hcP⟩ := h.shape
 clear h
 go_enter Tryz.func86, Tryz.ntmps86
 go_wp2
 go_loopw [6, 9] (fun _ i wr => ∃ k : Nat, k ≤ ps.length ∧ i = .int .i64 k ∧ Hid (∀ j (h : j < ps.length), j < k → stB ps[j] = true) ∧ Below w.heap.size w wr) (fun _ i _ => ps.length - (intOf i).toNat)
 case atStart => exact ⟨0, by omega, rfl, fun j h a => absurd a (by omega), Below.refl _ _⟩
 case round =>
  obtain ⟨m, hm, rfl, H, hbw⟩ := hrel
  have hz := hbw.size
  by_cases hlt2 : m < ps.length
  ·obtain ⟨b2, o2, rfl, hbl2, hcell2⟩ := hcP (by omega)
   obtain ⟨d0, d1, d2⟩ := hcell2 m hlt2
   have e0 := (hbw.cell (p := ⟨b2, o2 + m * 3, none⟩) hbl2).trans d0
   have e1 := (hbw.cell (p := ⟨b2, o2 + m * 3 + 1, none⟩) hbl2).trans d1
   have e2 := (hbw.cell (p := ⟨b2, o2 + m * 3 + 2, none⟩) hbl2).trans d2
   have hb1 := zaa (hbw.alloc hz (.cells #[.int .i64 ps[m].at_, .int .i64 ps[m].val, .bool ps[m].fl] 108))
   clear d0 d1 d2 hcell2 hcP
   by_cases q : stB ps[m] = true
   ·have Q := zaa q
    clear q
    go_wp2_with (go_at_call 87; refine (zni ps[m] _).mono ?_; rw [Q.out]; rintro e w' ⟨rfl, hw'⟩)
    have hw2 := hb1.out.trans (hw'.mono (by simp; omega))
    clear hb1 hw'
    go_roundw
    case rel =>
     refine ⟨m + 1, by omega, by go_num, fun j h a => ?_, hw2⟩
     by_cases e : j = m
     ·subst e; exact Q.out
     ·exact H.out j h (by omega)
    case measure => simp [intOf]; omega
   ·have Q := zaa (show stB ps[m] = false by simpa using q)
    have E := zaa (yamn hlt2 Q.out)
    clear q
    go_wp2_with (go_at_call 87; refine (zni ps[m] _).mono ?_; rw [Q.out]; rintro e w' ⟨rfl, hw'⟩)
    have hw2 := hb1.out.trans (hw'.mono (by simp; omega))
    go_ret
    exact ⟨zag E.out.symm, hw2⟩
  ·have E := zaa (yajl (fun j h => H.out j h (by omega)))
   go_wp2
   go_ret
   exact ⟨zag E.out.symm, hbw⟩
set_option maxHeartbeats 4000000 in
theorem zhn (v : Value) (ws : List Int) (ps : List St) (w : World) (h : RdPm w v ws ps) (hw : ws.length ≤ 1048576) (hp : ps.length ≤ 1048576) :
  Calls Tryz.prog 35 #[v] w fun e w' => e = .returned (.bool (pmB ws ps)) ∧ Below w.heap.size w w' := by
 obtain ⟨vW, vP, rfl, h1, h2⟩ := h
 obtain ⟨aW, cW, rfl, _, hcW⟩ := h1.shape
 obtain ⟨aP, cP, rfl, _, hcP⟩ := h2.shape
 have H1 := zaa h1
 have H2 := zaa h2
 clear h1 h2 hcW hcP
 have hb0 : Below w.heap.size w (w.alloc (.cells #[.slice aW ws.length cW, .slice aP ps.length cP] 26)) := (Below.refl _ _).alloc (Nat.le_refl _) _
 have HB := zaa hb0
 by_cases c1 : ws.length = 336
 case neg =>
  have E := zaa (yaos (ps := ps) c1)
  have c1' : ((ws.length : Int) == 336) = false := by rw [beq_eq_false_iff_ne]; omega
  clear c1
  go_enter Tryz.func35, Tryz.ntmps35
  go_wp2
  go_ret
  exact ⟨zag E.out.symm, HB.out⟩
 have c1n : ((ws.length : Int) == 336) = true := by simp; omega
 have C1 := zaa c1
 clear c1
 by_cases c2 : 400 < ps.length
 ·have E := zaa (yann (ws := ws) c2)
  have c2' : decide ((ps.length : Int) ≤ 400) = false := by simp; omega
  go_enter Tryz.func35, Tryz.ntmps35
  go_wp2
  go_ret
  exact ⟨zag E.out.symm, HB.out⟩
 by_cases c3 : zlr ws = true
 case neg =>
  have c3' : zlr ws = false := by simpa using c3
  obtain ⟨k, hk, hkf⟩ := yahr c3'
  have E := zaa (yawr (ps := ps) hk hkf)
  have W0 := zaa c3'
  clear c3 c3' hkf hk
  go_enter Tryz.func35, Tryz.ntmps35
  go_wp2_with (go_at_call 84; refine (zgj _ ws _ (Rd.below H1.out HB.out) (by omega)).mono ?_; rw [W0.out]; rintro e w' ⟨rfl, rfl⟩)
  go_ret
  exact ⟨zag E.out.symm, HB.out⟩
 have HW := zaa (zxg c3)
 have W1 := zaa c3
 clear c3
 cases c4 : stsB ps with
 | true =>
  have E := zaa (yapm C1.out (by omega) HW.out (fun j h => yala (yahp c4 j h)))
  have W2 := zaa c4
  clear c4
  go_enter Tryz.func35, Tryz.ntmps35
  go_wp2_with (first | (go_at_call 84; refine (zgj _ ws _ (Rd.below H1.out HB.out) (by omega)).mono ?_; rw [W1.out]; rintro e w' ⟨rfl, rfl⟩) | (go_at_call 86; refine (zio _ ps _ (Rd.below H2.out HB.out) (by omega)).mono ?_; rw [W2.out]; rintro e w' ⟨rfl, hw'⟩))
  go_ret
  exact ⟨zag E.out.symm, HB.out.trans (hw'.mono (by simp))⟩
 | false =>
  obtain ⟨k, hk, hkf⟩ := yaqq c4
  have E := zaa (show pmB ws ps = false from yahv hkf (yavr (ws := ws) hk) (yawc (ws := ws) hk))
  have W2 := zaa c4
  clear c4 hk hkf
  go_enter Tryz.func35, Tryz.ntmps35
  go_wp2_with (first | (go_at_call 84; refine (zgj _ ws _ (Rd.below H1.out HB.out) (by omega)).mono ?_; rw [W1.out]; rintro e w' ⟨rfl, rfl⟩) | (go_at_call 86; refine (zio _ ps _ (Rd.below H2.out HB.out) (by omega)).mono ?_; rw [W2.out]; rintro e w' ⟨rfl, hw'⟩))
  go_ret
  exact ⟨zag E.out.symm, HB.out.trans (hw'.mono (by simp))⟩
def zld (at_ d : Int) (ps : List St) : Int := ps.foldl (fun acc p => if p.at_ = at_ then p.val else acc) d
theorem zla {at_ d : Int} : ∀ {ps : List St}, (∀ p ∈ ps, ¬ p.at_ = at_) → zld at_ d ps = d
 | [], _ => rfl
 | p :: ps, h => by
  show zld at_ (if p.at_ = at_ then p.val else d) ps = d
  rw [if_neg (h p (by simp))]
  exact zla (fun q hq => h q (by simp [hq]))
theorem zuz (at_ d : Int) (ps qs : List St) : zld at_ d (ps ++ qs) = zld at_ (zld at_ d ps) qs := by simp [zld]
theorem yakn {at_ d : Int} {ps : List St} {k : Nat} (hk : k < ps.length) (h : ps[k].at_ = at_) (ha : ∀ j (hj : j < ps.length), k < j → ¬ ps[j].at_ = at_) : zld at_ d ps = ps[k].val := by
 have e : ps = ps.take k ++ (ps[k] :: ps.drop (k + 1)) := by rw [← List.drop_eq_getElem_cons hk, List.take_append_drop]
 conv => lhs; rw [e]
 rw [zuz]
 show zld at_ (if ps[k].at_ = at_ then ps[k].val else _) (ps.drop (k + 1)) = _
 rw [if_pos h]
 apply zla
 intro p hp
 obtain ⟨i, hi, rfl⟩ := List.getElem_of_mem hp
 rw [List.getElem_drop]
 exact ha _ _ (by omega)
set_option maxHeartbeats 2000000 in
theorem zpl (v : Value) (ws : List Int) (ps : List St) (at_ : Nat) (w : World) (h : RdPm w v ws ps) (hw : ws.length ≤ 1048576) (hp : ps.length ≤ 1048576) (ha : at_ < ws.length) :
  Calls Tryz.prog 132 #[v, .int .i64 (at_ : Int)] w fun e w' => e = .returned (.int .i64 (zld (at_ : Int) ws[at_] ps)) ∧ Below w.heap.size w w' := by
 obtain ⟨vW, vP, rfl, h1, h2⟩ := h
 obtain ⟨aW, cW, rfl, _, hcW⟩ := h1.shape
 obtain ⟨aP, cP, rfl, _, hcP⟩ := h2.shape
 clear h1 h2
 obtain ⟨bW, oW, rfl, hbW, hcellW⟩ := hcW (by omega)
 have hb0 : Below w.heap.size w (w.alloc (.cells #[.slice (some ⟨bW, oW, none⟩) ws.length cW, .slice aP ps.length cP] 26)) := (Below.refl _ _).alloc (Nat.le_refl _) _
 have hcw := (hb0.cell (p := ⟨bW, oW + at_, none⟩) hbW).trans (hcellW at_ ha)
 clear hcW hcellW
 go_enter Tryz.func132, Tryz.ntmps132
 go_wp2
 go_loop [5] (fun i => ∃ k : Nat, k ≤ ps.length ∧ i = .int .i64 ((k : Int) - 1) ∧ Hid (∀ j (h : j < ps.length), k ≤ j → ¬ ps[j].at_ = (at_ : Int))) (fun i => (intOf i + 1).toNat)
 case atStart => exact ⟨ps.length, Nat.le_refl _, rfl, fun j h a => absurd h (by omega)⟩
 case round =>
  obtain ⟨k, hk, rfl, H⟩ := hrel
  cases k with
  | zero =>
   have E := zaa (zla (d := ws[at_]) (fun p hp => by obtain ⟨i, hi, rfl⟩ := List.getElem_of_mem hp; exact H.out i hi (by omega)))
   clear H hcP
   go_wp2
   go_ret
   exact ⟨zcf E.out.symm, hb0⟩
  | succ m =>
   have em : (((m + 1 : Nat) : Int) - 1) = (m : Int) := by omega
   rw [em]
   clear em
   obtain ⟨b, o, rfl, hbl, hcell⟩ := hcP (by omega)
   obtain ⟨d0, d1, _⟩ := hcell m (by omega)
   have e0 := (hb0.cell (p := ⟨b, o + m * 3, none⟩) hbl).trans d0
   have e1 := (hb0.cell (p := ⟨b, o + m * 3 + 1, none⟩) hbl).trans d1
   clear d0 d1 hcell hcP
   have hm : m < ps.length := by omega
   by_cases c : ps[m].at_ = (at_ : Int)
   ·have c' : (ps[m].at_ == (at_ : Int)) = true := by simpa using c
    have E := zaa (yakn (d := ws[at_]) hm c (fun j hj hlt => H.out j hj (by omega)))
    clear H c
    go_wp2
    go_ret
    exact ⟨zcf E.out.symm, hb0⟩
   ·have c' : (ps[m].at_ == (at_ : Int)) = false := by simpa using c
    have C := zaa c
    clear c
    go_wp2
    go_round
    case rel =>
     refine ⟨m, by omega, by go_num, fun j hj hle => ?_⟩
     by_cases e : j = m
     ·subst e; exact C.out
     ·exact H.out j hj (by omega)
    case measure => simp [intOf] <;> omega
theorem zsg (ps : List St) : ∀ u ∈ sts ps, u.oneCell' = true := by
 intro u hu
 simp only [sts, List.mem_flatMap, St.cells] at hu
 obtain ⟨s, _, hs⟩ := hu
 simp at hs
 rcases hs with rfl | rfl | rfl <;> rfl
theorem RowPm.zero (w : World) (lo hi : Nat) : RowPm w lo hi (.agg #[.slice none 0 0, .slice none 0 0]) [] [] := ⟨_, _, rfl, Row.nil _ _ _ _ _, Row.nil _ _ _ _ _⟩
theorem zzt (ps : List St) (s : St) : sts (ps ++ [s]) = sts ps ++ s.cells := by simp [sts]
theorem RdS.form {w : World} {v : Value} {ps : List St} (h : RdS w v ps) {n : Nat} (hn : ps.length = n) : ∃ ao cap, v = .slice ao n cap := by
 obtain ⟨ao, cap, e, _⟩ := h.shape
 exact ⟨ao, cap, by rw [← hn]; exact e⟩
theorem yaps {ws : List Int} {ps : List St} (h : pmB ws ps = true) : ∀ j (hj : j < ps.length), 0 ≤ ps[j].at_ ∧ ps[j].at_ < 336 := fun j hj => zjg (zjt h j hj).1
theorem yatl {ws : List Int} {ps : List St} (h : pmB ws ps = true) : ∀ j (hj : j < ps.length), 0 ≤ ps[j].at_ ∧ ps[j].at_ < ws.length := fun j hj => by
 have h1 := yaps h j hj
 have h2 := (zfk h).1
 omega
theorem yate (w1 : World) (a x : Int) (f : Bool) : Rd (w1.alloc (.cells #[.int .i64 a, .int .i64 x, .bool f] 108)) 3 (.slice (some ⟨w1.heap.size, 0, none⟩) 1 1) 1 (St.cells ⟨a, x, f⟩) := by
 refine ⟨rfl, _, _, rfl, ⟨Nat.le_refl _, fun e => by cases e⟩, fun _ => ⟨w1.heap.size, 0, rfl, by simp, fun j hj => ?_⟩⟩
 obtain ⟨e0, e1, e2⟩ := zaw (zah (w := w1) (o := .cells #[.int .i64 a, .int .i64 x, .bool f] 108) rfl)
 rw [Nat.zero_add]
 rcases (show j = 0 ∨ j = 1 ∨ j = 2 from by omega) with rfl | rfl | rfl
 ·exact e0
 ·exact e1
 ·exact e2
theorem yafx (p : St) : ∀ u ∈ St.cells p, u.oneCell' = true := by
 intro u hu
 simp [St.cells] at hu
 rcases hu with rfl | rfl | rfl <;> rfl
def zcr (ws : List Int) (ps : List St) : List Int := ps.foldl (fun acc p => acc.set p.at_.toNat p.val) ws
theorem yaid (ws : List Int) (ps : List St) (p : St) : zcr ws (ps ++ [p]) = (zcr ws ps).set p.at_.toNat p.val := by simp [zcr]
theorem zcj (ws : List Int) : ∀ ps : List St, (zcr ws ps).length = ws.length := by
 intro ps
 unfold zcr
 induction ps generalizing ws with
 | nil => rfl
 | cons p ps ih => rw [List.foldl_cons, ih]; simp
theorem yafk : ∀ (ps : List St) (ws : List Int) (k : Nat) (hk : k < ws.length) (_ : ∀ p ∈ ps, 0 ≤ p.at_) (hk' : k < (zcr ws ps).length), (zcr ws ps)[k] = zld (k : Int) ws[k] ps
 | [], ws, k, hk, _, _ => rfl
 | p :: ps, ws, k, hk, h0, hk' => by
  have hk2 : k < (ws.set p.at_.toNat p.val).length := by simpa using hk
  have := yafk ps (ws.set p.at_.toNat p.val) k hk2 (fun q hq => h0 q (by simp [hq])) hk'
  show (zcr (ws.set p.at_.toNat p.val) ps)[k] = zld (k : Int) (if p.at_ = (k : Int) then p.val else ws[k]) ps
  rw [this, List.getElem_set]
  have hp := h0 p (by simp)
  by_cases e : p.at_ = (k : Int)
  ·rw [if_pos (by omega), if_pos e]
  ·rw [if_neg (by omega), if_neg e]
def yaek (ws : List Int) (ps : List St) : Int := if pmB ws ps = true then 0 else 1
def yadk (ws : List Int) (ps : List St) : List Int := if pmB ws ps = true then zcr ws ps else []
theorem yabj {ws : List Int} {ps : List St} (h : pmB ws ps = false) : yaek ws ps = 1 ∧ yadk ws ps = [] := by
 unfold yaek yadk
 rw [h]
 exact ⟨rfl, rfl⟩
theorem yais {ws : List Int} {ps : List St} (h : pmB ws ps = true) : yaek ws ps = 0 ∧ yadk ws ps = zcr ws ps := by
 unfold yaek yadk
 rw [h]
 exact ⟨rfl, rfl⟩
set_option maxRecDepth 100000 in
set_option maxHeartbeats 4000000 in
theorem zpt (v : Value) (ws : List Int) (ps : List St) (w : World) (h : RdPm w v ws ps) (hw : ws.length ≤ 1048576) (hp : ps.length ≤ 1048576) :
  Calls Tryz.prog 22 #[v] w fun e w' => ∃ v', e = .returned (.tuple #[v', .int .i64 (yaek ws ps)]) ∧ Row w' 3 1 w.heap.size w'.heap.size v' (yadk ws ps).length (zdd (yadk ws ps)) ∧ Below w.heap.size w w' := by
 have HR := zaa h
 obtain ⟨vW, vP, rfl, h1, h2⟩ := h
 have H1 := zaa h1
 obtain ⟨aW, cW, rfl, _⟩ := h1.shape
 obtain ⟨aP, cP, rfl, _, hcP⟩ := h2.shape
 have HP := zaa hcP
 clear h1 h2 hcP
 have hb0 : Below w.heap.size w (w.alloc (.cells #[.slice aW ws.length cW, .slice aP ps.length cP] 26)) := (Below.refl _ _).alloc (Nat.le_refl _) _
 by_cases hc : pmB ws ps = true
 ·obtain ⟨e1, e2⟩ := yais hc
  rw [e1, e2]
  clear e1 e2
  have OK := zaa (yatl hc)
  go_enter Tryz.func22, Tryz.ntmps22
  go_wp2_with fail
  refine (zhn _ ws ps _ (HR.out.below hb0) hw hp).mono ?_
  rintro e w1 ⟨rfl, hb1⟩
  have hz1 : w.heap.size + 1 ≤ w1.heap.size := by have := hb1.size; simp at this; omega
  have V0 := (hb1.block w.heap.size (by simp <;> omega)).trans (zah rfl)
  obtain ⟨x1, x2, x3, x4⟩ := zac V0
  have B1 := zaa (zab hb0 hb1 (by simp <;> omega))
  have VH := zaa V0
  clear hb0 hb1 V0
  go_wp2_with (at_builtin; refine zae _ rfl (.const (.slice none 0 0)) (.tmp 11) 23 rfl w1.heap.size 3 (.int .i64 0) 1 8 Tryz.underlying23 zlj rfl (by decide) _ 0 [] rfl (World.ownsRow_nil _ _ _ _) _ ws.length (zdd ws) rfl (Rd.below H1.out B1.out) (zfs ws) (by simp [maxLen]; omega) (by omega) (Nat.le_refl _) ?_)
  intro v2 w2 hown2 hgr2
  have hown2 : w2.ownsRow w1.heap.size 3 1 v2 ws.length (zdd ws) := by simpa using hown2
  obtain ⟨aW2, cW2, rfl⟩ := RdI.form (zad hown2).rd rfl
  have hz2 : w1.heap.size ≤ w2.heap.size := hgr2.size
  have B2 := B1.out.grown hgr2 (by omega) (fun k hk => by cases hk)
  have V0 := (hgr2.block w.heap.size (by omega) (by simp [Value.ownBlock])).trans VH.out
  obtain ⟨z1, z2, z3, z4⟩ := zac V0
  have START := zaa (And.intro (zad hown2) B2)
  clear x1 x2 x3 x4 hown2 hgr2 B2 V0
  go_wp2
  go_loopw [6, 16] (fun _ i wr => ∃ m : Nat, m ≤ ps.length ∧ i = .int .i64 m ∧ Row wr 3 1 w1.heap.size w2.heap.size (.slice aW2 ws.length cW2) ws.length (zdd (zcr ws (ps.take m))) ∧ Below w.heap.size w wr ∧ w2.heap.size ≤ wr.heap.size) (fun _ i _ => ps.length - (intOf i).toNat)
  case atStart => exact ⟨0, by omega, rfl, START.out.1, START.out.2, Nat.le_refl _⟩
  case round =>
   obtain ⟨m, hm, rfl, hrow, hb, hz⟩ := hrel
   by_cases hlt : m < ps.length
   ·obtain ⟨b, o, rfl, hbl, hcell⟩ := HP.out (by omega)
    obtain ⟨e0, e1, e2⟩ := hcell m hlt
    have d0 := (hb.cell (p := ⟨b, o + m * 3, none⟩) hbl).trans e0
    have d1 := (hb.cell (p := ⟨b, o + m * 3 + 1, none⟩) hbl).trans e1
    have d2 := (hb.cell (p := ⟨b, o + m * 3 + 2, none⟩) hbl).trans e2
    obtain ⟨q0, q1⟩ := OK.out m hlt
    obtain ⟨_, aw', cw', ew', _, hcw⟩ := hrow.rd
    cases ew'
    obtain ⟨bw, ow, rfl, hblw, _⟩ := hcw (by omega)
    obtain ⟨rfl, hb1, _, _, hfrw, hclw⟩ := (hrow.alloc hz (.cells #[.int .i64 ps[m].at_, .int .i64 ps[m].val, .bool ps[m].fl] 108)).at
    have hj : ps[m].at_.toNat < (zcr ws (ps.take m)).length := by rw [zcj]; omega
    have g0 := hfrw ps[m].at_.toNat
    have g1 := (hclw ps[m].at_.toNat (by omega)).trans (zct _ _ hj)
    have F : Hid (Row ((wr.setCell ⟨bw, ps[m].at_.toNat, none⟩ (.int .i64 ps[m].val)).alloc (.cells #[.int .i64 ps[m].at_, .int .i64 ps[m].val, .bool ps[m].fl] 108)) 3 1 w1.heap.size w2.heap.size (.slice (some ⟨bw, 0, none⟩) ws.length cW2) ws.length (zdd (zcr ws (ps.take (m + 1))))) := by
     rw [zgf ps m hlt, yaid, ← zie]
     exact (hrow.stored _ _).alloc (by simp; omega) _
    have G := zaa ((hb.setCell (p := ⟨bw, ps[m].at_.toNat, none⟩) (by simp only; omega) (.int .i64 ps[m].val)).alloc (by simp; omega) (.cells #[.int .i64 ps[m].at_, .int .i64 ps[m].val, .bool ps[m].fl] 108))
    clear hrow hcell e0 e1 e2 hcw hfrw hclw
    go_wp2
    go_roundw
    case rel => exact ⟨m + 1, by omega, by go_num, F.out, G.out, by simp; omega⟩
    case measure => simp [intOf]; omega
   ·have e : m = ps.length := by omega
    subst e
    have R := zaa hrow
    clear hrow
    go_wp2
    go_ret2
    refine ⟨_, rfl, ?_, hb⟩
    have := R.out
    rw [List.take_length] at this
    rw [zcj]
    exact this.wide (by omega) hz
 ·have hc' : pmB ws ps = false := by simpa using hc
  clear hc
  obtain ⟨e1, e2⟩ := yabj hc'
  rw [e1, e2]
  clear e1 e2
  go_enter Tryz.func22, Tryz.ntmps22
  go_wp2_with fail
  refine (zhn _ ws ps _ (HR.out.below hb0) hw hp).mono ?_
  rintro e w1 ⟨rfl, hb1⟩
  have B1 := zaa (zab hb0 hb1 (by simp <;> omega))
  clear hb0 hb1
  go_wp2
  go_ret2
  exact ⟨_, rfl, Row.nil _ _ _ _ _, B1.out⟩
def arrD (ds : List Nat) (j : Nat) : Value := if j < 6 - ds.length then .int .u8 0 else .int .u8 (96 + ((ds[j - (6 - ds.length)]?.getD 0 : Nat) : Int))
theorem yaky (j : Nat) (h : j < 6) : arrD [] j = .int .u8 0 := by unfold arrD; rw [if_pos (by simpa using h)]
theorem yajc (d : Nat) (ds : List Nat) (h : ds.length < 6) (j : Nat) : (if j = 6 - ds.length - 1 then Value.int .u8 (96 + (d : Int)) else arrD ds j) = arrD (d :: ds) j := by
 unfold arrD
 by_cases e : j = 6 - ds.length - 1
 ·subst e
  rw [if_pos rfl, if_neg (by simp only [List.length_cons]; omega)]
  simp only [List.length_cons]
  rw [show 6 - ds.length - 1 - (6 - (ds.length + 1)) = 0 by omega]
  rfl
 ·rw [if_neg e]
  simp only [List.length_cons]
  by_cases e2 : j < 6 - ds.length
  ·rw [if_pos e2, if_pos (by omega)]
  ·rw [if_neg e2, if_neg (by omega), show j - (6 - (ds.length + 1)) = (j - (6 - ds.length)) + 1 by omega]
   rfl
theorem yadp (ds : List Nat) : strOfNums (ds.map fun d => (96 : Int) + (d : Nat)) = zcm ds := by
 unfold strOfNums zcm
 rw [List.map_map]
 congr 2
theorem yavg (w : World) (b l : Nat) (h1 : 1 ≤ l) (h6 : l ≤ 6) : (Instr.sliceAt 150 (.pointer (some ⟨b, 0, none⟩)) (some (.int .i64 (6 - (l : Int)))) none none).run Tryz.prog w = .ok (.slice (some ⟨b, 6 - l, none⟩) l l) w := by
 have al : Tryz.prog.arrayLen 150 = 6 := by kernel_rfl
 rw [run_sliceAt_array_l w 150 ⟨b, 0, none⟩ (by kernel_rfl) .i64 (6 - (l : Int)) (by omega) (by rw [al]; omega), al]
 have sz : (sizeOf (Tryz.prog.elem 150)).run Tryz.prog w = .ok 1 w := by kernel_rfl
 rw [sz]
 simp only [Result.andThen, slicedAt]
 rw [if_neg (by omega), show (6 - (l : Int)).toNat = 6 - l by omega, show 6 - (6 - l) = l by omega, Nat.mul_one]
 simp [Addr.add]
 omega
set_option maxRecDepth 100000 in
set_option maxHeartbeats 4000000 in
theorem zkk (n : Int) (w : World) (hn : n ≤ 9223372036854775807) : Calls Tryz.prog 57 #[.int .i64 n] w fun e w' => e = .returned (.tuple #[.string (ztq n), .int .i64 (unpC n)]) ∧ Below w.heap.size w w' := by
 by_cases c0 : n < 1
 ·have E := zaa (zxq (zzc (n := n) (by omega)))
  go_enter Tryz.func57, Tryz.ntmps57
  go_wp2
  go_ret2
  exact ⟨zzh E.out.1.symm E.out.2.symm, Below.refl _ _⟩
 obtain ⟨N, rfl⟩ := Int.eq_ofNat_of_zero_le (show 0 ≤ n by omega)
 have START : Hid ((w.alloc (.cells #[.int .u8 0, .int .u8 0, .int .u8 0, .int .u8 0, .int .u8 0, .int .u8 0] 150)).rowIs w.heap.size 150 6 (arrD [])) := by
  refine World.rowIs_alloc w #[.int .u8 0, .int .u8 0, .int .u8 0, .int .u8 0, .int .u8 0, .int .u8 0] 150 (arrD []) (fun i hi => ?_)
  have hi' : i < 6 := hi
  rw [yaky i hi']
  rcases (show i = 0 ∨ i = 1 ∨ i = 2 ∨ i = 3 ∨ i = 4 ∨ i = 5 by omega) with rfl | rfl | rfl | rfl | rfl | rfl <;> rfl
 have BH : Hid (Below w.heap.size w (w.alloc (.cells #[.int .u8 0, .int .u8 0, .int .u8 0, .int .u8 0, .int .u8 0, .int .u8 0] 150))) := (Below.refl _ _).alloc (Nat.le_refl _) _
 go_enter Tryz.func57, Tryz.ntmps57
 go_wp2
 go_loopw [0, 5, 6] (fun x f _ wr => ∃ (m : Nat) (ds : List Nat), x = .int .i64 (m : Int) ∧ f = .int .i64 (6 - (ds.length : Int)) ∧ m ≤ N ∧ ds.length ≤ 6 ∧ Hid (Dg N m ds) ∧ Hid (wr.rowIs w.heap.size 150 6 (arrD ds)) ∧ Hid (Below w.heap.size w wr)) (fun x _ _ _ => (intOf x).toNat)
 case atStart => exact ⟨N, [], rfl, rfl, Nat.le_refl _, by simp, Dg.start N, START.out, BH.out⟩
 case round =>
  obtain ⟨m, ds, rfl, rfl, hm, hl, D, R, B⟩ := hrel
  by_cases c1 : 0 < m
  ·have m0 : (0 : Int) < (m : Int) := by omega
   by_cases c2 : m % 27 = 0
   ·have E := zaa (zxq (zzr D.out c1 c2))
    have c2' : ((m : Int) % 27 == 0) = true := by rw [beq_iff_eq]; omega
    go_wp2
    go_ret2
    exact ⟨zzh E.out.1.symm E.out.2.symm, B.out⟩
   ·have c2' : ((m : Int) % 27 == 0) = false := by rw [beq_eq_false_iff_ne]; omega
    by_cases c3 : 6 ≤ ds.length
    ·have E := zaa (zxq (yamg D.out c1 c3))
     have c3' : ((6 : Int) - (ds.length : Int) == 0) = true := by rw [beq_iff_eq]; omega
     go_wp2
     go_ret2
     exact ⟨zzh E.out.1.symm E.out.2.symm, B.out⟩
    ·have c3' : ((6 : Int) - (ds.length : Int) == 0) = false := by rw [beq_eq_false_iff_ne]; omega
     have D2 := zaa (D.out.step c1 c2)
     have g0 := R.out.frozen (6 - ds.length - 1)
     have g1 := R.out.cell (show 6 - ds.length - 1 < 6 by omega)
     generalize hv : arrD ds (6 - ds.length - 1) = v0 at g1
     have ev : (97 + (m : Int) % 27 - 1) = 96 + ((m % 27 : Nat) : Int) := by omega
     have R2 : Hid ((wr.setCell ⟨w.heap.size, 6 - ds.length - 1, none⟩ (.int .u8 (97 + (m : Int) % 27 - 1))).rowIs w.heap.size 150 6 (arrD (m % 27 :: ds))) := by
      rw [ev]
      exact (R.out.set (6 - ds.length - 1) (.int .u8 (96 + ((m % 27 : Nat) : Int)))).congr (fun j _ => yajc (m % 27) ds (by omega) j)
     have B2 : Hid (Below w.heap.size w (wr.setCell ⟨w.heap.size, 6 - ds.length - 1, none⟩ (.int .u8 (97 + (m : Int) % 27 - 1)))) := B.out.setCell (by simp only; omega) _
     clear ev
     clear hv
     go_wp2
     go_roundw
     case rel => exact ⟨m / 27, m % 27 :: ds, by go_num, by go_num, by omega, by simp; omega, D2.out, R2.out, B2.out⟩
     case measure => simp [intOf]; omega
  ·obtain rfl : m = 0 := by omega
   have E := zaa (yami D.out (by omega) hl)
   have hconv := fun cap => run_convert_bytes_arg (P := Tryz.prog) wr 22 5 Tryz.underlying22 Tryz.underlying5 w.heap.size (6 - ds.length) ds.length cap (ds.map fun d => (96 : Int) + (d : Nat)) (by simp) (fun i hi => by
    rw [R.out.cell (show 6 - ds.length + i < 6 by omega)]
    unfold arrD
    rw [if_neg (by omega), show 6 - ds.length + i - (6 - ds.length) = i by omega]
    simp [List.getD, hi]) 9 Tryz.underlying9
   rw [yadp] at hconv
   have l1 : 1 ≤ ds.length := by
    have := yakg (n := N) (by omega)
    rw [D.out.done] at this
    exact this
   have hsl := yavg wr w.heap.size ds.length l1 hl
   have hcv := hconv ds.length
   clear hconv
   go_wp2
   go_ret2
   exact ⟨zzh E.out.1.symm E.out.2.symm, B.out⟩
set_option maxRecDepth 100000 in
set_option maxHeartbeats 4000000 in
theorem zri (n : Int) (w : World) (hn : n ≤ 9223372036854775807) : Calls Tryz.prog 133 #[.int .i64 n] w fun e w' => (∃ s, e = .returned (.tuple #[.string s, .bool (zfv n)]) ∧ (zfv n = true → s = ztq n)) ∧ Below w.heap.size w w' := by
 obtain ⟨N, hN, hN2, hN3⟩ : ∃ N : Nat, (0 < n → n = (N : Int)) ∧ (¬ 0 < n → N = 0) ∧ N ≤ 9223372036854775807 := ⟨n.toNat, fun h => by omega, fun h => by omega, by omega⟩
 have hdl : (zpn N).length ≤ 14 := yaon 14 N (by omega)
 go_enter Tryz.func133, Tryz.ntmps133
 go_wp2
 go_loopw [0, 4, 5] (fun x o _ wr => ∃ (y : Int) (ds : List Nat), x = .int .i64 y ∧ o = .string (zcm ds) ∧ y ≤ 9223372036854775807 ∧ Hid ((0 < n → ∃ m : Nat, y = (m : Int) ∧ Dg N m ds) ∧ (¬ 0 < n → ¬ 0 < y ∧ ds = [])) ∧ Hid (Below w.heap.size w wr)) (fun x _ _ _ => (intOf x).toNat)
 case atStart => exact ⟨n, [], rfl, rfl, hn, ⟨fun h => ⟨N, hN h, Dg.start N⟩, fun h => ⟨h, rfl⟩⟩, Below.refl _ _⟩
 case round =>
  obtain ⟨y, ds, rfl, rfl, hy, D, B⟩ := hrel
  by_cases c1 : 0 < y
  ·have hp : 0 < n := by
    rcases Decidable.em (0 < n) with h | h
    ·exact h
    ·exact absurd c1 (D.out.2 h).1
   obtain ⟨m, rfl, D1⟩ := D.out.1 hp
   have D0 := zaa D1
   clear D D1
   by_cases c2 : m % 27 = 0
   ·have E : Hid (zfv n = false) := by
     rw [hN hp]
     exact zzr D0.out (by omega) c2
    have c2' : ((m : Int) % 27 == 0) = true := by rw [beq_iff_eq]; omega
    go_wp2
    go_ret2
    exact ⟨⟨_, yapn rfl E.out.symm, fun h => by rw [E.out] at h; cases h⟩, B.out⟩
   ·have c2' : ((m : Int) % 27 == 0) = false := by rw [beq_eq_false_iff_ne]; omega
    have D2 := zaa (D0.out.step (by omega) c2)
    have hl14 : ds.length ≤ 14 := Nat.le_trans D0.out.len hdl
    have hcv := run_convert_bytes_arg (P := Tryz.prog) (wr.alloc (.cells #[.int .u8 (97 + (m : Int) % 27 - 1)] 5)) 22 5 Tryz.underlying22 Tryz.underlying5 wr.heap.size 0 1 1 [97 + (m : Int) % 27 - 1] rfl (fun i hi => by
     obtain rfl : i = 0 := by omega
     exact World.cell?_alloc_mark wr #[.int .u8 (97 + (m : Int) % 27 - 1)] 5 (0, 0) 0) 9 Tryz.underlying9
    have eb : strOfNums [97 + (m : Int) % 27 - 1] = ⟨#[UInt8.ofNat (96 + m % 27)]⟩ := by
     unfold strOfNums
     simp only [List.map_cons, List.map_nil]
     rw [show (97 + (m : Int) % 27 - 1).toNat = 96 + m % 27 by omega]
    rw [eb] at hcv
    have had := run_string_add_sum (P := Tryz.prog) (wr.alloc (.cells #[.int .u8 (97 + (m : Int) % 27 - 1)] 5)) ⟨#[UInt8.ofNat (96 + m % 27)]⟩ (zcm ds) (by rw [zck]; show 1 + _ ≤ _; omega)
    rw [zul] at had
    have B2 : Hid (Below w.heap.size w (wr.alloc (.cells #[.int .u8 (97 + (m : Int) % 27 - 1)] 5))) := B.out.alloc B.out.size _
    clear eb
    generalize hbb : (⟨#[UInt8.ofNat (96 + m % 27)]⟩ : ByteArray) = bb at hcv had
    clear hbb
    go_wp2
    go_roundw
    case rel => exact ⟨(m : Int) / 27, m % 27 :: ds, rfl, rfl, by omega, ⟨fun _ => ⟨m / 27, by omega, D2.out⟩, fun h => absurd hp h⟩, B2.out⟩
    case measure => simp [intOf]; omega
  ·have LEN : Hid (ds.length ≤ 14 ∧ nmB (zcm ds) = zfv n ∧ (zfv n = true → zcm ds = ztq n)) := by
    rcases Decidable.em (0 < n) with hp | hp
    ·obtain ⟨m, em, D1⟩ := D.out.1 hp
     obtain rfl : m = 0 := by omega
     have en := hN hp
     have hl := D1.len
     have hd := D1.done
     refine ⟨by omega, ?_, fun h => ?_⟩
     ·by_cases c6 : ds.length ≤ 6
      ·have h1 : 1 ≤ ds.length := by rw [← hd]; exact yakg (by omega)
       rw [zxd D1.ok h1 c6, en]
       exact (decide_eq_true ⟨by omega, by rw [Int.toNat_natCast, hd]; exact fun d x => (D1.ok d x).1, by rw [Int.toNat_natCast, hd]; exact c6⟩).symm
      ·rw [zrk (by rw [zck]; omega), en]
       exact (decide_eq_false (fun x => by have := x.2.2; rw [Int.toNat_natCast, hd] at this; omega)).symm
     ·unfold ztq
      rw [if_pos h, en, Int.toNat_natCast, hd]
    ·obtain ⟨_, rfl⟩ := D.out.2 hp
     refine ⟨by simp, ?_, fun h => ?_⟩
     ·rw [zuk (by rw [zck]; simp), zzc hp]
     ·rw [zzc hp] at h; cases h
   have hsz : (zcm ds).size ≤ maxLen := by
    have := LEN.out.1
    rw [zck]
    unfold maxLen
    omega
   go_wp2_with (go_at_call 118; refine (zed _ _ hsz).mono ?_; rintro e w' ⟨rfl, rfl⟩)
   go_ret2
   exact ⟨⟨_, yapn rfl LEN.out.2.1, LEN.out.2.2⟩, B.out⟩
end Go.Proofs.YtpakbbdlhlkogaaGreatDoor
