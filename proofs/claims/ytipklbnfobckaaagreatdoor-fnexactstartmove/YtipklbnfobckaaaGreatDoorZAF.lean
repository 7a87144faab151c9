/- Several texts laid together: MiS, Ev, PmOKI, PmLoad, Small. -/
import Derived.Test.YtipklbnfobckaaaGreatDoorZAD
import Derived.Test.YtipklbnfobckaaaGreatDoorZAE
namespace Go.Proofs.YtipklbnfobckaaaGreatDoor
open Go.RowKit

/-- A step. -/
structure Mi where
 kind : Int
 at_ : Int
 val : Int
/-- A step as a value. -/
def Mi.v (m : Mi) : Value := .agg #[.int .i64 m.kind, .int .i64 m.at_, .int .i64 m.val]
/-- A step that is right. -/
def miB (m : Mi) : Bool := decide ((m.kind = 1 ∧ (0 ≤ m.at_ ∧ m.at_ < 336) ∧ 0 ≤ m.val ∧ m.val < 1099511627776) ∨ (m.kind = 2 ∧ (0 ≤ m.at_ ∧ m.at_ < 336) ∧ m.val = 0) ∨ (m.kind = 4 ∧ (0 ≤ m.at_ ∧ m.at_ < 32) ∧ 0 ≤ m.val ∧ m.val < 1099511627776) ∨ ((m.kind = 3 ∨ m.kind = 5) ∧ m.at_ = 0 ∧ m.val = 0))
theorem miB_iff {m : Mi} : miB m = true ↔ ((m.kind = 1 ∧ (0 ≤ m.at_ ∧ m.at_ < 336) ∧ 0 ≤ m.val ∧ m.val < 1099511627776) ∨ (m.kind = 2 ∧ (0 ≤ m.at_ ∧ m.at_ < 336) ∧ m.val = 0) ∨ (m.kind = 4 ∧ (0 ≤ m.at_ ∧ m.at_ < 32) ∧ 0 ≤ m.val ∧ m.val < 1099511627776) ∨ ((m.kind = 3 ∨ m.kind = 5) ∧ m.at_ = 0 ∧ m.val = 0)) := by unfold miB; exact decide_eq_true_iff
theorem zgr (k a v : Int) : miB ⟨k, a, v⟩ = true ↔ ((k = 1 ∧ (0 ≤ a ∧ a < 336) ∧ 0 ≤ v ∧ v < 1099511627776) ∨ (k = 2 ∧ (0 ≤ a ∧ a < 336) ∧ v = 0) ∨ (k = 4 ∧ (0 ≤ a ∧ a < 32) ∧ 0 ≤ v ∧ v < 1099511627776) ∨ ((k = 3 ∨ k = 5) ∧ a = 0 ∧ v = 0)) := miB_iff
set_option maxRecDepth 100000 in
set_option maxHeartbeats 4000000 in
theorem zrp (m : Mi) (w : World) : Calls Tryz.prog 43 #[m.v] w fun e w' => e = .returned (.bool (miB m)) ∧ Below w.heap.size w w' := by
 obtain ⟨k, a, v⟩ := m
 have hb0 : Below w.heap.size w (w.alloc (.cells #[.int .i64 k, .int .i64 a, .int .i64 v] 79)) := (Below.refl _ _).alloc (Nat.le_refl _) _
 have E := zaa (zgr k a v)
 unfold Mi.v
 simp only
 have WE := zaa (show zat v = decide (0 ≤ v ∧ v < 1099511627776) from rfl)
 rcases (show k = 1 ∨ k = 2 ∨ k = 3 ∨ k = 4 ∨ k = 5 ∨ (¬ k = 1 ∧ ¬ k = 2 ∧ ¬ k = 3 ∧ ¬ k = 4 ∧ ¬ k = 5) by omega) with rfl | rfl | rfl | rfl | rfl | ⟨n1, n2, n3, n4, n5⟩
 ·by_cases ca : 0 ≤ a ∧ a ≤ 335
  ·go_enter Tryz.func43, Tryz.ntmps43
   go_wp2_with (first | (go_at_call 94; refine (zaz _ _ _ _ ca).mono ?_; rintro e w' ⟨rfl, rfl⟩) | (go_at_call 95; refine (zbe _ _).mono ?_; rintro e w' ⟨rfl, rfl⟩))
   go_ret
   refine ⟨zac ?_, hb0⟩
   rw [WE.out, Bool.eq_iff_iff, E.out, decide_eq_true_iff]
   first | omega | (simp only [true_and]; omega) | (simp only [true_and, true_or]; omega) | (simp only [true_and, or_true]; omega)
  ·have C := zaa ca
   clear ca
   go_enter Tryz.func43, Tryz.ntmps43
   go_wp2_with (go_at_call 94; refine (zdv _ _ _ _ C.out).mono ?_; rintro e w' ⟨rfl, rfl⟩)
   go_ret
   have := C.out
   refine ⟨zac ?_, hb0⟩
   rw [Bool.eq_iff_iff, E.out]
   simp
   omega
 ·by_cases ca : 0 ≤ a ∧ a ≤ 335
  ·go_enter Tryz.func43, Tryz.ntmps43
   go_wp2_with (go_at_call 94; refine (zaz _ _ _ _ ca).mono ?_; rintro e w' ⟨rfl, rfl⟩)
   go_ret
   refine ⟨zac ?_, hb0⟩
   rw [Bool.eq_iff_iff, E.out, beq_iff_eq]
   first | omega | (simp only [true_and]; omega) | (simp only [true_and, true_or]; omega) | (simp only [true_and, or_true]; omega)
  ·have C := zaa ca
   clear ca
   go_enter Tryz.func43, Tryz.ntmps43
   go_wp2_with (go_at_call 94; refine (zdv _ _ _ _ C.out).mono ?_; rintro e w' ⟨rfl, rfl⟩)
   go_ret
   have := C.out
   refine ⟨zac ?_, hb0⟩
   rw [Bool.eq_iff_iff, E.out]
   simp
   omega
 ·by_cases ca : (a == 0) = true
  ·go_enter Tryz.func43, Tryz.ntmps43
   go_wp2
   go_ret
   have := beq_iff_eq.1 ca
   refine ⟨zac ?_, hb0⟩
   rw [Bool.eq_iff_iff, E.out, beq_iff_eq]
   first | omega | (simp only [true_and]; omega) | (simp only [true_and, true_or]; omega) | (simp only [true_and, or_true]; omega)
  ·have ca' : (a == 0) = false := by simpa using ca
   clear ca
   go_enter Tryz.func43, Tryz.ntmps43
   go_wp2
   go_ret
   have := beq_eq_false_iff_ne.1 ca'
   refine ⟨zac ?_, hb0⟩
   rw [Bool.eq_iff_iff, E.out]
   simp
   omega
 ·by_cases ca : 0 ≤ a ∧ a ≤ 31
  ·go_enter Tryz.func43, Tryz.ntmps43
   go_wp2_with (first | (go_at_call 94; refine (zaz _ _ _ _ ca).mono ?_; rintro e w' ⟨rfl, rfl⟩) | (go_at_call 95; refine (zbe _ _).mono ?_; rintro e w' ⟨rfl, rfl⟩))
   go_ret
   refine ⟨zac ?_, hb0⟩
   rw [WE.out, Bool.eq_iff_iff, E.out, decide_eq_true_iff]
   first | omega | (simp only [true_and]; omega) | (simp only [true_and, true_or]; omega) | (simp only [true_and, or_true]; omega)
  ·have C := zaa ca
   clear ca
   go_enter Tryz.func43, Tryz.ntmps43
   go_wp2_with (go_at_call 94; refine (zdv _ _ _ _ C.out).mono ?_; rintro e w' ⟨rfl, rfl⟩)
   go_ret
   have := C.out
   refine ⟨zac ?_, hb0⟩
   rw [Bool.eq_iff_iff, E.out]
   simp
   omega
 ·by_cases ca : (a == 0) = true
  ·go_enter Tryz.func43, Tryz.ntmps43
   go_wp2
   go_ret
   have := beq_iff_eq.1 ca
   refine ⟨zac ?_, hb0⟩
   rw [Bool.eq_iff_iff, E.out, beq_iff_eq]
   first | omega | (simp only [true_and]; omega) | (simp only [true_and, true_or]; omega) | (simp only [true_and, or_true]; omega)
  ·have ca' : (a == 0) = false := by simpa using ca
   clear ca
   go_enter Tryz.func43, Tryz.ntmps43
   go_wp2
   go_ret
   have := beq_eq_false_iff_ne.1 ca'
   refine ⟨zac ?_, hb0⟩
   rw [Bool.eq_iff_iff, E.out]
   simp
   omega
 ·have q1 : (k == 1) = false := by simpa using n1
  have q2 : (k == 2) = false := by simpa using n2
  have q3 : (k == 3) = false := by simpa using n3
  have q4 : (k == 4) = false := by simpa using n4
  have q5 : (k == 5) = false := by simpa using n5
  have N := zaa (And.intro n1 (And.intro n2 (And.intro n3 (And.intro n4 n5))))
  clear n1 n2 n3 n4 n5
  go_enter Tryz.func43, Tryz.ntmps43
  go_wp2
  go_ret
  have := N.out
  refine ⟨zac ?_, hb0⟩
  rw [Bool.eq_iff_iff, E.out]
  simp
  omega

end Go.Proofs.YtipklbnfobckaaaGreatDoor

namespace Go.Proofs.YtipklbnfobckaaaGreatDoor
open Go.RowKit

/-- All are places. -/
def zkr (zs : List Int) : Bool := decide (∀ k (h : k < zs.length), zbb zs[k] = true)
theorem placesB_mk {zs : List Int} (h : ∀ k (h : k < zs.length), zbb zs[k] = true) : zkr zs = true := decide_eq_true h
theorem zvj {zs : List Int} {k : Nat} (hk : k < zs.length) (h : zbb zs[k] = false) : zkr zs = false := decide_eq_false (fun x => by have := x k hk; rw [h] at this; cases this)

set_option maxHeartbeats 2000000 in
theorem zce (v : Value) (zs : List Int) (w : World) (h : RdI w v zs) (hn : zs.length ≤ 2147483648) :
  Calls Tryz.prog 105 #[v, .func (.func 156) #[] #[]] w fun e w' => e = .returned (.bool (zgv zs)) ∧ w' = w := by
 obtain ⟨ao, cap, rfl, _, hc⟩ := h.shape
 clear h
 go_enter Tryz.func105, Tryz.ntmps105
 go_wp2
 go_loop [6, 9] (fun _ i => ∃ k : Nat, k ≤ zs.length ∧ i = .int .i64 k ∧ Hid (∀ j (h : j < zs.length), j < k → zat zs[j] = true)) (fun _ i => zs.length - (intOf i).toNat)
 case atStart => exact ⟨0, by omega, rfl, fun j h a => absurd a (by omega)⟩
 case round =>
  obtain ⟨k, hk, rfl, H⟩ := hrel
  by_cases hlt : k < zs.length
  ·obtain ⟨b, o, rfl, hbl, hcell⟩ := hc (by omega)
   have hck := hcell k hlt
   clear hcell hc
   by_cases q : zat zs[k] = true
   ·go_wp2_with (go_at_call 156; refine (zgh _ _).mono ?_; rintro e w' ⟨rfl, rfl⟩)
    go_round
    case rel =>
     refine ⟨k + 1, by omega, by go_num, fun j h a => ?_⟩
     by_cases e : j = k
     ·subst e; exact q
     ·exact H.out j h (by omega)
    case measure => simp [intOf]; omega
   ·have q' : zat zs[k] = false := by simpa using q
    have E := zaa (wordsB_not hlt q')
    go_wp2_with (go_at_call 156; refine (zgh _ _).mono ?_; rintro e w' ⟨rfl, rfl⟩)
    go_ret
    exact ⟨zac E.out.symm, rfl⟩
  ·have E := zaa (ztm (fun j h => H.out j h (by omega)))
   clear H
   go_wp2
   go_ret
   exact ⟨zac E.out.symm, rfl⟩

set_option maxHeartbeats 2000000 in
theorem zgs (v : Value) (zs : List Int) (w : World) (h : RdI w v zs) (hn : zs.length ≤ 2147483648) :
  Calls Tryz.prog 105 #[v, .func (.func 222) #[] #[]] w fun e w' => e = .returned (.bool (zkr zs)) ∧ w' = w := by
 obtain ⟨ao, cap, rfl, _, hc⟩ := h.shape
 clear h
 go_enter Tryz.func105, Tryz.ntmps105
 go_wp2
 go_loop [6, 9] (fun _ i => ∃ k : Nat, k ≤ zs.length ∧ i = .int .i64 k ∧ Hid (∀ j (h : j < zs.length), j < k → zbb zs[j] = true)) (fun _ i => zs.length - (intOf i).toNat)
 case atStart => exact ⟨0, by omega, rfl, fun j h a => absurd a (by omega)⟩
 case round =>
  obtain ⟨k, hk, rfl, H⟩ := hrel
  by_cases hlt : k < zs.length
  ·obtain ⟨b, o, rfl, hbl, hcell⟩ := hc (by omega)
   have hck := hcell k hlt
   clear hcell hc
   by_cases q : zbb zs[k] = true
   ·go_wp2_with (go_at_call 222; refine (zcj _ _).mono ?_; rintro e w' ⟨rfl, rfl⟩)
    go_round
    case rel =>
     refine ⟨k + 1, by omega, by go_num, fun j h a => ?_⟩
     by_cases e : j = k
     ·subst e; exact q
     ·exact H.out j h (by omega)
    case measure => simp [intOf]; omega
   ·have q' : zbb zs[k] = false := by simpa using q
    have E := zaa (zvj hlt q')
    go_wp2_with (go_at_call 222; refine (zcj _ _).mono ?_; rintro e w' ⟨rfl, rfl⟩)
    go_ret
    exact ⟨zac E.out.symm, rfl⟩
  ·have E := zaa (placesB_mk (fun j h => H.out j h (by omega)))
   clear H
   go_wp2
   go_ret
   exact ⟨zac E.out.symm, rfl⟩
end Go.Proofs.YtipklbnfobckaaaGreatDoor

namespace Go.Proofs.YtipklbnfobckaaaGreatDoor
open Go.RowKit

/-- A store that is right. -/
def stB (s : St) : Bool := zbb s.at_ && zat s.val
theorem stB_true {s : St} (h : stB s = true) : zbb s.at_ = true ∧ zat s.val = true := by unfold stB at h; simpa using h
theorem stB_false {s : St} {p : Prop} (h : stB s = false) (h1 : zbb s.at_ = false → p) (h2 : zat s.val = false → p) : p := by
 unfold stB at h
 rw [Bool.and_eq_false_iff] at h
 exact h.elim h1 h2
/-- All stores are right. -/
def stsB (ps : List St) : Bool := decide (∀ k (h : k < ps.length), stB ps[k] = true)
theorem stsB_true {ps : List St} (h : stsB ps = true) : ∀ k (h : k < ps.length), stB ps[k] = true := of_decide_eq_true h
theorem stsB_mk {ps : List St} (h : ∀ k (h : k < ps.length), stB ps[k] = true) : stsB ps = true := decide_eq_true h
theorem stsB_not {ps : List St} {k : Nat} (hk : k < ps.length) (h : stB ps[k] = false) : stsB ps = false := decide_eq_false (fun x => by have := x k hk; rw [h] at this; cases this)
theorem stsB_ex {ps : List St} (h : stsB ps = false) : ∃ k, ∃ h : k < ps.length, stB ps[k] = false := by
 apply Classical.byContradiction
 intro hn
 have : stsB ps = true := stsB_mk (fun k hk => by
  cases e : stB ps[k] with
  | true => rfl
  | false => exact absurd ⟨k, hk, e⟩ hn)
 rw [h] at this
 cases this

set_option maxHeartbeats 1000000 in
theorem zlq (s : St) (w : World) : Calls Tryz.prog 158 #[.agg #[.int .i64 s.at_, .int .i64 s.val, .bool s.fl]] w fun e w' => e = .returned (.bool (stB s)) ∧ Below w.heap.size w w' := by
 have hb0 : Below w.heap.size w (w.alloc (.cells #[.int .i64 s.at_, .int .i64 s.val, .bool s.fl] 165)) := (Below.refl _ _).alloc (Nat.le_refl _) _
 by_cases q : zbb s.at_ = true
 ·have E := zaa (show stB s = zat s.val by unfold stB; rw [q]; rfl)
  have Q := zaa q
  clear q
  go_enter Tryz.func158, Tryz.ntmps158
  go_wp2_with (first | (go_at_call 222; refine (zcj _ _).mono ?_; rw [Q.out]; rintro e w' ⟨rfl, rfl⟩) | (go_at_call 156; refine (zgh _ _).mono ?_; rintro e w' ⟨rfl, rfl⟩))
  go_ret
  exact ⟨zac E.out.symm, hb0⟩
 ·have q' : zbb s.at_ = false := by simpa using q
  have E := zaa (show stB s = false by unfold stB; rw [q']; rfl)
  have Q := zaa q'
  clear q q'
  go_enter Tryz.func158, Tryz.ntmps158
  go_wp2_with (go_at_call 222; refine (zcj _ _).mono ?_; rw [Q.out]; rintro e w' ⟨rfl, rfl⟩)
  go_ret
  exact ⟨zac E.out.symm, hb0⟩

set_option maxHeartbeats 4000000 in
theorem zgw (v : Value) (ps : List St) (w : World) (h : RdS w v ps) (hn : ps.length ≤ 1048576) :
  Calls Tryz.prog 157 #[v, .func (.func 158) #[] #[]] w fun e w' => e = .returned (.bool (stsB ps)) ∧ Below w.heap.size w w' := by
 obtain ⟨aP, cP, rfl, _, hcP⟩ := h.shape
 clear h
 go_enter Tryz.func157, Tryz.ntmps157
 go_wp2
 go_loopw [6, 9] (fun _ i wr => ∃ k : Nat, k ≤ ps.length ∧ i = .int .i64 k ∧ Hid (∀ j (h : j < ps.length), j < k → stB ps[j] = true) ∧ Below w.heap.size w wr) (fun _ i _ => ps.length - (intOf i).toNat)
 case atStart => exact ⟨0, by omega, rfl, fun j h a => absurd a (by omega), Below.refl _ _⟩
 case round =>
  obtain ⟨m, hm, rfl, H, hbw⟩ := hrel
  have hz := hbw.size
  by_cases hlt2 : m < ps.length
  ·obtain ⟨b2, o2, rfl, hbl2, hcell2⟩ := hcP (by omega)
   obtain ⟨d0, d1, d2⟩ := hcell2 m hlt2
   have e0 := (hbw.cell (p := ⟨b2, o2 + m * 3, none⟩) hbl2).trans d0
   have e1 := (hbw.cell (p := ⟨b2, o2 + m * 3 + 1, none⟩) hbl2).trans d1
   have e2 := (hbw.cell (p := ⟨b2, o2 + m * 3 + 2, none⟩) hbl2).trans d2
   have hb1 := zaa (hbw.alloc hz (.cells #[.int .i64 ps[m].at_, .int .i64 ps[m].val, .bool ps[m].fl] 165))
   clear d0 d1 d2 hcell2 hcP
   by_cases q : stB ps[m] = true
   ·have Q := zaa q
    clear q
    go_wp2_with (go_at_call 158; refine (zlq ps[m] _).mono ?_; rw [Q.out]; rintro e w' ⟨rfl, hw'⟩)
    have hw2 := hb1.out.trans (hw'.mono (by simp; omega))
    clear hb1 hw'
    go_roundw
    case rel =>
     refine ⟨m + 1, by omega, by go_num, fun j h a => ?_, hw2⟩
     by_cases e : j = m
     ·subst e; exact Q.out
     ·exact H.out j h (by omega)
    case measure => simp [intOf]; omega
   ·have Q := zaa (show stB ps[m] = false by simpa using q)
    have E := zaa (stsB_not hlt2 Q.out)
    clear q
    go_wp2_with (go_at_call 158; refine (zlq ps[m] _).mono ?_; rw [Q.out]; rintro e w' ⟨rfl, hw'⟩)
    have hw2 := hb1.out.trans (hw'.mono (by simp; omega))
    go_ret
    exact ⟨zac E.out.symm, hw2⟩
  ·have E := zaa (stsB_mk (fun j h => H.out j h (by omega)))
   go_wp2
   go_ret
   exact ⟨zac E.out.symm, hbw⟩

set_option maxHeartbeats 4000000 in
theorem zbp (v : Value) (ws : List Int) (ps : List St) (w : World) (h : RdPm w v ws ps) (hw : ws.length ≤ 1048576) (hp : ps.length ≤ 1048576) :
  Calls Tryz.prog 103 #[v] w fun e w' => e = .returned (.bool (pmB ws ps)) ∧ Below w.heap.size w w' := by
 obtain ⟨vW, vP, rfl, h1, h2⟩ := h
 obtain ⟨aW, cW, rfl, _, hcW⟩ := h1.shape
 obtain ⟨aP, cP, rfl, _, hcP⟩ := h2.shape
 have H1 := zaa h1
 have H2 := zaa h2
 clear h1 h2 hcW hcP
 have hb0 : Below w.heap.size w (w.alloc (.cells #[.slice aW ws.length cW, .slice aP ps.length cP] 41)) := (Below.refl _ _).alloc (Nat.le_refl _) _
 have HB := zaa hb0
 by_cases c1 : ws.length = 336
 case neg =>
  have E := zaa (pmB_len1 (ps := ps) c1)
  have c1' : ((ws.length : Int) == 336) = false := by rw [beq_eq_false_iff_ne]; omega
  clear c1
  go_enter Tryz.func103, Tryz.ntmps103
  go_wp2
  go_ret
  exact ⟨zac E.out.symm, HB.out⟩
 have c1n : ((ws.length : Int) == 336) = true := by simp; omega
 have C1 := zaa c1
 clear c1
 by_cases c2 : 400 < ps.length
 ·have E := zaa (zwv (ws := ws) c2)
  have c2' : decide ((ps.length : Int) ≤ 400) = false := by simp; omega
  go_enter Tryz.func103, Tryz.ntmps103
  go_wp2
  go_ret
  exact ⟨zac E.out.symm, HB.out⟩
 by_cases c3 : zgv ws = true
 case neg =>
  have c3' : zgv ws = false := by simpa using c3
  obtain ⟨k, hk, hkf⟩ := zuc c3'
  have E := zaa (pmB_w (ps := ps) hk hkf)
  have W0 := zaa c3'
  clear c3 c3' hkf hk
  go_enter Tryz.func103, Tryz.ntmps103
  go_wp2_with (go_at_call 105; refine (zce _ ws _ (Rd.below H1.out HB.out) (by omega)).mono ?_; rw [W0.out]; rintro e w' ⟨rfl, rfl⟩)
  go_ret
  exact ⟨zac E.out.symm, HB.out⟩
 have HW := zaa (zkw c3)
 have W1 := zaa c3
 clear c3
 cases c4 : stsB ps with
 | true =>
  have E := zaa (pmB_mk C1.out (by omega) HW.out (fun j h => stB_true (stsB_true c4 j h)))
  have W2 := zaa c4
  clear c4
  go_enter Tryz.func103, Tryz.ntmps103
  go_wp2_with (first | (go_at_call 105; refine (zce _ ws _ (Rd.below H1.out HB.out) (by omega)).mono ?_; rw [W1.out]; rintro e w' ⟨rfl, rfl⟩) | (go_at_call 157; refine (zgw _ ps _ (Rd.below H2.out HB.out) (by omega)).mono ?_; rw [W2.out]; rintro e w' ⟨rfl, hw'⟩))
  go_ret
  exact ⟨zac E.out.symm, HB.out.trans (hw'.mono (by simp))⟩
 | false =>
  obtain ⟨k, hk, hkf⟩ := stsB_ex c4
  have E := zaa (show pmB ws ps = false from stB_false hkf (pmB_a (ws := ws) hk) (pmB_v (ws := ws) hk))
  have W2 := zaa c4
  clear c4 hk hkf
  go_enter Tryz.func103, Tryz.ntmps103
  go_wp2_with (first | (go_at_call 105; refine (zce _ ws _ (Rd.below H1.out HB.out) (by omega)).mono ?_; rw [W1.out]; rintro e w' ⟨rfl, rfl⟩) | (go_at_call 157; refine (zgw _ ps _ (Rd.below H2.out HB.out) (by omega)).mono ?_; rw [W2.out]; rintro e w' ⟨rfl, hw'⟩))
  go_ret
  exact ⟨zac E.out.symm, HB.out.trans (hw'.mono (by simp))⟩
end Go.Proofs.YtipklbnfobckaaaGreatDoor

namespace Go.Proofs.YtipklbnfobckaaaGreatDoor
open Go.RowKit

/-- The code that the calls with a place ask first. -/
def zqw (ws : List Int) (ps : List St) (at_ : Int) : Int := if pmB ws ps = false then 1 else if zbb at_ = false then 14 else 0
theorem askC_bad {ws : List Int} {ps : List St} {at_ : Int} (h : pmB ws ps = false) : zqw ws ps at_ = 1 := by unfold zqw; rw [if_pos h]
theorem zoo {ws : List Int} {ps : List St} {at_ : Int} (h : pmB ws ps = true) (h2 : zbb at_ = false) : zqw ws ps at_ = 14 := by unfold zqw; rw [if_neg (by rw [h]; simp), if_pos h2]
theorem askC_ok {ws : List Int} {ps : List St} {at_ : Int} (h : pmB ws ps = true) (h2 : zbb at_ = true) : zqw ws ps at_ = 0 := by unfold zqw; rw [if_neg (by rw [h]; simp), if_neg (by rw [h2]; simp)]

set_option maxHeartbeats 1000000 in
theorem zgt (v : Value) (ws : List Int) (ps : List St) (at_ : Int) (w : World) (h : RdPm w v ws ps) (hw : ws.length ≤ 1048576) (hp : ps.length ≤ 1048576) :
  Calls Tryz.prog 293 #[v, .int .i64 at_] w fun e w' => e = .returned (.int .i64 (zqw ws ps at_)) ∧ Below w.heap.size w w' := by
 have HR := zaa h
 obtain ⟨vW, vP, rfl, h1, h2⟩ := h
 obtain ⟨aW, cW, rfl, _⟩ := h1.shape
 obtain ⟨aP, cP, rfl, _⟩ := h2.shape
 clear h1 h2
 have hb0 : Below w.heap.size w (w.alloc (.cells #[.slice aW ws.length cW, .slice aP ps.length cP] 41)) := (Below.refl _ _).alloc (Nat.le_refl _) _
 by_cases c1 : pmB ws ps = true
 ·by_cases c2 : zbb at_ = true
  ·rw [askC_ok c1 c2]
   go_enter Tryz.func293, Tryz.ntmps293
   go_wp2_with (first | (go_at_call 103; refine (zbp _ ws ps _ (HR.out.below hb0) hw hp).mono ?_; rintro e w1 ⟨rfl, hb1⟩) | (go_at_call 222; refine (zcj _ _).mono ?_; rintro e w2 ⟨rfl, rfl⟩))
   go_ret
   exact ⟨rfl, zab hb0 hb1 (by simp)⟩
  ·have c2' : zbb at_ = false := by simpa using c2
   rw [zoo c1 c2']
   clear c2
   go_enter Tryz.func293, Tryz.ntmps293
   go_wp2_with (first | (go_at_call 103; refine (zbp _ ws ps _ (HR.out.below hb0) hw hp).mono ?_; rintro e w1 ⟨rfl, hb1⟩) | (go_at_call 222; refine (zcj _ _).mono ?_; rintro e w2 ⟨rfl, rfl⟩))
   go_ret
   exact ⟨rfl, zab hb0 hb1 (by simp)⟩
 ·have c1' : pmB ws ps = false := by simpa using c1
  rw [askC_bad c1']
  clear c1
  go_enter Tryz.func293, Tryz.ntmps293
  go_wp2_with (first | (go_at_call 103; refine (zbp _ ws ps _ (HR.out.below hb0) hw hp).mono ?_; rintro e w1 ⟨rfl, hb1⟩) | (go_at_call 222; refine (zcj _ _).mono ?_; rintro e w2 ⟨rfl, rfl⟩))
  go_ret
  exact ⟨rfl, zab hb0 hb1 (by simp)⟩

/-- The last of some stores at a place, or what was there. -/
def zgn (at_ d : Int) (ps : List St) : Int := ps.foldl (fun acc p => if p.at_ = at_ then p.val else acc) d
theorem zgg {at_ d : Int} : ∀ {ps : List St}, (∀ p ∈ ps, ¬ p.at_ = at_) → zgn at_ d ps = d
 | [], _ => rfl
 | p :: ps, h => by
  show zgn at_ (if p.at_ = at_ then p.val else d) ps = d
  rw [if_neg (h p (by simp))]
  exact zgg (fun q hq => h q (by simp [hq]))
theorem zrd (at_ d : Int) (ps qs : List St) : zgn at_ d (ps ++ qs) = zgn at_ (zgn at_ d ps) qs := by simp [zgn]
theorem ztt {at_ d : Int} {ps : List St} {k : Nat} (hk : k < ps.length) (h : ps[k].at_ = at_) (ha : ∀ j (hj : j < ps.length), k < j → ¬ ps[j].at_ = at_) : zgn at_ d ps = ps[k].val := by
 have e : ps = ps.take k ++ (ps[k] :: ps.drop (k + 1)) := by rw [← List.drop_eq_getElem_cons hk, List.take_append_drop]
 conv => lhs; rw [e]
 rw [zrd]
 show zgn at_ (if ps[k].at_ = at_ then ps[k].val else _) (ps.drop (k + 1)) = _
 rw [if_pos h]
 apply zgg
 intro p hp
 obtain ⟨i, hi, rfl⟩ := List.getElem_of_mem hp
 rw [List.getElem_drop]
 exact ha _ _ (by omega)

set_option maxHeartbeats 2000000 in
theorem zhb (v : Value) (ws : List Int) (ps : List St) (at_ : Nat) (w : World) (h : RdPm w v ws ps) (hw : ws.length ≤ 1048576) (hp : ps.length ≤ 1048576) (ha : at_ < ws.length) :
  Calls Tryz.prog 97 #[v, .int .i64 (at_ : Int)] w fun e w' => e = .returned (.int .i64 (zgn (at_ : Int) ws[at_] ps)) ∧ Below w.heap.size w w' := by
 obtain ⟨vW, vP, rfl, h1, h2⟩ := h
 obtain ⟨aW, cW, rfl, _, hcW⟩ := h1.shape
 obtain ⟨aP, cP, rfl, _, hcP⟩ := h2.shape
 clear h1 h2
 obtain ⟨bW, oW, rfl, hbW, hcellW⟩ := hcW (by omega)
 have hb0 : Below w.heap.size w (w.alloc (.cells #[.slice (some ⟨bW, oW, none⟩) ws.length cW, .slice aP ps.length cP] 41)) := (Below.refl _ _).alloc (Nat.le_refl _) _
 have hcw := (hb0.cell (p := ⟨bW, oW + at_, none⟩) hbW).trans (hcellW at_ ha)
 clear hcW hcellW
 go_enter Tryz.func97, Tryz.ntmps97
 go_wp2
 go_loop [5] (fun i => ∃ k : Nat, k ≤ ps.length ∧ i = .int .i64 ((k : Int) - 1) ∧ Hid (∀ j (h : j < ps.length), k ≤ j → ¬ ps[j].at_ = (at_ : Int))) (fun i => (intOf i + 1).toNat)
 case atStart => exact ⟨ps.length, Nat.le_refl _, rfl, fun j h a => absurd h (by omega)⟩
 case round =>
  obtain ⟨k, hk, rfl, H⟩ := hrel
  cases k with
  | zero =>
   have E := zaa (zgg (d := ws[at_]) (fun p hp => by obtain ⟨i, hi, rfl⟩ := List.getElem_of_mem hp; exact H.out i hi (by omega)))
   clear H hcP
   go_wp2
   go_ret
   exact ⟨zeo E.out.symm, hb0⟩
  | succ m =>
   have em : (((m + 1 : Nat) : Int) - 1) = (m : Int) := by omega
   rw [em]
   clear em
   obtain ⟨b, o, rfl, hbl, hcell⟩ := hcP (by omega)
   obtain ⟨d0, d1, _⟩ := hcell m (by omega)
   have e0 := (hb0.cell (p := ⟨b, o + m * 3, none⟩) hbl).trans d0
   have e1 := (hb0.cell (p := ⟨b, o + m * 3 + 1, none⟩) hbl).trans d1
   clear d0 d1 hcell hcP
   have hm : m < ps.length := by omega
   by_cases c : ps[m].at_ = (at_ : Int)
   ·have c' : (ps[m].at_ == (at_ : Int)) = true := by simpa using c
    have E := zaa (ztt (d := ws[at_]) hm c (fun j hj hlt => H.out j hj (by omega)))
    clear H c
    go_wp2
    go_ret
    exact ⟨zeo E.out.symm, hb0⟩
   ·have c' : (ps[m].at_ == (at_ : Int)) = false := by simpa using c
    have C := zaa c
    clear c
    go_wp2
    go_round
    case rel =>
     refine ⟨m, by omega, by go_num, fun j hj hle => ?_⟩
     by_cases e : j = m
     ·subst e; exact C.out
     ·exact H.out j hj (by omega)
    case measure => simp [intOf] <;> omega

/-- What is loaded: 0 with a code. -/
def zwk (ws : List Int) (ps : List St) (at_ : Int) : Int := if zqw ws ps at_ = 0 then zgn at_ (ws[at_.toNat]?.getD 0) ps else 0
theorem loadV_not {ws : List Int} {ps : List St} {at_ : Int} (h : ¬ zqw ws ps at_ = 0) : zwk ws ps at_ = 0 := by unfold zwk; rw [if_neg h]
theorem loadV_ok {ws : List Int} {ps : List St} {k : Nat} (h : zqw ws ps (k : Int) = 0) (hk : k < ws.length) : zwk ws ps (k : Int) = zgn (k : Int) ws[k] ps := by
 unfold zwk; rw [if_pos h]; simp [hk]
/-- Either a code, or a right memory and a place. -/
theorem askC_cases (ws : List Int) (ps : List St) (at_ : Int) : (zqw ws ps at_ = 1 ∨ zqw ws ps at_ = 14) ∨ (zqw ws ps at_ = 0 ∧ pmB ws ps = true ∧ ∃ k : Nat, at_ = (k : Int) ∧ k < 336 ∧ k < ws.length) := by
 by_cases c1 : pmB ws ps = true
 ·by_cases c2 : zbb at_ = true
  ·have := zhf c2
   have hl := (zee c1).1
   exact .inr ⟨askC_ok c1 c2, c1, at_.toNat, by omega, by omega, by omega⟩
  ·exact .inl (.inr (zoo c1 (by simpa using c2)))
 ·exact .inl (.inl (askC_bad (by simpa using c1)))

set_option maxHeartbeats 2000000 in
theorem znb (v : Value) (ws : List Int) (ps : List St) (at_ : Int) (w : World) (h : RdPm w v ws ps) (hw : ws.length ≤ 1048576) (hp : ps.length ≤ 1048576) :
  Calls Tryz.prog 248 #[v, .int .i64 at_] w fun e w' => e = .returned (.tuple #[.int .i64 (zwk ws ps at_), .int .i64 (zqw ws ps at_)]) ∧ Below w.heap.size w w' := by
 have HR := zaa h
 obtain ⟨vW, vP, rfl, h1, h2⟩ := h
 obtain ⟨aW, cW, rfl, _, hcW⟩ := h1.shape
 obtain ⟨aP, cP, rfl, _, hcP⟩ := h2.shape
 clear h1 h2
 have hb0 : Below w.heap.size w (w.alloc (.cells #[.slice aW ws.length cW, .slice aP ps.length cP] 41)) := (Below.refl _ _).alloc (Nat.le_refl _) _
 rcases askC_cases ws ps at_ with hc | ⟨hc, hok, k, rfl, hk, hkl⟩
 ·have hne : (zqw ws ps at_ != 0) = true := by rcases hc with hc | hc <;> simp [hc]
  have E := zaa (loadV_not (ws := ws) (ps := ps) (at_ := at_) (by rcases hc with hc | hc <;> simp [hc]))
  clear hc hcW hcP
  go_enter Tryz.func248, Tryz.ntmps248
  go_wp2_with (go_at_call 293; refine (zgt _ ws ps _ _ (HR.out.below hb0) hw hp).mono ?_; rintro e w1 ⟨rfl, hb1⟩)
  go_ret2
  exact ⟨zbq E.out.symm rfl, zab hb0 hb1 (by simp)⟩
 ·have E := zaa (loadV_ok hc hkl)
  have C := zaa hc
  obtain ⟨bW, oW, rfl, hbW, hcellW⟩ := hcW (by omega)
  have hcw := zaa (hcellW k hkl)
  have HP := zaa hcP
  clear hc hcW hcellW hcP
  go_enter Tryz.func248, Tryz.ntmps248
  go_wp2_with fail
  refine (zgt _ ws ps _ _ (HR.out.below hb0) hw hp).mono ?_
  rw [C.out]
  rintro e w1 ⟨rfl, hb1⟩
  have V1 := (hb1.block w.heap.size (by simp)).trans (zah rfl)
  obtain ⟨x1, x2, _, _⟩ := zad V1
  have B1 := zaa (zab hb0 hb1 (by simp))
  have hcw1 := (B1.out.cell (p := ⟨bW, oW + k, none⟩) hbW).trans hcw.out
  clear V1 hb1 hb0
  go_wp2
  go_loop [7] (fun i => ∃ m : Nat, m ≤ ps.length ∧ i = .int .i64 ((m : Int) - 1) ∧ Hid (∀ j (h : j < ps.length), m ≤ j → ¬ ps[j].at_ = (k : Int))) (fun i => (intOf i + 1).toNat)
  case atStart => exact ⟨ps.length, Nat.le_refl _, rfl, fun j h a => absurd h (by omega)⟩
  case round =>
   obtain ⟨m, hm, rfl, H⟩ := hrel
   cases m with
   | zero =>
    have E2 := zaa (zgg (d := ws[k]) (fun p hp => by obtain ⟨i, hi, rfl⟩ := List.getElem_of_mem hp; exact H.out i hi (by omega)))
    clear H
    go_wp2
    go_ret2
    exact ⟨zbq (E.out.trans E2.out).symm C.out.symm, B1.out⟩
   | succ m =>
    have em : (((m + 1 : Nat) : Int) - 1) = (m : Int) := by omega
    rw [em]
    clear em
    obtain ⟨b, o, rfl, hbl, hcell⟩ := HP.out (by omega)
    obtain ⟨d0, d1, _⟩ := hcell m (by omega)
    have e0 := (B1.out.cell (p := ⟨b, o + m * 3, none⟩) hbl).trans d0
    have e1 := (B1.out.cell (p := ⟨b, o + m * 3 + 1, none⟩) hbl).trans d1
    clear d0 d1 hcell
    have hml : m < ps.length := by omega
    by_cases c : ps[m].at_ = (k : Int)
    ·have c' : (ps[m].at_ == (k : Int)) = true := by simpa using c
     have E2 := zaa (ztt (d := ws[k]) hml c (fun j hj hlt => H.out j hj (by omega)))
     clear H c
     go_wp2
     go_ret2
     exact ⟨zbq (E.out.trans E2.out).symm C.out.symm, B1.out⟩
    ·have c' : (ps[m].at_ == (k : Int)) = false := by simpa using c
     have C2 := zaa c
     clear c
     go_wp2
     go_round
     case rel =>
      refine ⟨m, by omega, by go_num, fun j hj hle => ?_⟩
      by_cases e : j = m
      ·subst e; exact C2.out
      ·exact H.out j hj (by omega)
     case measure => simp [intOf] <;> omega
end Go.Proofs.YtipklbnfobckaaaGreatDoor

namespace Go.Proofs.YtipklbnfobckaaaGreatDoor
open Go.RowKit

theorem sts_one (ps : List St) : ∀ u ∈ sts ps, u.oneCell' = true := by
 intro u hu
 simp only [sts, List.mem_flatMap, St.cells] at hu
 obtain ⟨s, _, hs⟩ := hu
 simp at hs
 rcases hs with rfl | rfl | rfl <;> rfl
theorem RowPm.setCell {w : World} {lo hi : Nat} {v : Value} {ws : List Int} {ps : List St} (h : RowPm w lo hi v ws ps) {a : Addr} (ha : a.block < lo) (u : Value) : RowPm (w.setCell a u) lo hi v ws ps := by
 obtain ⟨vW, vP, rfl, h1, h2⟩ := h
 exact ⟨vW, vP, rfl, h1.same (fun b hb _ => Below.heap_setCell _ _ _ _ (by omega)), h2.same (fun b hb _ => Below.heap_setCell _ _ _ _ (by omega))⟩
theorem RowPm.alloc {w : World} {lo hi : Nat} {v : Value} {ws : List Int} {ps : List St} (h : RowPm w lo hi v ws ps) (hi1 : hi ≤ w.heap.size) (o : Obj) : RowPm (w.alloc o) lo hi v ws ps :=
 h.below ((Below.refl _ _).alloc (Nat.le_refl _) o) hi1
theorem RowPm.zero (w : World) (lo hi : Nat) : RowPm w lo hi (.agg #[.slice none 0 0, .slice none 0 0]) [] [] := ⟨_, _, rfl, Row.nil _ _ _ _ _, Row.nil _ _ _ _ _⟩
/-- The shape of a slice, its length as it is wanted. -/
theorem RdS.form {w : World} {v : Value} {ps : List St} (h : RdS w v ps) {n : Nat} (hn : ps.length = n) : ∃ ao cap, v = .slice ao n cap := by
 obtain ⟨ao, cap, e, _⟩ := h.shape
 exact ⟨ao, cap, by rw [← hn]; exact e⟩
theorem pmB_at {ws : List Int} {ps : List St} (h : pmB ws ps = true) : ∀ j (hj : j < ps.length), 0 ≤ ps[j].at_ ∧ ps[j].at_ < 336 := fun j hj => zhf (zlu h j hj).1
theorem pmB_in {ws : List Int} {ps : List St} (h : pmB ws ps = true) : ∀ j (hj : j < ps.length), 0 ≤ ps[j].at_ ∧ ps[j].at_ < ws.length := fun j hj => by
 have h1 := pmB_at h j hj
 have h2 := (zee h).1
 omega
end Go.Proofs.YtipklbnfobckaaaGreatDoor
