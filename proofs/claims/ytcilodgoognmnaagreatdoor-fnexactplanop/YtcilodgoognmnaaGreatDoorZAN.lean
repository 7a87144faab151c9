/- Several texts laid together: Ev, PmOKI, PmLoad, Small, PmSeen, NmU, RdA, IgF. -/
import Derived.Test.YtcilodgoognmnaaGreatDoorZAD
import Derived.Test.YtcilodgoognmnaaGreatDoorZAM
import Derived.Test.YtcilodgoognmnaaGreatDoorZAC
import Derived.Test.YtcilodgoognmnaaGreatDoorZAB
import Derived.Test.YtcilodgoognmnaaGreatDoorZAI
import Derived.Test.YtcilodgoognmnaaGreatDoorZAA
namespace Go.Proofs.YtcilodgoognmnaaGreatDoor
open Go.RowKit
def zoh (zs : List Int) : Bool := decide (∀ k (h : k < zs.length), zbp zs[k] = true)
theorem placesB_mk {zs : List Int} (h : ∀ k (h : k < zs.length), zbp zs[k] = true) : zoh zs = true := decide_eq_true h
theorem placesB_not {zs : List Int} {k : Nat} (hk : k < zs.length) (h : zbp zs[k] = false) : zoh zs = false := decide_eq_false (fun x => by have := x k hk; rw [h] at this; cases this)
set_option maxHeartbeats 2000000 in
theorem zcu (v : Value) (zs : List Int) (w : World) (h : RdI w v zs) (hn : zs.length ≤ 2147483648) :
  Calls Tryz.prog 158 #[v, .func (.func 53) #[] #[]] w fun e w' => e = .returned (.bool (ziu zs)) ∧ w' = w := by
 obtain ⟨ao, cap, rfl, _, hc⟩ := h.shape
 clear h
 go_enter Tryz.func158, Tryz.ntmps158
 go_wp2
 go_loop [6, 9] (fun _ i => ∃ k : Nat, k ≤ zs.length ∧ i = .int .i64 k ∧ Hid (∀ j (h : j < zs.length), j < k → zbc zs[j] = true)) (fun _ i => zs.length - (intOf i).toNat)
 case atStart => exact ⟨0, by omega, rfl, fun j h a => absurd a (by omega)⟩
 case round =>
  obtain ⟨k, hk, rfl, H⟩ := hrel
  by_cases hlt : k < zs.length
  ·obtain ⟨b, o, rfl, hbl, hcell⟩ := hc (by omega)
   have hck := hcell k hlt
   clear hcell hc
   by_cases q : zbc zs[k] = true
   ·go_wp2_with (go_at_call 53; refine (zdp _ _).mono ?_; rintro e w' ⟨rfl, rfl⟩)
    go_round
    case rel =>
     refine ⟨k + 1, by omega, by go_num, fun j h a => ?_⟩
     by_cases e : j = k
     ·subst e; exact q
     ·exact H.out j h (by omega)
    case measure => simp [intOf]; omega
   ·have q' : zbc zs[k] = false := by simpa using q
    have E := zaa (wordsB_not hlt q')
    go_wp2_with (go_at_call 53; refine (zdp _ _).mono ?_; rintro e w' ⟨rfl, rfl⟩)
    go_ret
    exact ⟨zaf E.out.symm, rfl⟩
  ·have E := zaa (zud (fun j h => H.out j h (by omega)))
   clear H
   go_wp2
   go_ret
   exact ⟨zaf E.out.symm, rfl⟩
set_option maxHeartbeats 2000000 in
theorem zis (v : Value) (zs : List Int) (w : World) (h : RdI w v zs) (hn : zs.length ≤ 2147483648) :
  Calls Tryz.prog 158 #[v, .func (.func 173) #[] #[]] w fun e w' => e = .returned (.bool (zoh zs)) ∧ w' = w := by
 obtain ⟨ao, cap, rfl, _, hc⟩ := h.shape
 clear h
 go_enter Tryz.func158, Tryz.ntmps158
 go_wp2
 go_loop [6, 9] (fun _ i => ∃ k : Nat, k ≤ zs.length ∧ i = .int .i64 k ∧ Hid (∀ j (h : j < zs.length), j < k → zbp zs[j] = true)) (fun _ i => zs.length - (intOf i).toNat)
 case atStart => exact ⟨0, by omega, rfl, fun j h a => absurd a (by omega)⟩
 case round =>
  obtain ⟨k, hk, rfl, H⟩ := hrel
  by_cases hlt : k < zs.length
  ·obtain ⟨b, o, rfl, hbl, hcell⟩ := hc (by omega)
   have hck := hcell k hlt
   clear hcell hc
   by_cases q : zbp zs[k] = true
   ·go_wp2_with (go_at_call 173; refine (zcg _ _).mono ?_; rintro e w' ⟨rfl, rfl⟩)
    go_round
    case rel =>
     refine ⟨k + 1, by omega, by go_num, fun j h a => ?_⟩
     by_cases e : j = k
     ·subst e; exact q
     ·exact H.out j h (by omega)
    case measure => simp [intOf]; omega
   ·have q' : zbp zs[k] = false := by simpa using q
    have E := zaa (placesB_not hlt q')
    go_wp2_with (go_at_call 173; refine (zcg _ _).mono ?_; rintro e w' ⟨rfl, rfl⟩)
    go_ret
    exact ⟨zaf E.out.symm, rfl⟩
  ·have E := zaa (placesB_mk (fun j h => H.out j h (by omega)))
   clear H
   go_wp2
   go_ret
   exact ⟨zaf E.out.symm, rfl⟩
end Go.Proofs.YtcilodgoognmnaaGreatDoor

namespace Go.Proofs.YtcilodgoognmnaaGreatDoor
open Go.RowKit
def stB (s : St) : Bool := zbp s.at_ && zbc s.val
theorem stB_true {s : St} (h : stB s = true) : zbp s.at_ = true ∧ zbc s.val = true := by unfold stB at h; simpa using h
theorem stB_false {s : St} {p : Prop} (h : stB s = false) (h1 : zbp s.at_ = false → p) (h2 : zbc s.val = false → p) : p := by
 unfold stB at h
 rw [Bool.and_eq_false_iff] at h
 exact h.elim h1 h2
def stsB (ps : List St) : Bool := decide (∀ k (h : k < ps.length), stB ps[k] = true)
theorem stsB_true {ps : List St} (h : stsB ps = true) : ∀ k (h : k < ps.length), stB ps[k] = true := of_decide_eq_true h
theorem stsB_mk {ps : List St} (h : ∀ k (h : k < ps.length), stB ps[k] = true) : stsB ps = true := decide_eq_true h
theorem stsB_not {ps : List St} {k : Nat} (hk : k < ps.length) (h : stB ps[k] = false) : stsB ps = false := decide_eq_false (fun x => by have := x k hk; rw [h] at this; cases this)
theorem stsB_ex {ps : List St} (h : stsB ps = false) : ∃ k, ∃ h : k < ps.length, stB ps[k] = false := by
 apply Classical.byContradiction
 intro hn
 have : stsB ps = true := stsB_mk (fun k hk => by
  cases e : stB ps[k] with
  | true => rfl
  | false => exact absurd ⟨k, hk, e⟩ hn)
 rw [h] at this
 cases this
set_option maxHeartbeats 1000000 in
theorem zpb (s : St) (w : World) : Calls Tryz.prog 242 #[.agg #[.int .i64 s.at_, .int .i64 s.val, .bool s.fl]] w fun e w' => e = .returned (.bool (stB s)) ∧ Below w.heap.size w w' := by
 have hb0 : Below w.heap.size w (w.alloc (.cells #[.int .i64 s.at_, .int .i64 s.val, .bool s.fl] 197)) := (Below.refl _ _).alloc (Nat.le_refl _) _
 by_cases q : zbp s.at_ = true
 ·have E := zaa (show stB s = zbc s.val by unfold stB; rw [q]; rfl)
  have Q := zaa q
  clear q
  go_enter Tryz.func242, Tryz.ntmps242
  go_wp2_with (first | (go_at_call 173; refine (zcg _ _).mono ?_; rw [Q.out]; rintro e w' ⟨rfl, rfl⟩) | (go_at_call 53; refine (zdp _ _).mono ?_; rintro e w' ⟨rfl, rfl⟩))
  go_ret
  exact ⟨zaf E.out.symm, hb0⟩
 ·have q' : zbp s.at_ = false := by simpa using q
  have E := zaa (show stB s = false by unfold stB; rw [q']; rfl)
  have Q := zaa q'
  clear q q'
  go_enter Tryz.func242, Tryz.ntmps242
  go_wp2_with (go_at_call 173; refine (zcg _ _).mono ?_; rw [Q.out]; rintro e w' ⟨rfl, rfl⟩)
  go_ret
  exact ⟨zaf E.out.symm, hb0⟩
set_option maxHeartbeats 4000000 in
theorem ziw (v : Value) (ps : List St) (w : World) (h : RdS w v ps) (hn : ps.length ≤ 1048576) :
  Calls Tryz.prog 241 #[v, .func (.func 242) #[] #[]] w fun e w' => e = .returned (.bool (stsB ps)) ∧ Below w.heap.size w w' := by
 obtain ⟨aP, cP, rfl, _, hcP⟩ := h.shape
 clear h
 go_enter Tryz.func241, Tryz.ntmps241
 go_wp2
 go_loopw [6, 9] (fun _ i wr => ∃ k : Nat, k ≤ ps.length ∧ i = .int .i64 k ∧ Hid (∀ j (h : j < ps.length), j < k → stB ps[j] = true) ∧ Below w.heap.size w wr) (fun _ i _ => ps.length - (intOf i).toNat)
 case atStart => exact ⟨0, by omega, rfl, fun j h a => absurd a (by omega), Below.refl _ _⟩
 case round =>
  obtain ⟨m, hm, rfl, H, hbw⟩ := hrel
  have hz := hbw.size
  by_cases hlt2 : m < ps.length
  ·obtain ⟨b2, o2, rfl, hbl2, hcell2⟩ := hcP (by omega)
   obtain ⟨d0, d1, d2⟩ := hcell2 m hlt2
   have e0 := (hbw.cell (p := ⟨b2, o2 + m * 3, none⟩) hbl2).trans d0
   have e1 := (hbw.cell (p := ⟨b2, o2 + m * 3 + 1, none⟩) hbl2).trans d1
   have e2 := (hbw.cell (p := ⟨b2, o2 + m * 3 + 2, none⟩) hbl2).trans d2
   have hb1 := zaa (hbw.alloc hz (.cells #[.int .i64 ps[m].at_, .int .i64 ps[m].val, .bool ps[m].fl] 197))
   clear d0 d1 d2 hcell2 hcP
   by_cases q : stB ps[m] = true
   ·have Q := zaa q
    clear q
    go_wp2_with (go_at_call 242; refine (zpb ps[m] _).mono ?_; rw [Q.out]; rintro e w' ⟨rfl, hw'⟩)
    have hw2 := hb1.out.trans (hw'.mono (by simp; omega))
    clear hb1 hw'
    go_roundw
    case rel =>
     refine ⟨m + 1, by omega, by go_num, fun j h a => ?_, hw2⟩
     by_cases e : j = m
     ·subst e; exact Q.out
     ·exact H.out j h (by omega)
    case measure => simp [intOf]; omega
   ·have Q := zaa (show stB ps[m] = false by simpa using q)
    have E := zaa (stsB_not hlt2 Q.out)
    clear q
    go_wp2_with (go_at_call 242; refine (zpb ps[m] _).mono ?_; rw [Q.out]; rintro e w' ⟨rfl, hw'⟩)
    have hw2 := hb1.out.trans (hw'.mono (by simp; omega))
    go_ret
    exact ⟨zaf E.out.symm, hw2⟩
  ·have E := zaa (stsB_mk (fun j h => H.out j h (by omega)))
   go_wp2
   go_ret
   exact ⟨zaf E.out.symm, hbw⟩
set_option maxHeartbeats 4000000 in
theorem zdu (v : Value) (ws : List Int) (ps : List St) (w : World) (h : RdPm w v ws ps) (hw : ws.length ≤ 1048576) (hp : ps.length ≤ 1048576) :
  Calls Tryz.prog 209 #[v] w fun e w' => e = .returned (.bool (pmB ws ps)) ∧ Below w.heap.size w w' := by
 obtain ⟨vW, vP, rfl, h1, h2⟩ := h
 obtain ⟨aW, cW, rfl, _, hcW⟩ := h1.shape
 obtain ⟨aP, cP, rfl, _, hcP⟩ := h2.shape
 have H1 := zaa h1
 have H2 := zaa h2
 clear h1 h2 hcW hcP
 have hb0 : Below w.heap.size w (w.alloc (.cells #[.slice aW ws.length cW, .slice aP ps.length cP] 36)) := (Below.refl _ _).alloc (Nat.le_refl _) _
 have HB := zaa hb0
 by_cases c1 : ws.length = 336
 case neg =>
  have E := zaa (pmB_len1 (ps := ps) c1)
  have c1' : ((ws.length : Int) == 336) = false := by rw [beq_eq_false_iff_ne]; omega
  clear c1
  go_enter Tryz.func209, Tryz.ntmps209
  go_wp2
  go_ret
  exact ⟨zaf E.out.symm, HB.out⟩
 have c1n : ((ws.length : Int) == 336) = true := by simp; omega
 have C1 := zaa c1
 clear c1
 by_cases c2 : 400 < ps.length
 ·have E := zaa (pmB_len2 (ws := ws) c2)
  have c2' : decide ((ps.length : Int) ≤ 400) = false := by simp; omega
  go_enter Tryz.func209, Tryz.ntmps209
  go_wp2
  go_ret
  exact ⟨zaf E.out.symm, HB.out⟩
 by_cases c3 : ziu ws = true
 case neg =>
  have c3' : ziu ws = false := by simpa using c3
  obtain ⟨k, hk, hkf⟩ := zuw c3'
  have E := zaa (pmB_w (ps := ps) hk hkf)
  have W0 := zaa c3'
  clear c3 c3' hkf hk
  go_enter Tryz.func209, Tryz.ntmps209
  go_wp2_with (go_at_call 158; refine (zcu _ ws _ (Rd.below H1.out HB.out) (by omega)).mono ?_; rw [W0.out]; rintro e w' ⟨rfl, rfl⟩)
  go_ret
  exact ⟨zaf E.out.symm, HB.out⟩
 have HW := zaa (zoa c3)
 have W1 := zaa c3
 clear c3
 cases c4 : stsB ps with
 | true =>
  have E := zaa (pmB_mk C1.out (by omega) HW.out (fun j h => stB_true (stsB_true c4 j h)))
  have W2 := zaa c4
  clear c4
  go_enter Tryz.func209, Tryz.ntmps209
  go_wp2_with (first | (go_at_call 158; refine (zcu _ ws _ (Rd.below H1.out HB.out) (by omega)).mono ?_; rw [W1.out]; rintro e w' ⟨rfl, rfl⟩) | (go_at_call 241; refine (ziw _ ps _ (Rd.below H2.out HB.out) (by omega)).mono ?_; rw [W2.out]; rintro e w' ⟨rfl, hw'⟩))
  go_ret
  exact ⟨zaf E.out.symm, HB.out.trans (hw'.mono (by simp))⟩
 | false =>
  obtain ⟨k, hk, hkf⟩ := stsB_ex c4
  have E := zaa (show pmB ws ps = false from stB_false hkf (pmB_a (ws := ws) hk) (pmB_v (ws := ws) hk))
  have W2 := zaa c4
  clear c4 hk hkf
  go_enter Tryz.func209, Tryz.ntmps209
  go_wp2_with (first | (go_at_call 158; refine (zcu _ ws _ (Rd.below H1.out HB.out) (by omega)).mono ?_; rw [W1.out]; rintro e w' ⟨rfl, rfl⟩) | (go_at_call 241; refine (ziw _ ps _ (Rd.below H2.out HB.out) (by omega)).mono ?_; rw [W2.out]; rintro e w' ⟨rfl, hw'⟩))
  go_ret
  exact ⟨zaf E.out.symm, HB.out.trans (hw'.mono (by simp))⟩
end Go.Proofs.YtcilodgoognmnaaGreatDoor

namespace Go.Proofs.YtcilodgoognmnaaGreatDoor
open Go.RowKit
def zty (ws : List Int) (ps : List St) (at_ : Int) : Int := if pmB ws ps = false then 1 else if zbp at_ = false then 14 else 0
theorem askC_bad {ws : List Int} {ps : List St} {at_ : Int} (h : pmB ws ps = false) : zty ws ps at_ = 1 := by unfold zty; rw [if_pos h]
theorem zrt {ws : List Int} {ps : List St} {at_ : Int} (h : pmB ws ps = true) (h2 : zbp at_ = false) : zty ws ps at_ = 14 := by unfold zty; rw [if_neg (by rw [h]; simp), if_pos h2]
theorem askC_ok {ws : List Int} {ps : List St} {at_ : Int} (h : pmB ws ps = true) (h2 : zbp at_ = true) : zty ws ps at_ = 0 := by unfold zty; rw [if_neg (by rw [h]; simp), if_neg (by rw [h2]; simp)]
set_option maxHeartbeats 1000000 in
theorem zjd (v : Value) (ws : List Int) (ps : List St) (at_ : Int) (w : World) (h : RdPm w v ws ps) (hw : ws.length ≤ 1048576) (hp : ps.length ≤ 1048576) :
  Calls Tryz.prog 164 #[v, .int .i64 at_] w fun e w' => e = .returned (.int .i64 (zty ws ps at_)) ∧ Below w.heap.size w w' := by
 have HR := zaa h
 obtain ⟨vW, vP, rfl, h1, h2⟩ := h
 obtain ⟨aW, cW, rfl, _⟩ := h1.shape
 obtain ⟨aP, cP, rfl, _⟩ := h2.shape
 clear h1 h2
 have hb0 : Below w.heap.size w (w.alloc (.cells #[.slice aW ws.length cW, .slice aP ps.length cP] 36)) := (Below.refl _ _).alloc (Nat.le_refl _) _
 by_cases c1 : pmB ws ps = true
 ·by_cases c2 : zbp at_ = true
  ·rw [askC_ok c1 c2]
   go_enter Tryz.func164, Tryz.ntmps164
   go_wp2_with (first | (go_at_call 209; refine (zdu _ ws ps _ (HR.out.below hb0) hw hp).mono ?_; rintro e w1 ⟨rfl, hb1⟩) | (go_at_call 173; refine (zcg _ _).mono ?_; rintro e w2 ⟨rfl, rfl⟩))
   go_ret
   exact ⟨rfl, zab hb0 hb1 (by simp)⟩
  ·have c2' : zbp at_ = false := by simpa using c2
   rw [zrt c1 c2']
   clear c2
   go_enter Tryz.func164, Tryz.ntmps164
   go_wp2_with (first | (go_at_call 209; refine (zdu _ ws ps _ (HR.out.below hb0) hw hp).mono ?_; rintro e w1 ⟨rfl, hb1⟩) | (go_at_call 173; refine (zcg _ _).mono ?_; rintro e w2 ⟨rfl, rfl⟩))
   go_ret
   exact ⟨rfl, zab hb0 hb1 (by simp)⟩
 ·have c1' : pmB ws ps = false := by simpa using c1
  rw [askC_bad c1']
  clear c1
  go_enter Tryz.func164, Tryz.ntmps164
  go_wp2_with (first | (go_at_call 209; refine (zdu _ ws ps _ (HR.out.below hb0) hw hp).mono ?_; rintro e w1 ⟨rfl, hb1⟩) | (go_at_call 173; refine (zcg _ _).mono ?_; rintro e w2 ⟨rfl, rfl⟩))
  go_ret
  exact ⟨rfl, zab hb0 hb1 (by simp)⟩
def zjm (at_ d : Int) (ps : List St) : Int := ps.foldl (fun acc p => if p.at_ = at_ then p.val else acc) d
theorem zih {at_ d : Int} : ∀ {ps : List St}, (∀ p ∈ ps, ¬ p.at_ = at_) → zjm at_ d ps = d
 | [], _ => rfl
 | p :: ps, h => by
  show zjm at_ (if p.at_ = at_ then p.val else d) ps = d
  rw [if_neg (h p (by simp))]
  exact zih (fun q hq => h q (by simp [hq]))
theorem zvv (at_ d : Int) (ps qs : List St) : zjm at_ d (ps ++ qs) = zjm at_ (zjm at_ d ps) qs := by simp [zjm]
theorem zwe {at_ d : Int} {ps : List St} {k : Nat} (hk : k < ps.length) (h : ps[k].at_ = at_) (ha : ∀ j (hj : j < ps.length), k < j → ¬ ps[j].at_ = at_) : zjm at_ d ps = ps[k].val := by
 have e : ps = ps.take k ++ (ps[k] :: ps.drop (k + 1)) := by rw [← List.drop_eq_getElem_cons hk, List.take_append_drop]
 conv => lhs; rw [e]
 rw [zvv]
 show zjm at_ (if ps[k].at_ = at_ then ps[k].val else _) (ps.drop (k + 1)) = _
 rw [if_pos h]
 apply zih
 intro p hp
 obtain ⟨i, hi, rfl⟩ := List.getElem_of_mem hp
 rw [List.getElem_drop]
 exact ha _ _ (by omega)
set_option maxHeartbeats 2000000 in
theorem zod (v : Value) (ws : List Int) (ps : List St) (at_ : Nat) (w : World) (h : RdPm w v ws ps) (hw : ws.length ≤ 1048576) (hp : ps.length ≤ 1048576) (ha : at_ < ws.length) :
  Calls Tryz.prog 151 #[v, .int .i64 (at_ : Int)] w fun e w' => e = .returned (.int .i64 (zjm (at_ : Int) ws[at_] ps)) ∧ Below w.heap.size w w' := by
 obtain ⟨vW, vP, rfl, h1, h2⟩ := h
 obtain ⟨aW, cW, rfl, _, hcW⟩ := h1.shape
 obtain ⟨aP, cP, rfl, _, hcP⟩ := h2.shape
 clear h1 h2
 obtain ⟨bW, oW, rfl, hbW, hcellW⟩ := hcW (by omega)
 have hb0 : Below w.heap.size w (w.alloc (.cells #[.slice (some ⟨bW, oW, none⟩) ws.length cW, .slice aP ps.length cP] 36)) := (Below.refl _ _).alloc (Nat.le_refl _) _
 have hcw := (hb0.cell (p := ⟨bW, oW + at_, none⟩) hbW).trans (hcellW at_ ha)
 clear hcW hcellW
 go_enter Tryz.func151, Tryz.ntmps151
 go_wp2
 go_loop [5] (fun i => ∃ k : Nat, k ≤ ps.length ∧ i = .int .i64 ((k : Int) - 1) ∧ Hid (∀ j (h : j < ps.length), k ≤ j → ¬ ps[j].at_ = (at_ : Int))) (fun i => (intOf i + 1).toNat)
 case atStart => exact ⟨ps.length, Nat.le_refl _, rfl, fun j h a => absurd h (by omega)⟩
 case round =>
  obtain ⟨k, hk, rfl, H⟩ := hrel
  cases k with
  | zero =>
   have E := zaa (zih (d := ws[at_]) (fun p hp => by obtain ⟨i, hi, rfl⟩ := List.getElem_of_mem hp; exact H.out i hi (by omega)))
   clear H hcP
   go_wp2
   go_ret
   exact ⟨zcd E.out.symm, hb0⟩
  | succ m =>
   have em : (((m + 1 : Nat) : Int) - 1) = (m : Int) := by omega
   rw [em]
   clear em
   obtain ⟨b, o, rfl, hbl, hcell⟩ := hcP (by omega)
   obtain ⟨d0, d1, _⟩ := hcell m (by omega)
   have e0 := (hb0.cell (p := ⟨b, o + m * 3, none⟩) hbl).trans d0
   have e1 := (hb0.cell (p := ⟨b, o + m * 3 + 1, none⟩) hbl).trans d1
   clear d0 d1 hcell hcP
   have hm : m < ps.length := by omega
   by_cases c : ps[m].at_ = (at_ : Int)
   ·have c' : (ps[m].at_ == (at_ : Int)) = true := by simpa using c
    have E := zaa (zwe (d := ws[at_]) hm c (fun j hj hlt => H.out j hj (by omega)))
    clear H c
    go_wp2
    go_ret
    exact ⟨zcd E.out.symm, hb0⟩
   ·have c' : (ps[m].at_ == (at_ : Int)) = false := by simpa using c
    have C := zaa c
    clear c
    go_wp2
    go_round
    case rel =>
     refine ⟨m, by omega, by go_num, fun j hj hle => ?_⟩
     by_cases e : j = m
     ·subst e; exact C.out
     ·exact H.out j hj (by omega)
    case measure => simp [intOf] <;> omega
def loadV (ws : List Int) (ps : List St) (at_ : Int) : Int := if zty ws ps at_ = 0 then zjm at_ (ws[at_.toNat]?.getD 0) ps else 0
theorem loadV_not {ws : List Int} {ps : List St} {at_ : Int} (h : ¬ zty ws ps at_ = 0) : loadV ws ps at_ = 0 := by unfold loadV; rw [if_neg h]
theorem loadV_ok {ws : List Int} {ps : List St} {k : Nat} (h : zty ws ps (k : Int) = 0) (hk : k < ws.length) : loadV ws ps (k : Int) = zjm (k : Int) ws[k] ps := by
 unfold loadV; rw [if_pos h]; simp [hk]
theorem askC_cases (ws : List Int) (ps : List St) (at_ : Int) : (zty ws ps at_ = 1 ∨ zty ws ps at_ = 14) ∨ (zty ws ps at_ = 0 ∧ pmB ws ps = true ∧ ∃ k : Nat, at_ = (k : Int) ∧ k < 336 ∧ k < ws.length) := by
 by_cases c1 : pmB ws ps = true
 ·by_cases c2 : zbp at_ = true
  ·have := zgo c2
   have hl := (zly c1).1
   exact .inr ⟨askC_ok c1 c2, c1, at_.toNat, by omega, by omega, by omega⟩
  ·exact .inl (.inr (zrt c1 (by simpa using c2)))
 ·exact .inl (.inl (askC_bad (by simpa using c1)))
set_option maxHeartbeats 2000000 in
theorem zqo (v : Value) (ws : List Int) (ps : List St) (at_ : Int) (w : World) (h : RdPm w v ws ps) (hw : ws.length ≤ 1048576) (hp : ps.length ≤ 1048576) :
  Calls Tryz.prog 101 #[v, .int .i64 at_] w fun e w' => e = .returned (.tuple #[.int .i64 (loadV ws ps at_), .int .i64 (zty ws ps at_)]) ∧ Below w.heap.size w w' := by
 have HR := zaa h
 obtain ⟨vW, vP, rfl, h1, h2⟩ := h
 obtain ⟨aW, cW, rfl, _, hcW⟩ := h1.shape
 obtain ⟨aP, cP, rfl, _, hcP⟩ := h2.shape
 clear h1 h2
 have hb0 : Below w.heap.size w (w.alloc (.cells #[.slice aW ws.length cW, .slice aP ps.length cP] 36)) := (Below.refl _ _).alloc (Nat.le_refl _) _
 rcases askC_cases ws ps at_ with hc | ⟨hc, hok, k, rfl, hk, hkl⟩
 ·have hne : (zty ws ps at_ != 0) = true := by rcases hc with hc | hc <;> simp [hc]
  have E := zaa (loadV_not (ws := ws) (ps := ps) (at_ := at_) (by rcases hc with hc | hc <;> simp [hc]))
  clear hc hcW hcP
  go_enter Tryz.func101, Tryz.ntmps101
  go_wp2_with (go_at_call 164; refine (zjd _ ws ps _ _ (HR.out.below hb0) hw hp).mono ?_; rintro e w1 ⟨rfl, hb1⟩)
  go_ret2
  exact ⟨zbt E.out.symm rfl, zab hb0 hb1 (by simp)⟩
 ·have E := zaa (loadV_ok hc hkl)
  have C := zaa hc
  obtain ⟨bW, oW, rfl, hbW, hcellW⟩ := hcW (by omega)
  have hcw := zaa (hcellW k hkl)
  have HP := zaa hcP
  clear hc hcW hcellW hcP
  go_enter Tryz.func101, Tryz.ntmps101
  go_wp2_with fail
  refine (zjd _ ws ps _ _ (HR.out.below hb0) hw hp).mono ?_
  rw [C.out]
  rintro e w1 ⟨rfl, hb1⟩
  have V1 := (hb1.block w.heap.size (by simp)).trans (zah rfl)
  obtain ⟨x1, x2, _, _⟩ := zac V1
  have B1 := zaa (zab hb0 hb1 (by simp))
  have hcw1 := (B1.out.cell (p := ⟨bW, oW + k, none⟩) hbW).trans hcw.out
  clear V1 hb1 hb0
  go_wp2
  go_loop [7] (fun i => ∃ m : Nat, m ≤ ps.length ∧ i = .int .i64 ((m : Int) - 1) ∧ Hid (∀ j (h : j < ps.length), m ≤ j → ¬ ps[j].at_ = (k : Int))) (fun i => (intOf i + 1).toNat)
  case atStart => exact ⟨ps.length, Nat.le_refl _, rfl, fun j h a => absurd h (by omega)⟩
  case round =>
   obtain ⟨m, hm, rfl, H⟩ := hrel
   cases m with
   | zero =>
    have E2 := zaa (zih (d := ws[k]) (fun p hp => by obtain ⟨i, hi, rfl⟩ := List.getElem_of_mem hp; exact H.out i hi (by omega)))
    clear H
    go_wp2
    go_ret2
    exact ⟨zbt (E.out.trans E2.out).symm C.out.symm, B1.out⟩
   | succ m =>
    have em : (((m + 1 : Nat) : Int) - 1) = (m : Int) := by omega
    rw [em]
    clear em
    obtain ⟨b, o, rfl, hbl, hcell⟩ := HP.out (by omega)
    obtain ⟨d0, d1, _⟩ := hcell m (by omega)
    have e0 := (B1.out.cell (p := ⟨b, o + m * 3, none⟩) hbl).trans d0
    have e1 := (B1.out.cell (p := ⟨b, o + m * 3 + 1, none⟩) hbl).trans d1
    clear d0 d1 hcell
    have hml : m < ps.length := by omega
    by_cases c : ps[m].at_ = (k : Int)
    ·have c' : (ps[m].at_ == (k : Int)) = true := by simpa using c
     have E2 := zaa (zwe (d := ws[k]) hml c (fun j hj hlt => H.out j hj (by omega)))
     clear H c
     go_wp2
     go_ret2
     exact ⟨zbt (E.out.trans E2.out).symm C.out.symm, B1.out⟩
    ·have c' : (ps[m].at_ == (k : Int)) = false := by simpa using c
     have C2 := zaa c
     clear c
     go_wp2
     go_round
     case rel =>
      refine ⟨m, by omega, by go_num, fun j hj hle => ?_⟩
      by_cases e : j = m
      ·subst e; exact C2.out
      ·exact H.out j hj (by omega)
     case measure => simp [intOf] <;> omega
end Go.Proofs.YtcilodgoognmnaaGreatDoor

namespace Go.Proofs.YtcilodgoognmnaaGreatDoor
open Go.RowKit
theorem pmB_at {ws : List Int} {ps : List St} (h : pmB ws ps = true) : ∀ j (hj : j < ps.length), 0 ≤ ps[j].at_ ∧ ps[j].at_ < 336 := fun j hj => zgo (zwi h j hj).1
theorem pmB_in {ws : List Int} {ps : List St} (h : pmB ws ps = true) : ∀ j (hj : j < ps.length), 0 ≤ ps[j].at_ ∧ ps[j].at_ < ws.length := fun j hj => by
 have h1 := pmB_at h j hj
 have h2 := (zly h).1
 omega
end Go.Proofs.YtcilodgoognmnaaGreatDoor

namespace Go.Proofs.YtcilodgoognmnaaGreatDoor
open Go.RowKit
def zcj (ws : List Int) (ps : List St) : List Int := ps.foldl (fun acc p => acc.set p.at_.toNat p.val) ws
theorem layW_snoc (ws : List Int) (ps : List St) (p : St) : zcj ws (ps ++ [p]) = (zcj ws ps).set p.at_.toNat p.val := by simp [zcj]
theorem znl (ws : List Int) : ∀ ps : List St, (zcj ws ps).length = ws.length := by
 intro ps
 unfold zcj
 induction ps generalizing ws with
 | nil => rfl
 | cons p ps ih => rw [List.foldl_cons, ih]; simp
theorem layW_at : ∀ (ps : List St) (ws : List Int) (k : Nat) (hk : k < ws.length) (_ : ∀ p ∈ ps, 0 ≤ p.at_) (hk' : k < (zcj ws ps).length), (zcj ws ps)[k] = zjm (k : Int) ws[k] ps
 | [], ws, k, hk, _, _ => rfl
 | p :: ps, ws, k, hk, h0, hk' => by
  have hk2 : k < (ws.set p.at_.toNat p.val).length := by simpa using hk
  have := layW_at ps (ws.set p.at_.toNat p.val) k hk2 (fun q hq => h0 q (by simp [hq])) hk'
  show (zcj (ws.set p.at_.toNat p.val) ps)[k] = zjm (k : Int) (if p.at_ = (k : Int) then p.val else ws[k]) ps
  rw [this, List.getElem_set]
  have hp := h0 p (by simp)
  by_cases e : p.at_ = (k : Int)
  ·rw [if_pos (by omega), if_pos e]
  ·rw [if_neg (by omega), if_neg e]
def seenC (ws : List Int) (ps : List St) : Int := if pmB ws ps = true then 0 else 1
def seenZ (ws : List Int) (ps : List St) : List Int := if pmB ws ps = true then zcj ws ps else []
theorem seen_not {ws : List Int} {ps : List St} (h : pmB ws ps = false) : seenC ws ps = 1 ∧ seenZ ws ps = [] := by
 unfold seenC seenZ
 rw [h]
 exact ⟨rfl, rfl⟩
theorem seen_ok {ws : List Int} {ps : List St} (h : pmB ws ps = true) : seenC ws ps = 0 ∧ seenZ ws ps = zcj ws ps := by
 unfold seenC seenZ
 rw [h]
 exact ⟨rfl, rfl⟩
set_option maxRecDepth 100000 in
set_option maxHeartbeats 4000000 in
theorem zqw (v : Value) (ws : List Int) (ps : List St) (w : World) (h : RdPm w v ws ps) (hw : ws.length ≤ 1048576) (hp : ps.length ≤ 1048576) :
  Calls Tryz.prog 161 #[v] w fun e w' => ∃ v', e = .returned (.tuple #[v', .int .i64 (seenC ws ps)]) ∧ Row w' 3 1 w.heap.size w'.heap.size v' (seenZ ws ps).length (zec (seenZ ws ps)) ∧ Below w.heap.size w w' := by
 have HR := zaa h
 obtain ⟨vW, vP, rfl, h1, h2⟩ := h
 have H1 := zaa h1
 obtain ⟨aW, cW, rfl, _⟩ := h1.shape
 obtain ⟨aP, cP, rfl, _, hcP⟩ := h2.shape
 have HP := zaa hcP
 clear h1 h2 hcP
 have hb0 : Below w.heap.size w (w.alloc (.cells #[.slice aW ws.length cW, .slice aP ps.length cP] 36)) := (Below.refl _ _).alloc (Nat.le_refl _) _
 by_cases hc : pmB ws ps = true
 ·obtain ⟨e1, e2⟩ := seen_ok hc
  rw [e1, e2]
  clear e1 e2
  have OK := zaa (pmB_in hc)
  go_enter Tryz.func161, Tryz.ntmps161
  go_wp2_with fail
  refine (zdu _ ws ps _ (HR.out.below hb0) hw hp).mono ?_
  rintro e w1 ⟨rfl, hb1⟩
  have hz1 : w.heap.size + 1 ≤ w1.heap.size := by have := hb1.size; simp at this; omega
  have V0 := (hb1.block w.heap.size (by simp <;> omega)).trans (zah rfl)
  obtain ⟨x1, x2, x3, x4⟩ := zac V0
  have B1 := zaa (zab hb0 hb1 (by simp <;> omega))
  have VH := zaa V0
  clear hb0 hb1 V0
  go_wp2_with (at_builtin; refine zag _ rfl (.const (.slice none 0 0)) (.tmp 11) 22 rfl w1.heap.size 3 (.int .i64 0) 1 8 Tryz.underlying22 info3 rfl (by decide) _ 0 [] rfl (World.ownsRow_nil _ _ _ _) _ ws.length (zec ws) rfl (Rd.below H1.out B1.out) (znh ws) (by simp [maxLen]; omega) (by omega) (Nat.le_refl _) ?_)
  intro v2 w2 hown2 hgr2
  have hown2 : w2.ownsRow w1.heap.size 3 1 v2 ws.length (zec ws) := by simpa using hown2
  obtain ⟨aW2, cW2, rfl⟩ := RdI.form (zad hown2).rd rfl
  have hz2 : w1.heap.size ≤ w2.heap.size := hgr2.size
  have B2 := B1.out.grown hgr2 (by omega) (fun k hk => by cases hk)
  have V0 := (hgr2.block w.heap.size (by omega) (by simp [Value.ownBlock])).trans VH.out
  obtain ⟨z1, z2, z3, z4⟩ := zac V0
  have START := zaa (And.intro (zad hown2) B2)
  clear x1 x2 x3 x4 hown2 hgr2 B2 V0
  go_wp2
  go_loopw [6, 16] (fun _ i wr => ∃ m : Nat, m ≤ ps.length ∧ i = .int .i64 m ∧ Row wr 3 1 w1.heap.size w2.heap.size (.slice aW2 ws.length cW2) ws.length (zec (zcj ws (ps.take m))) ∧ Below w.heap.size w wr ∧ w2.heap.size ≤ wr.heap.size) (fun _ i _ => ps.length - (intOf i).toNat)
  case atStart => exact ⟨0, by omega, rfl, START.out.1, START.out.2, Nat.le_refl _⟩
  case round =>
   obtain ⟨m, hm, rfl, hrow, hb, hz⟩ := hrel
   by_cases hlt : m < ps.length
   ·obtain ⟨b, o, rfl, hbl, hcell⟩ := HP.out (by omega)
    obtain ⟨e0, e1, e2⟩ := hcell m hlt
    have d0 := (hb.cell (p := ⟨b, o + m * 3, none⟩) hbl).trans e0
    have d1 := (hb.cell (p := ⟨b, o + m * 3 + 1, none⟩) hbl).trans e1
    have d2 := (hb.cell (p := ⟨b, o + m * 3 + 2, none⟩) hbl).trans e2
    obtain ⟨q0, q1⟩ := OK.out m hlt
    obtain ⟨_, aw', cw', ew', _, hcw⟩ := hrow.rd
    cases ew'
    obtain ⟨bw, ow, rfl, hblw, _⟩ := hcw (by omega)
    obtain ⟨rfl, hb1, _, _, hfrw, hclw⟩ := (hrow.alloc hz (.cells #[.int .i64 ps[m].at_, .int .i64 ps[m].val, .bool ps[m].fl] 197)).at
    have hj : ps[m].at_.toNat < (zcj ws (ps.take m)).length := by rw [znl]; omega
    have g0 := hfrw ps[m].at_.toNat
    have g1 := (hclw ps[m].at_.toNat (by omega)).trans (zfl _ _ hj)
    have F : Hid (Row ((wr.setCell ⟨bw, ps[m].at_.toNat, none⟩ (.int .i64 ps[m].val)).alloc (.cells #[.int .i64 ps[m].at_, .int .i64 ps[m].val, .bool ps[m].fl] 197)) 3 1 w1.heap.size w2.heap.size (.slice (some ⟨bw, 0, none⟩) ws.length cW2) ws.length (zec (zcj ws (ps.take (m + 1))))) := by
     rw [zpj ps m hlt, layW_snoc, ← ints_set]
     exact (hrow.stored _ _).alloc (by simp; omega) _
    have G := zaa ((hb.setCell (p := ⟨bw, ps[m].at_.toNat, none⟩) (by simp only; omega) (.int .i64 ps[m].val)).alloc (by simp; omega) (.cells #[.int .i64 ps[m].at_, .int .i64 ps[m].val, .bool ps[m].fl] 197))
    clear hrow hcell e0 e1 e2 hcw hfrw hclw
    go_wp2
    go_roundw
    case rel => exact ⟨m + 1, by omega, by go_num, F.out, G.out, by simp; omega⟩
    case measure => simp [intOf]; omega
   ·have e : m = ps.length := by omega
    subst e
    have R := zaa hrow
    clear hrow
    go_wp2
    go_ret2
    refine ⟨_, rfl, ?_, hb⟩
    have := R.out
    rw [List.take_length] at this
    rw [znl]
    exact this.wide (by omega) hz
 ·have hc' : pmB ws ps = false := by simpa using hc
  clear hc
  obtain ⟨e1, e2⟩ := seen_not hc'
  rw [e1, e2]
  clear e1 e2
  go_enter Tryz.func161, Tryz.ntmps161
  go_wp2_with fail
  refine (zdu _ ws ps _ (HR.out.below hb0) hw hp).mono ?_
  rintro e w1 ⟨rfl, hb1⟩
  have B1 := zaa (zab hb0 hb1 (by simp <;> omega))
  clear hb0 hb1
  go_wp2
  go_ret2
  exact ⟨_, rfl, Row.nil _ _ _ _ _, B1.out⟩
end Go.Proofs.YtcilodgoognmnaaGreatDoor

namespace Go.Proofs.YtcilodgoognmnaaGreatDoor
open Go.RowKit
def arrD (ds : List Nat) (j : Nat) : Value := if j < 6 - ds.length then .int .u8 0 else .int .u8 (96 + ((ds[j - (6 - ds.length)]?.getD 0 : Nat) : Int))
theorem arrD_nil (j : Nat) (h : j < 6) : arrD [] j = .int .u8 0 := by unfold arrD; rw [if_pos (by simpa using h)]
theorem arrD_cons (d : Nat) (ds : List Nat) (h : ds.length < 6) (j : Nat) : (if j = 6 - ds.length - 1 then Value.int .u8 (96 + (d : Int)) else arrD ds j) = arrD (d :: ds) j := by
 unfold arrD
 by_cases e : j = 6 - ds.length - 1
 ·subst e
  rw [if_pos rfl, if_neg (by simp only [List.length_cons]; omega)]
  simp only [List.length_cons]
  rw [show 6 - ds.length - 1 - (6 - (ds.length + 1)) = 0 by omega]
  rfl
 ·rw [if_neg e]
  simp only [List.length_cons]
  by_cases e2 : j < 6 - ds.length
  ·rw [if_pos e2, if_pos (by omega)]
  ·rw [if_neg e2, if_neg (by omega), show j - (6 - (ds.length + 1)) = (j - (6 - ds.length)) + 1 by omega]
   rfl
theorem strOf_digs (ds : List Nat) : strOfNums (ds.map fun d => (96 : Int) + (d : Nat)) = zch ds := by
 unfold strOfNums zch
 rw [List.map_map]
 congr 2
theorem slice6 (w : World) (b l : Nat) (h1 : 1 ≤ l) (h6 : l ≤ 6) : (Instr.sliceAt 273 (.pointer (some ⟨b, 0, none⟩)) (some (.int .i64 (6 - (l : Int)))) none none).run Tryz.prog w = .ok (.slice (some ⟨b, 6 - l, none⟩) l l) w := by
 have al : Tryz.prog.arrayLen 273 = 6 := by kernel_rfl
 rw [run_sliceAt_array_l w 273 ⟨b, 0, none⟩ (by kernel_rfl) .i64 (6 - (l : Int)) (by omega) (by rw [al]; omega), al]
 have sz : (sizeOf (Tryz.prog.elem 273)).run Tryz.prog w = .ok 1 w := by kernel_rfl
 rw [sz]
 simp only [Result.andThen, slicedAt]
 rw [if_neg (by omega), show (6 - (l : Int)).toNat = 6 - l by omega, show 6 - (6 - l) = l by omega, Nat.mul_one]
 simp [Addr.add]
 omega
set_option maxRecDepth 100000 in
set_option maxHeartbeats 4000000 in
theorem zky (n : Int) (w : World) (hn : n ≤ 9223372036854775807) : Calls Tryz.prog 210 #[.int .i64 n] w fun e w' => e = .returned (.tuple #[.string (unpS n), .int .i64 (unpC n)]) ∧ Below w.heap.size w w' := by
 by_cases c0 : n < 1
 ·have E := zaa (unp_bad (unp_low (n := n) (by omega)))
  go_enter Tryz.func210, Tryz.ntmps210
  go_wp2
  go_ret2
  exact ⟨ret_si E.out.1.symm E.out.2.symm, Below.refl _ _⟩
 obtain ⟨N, rfl⟩ := Int.eq_ofNat_of_zero_le (show 0 ≤ n by omega)
 have START : Hid ((w.alloc (.cells #[.int .u8 0, .int .u8 0, .int .u8 0, .int .u8 0, .int .u8 0, .int .u8 0] 273)).rowIs w.heap.size 273 6 (arrD [])) := by
  refine World.rowIs_alloc w #[.int .u8 0, .int .u8 0, .int .u8 0, .int .u8 0, .int .u8 0, .int .u8 0] 273 (arrD []) (fun i hi => ?_)
  have hi' : i < 6 := hi
  rw [arrD_nil i hi']
  rcases (show i = 0 ∨ i = 1 ∨ i = 2 ∨ i = 3 ∨ i = 4 ∨ i = 5 by omega) with rfl | rfl | rfl | rfl | rfl | rfl <;> rfl
 have BH : Hid (Below w.heap.size w (w.alloc (.cells #[.int .u8 0, .int .u8 0, .int .u8 0, .int .u8 0, .int .u8 0, .int .u8 0] 273))) := (Below.refl _ _).alloc (Nat.le_refl _) _
 go_enter Tryz.func210, Tryz.ntmps210
 go_wp2
 go_loopw [0, 5, 6] (fun x f _ wr => ∃ (m : Nat) (ds : List Nat), x = .int .i64 (m : Int) ∧ f = .int .i64 (6 - (ds.length : Int)) ∧ m ≤ N ∧ ds.length ≤ 6 ∧ Hid (Dg N m ds) ∧ Hid (wr.rowIs w.heap.size 273 6 (arrD ds)) ∧ Hid (Below w.heap.size w wr)) (fun x _ _ _ => (intOf x).toNat)
 case atStart => exact ⟨N, [], rfl, rfl, Nat.le_refl _, by simp, Dg.start N, START.out, BH.out⟩
 case round =>
  obtain ⟨m, ds, rfl, rfl, hm, hl, D, R, B⟩ := hrel
  by_cases c1 : 0 < m
  ·have m0 : (0 : Int) < (m : Int) := by omega
   by_cases c2 : m % 27 = 0
   ·have E := zaa (unp_bad (unp_zero D.out c1 c2))
    have c2' : ((m : Int) % 27 == 0) = true := by rw [beq_iff_eq]; omega
    go_wp2
    go_ret2
    exact ⟨ret_si E.out.1.symm E.out.2.symm, B.out⟩
   ·have c2' : ((m : Int) % 27 == 0) = false := by rw [beq_eq_false_iff_ne]; omega
    by_cases c3 : 6 ≤ ds.length
    ·have E := zaa (unp_bad (unp_many D.out c1 c3))
     have c3' : ((6 : Int) - (ds.length : Int) == 0) = true := by rw [beq_iff_eq]; omega
     go_wp2
     go_ret2
     exact ⟨ret_si E.out.1.symm E.out.2.symm, B.out⟩
    ·have c3' : ((6 : Int) - (ds.length : Int) == 0) = false := by rw [beq_eq_false_iff_ne]; omega
     have D2 := zaa (D.out.step c1 c2)
     have g0 := R.out.frozen (6 - ds.length - 1)
     have g1 := R.out.cell (show 6 - ds.length - 1 < 6 by omega)
     generalize hv : arrD ds (6 - ds.length - 1) = v0 at g1
     have ev : (97 + (m : Int) % 27 - 1) = 96 + ((m % 27 : Nat) : Int) := by omega
     have R2 : Hid ((wr.setCell ⟨w.heap.size, 6 - ds.length - 1, none⟩ (.int .u8 (97 + (m : Int) % 27 - 1))).rowIs w.heap.size 273 6 (arrD (m % 27 :: ds))) := by
      rw [ev]
      exact (R.out.set (6 - ds.length - 1) (.int .u8 (96 + ((m % 27 : Nat) : Int)))).congr (fun j _ => arrD_cons (m % 27) ds (by omega) j)
     have B2 : Hid (Below w.heap.size w (wr.setCell ⟨w.heap.size, 6 - ds.length - 1, none⟩ (.int .u8 (97 + (m : Int) % 27 - 1)))) := B.out.setCell (by simp only; omega) _
     clear ev
     clear hv
     go_wp2
     go_roundw
     case rel => exact ⟨m / 27, m % 27 :: ds, by go_num, by go_num, by omega, by simp; omega, D2.out, R2.out, B2.out⟩
     case measure => simp [intOf]; omega
  ·obtain rfl : m = 0 := by omega
   have E := zaa (unp_done D.out (by omega) hl)
   have hconv := fun cap => run_convert_bytes_arg (P := Tryz.prog) wr 228 5 Tryz.underlying228 Tryz.underlying5 w.heap.size (6 - ds.length) ds.length cap (ds.map fun d => (96 : Int) + (d : Nat)) (by simp) (fun i hi => by
    rw [R.out.cell (show 6 - ds.length + i < 6 by omega)]
    unfold arrD
    rw [if_neg (by omega), show 6 - ds.length + i - (6 - ds.length) = i by omega]
    simp [List.getD, hi]) 9 Tryz.underlying9
   rw [strOf_digs] at hconv
   have l1 : 1 ≤ ds.length := by
    have := digs_ne (n := N) (by omega)
    rw [D.out.done] at this
    exact this
   have hsl := slice6 wr w.heap.size ds.length l1 hl
   have hcv := hconv ds.length
   clear hconv
   go_wp2
   go_ret2
   exact ⟨ret_si E.out.1.symm E.out.2.symm, B.out⟩
set_option maxRecDepth 100000 in
set_option maxHeartbeats 4000000 in
theorem ztu (n : Int) (w : World) (hn : n ≤ 9223372036854775807) : Calls Tryz.prog 206 #[.int .i64 n] w fun e w' => (∃ s, e = .returned (.tuple #[.string s, .bool (zgn n)]) ∧ (zgn n = true → s = unpS n)) ∧ Below w.heap.size w w' := by
 obtain ⟨N, hN, hN2, hN3⟩ : ∃ N : Nat, (0 < n → n = (N : Int)) ∧ (¬ 0 < n → N = 0) ∧ N ≤ 9223372036854775807 := ⟨n.toNat, fun h => by omega, fun h => by omega, by omega⟩
 have hdl : (ztq N).length ≤ 14 := digs_len 14 N (by omega)
 go_enter Tryz.func206, Tryz.ntmps206
 go_wp2
 go_loopw [0, 4, 5] (fun x o _ wr => ∃ (y : Int) (ds : List Nat), x = .int .i64 y ∧ o = .string (zch ds) ∧ y ≤ 9223372036854775807 ∧ Hid ((0 < n → ∃ m : Nat, y = (m : Int) ∧ Dg N m ds) ∧ (¬ 0 < n → ¬ 0 < y ∧ ds = [])) ∧ Hid (Below w.heap.size w wr)) (fun x _ _ _ => (intOf x).toNat)
 case atStart => exact ⟨n, [], rfl, rfl, hn, ⟨fun h => ⟨N, hN h, Dg.start N⟩, fun h => ⟨h, rfl⟩⟩, Below.refl _ _⟩
 case round =>
  obtain ⟨y, ds, rfl, rfl, hy, D, B⟩ := hrel
  by_cases c1 : 0 < y
  ·have hp : 0 < n := by
    rcases Decidable.em (0 < n) with h | h
    ·exact h
    ·exact absurd c1 (D.out.2 h).1
   obtain ⟨m, rfl, D1⟩ := D.out.1 hp
   have D0 := zaa D1
   clear D D1
   by_cases c2 : m % 27 = 0
   ·have E : Hid (zgn n = false) := by
     rw [hN hp]
     exact unp_zero D0.out (by omega) c2
    have c2' : ((m : Int) % 27 == 0) = true := by rw [beq_iff_eq]; omega
    go_wp2
    go_ret2
    exact ⟨⟨_, ret_sb rfl E.out.symm, fun h => by rw [E.out] at h; cases h⟩, B.out⟩
   ·have c2' : ((m : Int) % 27 == 0) = false := by rw [beq_eq_false_iff_ne]; omega
    have D2 := zaa (D0.out.step (by omega) c2)
    have hl14 : ds.length ≤ 14 := Nat.le_trans D0.out.len hdl
    have hcv := run_convert_bytes_arg (P := Tryz.prog) (wr.alloc (.cells #[.int .u8 (97 + (m : Int) % 27 - 1)] 5)) 228 5 Tryz.underlying228 Tryz.underlying5 wr.heap.size 0 1 1 [97 + (m : Int) % 27 - 1] rfl (fun i hi => by
     obtain rfl : i = 0 := by omega
     exact World.cell?_alloc_mark wr #[.int .u8 (97 + (m : Int) % 27 - 1)] 5 (0, 0) 0) 9 Tryz.underlying9
    have eb : strOfNums [97 + (m : Int) % 27 - 1] = ⟨#[UInt8.ofNat (96 + m % 27)]⟩ := by
     unfold strOfNums
     simp only [List.map_cons, List.map_nil]
     rw [show (97 + (m : Int) % 27 - 1).toNat = 96 + m % 27 by omega]
    rw [eb] at hcv
    have had := run_string_add_sum (P := Tryz.prog) (wr.alloc (.cells #[.int .u8 (97 + (m : Int) % 27 - 1)] 5)) ⟨#[UInt8.ofNat (96 + m % 27)]⟩ (zch ds) (by rw [zbx]; show 1 + _ ≤ _; omega)
    rw [zvc] at had
    have B2 : Hid (Below w.heap.size w (wr.alloc (.cells #[.int .u8 (97 + (m : Int) % 27 - 1)] 5))) := B.out.alloc B.out.size _
    clear eb
    generalize hbb : (⟨#[UInt8.ofNat (96 + m % 27)]⟩ : ByteArray) = bb at hcv had
    clear hbb
    go_wp2
    go_roundw
    case rel => exact ⟨(m : Int) / 27, m % 27 :: ds, rfl, rfl, by omega, ⟨fun _ => ⟨m / 27, by omega, D2.out⟩, fun h => absurd hp h⟩, B2.out⟩
    case measure => simp [intOf]; omega
  ·have LEN : Hid (ds.length ≤ 14 ∧ nmB (zch ds) = zgn n ∧ (zgn n = true → zch ds = unpS n)) := by
    rcases Decidable.em (0 < n) with hp | hp
    ·obtain ⟨m, em, D1⟩ := D.out.1 hp
     obtain rfl : m = 0 := by omega
     have en := hN hp
     have hl := D1.len
     have hd := D1.done
     refine ⟨by omega, ?_, fun h => ?_⟩
     ·by_cases c6 : ds.length ≤ 6
      ·have h1 : 1 ≤ ds.length := by rw [← hd]; exact digs_ne (by omega)
       rw [nmB_bytesOf D1.ok h1 c6, en]
       exact (decide_eq_true ⟨by omega, by rw [Int.toNat_natCast, hd]; exact fun d x => (D1.ok d x).1, by rw [Int.toNat_natCast, hd]; exact c6⟩).symm
      ·rw [zsx (by rw [zbx]; omega), en]
       exact (decide_eq_false (fun x => by have := x.2.2; rw [Int.toNat_natCast, hd] at this; omega)).symm
     ·unfold unpS
      rw [if_pos h, en, Int.toNat_natCast, hd]
    ·obtain ⟨_, rfl⟩ := D.out.2 hp
     refine ⟨by simp, ?_, fun h => ?_⟩
     ·rw [zvz (by rw [zbx]; simp), unp_low hp]
     ·rw [unp_low hp] at h; cases h
   have hsz : (zch ds).size ≤ maxLen := by
    have := LEN.out.1
    rw [zbx]
    unfold maxLen
    omega
   go_wp2_with (go_at_call 181; refine (zdn _ _ hsz).mono ?_; rintro e w' ⟨rfl, rfl⟩)
   go_ret2
   exact ⟨⟨_, ret_sb rfl LEN.out.2.1, LEN.out.2.2⟩, B.out⟩
end Go.Proofs.YtcilodgoognmnaaGreatDoor

namespace Go.Proofs.YtcilodgoognmnaaGreatDoor
open Go.RowKit
def wdI (ls : List Int) (z : Int) : Int := ls.getD z.toNat 0
theorem wdI_of {ls : List Int} {n : Nat} (h : n < ls.length) : wdI ls (n : Int) = ls[n] := by
 unfold wdI
 rw [Int.toNat_natCast, List.getD_eq_getElem?_getD, List.getElem?_eq_getElem h]; rfl
def zlf (ls : List Int) (i : Nat) : Ino := ⟨wdI ls (48 + 12 * (i : Int)), wdI ls (48 + 12 * (i : Int) + 1), wdI ls (48 + 12 * (i : Int) + 2), wdI ls (48 + 12 * (i : Int) + 3), wdI ls (48 + 12 * (i : Int) + 4), wdI ls (48 + 12 * (i : Int) + 5), wdI ls (48 + 12 * (i : Int) + 6), wdI ls (48 + 12 * (i : Int) + 7), wdI ls (48 + 12 * (i : Int) + 8), wdI ls (48 + 12 * (i : Int) + 9), wdI ls (48 + 12 * (i : Int) + 10)⟩
def zqu (ls : List Int) (k : Nat) : Den := if wdI ls (240 + 3 * (k : Int) + 2) = 0 then ⟨0, ⟨#[]⟩, -1⟩ else ⟨wdI ls (240 + 3 * (k : Int)), unpS (wdI ls (240 + 3 * (k : Int) + 1)), wdI ls (240 + 3 * (k : Int) + 2) - 1⟩
def zcl (ls : List Int) (k : Nat) : Bool := if wdI ls (240 + 3 * (k : Int) + 2) = 0 then wdI ls (240 + 3 * (k : Int)) == 0 && wdI ls (240 + 3 * (k : Int) + 1) == 0 else zgn (wdI ls (240 + 3 * (k : Int) + 1))
def zbk (ls : List Int) (n : Nat) : List Ino := (List.range n).map (zlf ls)
def zbs (ls : List Int) (n : Nat) : List Den := (List.range n).map (zqu ls)
def zeb (ls : List Int) (n : Nat) : Bool := (List.range n).all (zcl ls)
theorem zny (ls : List Int) (n : Nat) : zbk ls (n + 1) = zbk ls n ++ [zlf ls n] := by unfold zbk; rw [List.range_succ, List.map_append]; rfl
theorem zji (ls : List Int) (n : Nat) : zbs ls (n + 1) = zbs ls n ++ [zqu ls n] := by unfold zbs; rw [List.range_succ, List.map_append]; rfl
theorem zbq (ls : List Int) (n : Nat) : (zbk ls n).length = n := by simp [zbk]
theorem zbi (ls : List Int) (n : Nat) : (zbs ls n).length = n := by simp [zbs]
theorem zii {ls : List Int} {n k : Nat} (hk : k < n) (h : zcl ls k = false) : zeb ls n = false := by
 unfold zeb
 rw [List.all_eq_false]
 exact ⟨k, List.mem_range.2 hk, by rw [h]; simp⟩
theorem zno {ls : List Int} {n : Nat} (h : ∀ k, k < n → zcl ls k = true) : zeb ls n = true := by
 unfold zeb
 rw [List.all_eq_true]
 intro k hk
 exact h k (List.mem_range.1 hk)
def riB (ls : List Int) : Bool := wdI ls 0 == 7 && (zeb ls 24 && zax (zbk ls 16) (zbs ls 24))
def riC (ws : List Int) (ps : List St) : Int := if pmB ws ps = true then (if riB (zcj ws ps) = true then 0 else 3) else 1
def riN (ws : List Int) (ps : List St) : List Ino := if riC ws ps = 0 then zbk (zcj ws ps) 16 else []
def riD (ws : List Int) (ps : List St) : List Den := if riC ws ps = 0 then zbs (zcj ws ps) 24 else []
theorem lay_word {ws : List Int} {ps : List St} (h : pmB ws ps = true) : ∀ k (h : k < (zcj ws ps).length), zbc (zcj ws ps)[k] = true := by
 have h1 := pmB_word h
 have h2 : ∀ p ∈ ps, zbc p.val = true := fun p hp => by
  obtain ⟨i, hi, rfl⟩ := List.getElem_of_mem hp
  exact (zwi h i hi).2
 clear h
 have gen : ∀ (ps : List St) (ws : List Int), (∀ x ∈ ws, zbc x = true) → (∀ p ∈ ps, zbc p.val = true) → ∀ x ∈ zcj ws ps, zbc x = true := by
  intro ps
  induction ps with
  | nil => intro ws h _ x hx; exact h x hx
  | cons p ps ih =>
   intro ws h1 h2 x hx
   refine ih (ws.set p.at_.toNat p.val) (fun y hy => ?_) (fun q hq => h2 q (List.mem_cons_of_mem _ hq)) x hx
   rcases List.mem_or_eq_of_mem_set hy with hy | hy
   ·exact h1 y hy
   ·rw [hy]; exact h2 p (List.mem_cons_self ..)
 intro k hk
 exact gen ps ws (fun x hx => by obtain ⟨i, hi, rfl⟩ := List.getElem_of_mem hx; exact h1 i hi) h2 _ (List.getElem_mem hk)
theorem znp {ws : List Int} {ps : List St} (h : pmB ws ps = true) (z : Int) : 0 ≤ wdI (zcj ws ps) z ∧ wdI (zcj ws ps) z < 1099511627776 := by
 unfold wdI
 rw [List.getD_eq_getElem?_getD]
 by_cases c : z.toNat < (zcj ws ps).length
 ·rw [List.getElem?_eq_getElem c]
  have := lay_word h _ c
  unfold zbc at this
  simp at this
  simpa using this
 ·rw [List.getElem?_eq_none (by omega)]
  exact ⟨by simp, by simp⟩
theorem inoOf_R {ws : List Int} {ps : List St} (h : pmB ws ps = true) (i : Nat) : (zlf (zcj ws ps) i).R := by
 intro z hz
 have all : ∀ y, -9223372036854775808 ≤ wdI (zcj ws ps) y ∧ wdI (zcj ws ps) y ≤ 9223372036854775807 := fun y => by have := znp h y; omega
 simp only [Ino.map, zlf, List.mem_cons, List.not_mem_nil, or_false] at hz
 rcases hz with rfl | rfl | rfl | rfl | rfl | rfl | rfl | rfl <;> exact all _
theorem unpS_len (n : Int) : (unpS n).size ≤ 6 := by
 unfold unpS
 split
 ·rename_i h
  have := (of_decide_eq_true h).2.2
  show ((ztq n.toNat).map fun d => UInt8.ofNat (96 + d)).toArray.size ≤ 6
  simpa using this
 ·exact Nat.zero_le _
theorem denOf_name (ls : List Int) (k : Nat) : (zqu ls k).name.size ≤ maxLen := by
 unfold zqu
 split
 ·exact Nat.zero_le _
 ·have := unpS_len (wdI ls (240 + 3 * (k : Int) + 1))
  show (unpS _).size ≤ maxLen
  unfold maxLen
  omega
theorem ld_any (v : Value) (ws : List Int) (ps : List St) (z : Int) (w : World) (h : RdPm w v ws ps) (hp : pmB ws ps = true) (h0 : 0 ≤ z ∧ z < 336) :
  Calls Tryz.prog 151 #[v, .int .i64 z] w fun e w' => e = .returned (.int .i64 (wdI (zcj ws ps) z)) ∧ Below w.heap.size w w' := by
 obtain ⟨n, rfl⟩ : ∃ n : Nat, z = (n : Int) := ⟨z.toNat, by omega⟩
 obtain ⟨l1, l2⟩ := zly hp
 have hn : n < ws.length := by omega
 rw [wdI_of (by rw [znl]; exact hn), layW_at ps ws n hn (fun p hq => by obtain ⟨i, hi, rfl⟩ := List.getElem_of_mem hq; exact (pmB_at hp i hi).1)]
 exact zod v ws ps n w h (by omega) (by omega) hn
end Go.Proofs.YtcilodgoognmnaaGreatDoor

namespace Go.Proofs.YtcilodgoognmnaaGreatDoor
open Go.RowKit
def UpIn (us : List Se) : Prop := ∀ u ∈ us, 48 ≤ u.at_ ∧ u.at_ < 312
theorem UpIn.app {us vs : List Se} (h : UpIn us) (k : UpIn vs) : UpIn (us ++ vs) := fun u hu => by
 rcases List.mem_append.1 hu with q | q
 ·exact h u q
 ·exact k u q
theorem zui {k : Nat} (hk : k < 24) (x : Den) : UpIn (enL (k : Int) x) := fun u hu => by
 simp only [enL, List.mem_cons, List.not_mem_nil, or_false] at hu
 rcases hu with rfl | rfl | rfl
 ·exact ⟨by show 48 ≤ 240 + 3 * (k : Int); omega, by show 240 + 3 * (k : Int) < 312; omega⟩
 ·exact ⟨by show 48 ≤ 240 + 3 * (k : Int) + 1; omega, by show 240 + 3 * (k : Int) + 1 < 312; omega⟩
 ·exact ⟨by show 48 ≤ 240 + 3 * (k : Int) + 2; omega, by show 240 + 3 * (k : Int) + 2 < 312; omega⟩
end Go.Proofs.YtcilodgoognmnaaGreatDoor
