/- Several texts laid together: MiS, Ev, PmOKI, PmLoad, Small. -/
import Derived.Test.YtmeiionabonhnaaGreatDoorZAE
import Derived.Test.YtmeiionabonhnaaGreatDoorZAC
import Derived.Test.YtmeiionabonhnaaGreatDoorZAG
namespace Go.Proofs.YtmeiionabonhnaaGreatDoor
open Go.RowKit
structure Mi where
  kind : Int
  at_ : Int
  val : Int
def Mi.v (m : Mi) : Value := .agg #[.int .i64 m.kind, .int .i64 m.at_, .int .i64 m.val]
def miB (m : Mi) : Bool := decide ((m.kind = 1 ∧ (0 ≤ m.at_ ∧ m.at_ < 336) ∧ 0 ≤ m.val ∧ m.val < 1099511627776) ∨ (m.kind = 2 ∧ (0 ≤ m.at_ ∧ m.at_ < 336) ∧ m.val = 0) ∨ (m.kind = 4 ∧ (0 ≤ m.at_ ∧ m.at_ < 32) ∧ 0 ≤ m.val ∧ m.val < 1099511627776) ∨ ((m.kind = 3 ∨ m.kind = 5) ∧ m.at_ = 0 ∧ m.val = 0))
theorem miB_iff {m : Mi} : miB m = true ↔ ((m.kind = 1 ∧ (0 ≤ m.at_ ∧ m.at_ < 336) ∧ 0 ≤ m.val ∧ m.val < 1099511627776) ∨ (m.kind = 2 ∧ (0 ≤ m.at_ ∧ m.at_ < 336) ∧ m.val = 0) ∨ (m.kind = 4 ∧ (0 ≤ m.at_ ∧ m.at_ < 32) ∧ 0 ≤ m.val ∧ m.val < 1099511627776) ∨ ((m.kind = 3 ∨ m.kind = 5) ∧ m.at_ = 0 ∧ m.val = 0)) := by unfold miB; exact decide_eq_true_iff
theorem miB_of (k a v : Int) : miB ⟨k, a, v⟩ = true ↔ ((k = 1 ∧ (0 ≤ a ∧ a < 336) ∧ 0 ≤ v ∧ v < 1099511627776) ∨ (k = 2 ∧ (0 ≤ a ∧ a < 336) ∧ v = 0) ∨ (k = 4 ∧ (0 ≤ a ∧ a < 32) ∧ 0 ≤ v ∧ v < 1099511627776) ∨ ((k = 3 ∨ k = 5) ∧ a = 0 ∧ v = 0)) := miB_iff
set_option maxRecDepth 100000 in
set_option maxHeartbeats 4000000 in
theorem l04Micro_any (m : Mi) (w : World) : Calls Tryz.prog 143 #[m.v] w fun e w' => e = .returned (.bool (miB m)) ∧ Below w.heap.size w w' := by
  obtain ⟨k, a, v⟩ := m
  have hb0 : Below w.heap.size w (w.alloc (.cells #[.int .i64 k, .int .i64 a, .int .i64 v] 206)) := (Below.refl _ _).alloc (Nat.le_refl _) _
  have E := hideIt (miB_of k a v)
  unfold Mi.v
  simp only
  have WE := hideIt (show wordB v = decide (0 ≤ v ∧ v < 1099511627776) from rfl)
  rcases (show k = 1 ∨ k = 2 ∨ k = 3 ∨ k = 4 ∨ k = 5 ∨ (¬ k = 1 ∧ ¬ k = 2 ∧ ¬ k = 3 ∧ ¬ k = 4 ∧ ¬ k = 5) by omega) with rfl | rfl | rfl | rfl | rfl | ⟨n1, n2, n3, n4, n5⟩
  · by_cases ca : 0 ≤ a ∧ a ≤ 335
    · go_enter Tryz.func143, Tryz.ntmps143
      go_wp2_with (first | (go_at_call 125; refine (l01In_yes _ _ _ _ ca).mono ?_; rintro e w' ⟨rfl, rfl⟩) | (go_at_call 67; refine (l01Word_any _ _).mono ?_; rintro e w' ⟨rfl, rfl⟩))
      go_ret
      refine ⟨ret_bool ?_, hb0⟩
      rw [WE.out, Bool.eq_iff_iff, E.out, decide_eq_true_iff]
      first | omega | (simp only [true_and]; omega) | (simp only [true_and, true_or]; omega) | (simp only [true_and, or_true]; omega)
    · have C := hideIt ca
      clear ca
      go_enter Tryz.func143, Tryz.ntmps143
      go_wp2_with (go_at_call 125; refine (l01In_no _ _ _ _ C.out).mono ?_; rintro e w' ⟨rfl, rfl⟩)
      go_ret
      have := C.out
      refine ⟨ret_bool ?_, hb0⟩
      rw [Bool.eq_iff_iff, E.out]
      simp
      omega
  · by_cases ca : 0 ≤ a ∧ a ≤ 335
    · go_enter Tryz.func143, Tryz.ntmps143
      go_wp2_with (go_at_call 125; refine (l01In_yes _ _ _ _ ca).mono ?_; rintro e w' ⟨rfl, rfl⟩)
      go_ret
      refine ⟨ret_bool ?_, hb0⟩
      rw [Bool.eq_iff_iff, E.out, beq_iff_eq]
      first | omega | (simp only [true_and]; omega) | (simp only [true_and, true_or]; omega) | (simp only [true_and, or_true]; omega)
    · have C := hideIt ca
      clear ca
      go_enter Tryz.func143, Tryz.ntmps143
      go_wp2_with (go_at_call 125; refine (l01In_no _ _ _ _ C.out).mono ?_; rintro e w' ⟨rfl, rfl⟩)
      go_ret
      have := C.out
      refine ⟨ret_bool ?_, hb0⟩
      rw [Bool.eq_iff_iff, E.out]
      simp
      omega
  · by_cases ca : (a == 0) = true
    · go_enter Tryz.func143, Tryz.ntmps143
      go_wp2
      go_ret
      have := beq_iff_eq.1 ca
      refine ⟨ret_bool ?_, hb0⟩
      rw [Bool.eq_iff_iff, E.out, beq_iff_eq]
      first | omega | (simp only [true_and]; omega) | (simp only [true_and, true_or]; omega) | (simp only [true_and, or_true]; omega)
    · have ca' : (a == 0) = false := by simpa using ca
      clear ca
      go_enter Tryz.func143, Tryz.ntmps143
      go_wp2
      go_ret
      have := beq_eq_false_iff_ne.1 ca'
      refine ⟨ret_bool ?_, hb0⟩
      rw [Bool.eq_iff_iff, E.out]
      simp
      omega
  · by_cases ca : 0 ≤ a ∧ a ≤ 31
    · go_enter Tryz.func143, Tryz.ntmps143
      go_wp2_with (first | (go_at_call 125; refine (l01In_yes _ _ _ _ ca).mono ?_; rintro e w' ⟨rfl, rfl⟩) | (go_at_call 67; refine (l01Word_any _ _).mono ?_; rintro e w' ⟨rfl, rfl⟩))
      go_ret
      refine ⟨ret_bool ?_, hb0⟩
      rw [WE.out, Bool.eq_iff_iff, E.out, decide_eq_true_iff]
      first | omega | (simp only [true_and]; omega) | (simp only [true_and, true_or]; omega) | (simp only [true_and, or_true]; omega)
    · have C := hideIt ca
      clear ca
      go_enter Tryz.func143, Tryz.ntmps143
      go_wp2_with (go_at_call 125; refine (l01In_no _ _ _ _ C.out).mono ?_; rintro e w' ⟨rfl, rfl⟩)
      go_ret
      have := C.out
      refine ⟨ret_bool ?_, hb0⟩
      rw [Bool.eq_iff_iff, E.out]
      simp
      omega
  · by_cases ca : (a == 0) = true
    · go_enter Tryz.func143, Tryz.ntmps143
      go_wp2
      go_ret
      have := beq_iff_eq.1 ca
      refine ⟨ret_bool ?_, hb0⟩
      rw [Bool.eq_iff_iff, E.out, beq_iff_eq]
      first | omega | (simp only [true_and]; omega) | (simp only [true_and, true_or]; omega) | (simp only [true_and, or_true]; omega)
    · have ca' : (a == 0) = false := by simpa using ca
      clear ca
      go_enter Tryz.func143, Tryz.ntmps143
      go_wp2
      go_ret
      have := beq_eq_false_iff_ne.1 ca'
      refine ⟨ret_bool ?_, hb0⟩
      rw [Bool.eq_iff_iff, E.out]
      simp
      omega
  · have q1 : (k == 1) = false := by simpa using n1
    have q2 : (k == 2) = false := by simpa using n2
    have q3 : (k == 3) = false := by simpa using n3
    have q4 : (k == 4) = false := by simpa using n4
    have q5 : (k == 5) = false := by simpa using n5
    have N := hideIt (And.intro n1 (And.intro n2 (And.intro n3 (And.intro n4 n5))))
    clear n1 n2 n3 n4 n5
    go_enter Tryz.func143, Tryz.ntmps143
    go_wp2
    go_ret
    have := N.out
    refine ⟨ret_bool ?_, hb0⟩
    rw [Bool.eq_iff_iff, E.out]
    simp
    omega
end Go.Proofs.YtmeiionabonhnaaGreatDoor

namespace Go.Proofs.YtmeiionabonhnaaGreatDoor
open Go.RowKit
set_option maxHeartbeats 2000000 in
theorem everyWord_any (v : Value) (zs : List Int) (w : World) (h : RdI w v zs) (hn : zs.length ≤ 2147483648) :
    Calls Tryz.prog 123 #[v, .func (.func 124) #[] #[]] w fun e w' => e = .returned (.bool (wordsB zs)) ∧ w' = w := by
  obtain ⟨ao, cap, rfl, _, hc⟩ := h.shape
  clear h
  go_enter Tryz.func123, Tryz.ntmps123
  go_wp2
  go_loop [6, 9] (fun _ i => ∃ k : Nat, k ≤ zs.length ∧ i = .int .i64 k ∧ Hid (∀ j (h : j < zs.length), j < k → wordB zs[j] = true)) (fun _ i => zs.length - (intOf i).toNat)
  case atStart => exact ⟨0, by omega, rfl, fun j h a => absurd a (by omega)⟩
  case round =>
    obtain ⟨k, hk, rfl, H⟩ := hrel
    by_cases hlt : k < zs.length
    · obtain ⟨b, o, rfl, hbl, hcell⟩ := hc (by omega)
      have hck := hcell k hlt
      clear hcell hc
      by_cases q : wordB zs[k] = true
      · go_wp2_with (go_at_call 124; refine (isWord_any _ _).mono ?_; rintro e w' ⟨rfl, rfl⟩)
        go_round
        case rel =>
          refine ⟨k + 1, by omega, by go_num, fun j h a => ?_⟩
          by_cases e : j = k
          · subst e; exact q
          · exact H.out j h (by omega)
        case measure => simp [intOf]; omega
      · have q' : wordB zs[k] = false := by simpa using q
        have E := hideIt (wordsB_not hlt q')
        go_wp2_with (go_at_call 124; refine (isWord_any _ _).mono ?_; rintro e w' ⟨rfl, rfl⟩)
        go_ret
        exact ⟨ret_bool E.out.symm, rfl⟩
    · have E := hideIt (wordsB_mk (fun j h => H.out j h (by omega)))
      clear H
      go_wp2
      go_ret
      exact ⟨ret_bool E.out.symm, rfl⟩
end Go.Proofs.YtmeiionabonhnaaGreatDoor

namespace Go.Proofs.YtmeiionabonhnaaGreatDoor
open Go.RowKit
def stB (s : St) : Bool := placeB s.at_ && wordB s.val
theorem stB_true {s : St} (h : stB s = true) : placeB s.at_ = true ∧ wordB s.val = true := by unfold stB at h; simpa using h
theorem stB_false {s : St} {p : Prop} (h : stB s = false) (h1 : placeB s.at_ = false → p) (h2 : wordB s.val = false → p) : p := by
  unfold stB at h
  rw [Bool.and_eq_false_iff] at h
  exact h.elim h1 h2
def stsB (ps : List St) : Bool := decide (∀ k (h : k < ps.length), stB ps[k] = true)
theorem stsB_true {ps : List St} (h : stsB ps = true) : ∀ k (h : k < ps.length), stB ps[k] = true := of_decide_eq_true h
theorem stsB_mk {ps : List St} (h : ∀ k (h : k < ps.length), stB ps[k] = true) : stsB ps = true := decide_eq_true h
theorem stsB_not {ps : List St} {k : Nat} (hk : k < ps.length) (h : stB ps[k] = false) : stsB ps = false := decide_eq_false (fun x => by have := x k hk; rw [h] at this; cases this)
theorem stsB_ex {ps : List St} (h : stsB ps = false) : ∃ k, ∃ h : k < ps.length, stB ps[k] = false := by
  apply Classical.byContradiction
  intro hn
  have : stsB ps = true := stsB_mk (fun k hk => by
    cases e : stB ps[k] with
    | true => rfl
    | false => exact absurd ⟨k, hk, e⟩ hn)
  rw [h] at this
  cases this
set_option maxHeartbeats 1000000 in
theorem isStore_any (s : St) (w : World) : Calls Tryz.prog 253 #[.agg #[.int .i64 s.at_, .int .i64 s.val, .bool s.fl]] w fun e w' => e = .returned (.bool (stB s)) ∧ Below w.heap.size w w' := by
  have hb0 : Below w.heap.size w (w.alloc (.cells #[.int .i64 s.at_, .int .i64 s.val, .bool s.fl] 211)) := (Below.refl _ _).alloc (Nat.le_refl _) _
  by_cases q : placeB s.at_ = true
  · have E := hideIt (show stB s = wordB s.val by unfold stB; rw [q]; rfl)
    have Q := hideIt q
    clear q
    go_enter Tryz.func253, Tryz.ntmps253
    go_wp2_with (first | (go_at_call 283; refine (isPlace_any _ _).mono ?_; rw [Q.out]; rintro e w' ⟨rfl, rfl⟩) | (go_at_call 124; refine (isWord_any _ _).mono ?_; rintro e w' ⟨rfl, rfl⟩))
    go_ret
    exact ⟨ret_bool E.out.symm, hb0⟩
  · have q' : placeB s.at_ = false := by simpa using q
    have E := hideIt (show stB s = false by unfold stB; rw [q']; rfl)
    have Q := hideIt q'
    clear q q'
    go_enter Tryz.func253, Tryz.ntmps253
    go_wp2_with (go_at_call 283; refine (isPlace_any _ _).mono ?_; rw [Q.out]; rintro e w' ⟨rfl, rfl⟩)
    go_ret
    exact ⟨ret_bool E.out.symm, hb0⟩
set_option maxHeartbeats 4000000 in
theorem everyStore_any (v : Value) (ps : List St) (w : World) (h : RdS w v ps) (hn : ps.length ≤ 1048576) :
    Calls Tryz.prog 252 #[v, .func (.func 253) #[] #[]] w fun e w' => e = .returned (.bool (stsB ps)) ∧ Below w.heap.size w w' := by
  obtain ⟨aP, cP, rfl, _, hcP⟩ := h.shape
  clear h
  go_enter Tryz.func252, Tryz.ntmps252
  go_wp2
  go_loopw [6, 9] (fun _ i wr => ∃ k : Nat, k ≤ ps.length ∧ i = .int .i64 k ∧ Hid (∀ j (h : j < ps.length), j < k → stB ps[j] = true) ∧ Below w.heap.size w wr) (fun _ i _ => ps.length - (intOf i).toNat)
  case atStart => exact ⟨0, by omega, rfl, fun j h a => absurd a (by omega), Below.refl _ _⟩
  case round =>
    obtain ⟨m, hm, rfl, H, hbw⟩ := hrel
    have hz := hbw.size
    by_cases hlt2 : m < ps.length
    · obtain ⟨b2, o2, rfl, hbl2, hcell2⟩ := hcP (by omega)
      obtain ⟨d0, d1, d2⟩ := hcell2 m hlt2
      have e0 := (hbw.cell (p := ⟨b2, o2 + m * 3, none⟩) hbl2).trans d0
      have e1 := (hbw.cell (p := ⟨b2, o2 + m * 3 + 1, none⟩) hbl2).trans d1
      have e2 := (hbw.cell (p := ⟨b2, o2 + m * 3 + 2, none⟩) hbl2).trans d2
      have hb1 := hideIt (hbw.alloc hz (.cells #[.int .i64 ps[m].at_, .int .i64 ps[m].val, .bool ps[m].fl] 211))
      clear d0 d1 d2 hcell2 hcP
      by_cases q : stB ps[m] = true
      · have Q := hideIt q
        clear q
        go_wp2_with (go_at_call 253; refine (isStore_any ps[m] _).mono ?_; rw [Q.out]; rintro e w' ⟨rfl, hw'⟩)
        have hw2 := hb1.out.trans (hw'.mono (by simp; omega))
        clear hb1 hw'
        go_roundw
        case rel =>
          refine ⟨m + 1, by omega, by go_num, fun j h a => ?_, hw2⟩
          by_cases e : j = m
          · subst e; exact Q.out
          · exact H.out j h (by omega)
        case measure => simp [intOf]; omega
      · have Q := hideIt (show stB ps[m] = false by simpa using q)
        have E := hideIt (stsB_not hlt2 Q.out)
        clear q
        go_wp2_with (go_at_call 253; refine (isStore_any ps[m] _).mono ?_; rw [Q.out]; rintro e w' ⟨rfl, hw'⟩)
        have hw2 := hb1.out.trans (hw'.mono (by simp; omega))
        go_ret
        exact ⟨ret_bool E.out.symm, hw2⟩
    · have E := hideIt (stsB_mk (fun j h => H.out j h (by omega)))
      go_wp2
      go_ret
      exact ⟨ret_bool E.out.symm, hbw⟩
set_option maxHeartbeats 4000000 in
theorem implPmOK_any (v : Value) (ws : List Int) (ps : List St) (w : World) (h : RdPm w v ws ps) (hw : ws.length ≤ 1048576) (hp : ps.length ≤ 1048576) :
    Calls Tryz.prog 209 #[v] w fun e w' => e = .returned (.bool (pmB ws ps)) ∧ Below w.heap.size w w' := by
  obtain ⟨vW, vP, rfl, h1, h2⟩ := h
  obtain ⟨aW, cW, rfl, _, hcW⟩ := h1.shape
  obtain ⟨aP, cP, rfl, _, hcP⟩ := h2.shape
  have H1 := hideIt h1
  have H2 := hideIt h2
  clear h1 h2 hcW hcP
  have hb0 : Below w.heap.size w (w.alloc (.cells #[.slice aW ws.length cW, .slice aP ps.length cP] 66)) := (Below.refl _ _).alloc (Nat.le_refl _) _
  have HB := hideIt hb0
  by_cases c1 : ws.length = 336
  case neg =>
    have E := hideIt (pmB_len1 (ps := ps) c1)
    have c1' : ((ws.length : Int) == 336) = false := by rw [beq_eq_false_iff_ne]; omega
    clear c1
    go_enter Tryz.func209, Tryz.ntmps209
    go_wp2
    go_ret
    exact ⟨ret_bool E.out.symm, HB.out⟩
  have c1n : ((ws.length : Int) == 336) = true := by simp; omega
  have C1 := hideIt c1
  clear c1
  by_cases c2 : 400 < ps.length
  · have E := hideIt (pmB_len2 (ws := ws) c2)
    have c2' : decide ((ps.length : Int) ≤ 400) = false := by simp; omega
    go_enter Tryz.func209, Tryz.ntmps209
    go_wp2
    go_ret
    exact ⟨ret_bool E.out.symm, HB.out⟩
  by_cases c3 : wordsB ws = true
  case neg =>
    have c3' : wordsB ws = false := by simpa using c3
    obtain ⟨k, hk, hkf⟩ := wordsB_ex c3'
    have E := hideIt (pmB_w (ps := ps) hk hkf)
    have W0 := hideIt c3'
    clear c3 c3' hkf hk
    go_enter Tryz.func209, Tryz.ntmps209
    go_wp2_with (go_at_call 123; refine (everyWord_any _ ws _ (Rd.below H1.out HB.out) (by omega)).mono ?_; rw [W0.out]; rintro e w' ⟨rfl, rfl⟩)
    go_ret
    exact ⟨ret_bool E.out.symm, HB.out⟩
  have HW := hideIt (wordsB_true c3)
  have W1 := hideIt c3
  clear c3
  cases c4 : stsB ps with
  | true =>
    have E := hideIt (pmB_mk C1.out (by omega) HW.out (fun j h => stB_true (stsB_true c4 j h)))
    have W2 := hideIt c4
    clear c4
    go_enter Tryz.func209, Tryz.ntmps209
    go_wp2_with (first | (go_at_call 123; refine (everyWord_any _ ws _ (Rd.below H1.out HB.out) (by omega)).mono ?_; rw [W1.out]; rintro e w' ⟨rfl, rfl⟩) | (go_at_call 252; refine (everyStore_any _ ps _ (Rd.below H2.out HB.out) (by omega)).mono ?_; rw [W2.out]; rintro e w' ⟨rfl, hw'⟩))
    go_ret
    exact ⟨ret_bool E.out.symm, HB.out.trans (hw'.mono (by simp))⟩
  | false =>
    obtain ⟨k, hk, hkf⟩ := stsB_ex c4
    have E := hideIt (show pmB ws ps = false from stB_false hkf (pmB_a (ws := ws) hk) (pmB_v (ws := ws) hk))
    have W2 := hideIt c4
    clear c4 hk hkf
    go_enter Tryz.func209, Tryz.ntmps209
    go_wp2_with (first | (go_at_call 123; refine (everyWord_any _ ws _ (Rd.below H1.out HB.out) (by omega)).mono ?_; rw [W1.out]; rintro e w' ⟨rfl, rfl⟩) | (go_at_call 252; refine (everyStore_any _ ps _ (Rd.below H2.out HB.out) (by omega)).mono ?_; rw [W2.out]; rintro e w' ⟨rfl, hw'⟩))
    go_ret
    exact ⟨ret_bool E.out.symm, HB.out.trans (hw'.mono (by simp))⟩
end Go.Proofs.YtmeiionabonhnaaGreatDoor

namespace Go.Proofs.YtmeiionabonhnaaGreatDoor
open Go.RowKit
def askC (ws : List Int) (ps : List St) (at_ : Int) : Int := if pmB ws ps = false then 1 else if placeB at_ = false then 14 else 0
theorem askC_bad {ws : List Int} {ps : List St} {at_ : Int} (h : pmB ws ps = false) : askC ws ps at_ = 1 := by unfold askC; rw [if_pos h]
theorem askC_place {ws : List Int} {ps : List St} {at_ : Int} (h : pmB ws ps = true) (h2 : placeB at_ = false) : askC ws ps at_ = 14 := by unfold askC; rw [if_neg (by rw [h]; simp), if_pos h2]
theorem askC_ok {ws : List Int} {ps : List St} {at_ : Int} (h : pmB ws ps = true) (h2 : placeB at_ = true) : askC ws ps at_ = 0 := by unfold askC; rw [if_neg (by rw [h]; simp), if_neg (by rw [h2]; simp)]
set_option maxHeartbeats 1000000 in
theorem placeFault_any (v : Value) (ws : List Int) (ps : List St) (at_ : Int) (w : World) (h : RdPm w v ws ps) (hw : ws.length ≤ 1048576) (hp : ps.length ≤ 1048576) :
    Calls Tryz.prog 271 #[v, .int .i64 at_] w fun e w' => e = .returned (.int .i64 (askC ws ps at_)) ∧ Below w.heap.size w w' := by
  have HR := hideIt h
  obtain ⟨vW, vP, rfl, h1, h2⟩ := h
  obtain ⟨aW, cW, rfl, _⟩ := h1.shape
  obtain ⟨aP, cP, rfl, _⟩ := h2.shape
  clear h1 h2
  have hb0 : Below w.heap.size w (w.alloc (.cells #[.slice aW ws.length cW, .slice aP ps.length cP] 66)) := (Below.refl _ _).alloc (Nat.le_refl _) _
  by_cases c1 : pmB ws ps = true
  · by_cases c2 : placeB at_ = true
    · rw [askC_ok c1 c2]
      go_enter Tryz.func271, Tryz.ntmps271
      go_wp2_with (first | (go_at_call 209; refine (implPmOK_any _ ws ps _ (HR.out.below hb0) hw hp).mono ?_; rintro e w1 ⟨rfl, hb1⟩) | (go_at_call 283; refine (isPlace_any _ _).mono ?_; rintro e w2 ⟨rfl, rfl⟩))
      go_ret
      exact ⟨rfl, below_trans hb0 hb1 (by simp)⟩
    · have c2' : placeB at_ = false := by simpa using c2
      rw [askC_place c1 c2']
      clear c2
      go_enter Tryz.func271, Tryz.ntmps271
      go_wp2_with (first | (go_at_call 209; refine (implPmOK_any _ ws ps _ (HR.out.below hb0) hw hp).mono ?_; rintro e w1 ⟨rfl, hb1⟩) | (go_at_call 283; refine (isPlace_any _ _).mono ?_; rintro e w2 ⟨rfl, rfl⟩))
      go_ret
      exact ⟨rfl, below_trans hb0 hb1 (by simp)⟩
  · have c1' : pmB ws ps = false := by simpa using c1
    rw [askC_bad c1']
    clear c1
    go_enter Tryz.func271, Tryz.ntmps271
    go_wp2_with (first | (go_at_call 209; refine (implPmOK_any _ ws ps _ (HR.out.below hb0) hw hp).mono ?_; rintro e w1 ⟨rfl, hb1⟩) | (go_at_call 283; refine (isPlace_any _ _).mono ?_; rintro e w2 ⟨rfl, rfl⟩))
    go_ret
    exact ⟨rfl, below_trans hb0 hb1 (by simp)⟩
def lastW (at_ d : Int) (ps : List St) : Int := ps.foldl (fun acc p => if p.at_ = at_ then p.val else acc) d
theorem lastW_none {at_ d : Int} : ∀ {ps : List St}, (∀ p ∈ ps, ¬ p.at_ = at_) → lastW at_ d ps = d
  | [], _ => rfl
  | p :: ps, h => by
    show lastW at_ (if p.at_ = at_ then p.val else d) ps = d
    rw [if_neg (h p (by simp))]
    exact lastW_none (fun q hq => h q (by simp [hq]))
theorem lastW_append (at_ d : Int) (ps qs : List St) : lastW at_ d (ps ++ qs) = lastW at_ (lastW at_ d ps) qs := by simp [lastW]
theorem lastW_hit {at_ d : Int} {ps : List St} {k : Nat} (hk : k < ps.length) (h : ps[k].at_ = at_) (ha : ∀ j (hj : j < ps.length), k < j → ¬ ps[j].at_ = at_) : lastW at_ d ps = ps[k].val := by
  have e : ps = ps.take k ++ (ps[k] :: ps.drop (k + 1)) := by rw [← List.drop_eq_getElem_cons hk, List.take_append_drop]
  conv => lhs; rw [e]
  rw [lastW_append]
  show lastW at_ (if ps[k].at_ = at_ then ps[k].val else _) (ps.drop (k + 1)) = _
  rw [if_pos h]
  apply lastW_none
  intro p hp
  obtain ⟨i, hi, rfl⟩ := List.getElem_of_mem hp
  rw [List.getElem_drop]
  exact ha _ _ (by omega)
set_option maxHeartbeats 2000000 in
theorem l01Load_any (v : Value) (ws : List Int) (ps : List St) (at_ : Nat) (w : World) (h : RdPm w v ws ps) (hw : ws.length ≤ 1048576) (hp : ps.length ≤ 1048576) (ha : at_ < ws.length) :
    Calls Tryz.prog 91 #[v, .int .i64 (at_ : Int)] w fun e w' => e = .returned (.int .i64 (lastW (at_ : Int) ws[at_] ps)) ∧ Below w.heap.size w w' := by
  obtain ⟨vW, vP, rfl, h1, h2⟩ := h
  obtain ⟨aW, cW, rfl, _, hcW⟩ := h1.shape
  obtain ⟨aP, cP, rfl, _, hcP⟩ := h2.shape
  clear h1 h2
  obtain ⟨bW, oW, rfl, hbW, hcellW⟩ := hcW (by omega)
  have hb0 : Below w.heap.size w (w.alloc (.cells #[.slice (some ⟨bW, oW, none⟩) ws.length cW, .slice aP ps.length cP] 66)) := (Below.refl _ _).alloc (Nat.le_refl _) _
  have hcw := (hb0.cell (p := ⟨bW, oW + at_, none⟩) hbW).trans (hcellW at_ ha)
  clear hcW hcellW
  go_enter Tryz.func91, Tryz.ntmps91
  go_wp2
  go_loop [5] (fun i => ∃ k : Nat, k ≤ ps.length ∧ i = .int .i64 ((k : Int) - 1) ∧ Hid (∀ j (h : j < ps.length), k ≤ j → ¬ ps[j].at_ = (at_ : Int))) (fun i => (intOf i + 1).toNat)
  case atStart => exact ⟨ps.length, Nat.le_refl _, rfl, fun j h a => absurd h (by omega)⟩
  case round =>
    obtain ⟨k, hk, rfl, H⟩ := hrel
    cases k with
    | zero =>
      have E := hideIt (lastW_none (d := ws[at_]) (fun p hp => by obtain ⟨i, hi, rfl⟩ := List.getElem_of_mem hp; exact H.out i hi (by omega)))
      clear H hcP
      go_wp2
      go_ret
      exact ⟨ret_int E.out.symm, hb0⟩
    | succ m =>
      have em : (((m + 1 : Nat) : Int) - 1) = (m : Int) := by omega
      rw [em]
      clear em
      obtain ⟨b, o, rfl, hbl, hcell⟩ := hcP (by omega)
      obtain ⟨d0, d1, _⟩ := hcell m (by omega)
      have e0 := (hb0.cell (p := ⟨b, o + m * 3, none⟩) hbl).trans d0
      have e1 := (hb0.cell (p := ⟨b, o + m * 3 + 1, none⟩) hbl).trans d1
      clear d0 d1 hcell hcP
      have hm : m < ps.length := by omega
      by_cases c : ps[m].at_ = (at_ : Int)
      · have c' : (ps[m].at_ == (at_ : Int)) = true := by simpa using c
        have E := hideIt (lastW_hit (d := ws[at_]) hm c (fun j hj hlt => H.out j hj (by omega)))
        clear H c
        go_wp2
        go_ret
        exact ⟨ret_int E.out.symm, hb0⟩
      · have c' : (ps[m].at_ == (at_ : Int)) = false := by simpa using c
        have C := hideIt c
        clear c
        go_wp2
        go_round
        case rel =>
          refine ⟨m, by omega, by go_num, fun j hj hle => ?_⟩
          by_cases e : j = m
          · subst e; exact C.out
          · exact H.out j hj (by omega)
        case measure => simp [intOf] <;> omega
def loadV (ws : List Int) (ps : List St) (at_ : Int) : Int := if askC ws ps at_ = 0 then lastW at_ (ws[at_.toNat]?.getD 0) ps else 0
theorem loadV_not {ws : List Int} {ps : List St} {at_ : Int} (h : ¬ askC ws ps at_ = 0) : loadV ws ps at_ = 0 := by unfold loadV; rw [if_neg h]
theorem loadV_ok {ws : List Int} {ps : List St} {k : Nat} (h : askC ws ps (k : Int) = 0) (hk : k < ws.length) : loadV ws ps (k : Int) = lastW (k : Int) ws[k] ps := by
  unfold loadV; rw [if_pos h]; simp [hk]
theorem askC_cases (ws : List Int) (ps : List St) (at_ : Int) : (askC ws ps at_ = 1 ∨ askC ws ps at_ = 14) ∨ (askC ws ps at_ = 0 ∧ pmB ws ps = true ∧ ∃ k : Nat, at_ = (k : Int) ∧ k < 336 ∧ k < ws.length) := by
  by_cases c1 : pmB ws ps = true
  · by_cases c2 : placeB at_ = true
    · have := placeB_true c2
      have hl := (pmB_len c1).1
      exact .inr ⟨askC_ok c1 c2, c1, at_.toNat, by omega, by omega, by omega⟩
    · exact .inl (.inr (askC_place c1 (by simpa using c2)))
  · exact .inl (.inl (askC_bad (by simpa using c1)))
set_option maxHeartbeats 2000000 in
theorem implPmLoad_any (v : Value) (ws : List Int) (ps : List St) (at_ : Int) (w : World) (h : RdPm w v ws ps) (hw : ws.length ≤ 1048576) (hp : ps.length ≤ 1048576) :
    Calls Tryz.prog 233 #[v, .int .i64 at_] w fun e w' => e = .returned (.tuple #[.int .i64 (loadV ws ps at_), .int .i64 (askC ws ps at_)]) ∧ Below w.heap.size w w' := by
  have HR := hideIt h
  obtain ⟨vW, vP, rfl, h1, h2⟩ := h
  obtain ⟨aW, cW, rfl, _, hcW⟩ := h1.shape
  obtain ⟨aP, cP, rfl, _, hcP⟩ := h2.shape
  clear h1 h2
  have hb0 : Below w.heap.size w (w.alloc (.cells #[.slice aW ws.length cW, .slice aP ps.length cP] 66)) := (Below.refl _ _).alloc (Nat.le_refl _) _
  rcases askC_cases ws ps at_ with hc | ⟨hc, hok, k, rfl, hk, hkl⟩
  · have hne : (askC ws ps at_ != 0) = true := by rcases hc with hc | hc <;> simp [hc]
    have E := hideIt (loadV_not (ws := ws) (ps := ps) (at_ := at_) (by rcases hc with hc | hc <;> simp [hc]))
    clear hc hcW hcP
    go_enter Tryz.func233, Tryz.ntmps233
    go_wp2_with (go_at_call 271; refine (placeFault_any _ ws ps _ _ (HR.out.below hb0) hw hp).mono ?_; rintro e w1 ⟨rfl, hb1⟩)
    go_ret2
    exact ⟨ret_two E.out.symm rfl, below_trans hb0 hb1 (by simp)⟩
  · have E := hideIt (loadV_ok hc hkl)
    have C := hideIt hc
    obtain ⟨bW, oW, rfl, hbW, hcellW⟩ := hcW (by omega)
    have hcw := hideIt (hcellW k hkl)
    have HP := hideIt hcP
    clear hc hcW hcellW hcP
    go_enter Tryz.func233, Tryz.ntmps233
    go_wp2_with fail
    refine (placeFault_any _ ws ps _ _ (HR.out.below hb0) hw hp).mono ?_
    rw [C.out]
    rintro e w1 ⟨rfl, hb1⟩
    have V1 := (hb1.block w.heap.size (by simp)).trans (at_new rfl)
    obtain ⟨x1, x2, _, _⟩ := two_cells V1
    have B1 := hideIt (below_trans hb0 hb1 (by simp))
    have hcw1 := (B1.out.cell (p := ⟨bW, oW + k, none⟩) hbW).trans hcw.out
    clear V1 hb1 hb0
    go_wp2
    go_loop [7] (fun i => ∃ m : Nat, m ≤ ps.length ∧ i = .int .i64 ((m : Int) - 1) ∧ Hid (∀ j (h : j < ps.length), m ≤ j → ¬ ps[j].at_ = (k : Int))) (fun i => (intOf i + 1).toNat)
    case atStart => exact ⟨ps.length, Nat.le_refl _, rfl, fun j h a => absurd h (by omega)⟩
    case round =>
      obtain ⟨m, hm, rfl, H⟩ := hrel
      cases m with
      | zero =>
        have E2 := hideIt (lastW_none (d := ws[k]) (fun p hp => by obtain ⟨i, hi, rfl⟩ := List.getElem_of_mem hp; exact H.out i hi (by omega)))
        clear H
        go_wp2
        go_ret2
        exact ⟨ret_two (E.out.trans E2.out).symm C.out.symm, B1.out⟩
      | succ m =>
        have em : (((m + 1 : Nat) : Int) - 1) = (m : Int) := by omega
        rw [em]
        clear em
        obtain ⟨b, o, rfl, hbl, hcell⟩ := HP.out (by omega)
        obtain ⟨d0, d1, _⟩ := hcell m (by omega)
        have e0 := (B1.out.cell (p := ⟨b, o + m * 3, none⟩) hbl).trans d0
        have e1 := (B1.out.cell (p := ⟨b, o + m * 3 + 1, none⟩) hbl).trans d1
        clear d0 d1 hcell
        have hml : m < ps.length := by omega
        by_cases c : ps[m].at_ = (k : Int)
        · have c' : (ps[m].at_ == (k : Int)) = true := by simpa using c
          have E2 := hideIt (lastW_hit (d := ws[k]) hml c (fun j hj hlt => H.out j hj (by omega)))
          clear H c
          go_wp2
          go_ret2
          exact ⟨ret_two (E.out.trans E2.out).symm C.out.symm, B1.out⟩
        · have c' : (ps[m].at_ == (k : Int)) = false := by simpa using c
          have C2 := hideIt c
          clear c
          go_wp2
          go_round
          case rel =>
            refine ⟨m, by omega, by go_num, fun j hj hle => ?_⟩
            by_cases e : j = m
            · subst e; exact C2.out
            · exact H.out j hj (by omega)
          case measure => simp [intOf] <;> omega
end Go.Proofs.YtmeiionabonhnaaGreatDoor

namespace Go.Proofs.YtmeiionabonhnaaGreatDoor
open Go.RowKit
theorem pmB_at {ws : List Int} {ps : List St} (h : pmB ws ps = true) : ∀ j (hj : j < ps.length), 0 ≤ ps[j].at_ ∧ ps[j].at_ < 336 := fun j hj => placeB_true (pmB_store h j hj).1
theorem pmB_in {ws : List Int} {ps : List St} (h : pmB ws ps = true) : ∀ j (hj : j < ps.length), 0 ≤ ps[j].at_ ∧ ps[j].at_ < ws.length := fun j hj => by
  have h1 := pmB_at h j hj
  have h2 := (pmB_len h).1
  omega
end Go.Proofs.YtmeiionabonhnaaGreatDoor
