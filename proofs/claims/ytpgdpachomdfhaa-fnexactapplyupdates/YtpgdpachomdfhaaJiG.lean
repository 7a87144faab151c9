/- Updates that are right, and where they are stored: by the program. -/
import Derived.Test.YtpgdpachomdfhaaJiF
import Derived.Test.YtpgdpachomdfhaaJrR
import Derived.Test.YtpgdpachomdfhaaJrP
namespace Go.Proofs.Ytpgdpachomdfhaa
open Go.RowKit

/-- An update that is right. -/
def upB (s : Se) : Bool := decide ((48 ≤ s.at_ ∧ s.at_ < 336) ∧ 0 ≤ s.val ∧ s.val < 1099511627776)
/-- All updates are right. -/
def upsBB (ps : List Se) : Bool := decide (∀ k (h : k < ps.length), upB ps[k] = true)
theorem upsBB_true {ps : List Se} (h : upsBB ps = true) : ∀ k (h : k < ps.length), upB ps[k] = true := of_decide_eq_true h
theorem upsBB_mk {ps : List Se} (h : ∀ k (h : k < ps.length), upB ps[k] = true) : upsBB ps = true := decide_eq_true h
theorem upsBB_not {ps : List Se} {k : Nat} (hk : k < ps.length) (h : upB ps[k] = false) : upsBB ps = false := decide_eq_false (fun x => by have := x k hk; rw [h] at this; cases this)
theorem upsBB_ex {ps : List Se} (h : upsBB ps = false) : ∃ k, ∃ h : k < ps.length, upB ps[k] = false := by
  apply Classical.byContradiction
  intro hn
  have : upsBB ps = true := upsBB_mk (fun k hk => by
    cases e : upB ps[k] with
    | true => rfl
    | false => exact absurd ⟨k, hk, e⟩ hn)
  rw [h] at this
  cases this
theorem upsBB_eq (us : List Se) : upsBB us = upsB us := by
  unfold upsBB upsB
  rw [decide_eq_decide]
  exact ⟨fun h k hk => of_decide_eq_true (h k hk), fun h k hk => decide_eq_true (h k hk)⟩

set_option maxHeartbeats 2000000 in
theorem isUpdate_any (s : Se) (w : World) : Calls Try.prog 25 #[.agg #[.int .i64 s.at_, .int .i64 s.val]] w fun e w' => e = .returned (.bool (upB s)) ∧ Below w.heap.size w w' := by
  obtain ⟨a, x⟩ := s
  simp only
  have hb0 : Below w.heap.size w (w.alloc (.cells #[.int .i64 a, .int .i64 x] 48)) := (Below.refl _ _).alloc (Nat.le_refl _) _
  by_cases c1 : 48 ≤ a
  case neg =>
    have E := hideIt (show upB ⟨a, x⟩ = false from decide_eq_false (fun h => c1 h.1.1))
    go_enter Try.func25, Try.ntmps25
    go_wp2
    go_ret
    exact ⟨ret_bool E.out.symm, hb0⟩
  by_cases c2 : placeB a = true
  case neg =>
    have c2' : placeB a = false := by simpa using c2
    have E := hideIt (show upB ⟨a, x⟩ = false from decide_eq_false (fun h => c2 (decide_eq_true ⟨by omega, h.1.2⟩)))
    have C2 := hideIt c2'
    clear c2 c2'
    go_enter Try.func25, Try.ntmps25
    go_wp2_with (go_at_call 41; refine (isPlace_any _ _).mono ?_; rw [C2.out]; rintro e w' ⟨rfl, rfl⟩)
    go_ret
    exact ⟨ret_bool E.out.symm, hb0⟩
  have E := hideIt (show upB ⟨a, x⟩ = wordB x by
    unfold upB wordB
    rw [decide_eq_decide]
    have := placeB_true c2
    simp only
    omega)
  have C2 := hideIt c2
  clear c2
  go_enter Try.func25, Try.ntmps25
  go_wp2_with (first | (go_at_call 41; refine (isPlace_any _ _).mono ?_; rw [C2.out]; rintro e w' ⟨rfl, rfl⟩) | (go_at_call 38; refine (isWord_any _ _).mono ?_; rintro e w' ⟨rfl, rfl⟩))
  go_ret
  exact ⟨ret_bool E.out.symm, hb0⟩

set_option maxHeartbeats 4000000 in
theorem everyUpdate_any (v : Value) (ps : List Se) (w : World) (h : RdE w v ps) (hn : ps.length ≤ 1048576) :
    Calls Try.prog 24 #[v, .func (.func 25) #[] #[]] w fun e w' => e = .returned (.bool (upsBB ps)) ∧ Below w.heap.size w w' := by
  obtain ⟨aP, cP, rfl, _, hcP⟩ := h.shape
  clear h
  go_enter Try.func24, Try.ntmps24
  go_wp2
  go_loopw [6, 9] (fun _ i wr => ∃ k : Nat, k ≤ ps.length ∧ i = .int .i64 k ∧ Hid (∀ j (h : j < ps.length), j < k → upB ps[j] = true) ∧ Below w.heap.size w wr) (fun _ i _ => ps.length - (intOf i).toNat)
  case atStart => exact ⟨0, by omega, rfl, fun j h a => absurd a (by omega), Below.refl _ _⟩
  case round =>
    obtain ⟨m, hm, rfl, H, hbw⟩ := hrel
    have hz := hbw.size
    by_cases hlt2 : m < ps.length
    · obtain ⟨b2, o2, rfl, hbl2, hcell2⟩ := hcP (by omega)
      obtain ⟨d0, d1⟩ := hcell2 m hlt2
      have e0 := (hbw.cell (p := ⟨b2, o2 + m * 2, none⟩) hbl2).trans d0
      have e1 := (hbw.cell (p := ⟨b2, o2 + m * 2 + 1, none⟩) hbl2).trans d1
      have hb1 := hideIt (hbw.alloc hz (.cells #[.int .i64 ps[m].at_, .int .i64 ps[m].val] 48))
      clear d0 d1 hcell2 hcP
      by_cases q : upB ps[m] = true
      · have Q := hideIt q
        clear q
        go_wp2_with (go_at_call 25; refine (isUpdate_any ps[m] _).mono ?_; rw [Q.out]; rintro e w' ⟨rfl, hw'⟩)
        have hw2 := hb1.out.trans (hw'.mono (by simp; omega))
        clear hb1 hw'
        go_roundw
        case rel =>
          refine ⟨m + 1, by omega, by go_num, fun j h a => ?_, hw2⟩
          by_cases e : j = m
          · subst e; exact Q.out
          · exact H.out j h (by omega)
        case measure => simp [intOf]; omega
      · have Q := hideIt (show upB ps[m] = false by simpa using q)
        have E := hideIt (upsBB_not hlt2 Q.out)
        clear q
        go_wp2_with (go_at_call 25; refine (isUpdate_any ps[m] _).mono ?_; rw [Q.out]; rintro e w' ⟨rfl, hw'⟩)
        have hw2 := hb1.out.trans (hw'.mono (by simp; omega))
        go_ret
        exact ⟨ret_bool E.out.symm, hw2⟩
    · have E := hideIt (upsBB_mk (fun j h => H.out j h (by omega)))
      go_wp2
      go_ret
      exact ⟨ret_bool E.out.symm, hbw⟩

theorem World.ownsRow.below {w w' : World} {base : Nat} {e : TypeId} {size : Nat} {v : Value} {n : Nat} {xs : List Value} (h : w.ownsRow base e size v n xs) (hb : Below w.heap.size w w') : w'.ownsRow base e size v n xs := by
  obtain ⟨hl, h⟩ := h
  refine ⟨hl, ?_⟩
  rcases h with h | ⟨g, cap, cur, h1, h2, h3, h4⟩
  · exact .inl h
  · exact .inr ⟨g, cap, cur, h1, h2, (hb.block g (Array.getElem?_eq_some_iff.1 h3).1).trans h3, h4⟩

end Go.Proofs.Ytpgdpachomdfhaa
