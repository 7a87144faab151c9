/- A word as it is loaded: by the program, and by the model. -/
import Derived.Test.YtbjcoeimcdodjaaPmOKI
namespace Go.Proofs.Ytbjcoeimcdodjaa
open Go.RowKit
def askC (ws : List Int) (ps : List St) (at_ : Int) : Int := if pmB ws ps = false then 1 else if placeB at_ = false then 14 else 0
theorem askC_bad {ws : List Int} {ps : List St} {at_ : Int} (h : pmB ws ps = false) : askC ws ps at_ = 1 := by unfold askC; rw [if_pos h]
theorem askC_place {ws : List Int} {ps : List St} {at_ : Int} (h : pmB ws ps = true) (h2 : placeB at_ = false) : askC ws ps at_ = 14 := by unfold askC; rw [if_neg (by rw [h]; simp), if_pos h2]
theorem askC_ok {ws : List Int} {ps : List St} {at_ : Int} (h : pmB ws ps = true) (h2 : placeB at_ = true) : askC ws ps at_ = 0 := by unfold askC; rw [if_neg (by rw [h]; simp), if_neg (by rw [h2]; simp)]
set_option maxHeartbeats 1000000 in
theorem placeFault_any (v : Value) (ws : List Int) (ps : List St) (at_ : Int) (w : World) (h : RdPm w v ws ps) (hw : ws.length ≤ 1048576) (hp : ps.length ≤ 1048576) :
    Calls Try.prog 31 #[v, .int .i64 at_] w fun e w' => e = .returned (.int .i64 (askC ws ps at_)) ∧ Below w.heap.size w w' := by
  have HR := hideIt h
  obtain ⟨vW, vP, rfl, h1, h2⟩ := h
  obtain ⟨aW, cW, rfl, _⟩ := h1.shape
  obtain ⟨aP, cP, rfl, _⟩ := h2.shape
  clear h1 h2
  have hb0 : Below w.heap.size w (w.alloc (.cells #[.slice aW ws.length cW, .slice aP ps.length cP] 26)) := (Below.refl _ _).alloc (Nat.le_refl _) _
  by_cases c1 : pmB ws ps = true
  · by_cases c2 : placeB at_ = true
    · rw [askC_ok c1 c2]
      go_enter Try.func31, Try.ntmps31
      go_wp2_with (first | (go_at_call 17; refine (implPmOK_any _ ws ps _ (HR.out.below hb0) hw hp).mono ?_; rintro e w1 ⟨rfl, hb1⟩) | (go_at_call 54; refine (isPlace_any _ _).mono ?_; rintro e w2 ⟨rfl, rfl⟩))
      go_ret
      exact ⟨rfl, below_trans hb0 hb1 (by simp)⟩
    · have c2' : placeB at_ = false := by simpa using c2
      rw [askC_place c1 c2']
      clear c2
      go_enter Try.func31, Try.ntmps31
      go_wp2_with (first | (go_at_call 17; refine (implPmOK_any _ ws ps _ (HR.out.below hb0) hw hp).mono ?_; rintro e w1 ⟨rfl, hb1⟩) | (go_at_call 54; refine (isPlace_any _ _).mono ?_; rintro e w2 ⟨rfl, rfl⟩))
      go_ret
      exact ⟨rfl, below_trans hb0 hb1 (by simp)⟩
  · have c1' : pmB ws ps = false := by simpa using c1
    rw [askC_bad c1']
    clear c1
    go_enter Try.func31, Try.ntmps31
    go_wp2_with (first | (go_at_call 17; refine (implPmOK_any _ ws ps _ (HR.out.below hb0) hw hp).mono ?_; rintro e w1 ⟨rfl, hb1⟩) | (go_at_call 54; refine (isPlace_any _ _).mono ?_; rintro e w2 ⟨rfl, rfl⟩))
    go_ret
    exact ⟨rfl, below_trans hb0 hb1 (by simp)⟩
def lastW (at_ d : Int) (ps : List St) : Int := ps.foldl (fun acc p => if p.at_ = at_ then p.val else acc) d
theorem lastW_none {at_ d : Int} : ∀ {ps : List St}, (∀ p ∈ ps, ¬ p.at_ = at_) → lastW at_ d ps = d
  | [], _ => rfl
  | p :: ps, h => by
    show lastW at_ (if p.at_ = at_ then p.val else d) ps = d
    rw [if_neg (h p (by simp))]
    exact lastW_none (fun q hq => h q (by simp [hq]))
theorem lastW_append (at_ d : Int) (ps qs : List St) : lastW at_ d (ps ++ qs) = lastW at_ (lastW at_ d ps) qs := by simp [lastW]
theorem lastW_hit {at_ d : Int} {ps : List St} {k : Nat} (hk : k < ps.length) (h : ps[k].at_ = at_) (ha : ∀ j (hj : j < ps.length), k < j → ¬ ps[j].at_ = at_) : lastW at_ d ps = ps[k].val := by
  have e : ps = ps.take k ++ (ps[k] :: ps.drop (k + 1)) := by rw [← List.drop_eq_getElem_cons hk, List.take_append_drop]
  conv => lhs; rw [e]
  rw [lastW_append]
  show lastW at_ (if ps[k].at_ = at_ then ps[k].val else _) (ps.drop (k + 1)) = _
  rw [if_pos h]
  apply lastW_none
  intro p hp
  obtain ⟨i, hi, rfl⟩ := List.getElem_of_mem hp
  rw [List.getElem_drop]
  exact ha _ _ (by omega)
def loadV (ws : List Int) (ps : List St) (at_ : Int) : Int := if askC ws ps at_ = 0 then lastW at_ (ws[at_.toNat]?.getD 0) ps else 0
theorem loadV_not {ws : List Int} {ps : List St} {at_ : Int} (h : ¬ askC ws ps at_ = 0) : loadV ws ps at_ = 0 := by unfold loadV; rw [if_neg h]
theorem loadV_ok {ws : List Int} {ps : List St} {k : Nat} (h : askC ws ps (k : Int) = 0) (hk : k < ws.length) : loadV ws ps (k : Int) = lastW (k : Int) ws[k] ps := by
  unfold loadV; rw [if_pos h]; simp [hk]
theorem askC_cases (ws : List Int) (ps : List St) (at_ : Int) : (askC ws ps at_ = 1 ∨ askC ws ps at_ = 14) ∨ (askC ws ps at_ = 0 ∧ pmB ws ps = true ∧ ∃ k : Nat, at_ = (k : Int) ∧ k < 336 ∧ k < ws.length) := by
  by_cases c1 : pmB ws ps = true
  · by_cases c2 : placeB at_ = true
    · have := placeB_true c2
      have hl := (pmB_len c1).1
      exact .inr ⟨askC_ok c1 c2, c1, at_.toNat, by omega, by omega, by omega⟩
    · exact .inl (.inr (askC_place c1 (by simpa using c2)))
  · exact .inl (.inl (askC_bad (by simpa using c1)))
set_option maxHeartbeats 2000000 in
theorem implPmLoad_any (v : Value) (ws : List Int) (ps : List St) (at_ : Int) (w : World) (h : RdPm w v ws ps) (hw : ws.length ≤ 1048576) (hp : ps.length ≤ 1048576) :
    Calls Try.prog 10 #[v, .int .i64 at_] w fun e w' => e = .returned (.tuple #[.int .i64 (loadV ws ps at_), .int .i64 (askC ws ps at_)]) ∧ Below w.heap.size w w' := by
  have HR := hideIt h
  obtain ⟨vW, vP, rfl, h1, h2⟩ := h
  obtain ⟨aW, cW, rfl, _, hcW⟩ := h1.shape
  obtain ⟨aP, cP, rfl, _, hcP⟩ := h2.shape
  clear h1 h2
  have hb0 : Below w.heap.size w (w.alloc (.cells #[.slice aW ws.length cW, .slice aP ps.length cP] 26)) := (Below.refl _ _).alloc (Nat.le_refl _) _
  rcases askC_cases ws ps at_ with hc | ⟨hc, hok, k, rfl, hk, hkl⟩
  · have hne : (askC ws ps at_ != 0) = true := by rcases hc with hc | hc <;> simp [hc]
    have E := hideIt (loadV_not (ws := ws) (ps := ps) (at_ := at_) (by rcases hc with hc | hc <;> simp [hc]))
    clear hc hcW hcP
    go_enter Try.func10, Try.ntmps10
    go_wp2_with (go_at_call 31; refine (placeFault_any _ ws ps _ _ (HR.out.below hb0) hw hp).mono ?_; rintro e w1 ⟨rfl, hb1⟩)
    go_ret2
    exact ⟨ret_two E.out.symm rfl, below_trans hb0 hb1 (by simp)⟩
  · have E := hideIt (loadV_ok hc hkl)
    have C := hideIt hc
    obtain ⟨bW, oW, rfl, hbW, hcellW⟩ := hcW (by omega)
    have hcw := hideIt (hcellW k hkl)
    have HP := hideIt hcP
    clear hc hcW hcellW hcP
    go_enter Try.func10, Try.ntmps10
    go_wp2_with fail
    refine (placeFault_any _ ws ps _ _ (HR.out.below hb0) hw hp).mono ?_
    rw [C.out]
    rintro e w1 ⟨rfl, hb1⟩
    have V1 := (hb1.block w.heap.size (by simp)).trans (at_new rfl)
    obtain ⟨x1, x2, _, _⟩ := two_cells V1
    have B1 := hideIt (below_trans hb0 hb1 (by simp))
    have hcw1 := (B1.out.cell (p := ⟨bW, oW + k, none⟩) hbW).trans hcw.out
    clear V1 hb1 hb0
    go_wp2
    go_loop [7] (fun i => ∃ m : Nat, m ≤ ps.length ∧ i = .int .i64 ((m : Int) - 1) ∧ Hid (∀ j (h : j < ps.length), m ≤ j → ¬ ps[j].at_ = (k : Int))) (fun i => (intOf i + 1).toNat)
    case atStart => exact ⟨ps.length, Nat.le_refl _, rfl, fun j h a => absurd h (by omega)⟩
    case round =>
      obtain ⟨m, hm, rfl, H⟩ := hrel
      cases m with
      | zero =>
        have E2 := hideIt (lastW_none (d := ws[k]) (fun p hp => by obtain ⟨i, hi, rfl⟩ := List.getElem_of_mem hp; exact H.out i hi (by omega)))
        clear H
        go_wp2
        go_ret2
        exact ⟨ret_two (E.out.trans E2.out).symm C.out.symm, B1.out⟩
      | succ m =>
        have em : (((m + 1 : Nat) : Int) - 1) = (m : Int) := by omega
        rw [em]
        clear em
        obtain ⟨b, o, rfl, hbl, hcell⟩ := HP.out (by omega)
        obtain ⟨d0, d1, _⟩ := hcell m (by omega)
        have e0 := (B1.out.cell (p := ⟨b, o + m * 3, none⟩) hbl).trans d0
        have e1 := (B1.out.cell (p := ⟨b, o + m * 3 + 1, none⟩) hbl).trans d1
        clear d0 d1 hcell
        have hml : m < ps.length := by omega
        by_cases c : ps[m].at_ = (k : Int)
        · have c' : (ps[m].at_ == (k : Int)) = true := by simpa using c
          have E2 := hideIt (lastW_hit (d := ws[k]) hml c (fun j hj hlt => H.out j hj (by omega)))
          clear H c
          go_wp2
          go_ret2
          exact ⟨ret_two (E.out.trans E2.out).symm C.out.symm, B1.out⟩
        · have c' : (ps[m].at_ == (k : Int)) = false := by simpa using c
          have C2 := hideIt c
          clear c
          go_wp2
          go_round
          case rel =>
            refine ⟨m, by omega, by go_num, fun j hj hle => ?_⟩
            by_cases e : j = m
            · subst e; exact C2.out
            · exact H.out j hj (by omega)
          case measure => simp [intOf] <;> omega
end Go.Proofs.Ytbjcoeimcdodjaa
