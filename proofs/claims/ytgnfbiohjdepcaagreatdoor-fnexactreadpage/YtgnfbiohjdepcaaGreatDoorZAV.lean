/- Several texts laid together: PmLoad, Small, PmSeen. -/
import Derived.Test.YtgnfbiohjdepcaaGreatDoorZAU
namespace Go.Proofs.YtgnfbiohjdepcaaGreatDoor
open Go.RowKit
def askC (ws : List Int) (ps : List St) (at_ : Int) : Int := if pmB ws ps = false then 1 else if placeB at_ = false then 14 else 0
theorem askC_bad {ws : List Int} {ps : List St} {at_ : Int} (h : pmB ws ps = false) : askC ws ps at_ = 1 := by unfold askC; rw [if_pos h]
theorem askC_place {ws : List Int} {ps : List St} {at_ : Int} (h : pmB ws ps = true) (h2 : placeB at_ = false) : askC ws ps at_ = 14 := by unfold askC; rw [if_neg (by rw [h]; simp), if_pos h2]
theorem askC_ok {ws : List Int} {ps : List St} {at_ : Int} (h : pmB ws ps = true) (h2 : placeB at_ = true) : askC ws ps at_ = 0 := by unfold askC; rw [if_neg (by rw [h]; simp), if_neg (by rw [h2]; simp)]
set_option maxHeartbeats 1000000 in
theorem placeFault_any (v : Value) (ws : List Int) (ps : List St) (at_ : Int) (w : World) (h : RdPm w v ws ps) (hw : ws.length ≤ 1048576) (hp : ps.length ≤ 1048576) :
    Calls Tryz.prog 104 #[v, .int .i64 at_] w fun e w' => e = .returned (.int .i64 (askC ws ps at_)) ∧ Below w.heap.size w w' := by
  have HR := hideIt h
  obtain ⟨vW, vP, rfl, h1, h2⟩ := h
  obtain ⟨aW, cW, rfl, _⟩ := h1.shape
  obtain ⟨aP, cP, rfl, _⟩ := h2.shape
  clear h1 h2
  have hb0 : Below w.heap.size w (w.alloc (.cells #[.slice aW ws.length cW, .slice aP ps.length cP] 36)) := (Below.refl _ _).alloc (Nat.le_refl _) _
  by_cases c1 : pmB ws ps = true
  · by_cases c2 : placeB at_ = true
    · rw [askC_ok c1 c2]
      go_enter Tryz.func104, Tryz.ntmps104
      go_wp2_with (first | (go_at_call 131; refine (implPmOK_any _ ws ps _ (HR.out.below hb0) hw hp).mono ?_; rintro e w1 ⟨rfl, hb1⟩) | (go_at_call 113; refine (isPlace_any _ _).mono ?_; rintro e w2 ⟨rfl, rfl⟩))
      go_ret
      exact ⟨rfl, below_trans hb0 hb1 (by simp)⟩
    · have c2' : placeB at_ = false := by simpa using c2
      rw [askC_place c1 c2']
      clear c2
      go_enter Tryz.func104, Tryz.ntmps104
      go_wp2_with (first | (go_at_call 131; refine (implPmOK_any _ ws ps _ (HR.out.below hb0) hw hp).mono ?_; rintro e w1 ⟨rfl, hb1⟩) | (go_at_call 113; refine (isPlace_any _ _).mono ?_; rintro e w2 ⟨rfl, rfl⟩))
      go_ret
      exact ⟨rfl, below_trans hb0 hb1 (by simp)⟩
  · have c1' : pmB ws ps = false := by simpa using c1
    rw [askC_bad c1']
    clear c1
    go_enter Tryz.func104, Tryz.ntmps104
    go_wp2_with (first | (go_at_call 131; refine (implPmOK_any _ ws ps _ (HR.out.below hb0) hw hp).mono ?_; rintro e w1 ⟨rfl, hb1⟩) | (go_at_call 113; refine (isPlace_any _ _).mono ?_; rintro e w2 ⟨rfl, rfl⟩))
    go_ret
    exact ⟨rfl, below_trans hb0 hb1 (by simp)⟩
def lastW (at_ d : Int) (ps : List St) : Int := ps.foldl (fun acc p => if p.at_ = at_ then p.val else acc) d
theorem lastW_none {at_ d : Int} : ∀ {ps : List St}, (∀ p ∈ ps, ¬ p.at_ = at_) → lastW at_ d ps = d
  | [], _ => rfl
  | p :: ps, h => by
    show lastW at_ (if p.at_ = at_ then p.val else d) ps = d
    rw [if_neg (h p (by simp))]
    exact lastW_none (fun q hq => h q (by simp [hq]))
theorem lastW_append (at_ d : Int) (ps qs : List St) : lastW at_ d (ps ++ qs) = lastW at_ (lastW at_ d ps) qs := by simp [lastW]
theorem lastW_hit {at_ d : Int} {ps : List St} {k : Nat} (hk : k < ps.length) (h : ps[k].at_ = at_) (ha : ∀ j (hj : j < ps.length), k < j → ¬ ps[j].at_ = at_) : lastW at_ d ps = ps[k].val := by
  have e : ps = ps.take k ++ (ps[k] :: ps.drop (k + 1)) := by rw [← List.drop_eq_getElem_cons hk, List.take_append_drop]
  conv => lhs; rw [e]
  rw [lastW_append]
  show lastW at_ (if ps[k].at_ = at_ then ps[k].val else _) (ps.drop (k + 1)) = _
  rw [if_pos h]
  apply lastW_none
  intro p hp
  obtain ⟨i, hi, rfl⟩ := List.getElem_of_mem hp
  rw [List.getElem_drop]
  exact ha _ _ (by omega)
set_option maxHeartbeats 2000000 in
theorem l01Load_any (v : Value) (ws : List Int) (ps : List St) (at_ : Nat) (w : World) (h : RdPm w v ws ps) (hw : ws.length ≤ 1048576) (hp : ps.length ≤ 1048576) (ha : at_ < ws.length) :
    Calls Tryz.prog 91 #[v, .int .i64 (at_ : Int)] w fun e w' => e = .returned (.int .i64 (lastW (at_ : Int) ws[at_] ps)) ∧ Below w.heap.size w w' := by
  obtain ⟨vW, vP, rfl, h1, h2⟩ := h
  obtain ⟨aW, cW, rfl, _, hcW⟩ := h1.shape
  obtain ⟨aP, cP, rfl, _, hcP⟩ := h2.shape
  clear h1 h2
  obtain ⟨bW, oW, rfl, hbW, hcellW⟩ := hcW (by omega)
  have hb0 : Below w.heap.size w (w.alloc (.cells #[.slice (some ⟨bW, oW, none⟩) ws.length cW, .slice aP ps.length cP] 36)) := (Below.refl _ _).alloc (Nat.le_refl _) _
  have hcw := (hb0.cell (p := ⟨bW, oW + at_, none⟩) hbW).trans (hcellW at_ ha)
  clear hcW hcellW
  go_enter Tryz.func91, Tryz.ntmps91
  go_wp2
  go_loop [5] (fun i => ∃ k : Nat, k ≤ ps.length ∧ i = .int .i64 ((k : Int) - 1) ∧ Hid (∀ j (h : j < ps.length), k ≤ j → ¬ ps[j].at_ = (at_ : Int))) (fun i => (intOf i + 1).toNat)
  case atStart => exact ⟨ps.length, Nat.le_refl _, rfl, fun j h a => absurd h (by omega)⟩
  case round =>
    obtain ⟨k, hk, rfl, H⟩ := hrel
    cases k with
    | zero =>
      have E := hideIt (lastW_none (d := ws[at_]) (fun p hp => by obtain ⟨i, hi, rfl⟩ := List.getElem_of_mem hp; exact H.out i hi (by omega)))
      clear H hcP
      go_wp2
      go_ret
      exact ⟨ret_int E.out.symm, hb0⟩
    | succ m =>
      have em : (((m + 1 : Nat) : Int) - 1) = (m : Int) := by omega
      rw [em]
      clear em
      obtain ⟨b, o, rfl, hbl, hcell⟩ := hcP (by omega)
      obtain ⟨d0, d1, _⟩ := hcell m (by omega)
      have e0 := (hb0.cell (p := ⟨b, o + m * 3, none⟩) hbl).trans d0
      have e1 := (hb0.cell (p := ⟨b, o + m * 3 + 1, none⟩) hbl).trans d1
      clear d0 d1 hcell hcP
      have hm : m < ps.length := by omega
      by_cases c : ps[m].at_ = (at_ : Int)
      · have c' : (ps[m].at_ == (at_ : Int)) = true := by simpa using c
        have E := hideIt (lastW_hit (d := ws[at_]) hm c (fun j hj hlt => H.out j hj (by omega)))
        clear H c
        go_wp2
        go_ret
        exact ⟨ret_int E.out.symm, hb0⟩
      · have c' : (ps[m].at_ == (at_ : Int)) = false := by simpa using c
        have C := hideIt c
        clear c
        go_wp2
        go_round
        case rel =>
          refine ⟨m, by omega, by go_num, fun j hj hle => ?_⟩
          by_cases e : j = m
          · subst e; exact C.out
          · exact H.out j hj (by omega)
        case measure => simp [intOf] <;> omega
def loadV (ws : List Int) (ps : List St) (at_ : Int) : Int := if askC ws ps at_ = 0 then lastW at_ (ws[at_.toNat]?.getD 0) ps else 0
theorem loadV_not {ws : List Int} {ps : List St} {at_ : Int} (h : ¬ askC ws ps at_ = 0) : loadV ws ps at_ = 0 := by unfold loadV; rw [if_neg h]
theorem loadV_ok {ws : List Int} {ps : List St} {k : Nat} (h : askC ws ps (k : Int) = 0) (hk : k < ws.length) : loadV ws ps (k : Int) = lastW (k : Int) ws[k] ps := by
  unfold loadV; rw [if_pos h]; simp [hk]
theorem askC_cases (ws : List Int) (ps : List St) (at_ : Int) : (askC ws ps at_ = 1 ∨ askC ws ps at_ = 14) ∨ (askC ws ps at_ = 0 ∧ pmB ws ps = true ∧ ∃ k : Nat, at_ = (k : Int) ∧ k < 336 ∧ k < ws.length) := by
  by_cases c1 : pmB ws ps = true
  · by_cases c2 : placeB at_ = true
    · have := placeB_true c2
      have hl := (pmB_len c1).1
      exact .inr ⟨askC_ok c1 c2, c1, at_.toNat, by omega, by omega, by omega⟩
    · exact .inl (.inr (askC_place c1 (by simpa using c2)))
  · exact .inl (.inl (askC_bad (by simpa using c1)))
set_option maxHeartbeats 2000000 in
theorem implPmLoad_any (v : Value) (ws : List Int) (ps : List St) (at_ : Int) (w : World) (h : RdPm w v ws ps) (hw : ws.length ≤ 1048576) (hp : ps.length ≤ 1048576) :
    Calls Tryz.prog 61 #[v, .int .i64 at_] w fun e w' => e = .returned (.tuple #[.int .i64 (loadV ws ps at_), .int .i64 (askC ws ps at_)]) ∧ Below w.heap.size w w' := by
  have HR := hideIt h
  obtain ⟨vW, vP, rfl, h1, h2⟩ := h
  obtain ⟨aW, cW, rfl, _, hcW⟩ := h1.shape
  obtain ⟨aP, cP, rfl, _, hcP⟩ := h2.shape
  clear h1 h2
  have hb0 : Below w.heap.size w (w.alloc (.cells #[.slice aW ws.length cW, .slice aP ps.length cP] 36)) := (Below.refl _ _).alloc (Nat.le_refl _) _
  rcases askC_cases ws ps at_ with hc | ⟨hc, hok, k, rfl, hk, hkl⟩
  · have hne : (askC ws ps at_ != 0) = true := by rcases hc with hc | hc <;> simp [hc]
    have E := hideIt (loadV_not (ws := ws) (ps := ps) (at_ := at_) (by rcases hc with hc | hc <;> simp [hc]))
    clear hc hcW hcP
    go_enter Tryz.func61, Tryz.ntmps61
    go_wp2_with (go_at_call 104; refine (placeFault_any _ ws ps _ _ (HR.out.below hb0) hw hp).mono ?_; rintro e w1 ⟨rfl, hb1⟩)
    go_ret2
    exact ⟨ret_two E.out.symm rfl, below_trans hb0 hb1 (by simp)⟩
  · have E := hideIt (loadV_ok hc hkl)
    have C := hideIt hc
    obtain ⟨bW, oW, rfl, hbW, hcellW⟩ := hcW (by omega)
    have hcw := hideIt (hcellW k hkl)
    have HP := hideIt hcP
    clear hc hcW hcellW hcP
    go_enter Tryz.func61, Tryz.ntmps61
    go_wp2_with fail
    refine (placeFault_any _ ws ps _ _ (HR.out.below hb0) hw hp).mono ?_
    rw [C.out]
    rintro e w1 ⟨rfl, hb1⟩
    have V1 := (hb1.block w.heap.size (by simp)).trans (at_new rfl)
    obtain ⟨x1, x2, _, _⟩ := two_cells V1
    have B1 := hideIt (below_trans hb0 hb1 (by simp))
    have hcw1 := (B1.out.cell (p := ⟨bW, oW + k, none⟩) hbW).trans hcw.out
    clear V1 hb1 hb0
    go_wp2
    go_loop [7] (fun i => ∃ m : Nat, m ≤ ps.length ∧ i = .int .i64 ((m : Int) - 1) ∧ Hid (∀ j (h : j < ps.length), m ≤ j → ¬ ps[j].at_ = (k : Int))) (fun i => (intOf i + 1).toNat)
    case atStart => exact ⟨ps.length, Nat.le_refl _, rfl, fun j h a => absurd h (by omega)⟩
    case round =>
      obtain ⟨m, hm, rfl, H⟩ := hrel
      cases m with
      | zero =>
        have E2 := hideIt (lastW_none (d := ws[k]) (fun p hp => by obtain ⟨i, hi, rfl⟩ := List.getElem_of_mem hp; exact H.out i hi (by omega)))
        clear H
        go_wp2
        go_ret2
        exact ⟨ret_two (E.out.trans E2.out).symm C.out.symm, B1.out⟩
      | succ m =>
        have em : (((m + 1 : Nat) : Int) - 1) = (m : Int) := by omega
        rw [em]
        clear em
        obtain ⟨b, o, rfl, hbl, hcell⟩ := HP.out (by omega)
        obtain ⟨d0, d1, _⟩ := hcell m (by omega)
        have e0 := (B1.out.cell (p := ⟨b, o + m * 3, none⟩) hbl).trans d0
        have e1 := (B1.out.cell (p := ⟨b, o + m * 3 + 1, none⟩) hbl).trans d1
        clear d0 d1 hcell
        have hml : m < ps.length := by omega
        by_cases c : ps[m].at_ = (k : Int)
        · have c' : (ps[m].at_ == (k : Int)) = true := by simpa using c
          have E2 := hideIt (lastW_hit (d := ws[k]) hml c (fun j hj hlt => H.out j hj (by omega)))
          clear H c
          go_wp2
          go_ret2
          exact ⟨ret_two (E.out.trans E2.out).symm C.out.symm, B1.out⟩
        · have c' : (ps[m].at_ == (k : Int)) = false := by simpa using c
          have C2 := hideIt c
          clear c
          go_wp2
          go_round
          case rel =>
            refine ⟨m, by omega, by go_num, fun j hj hle => ?_⟩
            by_cases e : j = m
            · subst e; exact C2.out
            · exact H.out j hj (by omega)
          case measure => simp [intOf] <;> omega
end Go.Proofs.YtgnfbiohjdepcaaGreatDoor

namespace Go.Proofs.YtgnfbiohjdepcaaGreatDoor
open Go.RowKit
theorem RowPm.setCell {w : World} {lo hi : Nat} {v : Value} {ws : List Int} {ps : List St} (h : RowPm w lo hi v ws ps) {a : Addr} (ha : a.block < lo) (u : Value) : RowPm (w.setCell a u) lo hi v ws ps := by
  obtain ⟨vW, vP, rfl, h1, h2⟩ := h
  exact ⟨vW, vP, rfl, h1.same (fun b hb _ => Below.heap_setCell _ _ _ _ (by omega)), h2.same (fun b hb _ => Below.heap_setCell _ _ _ _ (by omega))⟩
theorem RowPm.alloc {w : World} {lo hi : Nat} {v : Value} {ws : List Int} {ps : List St} (h : RowPm w lo hi v ws ps) (hi1 : hi ≤ w.heap.size) (o : Obj) : RowPm (w.alloc o) lo hi v ws ps :=
  h.below ((Below.refl _ _).alloc (Nat.le_refl _) o) hi1
theorem RowPm.zero (w : World) (lo hi : Nat) : RowPm w lo hi (.agg #[.slice none 0 0, .slice none 0 0]) [] [] := ⟨_, _, rfl, Row.nil _ _ _ _ _, Row.nil _ _ _ _ _⟩
theorem RdS.form {w : World} {v : Value} {ps : List St} (h : RdS w v ps) {n : Nat} (hn : ps.length = n) : ∃ ao cap, v = .slice ao n cap := by
  obtain ⟨ao, cap, e, _⟩ := h.shape
  exact ⟨ao, cap, by rw [← hn]; exact e⟩
theorem pmB_at {ws : List Int} {ps : List St} (h : pmB ws ps = true) : ∀ j (hj : j < ps.length), 0 ≤ ps[j].at_ ∧ ps[j].at_ < 336 := fun j hj => placeB_true (pmB_store h j hj).1
theorem pmB_in {ws : List Int} {ps : List St} (h : pmB ws ps = true) : ∀ j (hj : j < ps.length), 0 ≤ ps[j].at_ ∧ ps[j].at_ < ws.length := fun j hj => by
  have h1 := pmB_at h j hj
  have h2 := (pmB_len h).1
  omega
end Go.Proofs.YtgnfbiohjdepcaaGreatDoor

namespace Go.Proofs.YtgnfbiohjdepcaaGreatDoor
open Go.RowKit
def layW (ws : List Int) (ps : List St) : List Int := ps.foldl (fun acc p => acc.set p.at_.toNat p.val) ws
theorem layW_snoc (ws : List Int) (ps : List St) (p : St) : layW ws (ps ++ [p]) = (layW ws ps).set p.at_.toNat p.val := by simp [layW]
theorem layW_len (ws : List Int) : ∀ ps : List St, (layW ws ps).length = ws.length := by
  intro ps
  unfold layW
  induction ps generalizing ws with
  | nil => rfl
  | cons p ps ih => rw [List.foldl_cons, ih]; simp
theorem layW_at : ∀ (ps : List St) (ws : List Int) (k : Nat) (hk : k < ws.length) (_ : ∀ p ∈ ps, 0 ≤ p.at_) (hk' : k < (layW ws ps).length), (layW ws ps)[k] = lastW (k : Int) ws[k] ps
  | [], ws, k, hk, _, _ => rfl
  | p :: ps, ws, k, hk, h0, hk' => by
    have hk2 : k < (ws.set p.at_.toNat p.val).length := by simpa using hk
    have := layW_at ps (ws.set p.at_.toNat p.val) k hk2 (fun q hq => h0 q (by simp [hq])) hk'
    show (layW (ws.set p.at_.toNat p.val) ps)[k] = lastW (k : Int) (if p.at_ = (k : Int) then p.val else ws[k]) ps
    rw [this, List.getElem_set]
    have hp := h0 p (by simp)
    by_cases e : p.at_ = (k : Int)
    · rw [if_pos (by omega), if_pos e]
    · rw [if_neg (by omega), if_neg e]
def seenC (ws : List Int) (ps : List St) : Int := if pmB ws ps = true then 0 else 1
def seenZ (ws : List Int) (ps : List St) : List Int := if pmB ws ps = true then layW ws ps else []
theorem seen_not {ws : List Int} {ps : List St} (h : pmB ws ps = false) : seenC ws ps = 1 ∧ seenZ ws ps = [] := by
  unfold seenC seenZ
  rw [h]
  exact ⟨rfl, rfl⟩
theorem seen_ok {ws : List Int} {ps : List St} (h : pmB ws ps = true) : seenC ws ps = 0 ∧ seenZ ws ps = layW ws ps := by
  unfold seenC seenZ
  rw [h]
  exact ⟨rfl, rfl⟩
set_option maxRecDepth 100000 in
set_option maxHeartbeats 4000000 in
theorem implPmSeen_any (v : Value) (ws : List Int) (ps : List St) (w : World) (h : RdPm w v ws ps) (hw : ws.length ≤ 1048576) (hp : ps.length ≤ 1048576) :
    Calls Tryz.prog 100 #[v] w fun e w' => ∃ v', e = .returned (.tuple #[v', .int .i64 (seenC ws ps)]) ∧ Row w' 3 1 w.heap.size w'.heap.size v' (seenZ ws ps).length (ints (seenZ ws ps)) ∧ Below w.heap.size w w' := by
  have HR := hideIt h
  obtain ⟨vW, vP, rfl, h1, h2⟩ := h
  have H1 := hideIt h1
  obtain ⟨aW, cW, rfl, _⟩ := h1.shape
  obtain ⟨aP, cP, rfl, _, hcP⟩ := h2.shape
  have HP := hideIt hcP
  clear h1 h2 hcP
  have hb0 : Below w.heap.size w (w.alloc (.cells #[.slice aW ws.length cW, .slice aP ps.length cP] 36)) := (Below.refl _ _).alloc (Nat.le_refl _) _
  by_cases hc : pmB ws ps = true
  · obtain ⟨e1, e2⟩ := seen_ok hc
    rw [e1, e2]
    clear e1 e2
    have OK := hideIt (pmB_in hc)
    go_enter Tryz.func100, Tryz.ntmps100
    go_wp2_with fail
    refine (implPmOK_any _ ws ps _ (HR.out.below hb0) hw hp).mono ?_
    rintro e w1 ⟨rfl, hb1⟩
    have hz1 : w.heap.size + 1 ≤ w1.heap.size := by have := hb1.size; simp at this; omega
    have V0 := (hb1.block w.heap.size (by simp <;> omega)).trans (at_new rfl)
    obtain ⟨x1, x2, x3, x4⟩ := two_cells V0
    have B1 := hideIt (below_trans hb0 hb1 (by simp <;> omega))
    have VH := hideIt V0
    clear hb0 hb1 V0
    go_wp2_with (at_builtin; refine wpList_append_rd _ rfl (.const (.slice none 0 0)) (.tmp 11) 22 rfl w1.heap.size 3 (.int .i64 0) 1 8 Tryz.underlying22 info3 rfl (by decide) _ 0 [] rfl (World.ownsRow_nil _ _ _ _) _ ws.length (ints ws) rfl (Rd.below H1.out B1.out) (ints_one ws) (by simp [maxLen]; omega) (by omega) (Nat.le_refl _) ?_)
    intro v2 w2 hown2 hgr2
    have hown2 : w2.ownsRow w1.heap.size 3 1 v2 ws.length (ints ws) := by simpa using hown2
    obtain ⟨aW2, cW2, rfl⟩ := RdI.form (own_block hown2).rd rfl
    have hz2 : w1.heap.size ≤ w2.heap.size := hgr2.size
    have B2 := B1.out.grown hgr2 (by omega) (fun k hk => by cases hk)
    have V0 := (hgr2.block w.heap.size (by omega) (by simp [Value.ownBlock])).trans VH.out
    obtain ⟨z1, z2, z3, z4⟩ := two_cells V0
    have START := hideIt (And.intro (own_block hown2) B2)
    clear x1 x2 x3 x4 hown2 hgr2 B2 V0
    go_wp2
    go_loopw [6, 16] (fun _ i wr => ∃ m : Nat, m ≤ ps.length ∧ i = .int .i64 m ∧ Row wr 3 1 w1.heap.size w2.heap.size (.slice aW2 ws.length cW2) ws.length (ints (layW ws (ps.take m))) ∧ Below w.heap.size w wr ∧ w2.heap.size ≤ wr.heap.size) (fun _ i _ => ps.length - (intOf i).toNat)
    case atStart => exact ⟨0, by omega, rfl, START.out.1, START.out.2, Nat.le_refl _⟩
    case round =>
      obtain ⟨m, hm, rfl, hrow, hb, hz⟩ := hrel
      by_cases hlt : m < ps.length
      · obtain ⟨b, o, rfl, hbl, hcell⟩ := HP.out (by omega)
        obtain ⟨e0, e1, e2⟩ := hcell m hlt
        have d0 := (hb.cell (p := ⟨b, o + m * 3, none⟩) hbl).trans e0
        have d1 := (hb.cell (p := ⟨b, o + m * 3 + 1, none⟩) hbl).trans e1
        have d2 := (hb.cell (p := ⟨b, o + m * 3 + 2, none⟩) hbl).trans e2
        obtain ⟨q0, q1⟩ := OK.out m hlt
        obtain ⟨_, aw', cw', ew', _, hcw⟩ := hrow.rd
        cases ew'
        obtain ⟨bw, ow, rfl, hblw, _⟩ := hcw (by omega)
        obtain ⟨rfl, hb1, _, _, hfrw, hclw⟩ := (hrow.alloc hz (.cells #[.int .i64 ps[m].at_, .int .i64 ps[m].val, .bool ps[m].fl] 135)).at
        have hj : ps[m].at_.toNat < (layW ws (ps.take m)).length := by rw [layW_len]; omega
        have g0 := hfrw ps[m].at_.toNat
        have g1 := (hclw ps[m].at_.toNat (by omega)).trans (ints_at _ _ hj)
        have F : Hid (Row ((wr.setCell ⟨bw, ps[m].at_.toNat, none⟩ (.int .i64 ps[m].val)).alloc (.cells #[.int .i64 ps[m].at_, .int .i64 ps[m].val, .bool ps[m].fl] 135)) 3 1 w1.heap.size w2.heap.size (.slice (some ⟨bw, 0, none⟩) ws.length cW2) ws.length (ints (layW ws (ps.take (m + 1))))) := by
          rw [take_snoc ps m hlt, layW_snoc, ← ints_set]
          exact (hrow.stored _ _).alloc (by simp; omega) _
        have G := hideIt ((hb.setCell (p := ⟨bw, ps[m].at_.toNat, none⟩) (by simp only; omega) (.int .i64 ps[m].val)).alloc (by simp; omega) (.cells #[.int .i64 ps[m].at_, .int .i64 ps[m].val, .bool ps[m].fl] 135))
        clear hrow hcell e0 e1 e2 hcw hfrw hclw
        go_wp2
        go_roundw
        case rel => exact ⟨m + 1, by omega, by go_num, F.out, G.out, by simp; omega⟩
        case measure => simp [intOf]; omega
      · have e : m = ps.length := by omega
        subst e
        have R := hideIt hrow
        clear hrow
        go_wp2
        go_ret2
        refine ⟨_, rfl, ?_, hb⟩
        have := R.out
        rw [List.take_length] at this
        rw [layW_len]
        exact this.wide (by omega) hz
  · have hc' : pmB ws ps = false := by simpa using hc
    clear hc
    obtain ⟨e1, e2⟩ := seen_not hc'
    rw [e1, e2]
    clear e1 e2
    go_enter Tryz.func100, Tryz.ntmps100
    go_wp2_with fail
    refine (implPmOK_any _ ws ps _ (HR.out.below hb0) hw hp).mono ?_
    rintro e w1 ⟨rfl, hb1⟩
    have B1 := hideIt (below_trans hb0 hb1 (by simp <;> omega))
    clear hb0 hb1
    go_wp2
    go_ret2
    exact ⟨_, rfl, Row.nil _ _ _ _ _, B1.out⟩
end Go.Proofs.YtgnfbiohjdepcaaGreatDoor
