/- Several texts laid together: JiG, JiH. -/
import Derived.Test.YtcilodgoognmnaaGreatDoorZBO
import Derived.Test.YtcilodgoognmnaaGreatDoorZBN
import Derived.Test.YtcilodgoognmnaaGreatDoorZAV
namespace Go.Proofs.YtcilodgoognmnaaGreatDoor
open Go.RowKit

/-- An update that is right. -/
def upB (s : Se) : Bool := decide ((48 ≤ s.at_ ∧ s.at_ < 336) ∧ 0 ≤ s.val ∧ s.val < 1099511627776)
/-- All updates are right. -/
def upsBB (ps : List Se) : Bool := decide (∀ k (h : k < ps.length), upB ps[k] = true)
theorem upsBB_mk {ps : List Se} (h : ∀ k (h : k < ps.length), upB ps[k] = true) : upsBB ps = true := decide_eq_true h
theorem upsBB_not {ps : List Se} {k : Nat} (hk : k < ps.length) (h : upB ps[k] = false) : upsBB ps = false := decide_eq_false (fun x => by have := x k hk; rw [h] at this; cases this)
theorem upsBB_eq (us : List Se) : upsBB us = upsB us := by
  unfold upsBB upsB
  rw [decide_eq_decide]
  exact ⟨fun h k hk => of_decide_eq_true (h k hk), fun h k hk => decide_eq_true (h k hk)⟩

set_option maxHeartbeats 2000000 in
theorem isUpdate_any (s : Se) (w : World) : Calls Tryz.prog 116 #[.agg #[.int .i64 s.at_, .int .i64 s.val]] w fun e w' => e = .returned (.bool (upB s)) ∧ Below w.heap.size w w' := by
  obtain ⟨a, x⟩ := s
  simp only
  have hb0 : Below w.heap.size w (w.alloc (.cells #[.int .i64 a, .int .i64 x] 130)) := (Below.refl _ _).alloc (Nat.le_refl _) _
  by_cases c1 : 48 ≤ a
  case neg =>
    have E := hideIt (show upB ⟨a, x⟩ = false from decide_eq_false (fun h => c1 h.1.1))
    go_enter Tryz.func116, Tryz.ntmps116
    go_wp2
    go_ret
    exact ⟨ret_bool E.out.symm, hb0⟩
  by_cases c2 : placeB a = true
  case neg =>
    have c2' : placeB a = false := by simpa using c2
    have E := hideIt (show upB ⟨a, x⟩ = false from decide_eq_false (fun h => c2 (decide_eq_true ⟨by omega, h.1.2⟩)))
    have C2 := hideIt c2'
    clear c2 c2'
    go_enter Tryz.func116, Tryz.ntmps116
    go_wp2_with (go_at_call 173; refine (isPlace_any _ _).mono ?_; rw [C2.out]; rintro e w' ⟨rfl, rfl⟩)
    go_ret
    exact ⟨ret_bool E.out.symm, hb0⟩
  have E := hideIt (show upB ⟨a, x⟩ = wordB x by
    unfold upB wordB
    rw [decide_eq_decide]
    have := placeB_true c2
    simp only
    omega)
  have C2 := hideIt c2
  clear c2
  go_enter Tryz.func116, Tryz.ntmps116
  go_wp2_with (first | (go_at_call 173; refine (isPlace_any _ _).mono ?_; rw [C2.out]; rintro e w' ⟨rfl, rfl⟩) | (go_at_call 53; refine (isWord_any _ _).mono ?_; rintro e w' ⟨rfl, rfl⟩))
  go_ret
  exact ⟨ret_bool E.out.symm, hb0⟩

set_option maxHeartbeats 4000000 in
theorem everyUpdate_any (v : Value) (ps : List Se) (w : World) (h : RdE w v ps) (hn : ps.length ≤ 1048576) :
    Calls Tryz.prog 115 #[v, .func (.func 116) #[] #[]] w fun e w' => e = .returned (.bool (upsBB ps)) ∧ Below w.heap.size w w' := by
  obtain ⟨aP, cP, rfl, _, hcP⟩ := h.shape
  clear h
  go_enter Tryz.func115, Tryz.ntmps115
  go_wp2
  go_loopw [6, 9] (fun _ i wr => ∃ k : Nat, k ≤ ps.length ∧ i = .int .i64 k ∧ Hid (∀ j (h : j < ps.length), j < k → upB ps[j] = true) ∧ Below w.heap.size w wr) (fun _ i _ => ps.length - (intOf i).toNat)
  case atStart => exact ⟨0, by omega, rfl, fun j h a => absurd a (by omega), Below.refl _ _⟩
  case round =>
    obtain ⟨m, hm, rfl, H, hbw⟩ := hrel
    have hz := hbw.size
    by_cases hlt2 : m < ps.length
    · obtain ⟨b2, o2, rfl, hbl2, hcell2⟩ := hcP (by omega)
      obtain ⟨d0, d1⟩ := hcell2 m hlt2
      have e0 := (hbw.cell (p := ⟨b2, o2 + m * 2, none⟩) hbl2).trans d0
      have e1 := (hbw.cell (p := ⟨b2, o2 + m * 2 + 1, none⟩) hbl2).trans d1
      have hb1 := hideIt (hbw.alloc hz (.cells #[.int .i64 ps[m].at_, .int .i64 ps[m].val] 130))
      clear d0 d1 hcell2 hcP
      by_cases q : upB ps[m] = true
      · have Q := hideIt q
        clear q
        go_wp2_with (go_at_call 116; refine (isUpdate_any ps[m] _).mono ?_; rw [Q.out]; rintro e w' ⟨rfl, hw'⟩)
        have hw2 := hb1.out.trans (hw'.mono (by simp; omega))
        clear hb1 hw'
        go_roundw
        case rel =>
          refine ⟨m + 1, by omega, by go_num, fun j h a => ?_, hw2⟩
          by_cases e : j = m
          · subst e; exact Q.out
          · exact H.out j h (by omega)
        case measure => simp [intOf]; omega
      · have Q := hideIt (show upB ps[m] = false by simpa using q)
        have E := hideIt (upsBB_not hlt2 Q.out)
        clear q
        go_wp2_with (go_at_call 116; refine (isUpdate_any ps[m] _).mono ?_; rw [Q.out]; rintro e w' ⟨rfl, hw'⟩)
        have hw2 := hb1.out.trans (hw'.mono (by simp; omega))
        go_ret
        exact ⟨ret_bool E.out.symm, hw2⟩
    · have E := hideIt (upsBB_mk (fun j h => H.out j h (by omega)))
      go_wp2
      go_ret
      exact ⟨ret_bool E.out.symm, hbw⟩

theorem journalPlace_any (i : Nat) (w : World) (hi : i ≤ 1048576) : Calls Tryz.prog 212 #[.int .i64 (i : Int)] w fun e w' => e = .returned (.int .i64 (9 + 2 * (i : Int))) ∧ w' = w := by
  go_enter Tryz.func212, Tryz.ntmps212
  go_wp2
  go_ret
  exact ⟨rfl, rfl⟩

theorem inJournal_any (i : Nat) (a x : Int) (w : World) (hi : i ≤ 1048576) : Calls Tryz.prog 175 #[.int .i64 (i : Int), .agg #[.int .i64 a, .int .i64 x]] w fun e w' => ∃ v', e = .returned v' ∧ RdM w' v' [⟨1, 9 + 2 * (i : Int), a⟩, ⟨1, 9 + 2 * (i : Int) + 1, x⟩] ∧ Below w.heap.size w w' := by
  have R := hideIt (rd_mic2 (w.alloc (.cells #[.int .i64 a, .int .i64 x] 130)) 1 (9 + 2 * (i : Int)) a 1 (9 + 2 * (i : Int) + 1) x)
  have B : Hid (Below w.heap.size w ((w.alloc (.cells #[.int .i64 a, .int .i64 x] 130)).alloc (.cells #[.int .i64 1, .int .i64 (9 + 2 * (i : Int)), .int .i64 a, .int .i64 1, .int .i64 (9 + 2 * (i : Int) + 1), .int .i64 x] 118))) := ((Below.refl _ _).alloc (Nat.le_refl _) _).alloc (by simp) _
  go_enter Tryz.func175, Tryz.ntmps175
  go_wp2_with (go_at_call 212; refine (journalPlace_any _ _ hi).mono ?_; rintro e w' ⟨rfl, rfl⟩)
  go_ret
  exact ⟨_, rfl, by unfold RdM; simpa using R.out, B.out⟩

theorem inPlace_any (i : Nat) (a x : Int) (w : World) : Calls Tryz.prog 177 #[.int .i64 (i : Int), .agg #[.int .i64 a, .int .i64 x]] w fun e w' => ∃ v', e = .returned v' ∧ RdM w' v' [⟨1, a, x⟩] ∧ Below w.heap.size w w' := by
  have R := hideIt (rd_mic (w.alloc (.cells #[.int .i64 a, .int .i64 x] 130)) 1 a x)
  have B : Hid (Below w.heap.size w ((w.alloc (.cells #[.int .i64 a, .int .i64 x] 130)).alloc (.cells #[.int .i64 1, .int .i64 a, .int .i64 x] 118))) := ((Below.refl _ _).alloc (Nat.le_refl _) _).alloc (by simp) _
  go_enter Tryz.func177, Tryz.ntmps177
  go_wp2
  go_ret
  exact ⟨_, rfl, by unfold RdM; rw [mis_one_]; simpa using R.out, B.out⟩

theorem countStore_any (n : Int) (w : World) : Calls Tryz.prog 176 #[.int .i64 n] w fun e w' => ∃ v', e = .returned v' ∧ RdM w' v' [⟨1, 8, n⟩] ∧ Below w.heap.size w w' := by
  have R := hideIt (rd_mic w 1 8 n)
  have B : Hid (Below w.heap.size w (w.alloc (.cells #[.int .i64 1, .int .i64 8, .int .i64 n] 118))) := (Below.refl _ _).alloc (Nat.le_refl _) _
  go_enter Tryz.func176, Tryz.ntmps176
  go_wp2
  go_ret
  exact ⟨_, rfl, by unfold RdM; rw [mis_one_]; simpa using R.out, B.out⟩

theorem World.ownsRow.below {w w' : World} {base : Nat} {e : TypeId} {size : Nat} {v : Value} {n : Nat} {xs : List Value} (h : w.ownsRow base e size v n xs) (hb : Below w.heap.size w w') : w'.ownsRow base e size v n xs := by
  obtain ⟨hl, h⟩ := h
  refine ⟨hl, ?_⟩
  rcases h with h | ⟨g, cap, cur, h1, h2, h3, h4⟩
  · exact .inl h
  · exact .inr ⟨g, cap, cur, h1, h2, (hb.block g (Array.getElem?_eq_some_iff.1 h3).1).trans h3, h4⟩

set_option maxRecDepth 100000 in
set_option maxHeartbeats 4000000 in
theorem storesOf_J (v : Value) (us : List Se) (w : World) (h : RdE w v us) (hn : us.length ≤ 64) :
    Calls Tryz.prog 174 #[v, .func (.func 175) #[] #[]] w fun e w' => ∃ v', e = .returned v' ∧ Row w' 118 3 w.heap.size w'.heap.size v' (jlM us us.length).length (mis (jlM us us.length)) ∧ Below w.heap.size w w' := by
  obtain ⟨aU, cU, rfl, _, hcU⟩ := h.shape
  have HU := hideIt hcU
  clear h hcU
  go_enter Tryz.func174, Tryz.ntmps174
  go_wp2
  go_loopw [5, 6, 7, 10] (fun vL _ _ i wr => ∃ m : Nat, m ≤ us.length ∧ i = .int .i64 m ∧ Hid (wr.ownsRow w.heap.size 118 3 vL (jlM us m).length (mis (jlM us m)) ∧ Below w.heap.size w wr) ∧ w.heap.size ≤ wr.heap.size) (fun _ _ _ i _ => us.length - (intOf i).toNat)
  case atStart => exact ⟨0, by omega, rfl, ⟨World.ownsRow_nil _ _ _ _, Below.refl _ _⟩, Nat.le_refl _⟩
  case round =>
    obtain ⟨m, hm, rfl, I, hz⟩ := hrel
    by_cases hlt : m < us.length
    · obtain ⟨b, o, rfl, hbl, hcell⟩ := HU.out (by omega)
      obtain ⟨d0, d1⟩ := hcell m hlt
      have e0 := (I.out.2.cell (p := ⟨b, o + m * 2, none⟩) hbl).trans d0
      have e1 := (I.out.2.cell (p := ⟨b, o + m * 2 + 1, none⟩) hbl).trans d1
      have m0 : (0 : Int) ≤ (m : Int) := by omega
      have m1 : (m : Int) < (us.length : Int) := by omega
      have NX := hideIt (jlM_succ us m hlt)
      have hle := jlM_len us m
      clear d0 d1 hcell
      generalize us[m].at_ = a at *
      generalize us[m].val = x at *
      obtain ⟨wb, hwb⟩ : ∃ wb : World, wb = wr.alloc (.cells #[.int .i64 a, .int .i64 x] 130) := ⟨_, rfl⟩
      have BB : Hid (Below wr.heap.size wr wb) := by rw [hwb]; exact (Below.refl _ _).alloc (Nat.le_refl _) _
      have hzb : wr.heap.size ≤ wb.heap.size := BB.out.size
      have OB : Hid (wb.ownsRow w.heap.size 118 3 u5 (jlM us m).length (mis (jlM us m))) := by rw [hwb]; exact I.out.1.alloc _
      go_wp2_with (first
        | (go_at_call 175; rw [← hwb]; refine (inJournal_any m a x wb (by omega)).mono ?_; rintro e w1 ⟨v1, rfl, hr1, hb1⟩; have O1 := hideIt (World.ownsRow.below OB.out hb1); have R1 := hideIt hr1; have B1 := hideIt hb1; have hz1 : wb.heap.size ≤ w1.heap.size := hb1.size; obtain ⟨a1, c1, rfl, -, -⟩ := hr1.shape; clear hr1 hb1)
        | (at_builtin; refine wpList_append_rd _ rfl (.tmp 15) (.tmp 19) 45 rfl w.heap.size 118 (.agg #[.int .i64 0, .int .i64 0, .int .i64 0]) 3 24 Tryz.underlying45 infoMic rfl (by decide) _ _ _ rfl O1.out _ 2 _ rfl R1.out (mis_one _) (by simp [maxLen]; omega) (by omega) (by omega) ?_))
      intro vN wN hownN hgrN
      have hl := fun q hq => (O1.out.lt q hq).1
      have hzN := hgrN.size
      have G : Hid (wN.ownsRow w.heap.size 118 3 vN (jlM us (m + 1)).length (mis (jlM us (m + 1))) ∧ Below w.heap.size w wN) := by
        refine ⟨?_, ((I.out.2.trans (BB.out.mono hz)).trans (B1.out.mono (by omega))).grown hgrN (by omega) (fun q hq => hl q hq)⟩
        rw [NX.out, mis_append, List.length_append]
        exact hownN
      clear hownN hgrN hl
      go_wp2
      go_roundw
      case rel => exact ⟨m + 1, by omega, by go_num, G, by omega⟩
      case measure => simp [intOf]; omega
    · obtain rfl : m = us.length := by omega
      obtain ⟨aL, cL, hvL⟩ := RdM.form (own_block I.out.1).rd rfl
      subst hvL
      go_wp2
      go_ret
      exact ⟨_, rfl, own_block I.out.1, I.out.2⟩

set_option maxRecDepth 100000 in
set_option maxHeartbeats 4000000 in
theorem storesOf_P (v : Value) (us : List Se) (w : World) (h : RdE w v us) (hn : us.length ≤ 64) :
    Calls Tryz.prog 174 #[v, .func (.func 177) #[] #[]] w fun e w' => ∃ v', e = .returned v' ∧ Row w' 118 3 w.heap.size w'.heap.size v' (apM us us.length).length (mis (apM us us.length)) ∧ Below w.heap.size w w' := by
  obtain ⟨aU, cU, rfl, _, hcU⟩ := h.shape
  have HU := hideIt hcU
  clear h hcU
  go_enter Tryz.func174, Tryz.ntmps174
  go_wp2
  go_loopw [5, 6, 7, 10] (fun vL _ _ i wr => ∃ m : Nat, m ≤ us.length ∧ i = .int .i64 m ∧ Hid (wr.ownsRow w.heap.size 118 3 vL (apM us m).length (mis (apM us m)) ∧ Below w.heap.size w wr) ∧ w.heap.size ≤ wr.heap.size) (fun _ _ _ i _ => us.length - (intOf i).toNat)
  case atStart => exact ⟨0, by omega, rfl, ⟨World.ownsRow_nil _ _ _ _, Below.refl _ _⟩, Nat.le_refl _⟩
  case round =>
    obtain ⟨m, hm, rfl, I, hz⟩ := hrel
    by_cases hlt : m < us.length
    · obtain ⟨b, o, rfl, hbl, hcell⟩ := HU.out (by omega)
      obtain ⟨d0, d1⟩ := hcell m hlt
      have e0 := (I.out.2.cell (p := ⟨b, o + m * 2, none⟩) hbl).trans d0
      have e1 := (I.out.2.cell (p := ⟨b, o + m * 2 + 1, none⟩) hbl).trans d1
      have m0 : (0 : Int) ≤ (m : Int) := by omega
      have m1 : (m : Int) < (us.length : Int) := by omega
      have NX := hideIt (apM_succ us m hlt)
      have hle := apM_len us m
      clear d0 d1 hcell
      generalize us[m].at_ = a at *
      generalize us[m].val = x at *
      obtain ⟨wb, hwb⟩ : ∃ wb : World, wb = wr.alloc (.cells #[.int .i64 a, .int .i64 x] 130) := ⟨_, rfl⟩
      have BB : Hid (Below wr.heap.size wr wb) := by rw [hwb]; exact (Below.refl _ _).alloc (Nat.le_refl _) _
      have hzb : wr.heap.size ≤ wb.heap.size := BB.out.size
      have OB : Hid (wb.ownsRow w.heap.size 118 3 u5 (apM us m).length (mis (apM us m))) := by rw [hwb]; exact I.out.1.alloc _
      go_wp2_with (first
        | (go_at_call 177; rw [← hwb]; refine (inPlace_any m a x wb).mono ?_; rintro e w1 ⟨v1, rfl, hr1, hb1⟩; have O1 := hideIt (World.ownsRow.below OB.out hb1); have R1 := hideIt hr1; have B1 := hideIt hb1; have hz1 : wb.heap.size ≤ w1.heap.size := hb1.size; obtain ⟨a1, c1, rfl, -, -⟩ := hr1.shape; clear hr1 hb1)
        | (at_builtin; refine wpList_append_rd _ rfl (.tmp 15) (.tmp 19) 45 rfl w.heap.size 118 (.agg #[.int .i64 0, .int .i64 0, .int .i64 0]) 3 24 Tryz.underlying45 infoMic rfl (by decide) _ _ _ rfl O1.out _ 1 _ rfl R1.out (mis_one _) (by simp [maxLen]; omega) (by omega) (by omega) ?_))
      intro vN wN hownN hgrN
      have hl := fun q hq => (O1.out.lt q hq).1
      have hzN := hgrN.size
      have G : Hid (wN.ownsRow w.heap.size 118 3 vN (apM us (m + 1)).length (mis (apM us (m + 1))) ∧ Below w.heap.size w wN) := by
        refine ⟨?_, ((I.out.2.trans (BB.out.mono hz)).trans (B1.out.mono (by omega))).grown hgrN (by omega) (fun q hq => hl q hq)⟩
        rw [NX.out, mis_append, List.length_append]
        exact hownN
      clear hownN hgrN hl
      go_wp2
      go_roundw
      case rel => exact ⟨m + 1, by omega, by go_num, G, by omega⟩
      case measure => simp [intOf]; omega
    · obtain rfl : m = us.length := by omega
      obtain ⟨aL, cL, hvL⟩ := RdM.form (own_block I.out.1).rd rfl
      subst hvL
      go_wp2
      go_ret
      exact ⟨_, rfl, own_block I.out.1, I.out.2⟩
end Go.Proofs.YtcilodgoognmnaaGreatDoor

namespace Go.Proofs.YtcilodgoognmnaaGreatDoor
open Go.RowKit

/-- The places of steps. -/
def atsM (S : List Mi) (j : Nat) : List Int := (S.take j).map (·.at_)
def atsA (S : List Mi) : List Int := S.map (·.at_)
theorem atsM_len (S : List Mi) (j : Nat) : (atsM S j).length ≤ j := by simp [atsM]; omega
theorem atsM_succ (S : List Mi) (j : Nat) (h : j < S.length) : atsM S (j + 1) = atsM S j ++ [S[j].at_] := by unfold atsM; rw [List.take_succ_eq_append_getElem h, List.map_append]; rfl
theorem atsM_all (S : List Mi) (j : Nat) (h : S.length ≤ j) : atsM S j = atsA S := by unfold atsM atsA; rw [List.take_of_length_le h]
theorem atsA_len (S : List Mi) : (atsA S).length = S.length := by simp [atsA]
/-- A part: its steps, their lines flushed, a fence. -/
def segM (S : List Mi) : List Mi := S ++ flushL (atsA S)
def sureL : List (List Mi) → Nat → List Mi
  | [], _ => []
  | _ :: _, 0 => []
  | P :: Ps, k + 1 => segM P ++ sureL Ps k
theorem sureL_zero (Ps : List (List Mi)) : sureL Ps 0 = [] := by cases Ps <;> rfl
theorem sureL_succ : ∀ (Ps : List (List Mi)) (k : Nat) (h : k < Ps.length), sureL Ps (k + 1) = sureL Ps k ++ Ps[k] ++ flushL (atsA Ps[k])
  | [], k, h => absurd h (by simp)
  | P :: Ps, 0, h => by simp [sureL, sureL_zero, segM]
  | P :: Ps, k + 1, h => by
      have := sureL_succ Ps k (by simpa using h)
      simp only [sureL, List.getElem_cons_succ]
      rw [this]
      simp
/-- A part that can be planned. -/
def PartOK (S : List Mi) : Prop := S.length ≤ 50 ∧ ∀ k (h : k < S.length), 0 ≤ S[k].at_ ∧ S[k].at_ < 336
theorem part_fp {S : List Mi} (h : PartOK S) : flC (atsA S) = 0 ∧ fpL (atsA S) = flushL (atsA S) := by
  have hl : (atsA S).length = S.length := atsA_len S
  rcases fp_cases (atsA S) with ⟨c, _⟩ | ⟨_, c, _⟩ | ⟨_, _, c, _⟩ | ⟨_, _, _, c⟩
  · have := h.1; omega
  · have := h.1; omega
  · have : allP (atsA S) = true := decide_eq_true (fun k hk => by simp only [atsA, List.getElem_map]; exact h.2 k (by omega))
    rw [this] at c; cases c
  · exact c
theorem sureL_len : ∀ (Ps : List (List Mi)) (k : Nat), (∀ P ∈ Ps, P.length ≤ 50) → (sureL Ps k).length ≤ 102 * k
  | [], k, _ => by simp [sureL]
  | _ :: _, 0, _ => by simp [sureL]
  | P :: Ps, k + 1, h => by
      have h1 := sureL_len Ps k (fun Q hQ => h Q (List.mem_cons_of_mem _ hQ))
      have h2 := h P List.mem_cons_self
      have h3 := flushL_len (atsA P)
      simp only [sureL, segM, List.length_append]
      rw [atsA_len] at h3
      omega
theorem rd_grown {a b : World} {size : Nat} {v r : Value} {n : Nat} {xs : List Value} (h : Rd a size v n xs) (hg : a.grownBy b r.ownBlock) (hne : ∀ q, v.ownBlock = some q → r.ownBlock = some q → False) : Rd b size v n xs :=
  h.same hg.size (fun q hq e => hg.block q hq (fun e' => hne q e e'.symm))
set_option maxRecDepth 100000 in
set_option maxHeartbeats 8000000 in
theorem surePlan_any (b o cap : Nat) (Ps : List (List Mi)) (w : World) (hb : b < w.heap.size) (hn : Ps.length ≤ 1000)
    (hP : ∀ k (h : k < Ps.length), ∃ a c, w.cell? ⟨b, o + k, none⟩ = some (.slice a Ps[k].length c) ∧ RdM w (.slice a Ps[k].length c) Ps[k]) (hok : ∀ k (h : k < Ps.length), PartOK Ps[k]) :
    Calls Tryz.prog 121 #[.slice (some ⟨b, o, none⟩) Ps.length cap] w fun e w' => ∃ v', e = .returned v' ∧ Row w' 118 3 w.heap.size w'.heap.size v' (sureL Ps Ps.length).length (mis (sureL Ps Ps.length)) ∧ Below w.heap.size w w' := by
  have HP := hideIt hP
  have OK := hideIt hok
  have LE := hideIt (fun k => sureL_len Ps k (fun P hP => by obtain ⟨i, hi, rfl⟩ := List.getElem_of_mem hP; exact (hok i hi).1))
  clear hP hok
  go_enter Tryz.func121, Tryz.ntmps121
  go_wp2
  go_loopw [3, 5, 6, 8, 9, 10, 13] (fun vL _ _ _ _ _ i wr => ∃ k : Nat, k ≤ Ps.length ∧ i = .int .i64 k ∧ Hid (wr.ownsRow w.heap.size 118 3 vL (sureL Ps k).length (mis (sureL Ps k)) ∧ Below w.heap.size w wr) ∧ w.heap.size ≤ wr.heap.size) (fun _ _ _ _ _ _ i _ => Ps.length - (intOf i).toNat)
  case atStart => exact ⟨0, by omega, rfl, ⟨by rw [sureL_zero]; exact World.ownsRow_nil _ _ _ _, Below.refl _ _⟩, Nat.le_refl _⟩
  case round =>
    obtain ⟨k, hk, rfl, I, hz⟩ := hrel
    by_cases hlt : k < Ps.length
    · obtain ⟨aS, cS, hcell, hrd⟩ := HP.out k hlt
      have d0 := (I.out.2.cell (p := ⟨b, o + k, none⟩) hb).trans hcell
      have RS := hideIt hrd
      have PO := hideIt (OK.out k hlt)
      have NX := hideIt (sureL_succ Ps k hlt)
      have hle := LE.out k
      have hsl : Ps[k].length ≤ 50 := PO.out.1
      have k0 : (0 : Int) ≤ (k : Int) := by omega
      have k1 : (k : Int) < (Ps.length : Int) := by omega
      obtain ⟨aS', cS', e', -, hcS⟩ := hrd.shape
      cases e'
      have CS := hideIt hcS
      clear hcell hrd hcS
      generalize Ps[k] = S at *
      have J0 : Hid (PlI w wr u3 (.slice none 0 0) (sureL Ps k) (atsM S 0)) := ⟨I.out.1, World.ownsRow_nil _ _ _ _, I.out.2, hz⟩
      go_wp2
      go_loopw [6, 8, 19] (fun vP _ i wq => ∃ j : Nat, j ≤ S.length ∧ i = .int .i64 j ∧ Hid (PlI w wq u3 vP (sureL Ps k) (atsM S j))) (fun _ _ i _ => S.length - (intOf i).toNat)
      case atStart => exact ⟨0, by omega, rfl, J0⟩
      case round =>
        obtain ⟨j, hj, rfl, J⟩ := hrel
        clear J0
        have hzq := J.out.z
        have hpl := atsM_len S j
        by_cases hlj : j < S.length
        · obtain ⟨bS, oS, rfl, hbS, hcS⟩ := CS.out (by omega)
          obtain ⟨g0, g1, g2⟩ := hcS j hlj
          have e0 := (J.out.b.cell (p := ⟨bS, oS + j * 3, none⟩) hbS).trans g0
          have e1 := (J.out.b.cell (p := ⟨bS, oS + j * 3 + 1, none⟩) hbS).trans g1
          have e2 := (J.out.b.cell (p := ⟨bS, oS + j * 3 + 2, none⟩) hbS).trans g2
          have TN := hideIt (atsM_succ S j hlj)
          have j0 : (0 : Int) ≤ (j : Int) := by omega
          have j1 : (j : Int) < (S.length : Int) := by omega
          clear g0 g1 g2 hcS
          generalize S[j].kind = mk at *
          generalize S[j].at_ = ma at *
          generalize S[j].val = mv at *
          have J1 := hideIt (J.out.below ((Below.refl wr.heap.size wr).alloc (Nat.le_refl _) (.cells #[.int .i64 mk, .int .i64 ma, .int .i64 mv] 118)))
          have J2 := hideIt (J1.out.below ((Below.refl _ _).alloc (Nat.le_refl _) (.cells #[.int .i64 ma] 3)))
          have RD := hideIt (rd_oneJ (wr.alloc (.cells #[.int .i64 mk, .int .i64 ma, .int .i64 mv] 118)) ma)
          have RD' : RdI ((wr.alloc (.cells #[.int .i64 mk, .int .i64 ma, .int .i64 mv] 118)).alloc (.cells #[.int .i64 ma] 3)) (.slice (some ⟨wr.heap.size + 1, 0, none⟩) 1 1) [ma] := by simpa using RD.out
          have RD' := hideIt RD'
          clear RD J1
          go_wp2_with (at_builtin; refine wpList_append_rd _ rfl (.tmp 23) (.tmp 26) 22 rfl w.heap.size 3 (.int .i64 0) 1 8 Tryz.underlying22 info3 rfl (by decide) _ _ _ rfl J2.out.p _ 1 _ rfl RD'.out (ints_one _) (by simp [maxLen]; omega) (by omega) (by simp; omega) ?_)
          intro vN wN hownN hgrN
          have G := hideIt (J2.out.growP [ma] hownN hgrN)
          clear hownN hgrN J2 RD'
          go_wp2
          go_roundw
          case rel => exact ⟨j + 1, by omega, by go_num, by rw [TN.out]; exact G⟩
          case measure => simp [intOf]; omega
        · have ej := atsM_all S j (by omega)
          rw [ej] at J
          have FP := hideIt (part_fp PO.out)
          have hfl := flushL_len (atsA S)
          have hml : (atsA S).length ≤ 50 := by rw [atsA_len]; exact hsl
          obtain ⟨aP, cP, hvP⟩ := RdI.form (own_block J.out.p).rd rfl
          subst hvP
          have RSr := hideIt (Rd.below RS.out J.out.b)
          clear ej
          go_wp2_with fail
          refine (implFlushPlan_any _ (atsA S) _ (own_block J.out.p).rd (by omega)).mono ?_
          rw [FP.out.1, FP.out.2]
          rintro e w1 ⟨v1, rfl, hr1, hb1⟩
          have J1 := hideIt (J.out.below hb1)
          have R1 := hideIt hr1
          have RS1 := hideIt (Rd.below RSr.out hb1)
          obtain ⟨a1, c1, rfl⟩ := RdM.form hr1.rd rfl
          have hz1 : wr.heap.size ≤ w1.heap.size := hb1.size
          clear hr1 hb1
          go_wp2_with (at_builtin; refine wpList_append_rd _ rfl (.tmp 34) (.tmp 35) 45 rfl w.heap.size 118 (.agg #[.int .i64 0, .int .i64 0, .int .i64 0]) 3 24 Tryz.underlying45 infoMic rfl (by decide) _ (sureL Ps k).length (mis (sureL Ps k)) rfl J1.out.l _ S.length (mis S) rfl RS1.out (mis_one _) (by simp [maxLen]; omega) (by omega) (by omega) ?_)
          intro vA wA hownA hgrA
          have JA := hideIt (J1.out.growL S hownA hgrA)
          have RA := hideIt (rd_grown R1.out.rd hgrA (fun q e1 e2 => by have h1 := (R1.out.1.lt q e1).1; have h2 := (own_block J.out.l).2 q e2; omega))
          obtain ⟨aA, cA, hvA⟩ := RdM.form (own_block JA.out.l).rd (n := (sureL Ps k).length + S.length) (by simp)
          subst hvA
          have OA : Hid (wA.ownsRow w.heap.size 118 3 (.slice aA ((sureL Ps k).length + S.length) cA) ((sureL Ps k).length + S.length) (mis (sureL Ps k ++ S))) := by have := JA.out.l; rw [List.length_append] at this; exact this
          clear hownA hgrA
          go_wp2_with (at_builtin; refine wpList_append_rd _ rfl (.tmp 37) (.tmp 38) 45 rfl w.heap.size 118 (.agg #[.int .i64 0, .int .i64 0, .int .i64 0]) 3 24 Tryz.underlying45 infoMic rfl (by decide) _ ((sureL Ps k).length + S.length) (mis (sureL Ps k ++ S)) rfl OA.out _ (flushL (atsA S)).length (mis (flushL (atsA S))) rfl RA.out (mis_one _) (by simp [maxLen]; omega) (by omega) (by have := JA.out.z; omega) ?_)
          intro vB wB hownB hgrB
          have JB := hideIt (JA.out.growL (flushL (atsA S)) (by rw [List.length_append]; exact hownB) hgrB)
          clear hownB hgrB
          go_wp2
          go_roundw
          case rel => exact ⟨k + 1, by omega, by go_num, ⟨by rw [NX.out]; exact JB.out.l, JB.out.b⟩, JB.out.z⟩
          case measure => simp [intOf]; omega
    · obtain rfl : k = Ps.length := by omega
      obtain ⟨aL, cL, hvL⟩ := RdM.form (own_block I.out.1).rd rfl
      subst hvL
      go_wp2
      go_ret
      exact ⟨_, rfl, own_block I.out.1, I.out.2⟩
end Go.Proofs.YtcilodgoognmnaaGreatDoor
