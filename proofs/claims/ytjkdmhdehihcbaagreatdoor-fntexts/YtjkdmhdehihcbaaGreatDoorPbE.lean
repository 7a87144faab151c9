/- Paths split: by the program. -/
import Derived.Test.YtjkdmhdehihcbaaGreatDoorZAW
import Derived.Test.YtjkdmhdehihcbaaGreatDoorPbD
import Derived.Test.YtjkdmhdehihcbaaGreatDoorZAE
namespace Go.Proofs.YtjkdmhdehihcbaaGreatDoor
open Go.RowKit
def restP (s : ByteArray) : ByteArray := mkB (Lib.trimPrefix s.data.toList [47])
def aheadB (s : ByteArray) : Bool := Lib.hasPrefix s.data.toList [47]
theorem ahead_no {s : ByteArray} (h : aheadB s = false) : spN s = false := by
  unfold aheadB Lib.hasPrefix at h
  unfold spN
  cases hl : s.data.toList with
  | nil => rw [pcs_none hl]; rfl
  | cons c l =>
    have hc : ¬ c = 47 := fun e => by subst e; rw [hl] at h; simp [List.isPrefixOf] at h
    obtain ⟨x, r, e, hx⟩ := pcs_other hl hc
    rw [e]
    have : x.toList.isEmpty = false := by
      rw [Lib.toList_data]
      rw [Lib.size_eq] at hx
      cases h : x.data.toList with
      | nil => rw [h] at hx; exact absurd rfl hx
      | cons _ _ => rfl
    show (_ && (x.toList.isEmpty && _)) = false
    rw [this]; simp
theorem ahead_yes {s : ByteArray} (h : aheadB s = true) : spN s = (decide ((pcs (restP s)).length ≤ 6) && (pcs (restP s)).all nmB) ∧ (pcs s).drop 1 = pcs (restP s) := by
  unfold aheadB Lib.hasPrefix at h
  cases hl : s.data.toList with
  | nil => rw [hl] at h; simp [List.isPrefixOf] at h
  | cons c l =>
    have hc : c = 47 := by rw [hl] at h; simp [List.isPrefixOf] at h; exact h.symm
    subst hc
    have hr : restP s = mkB l := by unfold restP Lib.trimPrefix Lib.hasPrefix; rw [hl]; simp [List.isPrefixOf]
    have hp := pcs_slash hl
    have p1 := pcs_pos (restP s)
    unfold spN
    rw [hp, hr]
    rw [hr] at p1
    refine ⟨?_, rfl⟩
    have e1 : (mkB [] :: pcs (mkB l)).length = (pcs (mkB l)).length + 1 := rfl
    rw [e1]
    have e2 : decide (2 ≤ (pcs (mkB l)).length + 1 ∧ (pcs (mkB l)).length + 1 ≤ 7) = decide ((pcs (mkB l)).length ≤ 6) := by
      by_cases q : (pcs (mkB l)).length ≤ 6
      · rw [decide_eq_true q, decide_eq_true (by omega)]
      · rw [decide_eq_false q, decide_eq_false (by omega)]
    rw [e2]
    have e3 : ((mkB [] :: pcs (mkB l)).getD 0 ⟨#[]⟩).toList.isEmpty = true := by
      show (mkB []).toList.isEmpty = true
      rw [Lib.toList_data, mkB_data]
      rfl
    rw [e3]
    rfl
theorem rest_size (s : ByteArray) : (restP s).size ≤ s.size := by
  unfold restP
  rw [Lib.size_eq, mkB_data, Lib.size_eq]
  unfold Lib.trimPrefix
  split
  · rw [List.length_drop]; omega
  · exact Nat.le_refl _
set_option maxRecDepth 100000 in
set_option maxHeartbeats 4000000 in
theorem everyName_any (v : Value) (ss : List ByteArray) (w : World) (h : RdT w v ss) (hn : ss.length ≤ 1048576) (hs : ∀ k (h : k < ss.length), ss[k].size ≤ maxLen) :
    Calls Tryz.prog 98 #[v, .func (.func 99) #[] #[]] w fun e w' => e = .returned (.bool (ss.all nmB)) ∧ Below w.heap.size w w' := by
  obtain ⟨aP, cP, rfl, _, hcP⟩ := h.shape
  have HP := hideIt hcP
  have HS := hideIt hs
  have SF : Hid (∀ j (h : j < ss.length), nmB ss[j] = false → ss.all nmB = false) := fun j h q => by
    rw [List.all_eq_false]
    exact ⟨ss[j], List.getElem_mem _, by rw [q]; simp⟩
  have SA : Hid ((∀ j (h : j < ss.length), nmB ss[j] = true) → ss.all nmB = true) := fun h => by
    rw [List.all_eq_true]
    intro x hx
    obtain ⟨j, hj, rfl⟩ := List.getElem_of_mem hx
    exact h j hj
  clear h hcP hs
  go_enter Tryz.func98, Tryz.ntmps98
  go_wp2
  go_loopw [6, 9] (fun _ i wr => ∃ k : Nat, k ≤ ss.length ∧ i = .int .i64 k ∧ Hid (Below w.heap.size w wr ∧ ∀ j (h : j < ss.length), j < k → nmB ss[j] = true)) (fun _ i _ => ss.length - (intOf i).toNat)
  case atStart => exact ⟨0, by omega, rfl, Below.refl _ _, fun j h a => absurd a (by omega)⟩
  case round =>
    obtain ⟨k, hk, rfl, H⟩ := hrel
    have H1 := hideIt H.out.1
    have hz : w.heap.size ≤ wr.heap.size := H.out.1.size
    by_cases hlt : k < ss.length
    · obtain ⟨b, o, rfl, hbl, hcell⟩ := HP.out (by omega)
      have d0 := (H1.out.cell (p := ⟨b, o + k, none⟩) hbl).trans (hcell k hlt)
      have k0 : (0 : Int) ≤ (k : Int) := by omega
      have k1 : (k : Int) < (ss.length : Int) := by omega
      have LI := hideIt (fun w1 => isShortName_any ss[k] w1 (HS.out k hlt))
      have H2 : Hid (∀ j (h : j < ss.length), j < k → nmB ss[j] = true) := H.out.2
      clear hcell H
      cases q : nmB ss[k] with
      | true =>
        have H' : Hid (∀ j (h : j < ss.length), j < k + 1 → nmB ss[j] = true) := fun j h a => by
          by_cases e : j = k
          · subst e; exact q
          · exact H2.out j h (by omega)
        rw [q] at LI
        clear q H2
        generalize ss[k] = x at d0 LI
        go_wp2_with fail
        refine (LI.out _).mono ?_
        rintro e w1 ⟨rfl, hb1⟩
        have B3 := hideIt (below_trans H1.out hb1 H1.out.size)
        clear hb1 d0
        go_wp2
        go_roundw
        case rel => exact ⟨k + 1, by omega, by go_num, B3.out, H'.out⟩
        case measure => simp [intOf]; omega
      | false =>
        have E := hideIt (SF.out k hlt q)
        rw [q] at LI
        clear q H2
        generalize ss[k] = x at d0 LI
        go_wp2_with fail
        refine (LI.out _).mono ?_
        rintro e w1 ⟨rfl, hb1⟩
        have B3 := hideIt (below_trans H1.out hb1 H1.out.size)
        clear hb1 d0
        go_wp2
        go_ret
        exact ⟨ret_bool E.out.symm, B3.out⟩
    · have E := hideIt (SA.out (fun j h => H.out.2 j h (by omega)))
      clear H
      go_wp2
      go_ret
      exact ⟨ret_bool E.out.symm, H1.out⟩
theorem row_strs (w : World) (P : List ByteArray) (h : P.length ≤ 1048576) : Row (w.alloc (.cells (strs P).toArray 9)) 9 1 w.heap.size (w.alloc (.cells (strs P).toArray 9)).heap.size (.slice (some ⟨w.heap.size, 0, none⟩) P.length P.length) P.length (strs P) := by
  have := World.ownsRow_lit (e := 9) (size := 1) (base := w.heap.size) w (strs P).toArray P.length (Nat.le_refl _) (by simp [maxLen]; omega) (by simp [strs])
  exact own_block this
set_option maxRecDepth 100000 in
set_option maxHeartbeats 4000000 in
theorem implSplitPath_any (s : ByteArray) (w : World) :
    Calls Tryz.prog 140 #[.string s] w fun e w' => ∃ v', e = .returned (.tuple #[v', .int .i64 (spC s)]) ∧ Row w' 9 1 w.heap.size w'.heap.size v' (spR s).length (strs (spR s)) ∧ Below w.heap.size w w' := by
  by_cases c1 : 65536 < s.size
  · obtain ⟨E1, E2⟩ := sp_long c1
    rw [E1, E2]
    have c2 : (s.size : Int) > 65536 := by omega
    clear c1 E1 E2
    go_enter Tryz.func140, Tryz.ntmps140
    go_wp2
    go_ret2
    exact ⟨_, rfl, Row.nil _ _ _ _ _, Below.refl _ _⟩
  have c2 : ¬ (s.size : Int) > 65536 := by omega
  obtain ⟨X1, X2⟩ := sp_short c1
  cases c3 : slashB s with
  | true =>
    obtain ⟨E1, E2⟩ := sp_slash c3
    obtain ⟨E3, E4⟩ := X1 E1
    rw [E3, E4, E2]
    have c4 : (s.toList == [47]) = true := c3
    clear c1 c3 E1 E2 E3 E4 X1 X2
    go_enter Tryz.func140, Tryz.ntmps140
    go_wp2
    go_ret2
    exact ⟨_, rfl, Row.nil _ _ _ _ _, Below.refl _ _⟩
  | false =>
  have c4 : (s.toList == [47]) = false := c3
  have NO : Hid (spN s = false → spC s = 12 ∧ spR s = []) := fun h => X2 (sp_no c3 h).1
  have YES : Hid (spN s = true → spC s = 0 ∧ spR s = (pcs s).drop 1) := fun h => by
    obtain ⟨a, b⟩ := sp_yes c3 h
    obtain ⟨c, d⟩ := X1 a
    exact ⟨c, d.trans b⟩
  have LP : Hid (∀ w1 : World, Calls Tryz.prog 191 #[.string s, .string ⟨#[47]⟩] w1 fun e w' => e = .returned (.tuple #[.string (restP s), .bool (aheadB s)]) ∧ w' = w1) := fun w1 => cutPrefix_any s ⟨#[47]⟩ w1
  have RS := rest_size s
  have LS := hideIt (fun w1 => split_slash (restP s) w1 (by omega))
  have PL := pcs_len (restP s)
  have RW := hideIt (fun w1 => row_strs w1 (pcs (restP s)) (by omega))
  have LE := hideIt (fun v w1 h => everyName_any v (pcs (restP s)) w1 h (by omega) (fun k hk => by have := pcs_size (restP s) k hk; unfold maxLen; omega))
  have AN := hideIt (fun h => ahead_no (s := s) h)
  have AY := hideIt (fun h => ahead_yes (s := s) h)
  have BE := hideIt (fun w1 : World => (Below.refl w1.heap.size w1).alloc (Nat.le_refl _) (.cells (strs (pcs (restP s))).toArray 9))
  clear c1 c3 X1 X2
  generalize spC s = sc at *
  generalize spR s = sr at *
  generalize spN s = sn at *
  generalize (pcs s).drop 1 = P1 at *
  generalize hRS : restP s = R at *
  generalize aheadB s = ah at *
  generalize pcs R = P at *
  clear hRS
  cases ah with
  | false =>
    obtain ⟨e1, e2⟩ := NO.out (AN.out rfl)
    subst e1 e2
    clear NO YES AN AY LE RW
    go_enter Tryz.func140, Tryz.ntmps140
    go_wp2_with fail
    refine (LP.out _).mono ?_
    rintro e w1 ⟨rfl, hw1⟩
    subst w1
    go_wp2_with fail
    refine (LS.out _).mono ?_
    rintro e w1 ⟨rfl, hw1⟩
    have B1 := hideIt (BE.out w)
    rw [← hw1] at B1
    clear hw1
    go_wp2
    go_ret2
    exact ⟨_, rfl, Row.nil _ _ _ _ _, B1.out⟩
  | true =>
  obtain ⟨a1, a2⟩ := AY.out rfl
  have A1 := hideIt a1
  rw [a2] at YES
  clear a2 AY
  by_cases n1 : P.length ≤ 6
  case neg =>
    obtain ⟨e1, e2⟩ := NO.out (by rw [A1.out, decide_eq_false n1]; rfl)
    have n2 : (P.length : Int) > 6 := by omega
    subst e1 e2
    clear NO YES AN LE RW A1 a1
    go_enter Tryz.func140, Tryz.ntmps140
    go_wp2_with fail
    refine (LP.out _).mono ?_
    rintro e w1 ⟨rfl, hw1⟩
    subst w1
    go_wp2_with fail
    refine (LS.out _).mono ?_
    rintro e w1 ⟨rfl, hw1⟩
    have B1 := hideIt (BE.out w)
    rw [← hw1] at B1
    clear hw1
    go_wp2
    go_ret2
    exact ⟨_, rfl, Row.nil _ _ _ _ _, B1.out⟩
  have n2 : ¬ (P.length : Int) > 6 := by omega
  have A2 : Hid (sn = P.all nmB) := by unfold Hid; rw [A1.out, decide_eq_true n1]; rfl
  clear A1 a1
  cases c5 : P.all nmB with
  | false =>
    obtain ⟨e1, e2⟩ := NO.out (by rw [A2.out, c5])
    rw [c5] at LE
    subst e1 e2
    clear NO YES AN A2 c5
    go_enter Tryz.func140, Tryz.ntmps140
    go_wp2_with fail
    refine (LP.out _).mono ?_
    rintro e w1 ⟨rfl, hw1⟩
    subst w1
    go_wp2_with fail
    refine (LS.out _).mono ?_
    rintro e w1 ⟨rfl, hw1⟩
    have B1 := hideIt (BE.out w)
    have R1 := hideIt (RW.out w)
    rw [← hw1] at B1 R1
    clear hw1 RW BE
    go_wp2_with fail
    refine (LE.out _ _ R1.out.rd).mono ?_
    rintro e w2 ⟨rfl, hb2⟩
    have B2 := hideIt (below_trans B1.out hb2 B1.out.size)
    clear hb2
    go_wp2
    go_ret2
    exact ⟨_, rfl, Row.nil _ _ _ _ _, B2.out⟩
  | true =>
    obtain ⟨e1, e2⟩ := YES.out (by rw [A2.out, c5])
    rw [c5] at LE
    subst e1 e2
    clear NO YES AN A2 c5
    go_enter Tryz.func140, Tryz.ntmps140
    go_wp2_with fail
    refine (LP.out _).mono ?_
    rintro e w1 ⟨rfl, hw1⟩
    subst w1
    go_wp2_with fail
    refine (LS.out _).mono ?_
    rintro e w1 ⟨rfl, hw1⟩
    have B1 := hideIt (BE.out w)
    have R1 := hideIt (RW.out w)
    rw [← hw1] at B1 R1
    clear hw1 RW BE
    go_wp2_with fail
    refine (LE.out _ _ R1.out.rd).mono ?_
    rintro e w2 ⟨rfl, hb2⟩
    have B2 := hideIt (below_trans B1.out hb2 B1.out.size)
    have R2 := hideIt ((R1.out.below hb2 (Nat.le_refl _)).wide (Nat.le_refl _) hb2.size)
    clear hb2
    go_wp2
    go_ret2
    exact ⟨_, rfl, R2.out, B2.out⟩
set_option maxRecDepth 100000 in
set_option maxHeartbeats 4000000 in
theorem implPathOK_any (s : ByteArray) (w : World) :
    Calls Tryz.prog 104 #[.string s] w fun e w' => e = .returned (.bool (spC s == 0)) ∧ Below w.heap.size w w' := by
  have LS := hideIt (fun w1 => implSplitPath_any s w1)
  generalize spC s = sc at *
  go_enter Tryz.func104, Tryz.ntmps104
  go_wp2_with fail
  refine (LS.out _).mono ?_
  rintro e w1 ⟨v1, rfl, hr1, hb1⟩
  have B1 := hideIt hb1
  clear hr1 hb1
  go_wp2
  go_ret
  exact ⟨rfl, B1.out⟩
end Go.Proofs.YtjkdmhdehihcbaaGreatDoor
