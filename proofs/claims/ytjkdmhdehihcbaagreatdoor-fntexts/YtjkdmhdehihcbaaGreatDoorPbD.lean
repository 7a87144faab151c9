/- Paths split: by the model. -/
import Derived.Test.YtjkdmhdehihcbaaGreatDoorZAG
namespace Go.Proofs.YtjkdmhdehihcbaaGreatDoor
open Go.RowKit
def slashB (s : ByteArray) : Bool := s.toList == [47]
def spN (s : ByteArray) : Bool := decide (2 ≤ (pcs s).length ∧ (pcs s).length ≤ 7) && (((pcs s).getD 0 ⟨#[]⟩).toList.isEmpty && ((pcs s).drop 1).all nmB)
def spB (s : ByteArray) : Bool := slashB s || spN s
def spL (s : ByteArray) : List ByteArray := if slashB s = true then [] else if spN s = true then (pcs s).drop 1 else []
theorem sp_slash {s : ByteArray} (h : slashB s = true) : spB s = true ∧ spL s = [] := by
  unfold spB spL
  rw [h]
  exact ⟨rfl, if_pos rfl⟩
theorem sp_no {s : ByteArray} (h : slashB s = false) (h2 : spN s = false) : spB s = false ∧ spL s = [] := by
  unfold spB spL
  rw [h, h2]
  exact ⟨rfl, rfl⟩
theorem sp_yes {s : ByteArray} (h : slashB s = false) (h2 : spN s = true) : spB s = true ∧ spL s = (pcs s).drop 1 := by
  unfold spB spL
  rw [h, h2]
  exact ⟨rfl, rfl⟩
theorem rdt_lit (w : World) (a : Addr) : RdT w (.slice (some a) 0 0) [] := ⟨rfl, some a, 0, rfl, ⟨Nat.le_refl _, fun e => by cases e⟩, fun h => absurd h (by simp)⟩
set_option maxRecDepth 100000 in
set_option maxHeartbeats 4000000 in
theorem l06Split_any (s : ByteArray) (w : World) (hs : s.size ≤ 65536) :
    Calls Tryz.prog 65 #[.string s] w fun e w' => ∃ v', e = .returned (.tuple #[v', .bool (spB s)]) ∧ RdT w' v' (spL s) ∧ Below w.heap.size w w' := by
  have LC := hideIt (fun w1 => l00Cut_any s w1 hs)
  have BE := hideIt (fun w1 : World => (Below.refl w1.heap.size w1).alloc (Nat.le_refl _) (.cells #[] 9))
  cases c1 : slashB s with
  | true =>
    obtain ⟨E1, E2⟩ := sp_slash c1
    rw [E1, E2]
    have c2 : (s.toList == [47]) = true := c1
    clear c1 E1 E2
    go_enter Tryz.func65, Tryz.ntmps65
    go_wp2
    go_ret2
    exact ⟨_, rfl, rdt_lit _ _, BE.out _⟩
  | false =>
    have c2 : (s.toList == [47]) = false := c1
    have NO := hideIt (fun h => sp_no c1 h)
    have YES := hideIt (fun h => sp_yes c1 h)
    have PL := pcs_len s
    have PP := pcs_pos s
    have PS := hideIt (pcs_size s)
    have SN := hideIt (show spN s = (decide (2 ≤ (pcs s).length ∧ (pcs s).length ≤ 7) && (((pcs s).getD 0 ⟨#[]⟩).toList.isEmpty && ((pcs s).drop 1).all nmB)) from rfl)
    clear c1
    generalize spB s = sb at *
    generalize spL s = sl at *
    generalize spN s = sn at *
    generalize pcs s = P at *
    have hp0 : 0 < P.length := by omega
    have SA : Hid ((∀ j (h : j < P.length), 1 ≤ j → nmB P[j] = true) → (P.drop 1).all nmB = true) := fun h => by
      rw [List.all_eq_true]
      intro x hx
      obtain ⟨j, hj, rfl⟩ := List.getElem_of_mem hx
      rw [List.length_drop] at hj
      rw [List.getElem_drop]
      exact h (1 + j) (by omega) (by omega)
    have SF : Hid (∀ j (h : j < P.length), 1 ≤ j → nmB P[j] = false → (P.drop 1).all nmB = false) := fun j h h1 q => by
      rw [List.all_eq_false]
      refine ⟨P[j], ?_, by rw [q]; simp⟩
      have e : P[j] = (P.drop 1)[j - 1]'(by rw [List.length_drop]; omega) := by rw [List.getElem_drop]; congr 1; omega
      rw [e]
      exact List.getElem_mem _
    have S0 : Hid (P.getD 0 ⟨#[]⟩ = P[0]) := by unfold Hid; rw [List.getD_eq_getElem?_getD, List.getElem?_eq_getElem hp0]; rfl
    go_enter Tryz.func65, Tryz.ntmps65
    go_wp2_with fail
    refine (LC.out _).mono ?_
    rintro e w1 ⟨v1, rfl, hr1, hb1⟩
    have R1 : Hid (RdT w1 v1 P) := hr1.rd
    obtain ⟨aP, cP, rfl, hcap, hcP⟩ := R1.out.shape
    obtain ⟨b, o, rfl, hbl, hcell⟩ := hcP hp0
    have HC := hideIt hcell
    have B1 := hideIt hb1
    have c0 := hcell 0 hp0
    rw [Nat.add_zero] at c0
    clear hr1 hb1 hcP hcell LC
    by_cases n1 : P.length < 2
    · have E : Hid (sn = false) := by unfold Hid; rw [SN.out, decide_eq_false (by omega)]; rfl
      obtain ⟨e1, e2⟩ := NO.out E.out
      have n2 : (P.length : Int) < 2 := by omega
      subst e1 e2
      clear NO YES SN SA SF S0 n1
      go_wp2
      go_ret2
      exact ⟨_, rfl, rdt_lit _ _, below_trans B1.out (BE.out w1) B1.out.size⟩
    have n2 : ¬ (P.length : Int) < 2 := by omega
    by_cases n3 : 7 < P.length
    · have E : Hid (sn = false) := by unfold Hid; rw [SN.out, decide_eq_false (by omega)]; rfl
      obtain ⟨e1, e2⟩ := NO.out E.out
      have n4 : (P.length : Int) > 7 := by omega
      subst e1 e2
      clear NO YES SN SA SF S0 n1 n3
      go_wp2
      go_ret2
      exact ⟨_, rfl, rdt_lit _ _, below_trans B1.out (BE.out w1) B1.out.size⟩
    have n4 : ¬ (P.length : Int) > 7 := by omega
    have SN2 : Hid (sn = (P[0].toList.isEmpty && (P.drop 1).all nmB)) := by unfold Hid; rw [SN.out, S0.out, decide_eq_true (by omega), Bool.true_and]
    have p1 : (0 : Int) < (P.length : Int) := by omega
    clear SN S0
    cases c3 : P[0].toList.isEmpty with
    | false =>
      have E : Hid (sn = false) := by unfold Hid; rw [SN2.out, c3]; rfl
      obtain ⟨e1, e2⟩ := NO.out E.out
      subst e1 e2
      clear NO YES SN2 SA SF n1 n3
      generalize P[0] = p0 at *
      go_wp2
      go_ret2
      exact ⟨_, rfl, rdt_lit _ _, below_trans B1.out (BE.out w1) B1.out.size⟩
    | true =>
    have SN3 : Hid (sn = (P.drop 1).all nmB) := by unfold Hid; rw [SN2.out, c3]; rfl
    clear SN2
    generalize P[0] = p0 at *
    go_wp2
    clear c0 c3
    go_loopg [5] (P.length - 1) (fun g i wr => ∃ k : Nat, k + g = P.length ∧ 1 ≤ k ∧ i = .int .i64 k ∧ wr = w1 ∧ Hid (∀ j (h : j < P.length), 1 ≤ j → j < k → nmB P[j] = true))
    case atStart => exact ⟨1, by omega, Nat.le_refl _, rfl, rfl, fun j h a b => absurd b (by omega)⟩
    case round =>
      obtain ⟨k, hk, hk1, rfl, rfl, H⟩ := hrel
      have k0 : (0 : Int) ≤ (k : Int) := by omega
      by_cases hlt : k < P.length
      · have k1 : (k : Int) < (P.length : Int) := by omega
        have d0 := HC.out k hlt
        have LN := hideIt (fun w2 => l03Name_any P[k] w2 (by have := PS.out k hlt; unfold maxLen; omega))
        cases q : nmB P[k] with
        | false =>
          have E : Hid (sn = false) := by unfold Hid; rw [SN3.out]; exact SF.out k hlt hk1 q
          obtain ⟨e1, e2⟩ := NO.out E.out
          rw [q] at LN
          subst e1 e2
          clear NO YES SN3 SA SF n1 n3 H q
          generalize P[k] = x at *
          go_wp2_with fail
          refine (LN.out _).mono ?_
          rintro e w2 ⟨rfl, hw2⟩
          subst w2
          go_wp2
          go_ret2
          exact ⟨_, rfl, rdt_lit _ _, below_trans B1.out (BE.out _) B1.out.size⟩
        | true =>
          have H2 : Hid (∀ j (h : j < P.length), 1 ≤ j → j < k + 1 → nmB P[j] = true) := fun j h a c => by
            by_cases e : j = k
            · subst e; exact q
            · exact H.out j h a (by omega)
          rw [q] at LN
          clear H q
          generalize P[k] = x at d0 LN
          go_wp2_with fail
          refine (LN.out _).mono ?_
          rintro e w2 ⟨rfl, hw2⟩
          subst w2
          go_wp2
          go_roundg (P.length - (k + 1))
          case measure => omega
          case rel => exact ⟨k + 1, by omega, by omega, by go_num, rfl, H2.out⟩
      · have E : Hid (sn = true) := by unfold Hid; rw [SN3.out]; exact SA.out (fun j h a => H.out j h a (by omega))
        obtain ⟨e1, e2⟩ := YES.out E.out
        have RD : Hid (Rd wr 1 (.slice (some ⟨b, o + 1, none⟩) (P.length - 1) (cP - 1)) (P.length - 1) (strs (P.drop 1))) := rdt_drop R1.out (by omega)
        have DL := hideIt (List.length_drop (l := P) (i := 1))
        have cc : ¬ cP = 1 := by omega
        subst e1 e2
        clear NO YES SN3 SA SF H
        go_wp2
        go_ret2
        exact ⟨_, rfl, (by unfold RdT; rw [DL.out]; exact RD.out), B1.out⟩
def spC (s : ByteArray) : Int := if 65536 < s.size then 2 else if spB s = true then 0 else 12
def spR (s : ByteArray) : List ByteArray := if 65536 < s.size then [] else spL s
theorem sp_long {s : ByteArray} (h : 65536 < s.size) : spC s = 2 ∧ spR s = [] := by
  unfold spC spR
  exact ⟨if_pos h, if_pos h⟩
theorem sp_short {s : ByteArray} (h : ¬ 65536 < s.size) : (spB s = true → spC s = 0 ∧ spR s = spL s) ∧ (spB s = false → spC s = 12 ∧ spR s = []) := by
  unfold spC spR
  rw [if_neg h, if_neg h]
  refine ⟨fun q => ⟨if_pos q, rfl⟩, fun q => ⟨by rw [q]; rfl, ?_⟩⟩
  unfold spB at q
  unfold spL
  rw [Bool.or_eq_false_iff] at q
  rw [q.1, q.2]
  rfl
set_option maxRecDepth 100000 in
set_option maxHeartbeats 4000000 in
theorem specPathOK_any (s : ByteArray) (w : World) :
    Calls Tryz.prog 26 #[.string s] w fun e w' => e = .returned (.bool (spC s == 0)) ∧ Below w.heap.size w w' := by
  by_cases c1 : 65536 < s.size
  · obtain ⟨E1, E2⟩ := sp_long c1
    rw [E1]
    have c2 : (s.size : Int) > 65536 := by omega
    clear c1 E1 E2
    go_enter Tryz.func26, Tryz.ntmps26
    go_wp2
    go_ret
    exact ⟨rfl, Below.refl _ _⟩
  have c2 : ¬ (s.size : Int) > 65536 := by omega
  have LS := hideIt (fun w1 => l06Split_any s w1 (by omega))
  have E : Hid ((spC s == 0) = spB s) := by
    unfold Hid
    obtain ⟨X1, X2⟩ := sp_short c1
    cases c3 : spB s
    · rw [(X2 c3).1]; rfl
    · rw [(X1 c3).1]; rfl
  rw [E.out]
  clear c1 E
  generalize spB s = sb at *
  go_enter Tryz.func26, Tryz.ntmps26
  go_wp2_with fail
  refine (LS.out _).mono ?_
  rintro e w1 ⟨v1, rfl, hr1, hb1⟩
  have B1 := hideIt hb1
  clear hr1 hb1
  go_wp2
  go_ret
  exact ⟨rfl, B1.out⟩
end Go.Proofs.YtjkdmhdehihcbaaGreatDoor
