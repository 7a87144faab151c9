/- A number's text is read: by the program (strconv.Atoi, strings.TrimPrefix, strconv.Itoa). -/
import Derived.Test.YtjkdmhdehihcbaaGreatDoorZAK
import Derived.Test.YtjkdmhdehihcbaaGreatDoorZAL
import Derived.Shelf.Strconv.AtoiAll
import Derived.Shelf.Strings.Prefix
import Derived.Lib.AtoiTie
import Derived.Lib.AtoiAllCases
namespace Go.Proofs.YtjkdmhdehihcbaaGreatDoor
open Go.RowKit
def SY (w : World) : Prop := ∃ ev, w.cell? ⟨8, 0, none⟩ = some ev ∧ (ev = .nilIface ∨ ∃ te pe, ev = .iface te pe)
def RY (w : World) : Prop := ∃ ev, w.cell? ⟨9, 0, none⟩ = some ev ∧ (ev = .nilIface ∨ ∃ te pe, ev = .iface te pe)
theorem cell_in {w : World} {b o : Nat} {v : Value} (h : w.cell? ⟨b, o, none⟩ = some v) : b < w.heap.size := by
  unfold World.cell? at h
  rcases Nat.lt_or_ge b w.heap.size with c | c
  · exact c
  · rw [show w.heap[b]? = none from Array.getElem?_eq_none c] at h
    simp at h
theorem SY.below {w w' : World} (h : SY w) (hb : Below w.heap.size w w') : SY w' := by
  obtain ⟨ev, e, k⟩ := h
  exact ⟨ev, (hb.cell (p := ⟨_, 0, none⟩) (cell_in e)).trans e, k⟩
theorem RY.below {w w' : World} (h : RY w) (hb : Below w.heap.size w w') : RY w' := by
  obtain ⟨ev, e, k⟩ := h
  exact ⟨ev, (hb.cell (p := ⟨_, 0, none⟩) (cell_in e)).trans e, k⟩
theorem toL_ne {a b : ByteArray} (h : ¬ a = b) : (a.toList == b.toList) = false := by
  rw [beq_eq_false_iff_ne]
  intro e
  apply h
  rw [ByteArray.toList_eq, ByteArray.toList_eq] at e
  exact ByteArray.ext (Array.toList_inj.1 e)
theorem num_dec {s : ByteArray} {n : Nat} (h : numP s = some n) : s.size ≤ 18 ∧ Lib.decNat s.data.toList = some n := by
  unfold numP at h
  split at h
  · rename_i c; exact ⟨c.1, h⟩
  · cases h
theorem dec_head {l : List UInt8} {n : Nat} (h : Lib.decNat l = some n) : ∃ b r, l = b :: r ∧ b.toNat ≠ 43 ∧ b.toNat ≠ 45 := by
  obtain ⟨a, b⟩ := Lib.decNat_some h
  cases l with
  | nil => exact absurd rfl a
  | cons x r =>
    refine ⟨x, r, rfl, ?_⟩
    unfold Lib.decFrom at b
    cases hd : Lib.digitVal x with
    | none => rw [hd] at b; cases b
    | some d =>
      obtain ⟨p, q, -⟩ := Lib.digitVal_eq hd
      omega
theorem num_atoi {s : ByteArray} {n : Nat} (h : numP s = some n) : Lib.atoiAll s.data.toList = .ok (n : Int) := by
  obtain ⟨a, b⟩ := num_dec h
  rw [Lib.atoiAll_short _ (by rw [← Lib.size_eq]; exact a)]
  obtain ⟨x, r, e, h1, h2⟩ := dec_head b
  rw [e] at b ⊢
  unfold Lib.atoi
  have n1 : (x == 45) = false := by rw [beq_eq_false_iff_ne]; rintro rfl; exact h2 rfl
  have n2 : (x == 43) = false := by rw [beq_eq_false_iff_ne]; rintro rfl; exact h1 rfl
  show Lib.NumEnd.ofOption (if (x == 45) = true then (Lib.decNat r).map (fun (m : Nat) => -(m : Int)) else if (x == 43) = true then (Lib.decNat r).map (fun (m : Nat) => (m : Int)) else (Lib.decNat (x :: r)).map (fun (m : Nat) => (m : Int))) = _
  rw [n1, n2, b]
  rfl
def cutM (s : ByteArray) : ByteArray := ⟨(Lib.trimPrefix s.data.toList [45]).toArray⟩
theorem cutM_le (s : ByteArray) : (cutM s).size ≤ s.size := by
  rw [Lib.size_eq, Lib.size_eq]
  unfold cutM Lib.trimPrefix
  split
  · simp
  · simp
theorem cutM_num {s : ByteArray} {n : Nat} (h : Lib.decNat s.data.toList = some n) : cutM s = s := by
  obtain ⟨x, r, e, h1, h2⟩ := dec_head h
  unfold cutM Lib.trimPrefix Lib.hasPrefix
  have : List.isPrefixOf [45] s.data.toList = false := by
    rw [e]
    show ((45 : UInt8) == x && _) = false
    have : ((45 : UInt8) == x) = false := by rw [beq_eq_false_iff_ne]; rintro rfl; exact h2 rfl
    rw [this, Bool.false_and]
  rw [this]
  simp
theorem it_dec (n : Nat) : Lib.decNat (itT (n : Int)).data.toList = some n := by
  obtain ⟨a, b, -⟩ := dec_digits n n (Nat.lt_pow_self (by omega))
  rw [it_nat]
  unfold dgT Lib.decNat
  rw [if_neg (by simpa using b)]
  exact a
theorem num_told (s : ByteArray) (v : Int) (h : Lib.atoiAll s.data.toList = .ok v) : nuQ s v (decide ((cutM s).size ≤ 18) && decide (itT v = s)) := by
  cases hn : numP s with
  | some n =>
    refine .inl ⟨n, hn, ?_, ?_⟩
    · obtain ⟨a, b⟩ := num_dec hn
      have e := num_atoi hn
      rw [h] at e
      obtain rfl : v = (n : Int) := by injection e
      rw [cutM_num b, decide_eq_true a, decide_eq_true (numP_it.1 hn).1.symm]
      rfl
    · have e := num_atoi hn
      rw [h] at e
      injection e
  | none =>
    refine .inr ⟨hn, ?_⟩
    rcases Int.lt_or_le v 0 with c | c
    · exact .inr c
    · refine .inl ?_
      obtain ⟨n, rfl⟩ : ∃ n : Nat, v = (n : Int) := ⟨v.toNat, by omega⟩
      rw [Bool.and_eq_false_iff]
      by_cases e : itT (n : Int) = s
      · refine .inl (decide_eq_false fun h18 => ?_)
        have d := it_dec n
        rw [e] at d
        rw [cutM_num d] at h18
        rw [numP_it.2 ⟨e.symm, h18⟩] at hn
        cases hn
      · exact .inr (decide_eq_false e)
theorem num_wrong (s : ByteArray) (v : Int) (h : ∀ u, Lib.atoiAll s.data.toList ≠ .ok u) : nuQ s v false := by
  refine .inr ⟨?_, .inl rfl⟩
  cases hn : numP s with
  | none => rfl
  | some n => exact absurd (num_atoi hn) (h _)
set_option maxRecDepth 100000 in
set_option maxHeartbeats 4000000 in
theorem implNumber_any (s : ByteArray) (w : World) (hs : s.size ≤ 65536) (hP : PT w) (hS : SY w) (hR : RY w) :
    Calls Tryz.prog 105 #[.string s] w fun e w' => nuP s e ∧ Below w.heap.size w w' := by
  have LT := hideIt (fun w1 => Any.strings_TrimPrefix lays101 s ⟨#[45]⟩ w1)
  have CT : Hid ((⟨(Lib.trimPrefix s.data.toList (⟨#[45]⟩ : ByteArray).data.toList).toArray⟩ : ByteArray) = cutM s) := rfl
  have LL := cutM_le s
  cases c : Lib.atoiAll s.data.toList with
  | ok v =>
    have T := hideIt (num_told s v c)
    have LA := hideIt (Any.strconv_Atoi_ok laysC172 s (by omega) v c w)
    obtain ⟨v0, v1⟩ := Lib.atoiAll_bounds c
    have LI := hideIt (fun w1 (hb : Below w.heap.size w w1) => itoa_any v w1 v0 v1 (hP.below hb))
    clear hP hS hR c
    generalize cutM s = u at *
    generalize itT v = z at *
    go_enter Tryz.func105, Tryz.ntmps105
    go_wp2_with fail
    refine LA.out.mono ?_
    rintro e w1 ⟨rfl, hw1⟩
    have B1 : Hid (Below w.heap.size w w1) := by
      rcases hw1 with rfl | ⟨t, rfl⟩
      · exact Below.refl _ _
      · exact Lib.bytesWorld_below _ _ _
    clear hw1 LA
    go_wp2_with fail
    refine (LT.out _).mono ?_
    rintro e w2 ⟨rfl, rfl⟩
    rw [CT.out]
    clear LT CT
    by_cases h18 : u.size ≤ 18
    · have k18 : (u.size : Int) ≤ 18 := by omega
      rw [decide_eq_true h18] at T
      go_wp2_with fail
      refine (LI.out _ B1.out).mono ?_
      rintro e w3 ⟨rfl, hb3⟩
      have B3 := hideIt (below_trans B1.out hb3 B1.out.size)
      clear hb3 LI B1
      by_cases hz : z = s
      · subst hz
        rw [decide_eq_true rfl] at T
        go_wp2
        go_ret2
        exact ⟨⟨_, _, rfl, T.out, v0, v1⟩, B3.out⟩
      · rw [decide_eq_false hz] at T
        have e3 := toL_ne hz
        go_wp2
        go_ret2
        exact ⟨⟨_, _, rfl, T.out, v0, v1⟩, B3.out⟩
    · have k18 : ¬ (u.size : Int) ≤ 18 := by omega
      rw [decide_eq_false h18] at T
      go_wp2
      go_ret2
      exact ⟨⟨_, _, rfl, T.out, v0, v1⟩, B1.out⟩
  | «syntax» =>
    obtain ⟨ev, h1, h2⟩ := hS
    have T := hideIt (num_wrong s 0 (fun u e => by rw [c] at e; cases e))
    have LA := hideIt (Any.strconv_Atoi_syntax laysC172 s (by omega) c ev w h1 h2)
    clear hP hR c h1 h2
    generalize cutM s = u at *
    go_enter Tryz.func105, Tryz.ntmps105
    go_wp2_with fail
    refine LA.out.mono ?_
    rintro e w1 ⟨N, rfl, -, -, hb1⟩
    have B1 := hideIt hb1
    clear hb1 LA
    go_wp2_with fail
    refine (LT.out _).mono ?_
    rintro e w2 ⟨rfl, rfl⟩
    rw [CT.out]
    clear LT CT
    go_wp2
    go_ret2
    exact ⟨⟨_, _, rfl, T.out, by omega, by omega⟩, B1.out⟩
  | range =>
    obtain ⟨ev, h1, h2⟩ := hR
    have T := hideIt (num_wrong s (Lib.atoiSat s.data.toList) (fun u e => by rw [c] at e; cases e))
    have LA := hideIt (Any.strconv_Atoi_range laysC172 s (by omega) c ev w h1 h2)
    obtain ⟨v0, v1⟩ := Lib.atoiSat_bounds s.data.toList
    clear hP hS c h1 h2
    generalize cutM s = u at *
    generalize Lib.atoiSat s.data.toList = z at *
    go_enter Tryz.func105, Tryz.ntmps105
    go_wp2_with fail
    refine LA.out.mono ?_
    rintro e w1 ⟨N, rfl, -, -, hb1⟩
    have B1 := hideIt hb1
    clear hb1 LA
    go_wp2_with fail
    refine (LT.out _).mono ?_
    rintro e w2 ⟨rfl, rfl⟩
    rw [CT.out]
    clear LT CT
    go_wp2
    go_ret2
    exact ⟨⟨_, _, rfl, T.out, v0, v1⟩, B1.out⟩
end Go.Proofs.YtjkdmhdehihcbaaGreatDoor
