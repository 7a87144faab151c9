/- Fresh heat, heat that is touched, heat that cools down: by the program. -/
import Derived.Test.YtipklbnfobckaaaGreatDoorZBR
import Derived.Deep.OwnRows
import Derived.Deep.RegionHeld3
import Derived.Deep.DeepCutAuto
namespace Go.Proofs.YtipklbnfobckaaaGreatDoor
open Go.RowKit

theorem in_nil {w w1 : World} {c : Int} (B : Below w.heap.size w w1) : InOut w w1 (.returned (.tuple #[.slice none 0 0, .int .i64 c])) ([], c) := ⟨_, rfl, Row.nil _ _ _ _ _, B⟩
theorem hf_ways (hs : List Int) : (4096 < hs.length ∧ hfI hs = 2) ∨ (¬ 4096 < hs.length ∧ heatB hs = false ∧ hfI hs = 1) ∨ (¬ 4096 < hs.length ∧ heatB hs = true ∧ hfI hs = 0) := by
  unfold hfI
  by_cases c : 4096 < hs.length
  · rw [if_pos c]; exact .inl ⟨c, rfl⟩
  · rw [if_neg c]
    cases h : heatB hs with
    | false => exact .inr (.inl ⟨c, rfl, by simp⟩)
    | true => exact .inr (.inr ⟨c, rfl, by simp⟩)

/-- The first ones halved. -/
def dcT (hs : List Int) (k : Nat) : List Int := (hs.take k).map (fun z => z / 2) ++ hs.drop k
theorem dcT_zero (hs : List Int) : dcT hs 0 = hs := by simp [dcT]
theorem dcT_all (hs : List Int) (h : hs.length = 128) : dcT hs 128 = decH hs 128 := by unfold dcT decH; rw [List.drop_of_length_le (by omega), List.append_nil]
theorem dcT_len (hs : List Int) (k : Nat) : (dcT hs k).length = hs.length := by unfold dcT; simp; omega
theorem dcT_at (hs : List Int) (k : Nat) (h : k < hs.length) : (ints (dcT hs k))[k]? = some (.int .i64 hs[k]) := by
  have l : ((hs.take k).map (fun z => z / 2)).length = k := by simp; omega
  have e : (dcT hs k)[k]? = some hs[k] := by
    unfold dcT
    rw [List.getElem?_append_right (by omega), l, Nat.sub_self, List.getElem?_drop, Nat.add_zero, List.getElem?_eq_getElem h]
  unfold ints
  rw [List.getElem?_map, e]
  rfl
theorem dcT_set (hs : List Int) (k : Nat) (h : k < hs.length) : (dcT hs k).set k (hs[k] / 2) = dcT hs (k + 1) := by
  have l : ((hs.take k).map (fun z => z / 2)).length = k := by simp; omega
  unfold dcT
  rw [List.set_append_right _ _ (by omega), l, Nat.sub_self, List.drop_eq_getElem_cons h, List.set_cons_zero, List.take_succ_eq_append_getElem h, List.map_append, List.append_assoc]
  rfl

set_option maxRecDepth 100000 in
set_option maxHeartbeats 4000000 in
theorem implDecay_any (v : Value) (hs : List Int) (w : World) (h : RdI w v hs) (hn : hs.length ≤ 1048576) :
    Calls Tryz.prog 88 #[v] w fun e w' => InOut w w' e (deR hs) := by
  have LH := hideIt (heatFault_any v hs w h hn)
  have LC := hideIt (fun (q : heatB hs = true) => cloneInt_any v hs w h (heat_parts q).1)
  have BR := hideIt (Below.refl w.heap.size w)
  have HP := hideIt (fun (q : heatB hs = true) => heat_parts q)
  obtain ⟨ao, cap, rfl, -, -⟩ := h.shape
  clear h
  rcases hf_ways hs with ⟨c1, e1⟩ | ⟨c1, c2, e1⟩ | ⟨c1, c2, e1⟩
  · rw [show deR hs = ([], 2) by unfold deR; rw [if_pos c1]]
    rw [e1] at LH
    clear c1 e1 LC HP
    go_enter Tryz.func88, Tryz.ntmps88
    go_wp2_with fail
    refine LH.out.mono ?_
    rintro e w' ⟨rfl, hw'⟩
    subst w'
    go_wp2
    go_ret2
    exact in_nil BR.out
  · rw [show deR hs = ([], 1) by unfold deR; rw [if_neg c1, c2, if_neg (by decide)]]
    rw [e1] at LH
    clear c1 e1 c2 LC HP
    go_enter Tryz.func88, Tryz.ntmps88
    go_wp2_with fail
    refine LH.out.mono ?_
    rintro e w' ⟨rfl, hw'⟩
    subst w'
    go_wp2
    go_ret2
    exact in_nil BR.out
  have LC2 := hideIt (LC.out c2)
  obtain ⟨h1, h2⟩ := HP.out c2
  rw [e1] at LH
  rw [show deR hs = (decH hs 128, 0) by unfold deR; rw [if_neg c1, c2, if_pos rfl]]
  have E0 := hideIt (dcT_zero hs)
  have EA := hideIt (dcT_all hs h1)
  have EL := hideIt (show (decH hs 128).length = 128 by rw [← EA.out, dcT_len, h1])
  have HV : Hid (∀ k : Nat, k < 128 → ∃ z : Int, 0 ≤ z ∧ z ≤ 64 ∧ (ints (dcT hs k))[k]? = some (.int .i64 z) ∧ (dcT hs k).set k (z / 2) = dcT hs (k + 1)) := fun k hk => ⟨hs[k]'(by omega), (h2 k (by omega)).1, (h2 k (by omega)).2, dcT_at hs k (by omega), dcT_set hs k (by omega)⟩
  clear c1 e1 c2 LC HP h1 h2
  go_enter Tryz.func88, Tryz.ntmps88
  go_wp2_with fail
  refine LH.out.mono ?_
  rintro e w' ⟨rfl, hw'⟩
  subst w'
  go_wp2_with fail
  refine LC2.out.mono ?_
  rintro e wN ⟨bN, cN, rfl, hr1, hb1⟩
  rw [← E0.out] at hr1
  have G := hideIt hr1
  have BN := hideIt hb1
  clear hr1 hb1 LH LC2
  go_wp2
  go_loopw [6, 16] (fun _ i wr => ∃ m : Nat, m ≤ 128 ∧ i = .int .i64 (m : Int) ∧ Hid (Row wr 3 1 w.heap.size wr.heap.size (.slice (some ⟨bN, 0, none⟩) 128 cN) 128 (ints (dcT hs m))) ∧ Hid (Below w.heap.size w wr)) (fun _ i _ => 128 - (intOf i).toNat)
  case atStart => exact ⟨0, by omega, rfl, G, BN⟩
  case round =>
    obtain ⟨m, hm, rfl, J, B⟩ := hrel
    clear G BN
    have m0 : (0 : Int) ≤ (m : Int) := by omega
    by_cases hlt : m < 128
    · have m1 : (m : Int) < 128 := by omega
      obtain ⟨z, z0, z64, CL, ES⟩ := HV.out m hlt
      have HCL := hideIt CL
      have HES := hideIt ES
      clear CL ES
      obtain ⟨_, _, _, hbl, hfr, hcl⟩ := J.out.at
      have e0 : wr.cell? ⟨bN, m, none⟩ = some (.int .i64 z) := by
        have := hcl m (by rw [Nat.mul_one]; exact hlt)
        exact this.trans HCL.out
      have f0 : wr.frozen? ⟨bN, m, none⟩ = false := hfr m
      have tq : Int.tdiv z 2 = z / 2 := Int.tdiv_eq_ediv_of_nonneg z0
      have hwb : w.heap.size ≤ bN := (J.out.1.lt bN rfl).1
      have R2 : Hid (Row (wr.setCell ⟨bN, m, none⟩ (.int .i64 (z / 2))) 3 1 w.heap.size (wr.setCell ⟨bN, m, none⟩ (.int .i64 (z / 2))).heap.size (.slice (some ⟨bN, 0, none⟩) 128 cN) 128 (ints (dcT hs (m + 1)))) := by
        have q := J.out.stored m (.int .i64 (z / 2))
        rw [ints_set, HES.out] at q
        exact q.wide (Nat.le_refl _) (by simp [World.setCell])
      have B2 : Hid (Below w.heap.size w (wr.setCell ⟨bN, m, none⟩ (.int .i64 (z / 2)))) := B.out.setCell hwb _
      clear J B hcl hfr HCL HES
      go_wp2
      go_roundw
      case rel => exact ⟨m + 1, by omega, by go_num, R2, B2⟩
      case measure => simp [intOf]; omega
    · obtain rfl : m = 128 := by omega
      rw [EA.out] at J
      have RJ : Hid (Row wr 3 1 w.heap.size wr.heap.size (.slice (some ⟨bN, 0, none⟩) 128 cN) (decH hs 128).length (ints (decH hs 128))) := by unfold Hid; rw [EL.out]; exact J.out
      clear J EL
      go_wp2
      go_ret2
      exact ⟨_, rfl, RJ.out, B.out⟩
end Go.Proofs.YtipklbnfobckaaaGreatDoor
