/- Rows of things: marks are laid and looked at: the walks. -/
import Derived.Test.YtmeiionabonhnaaGreatDoorZBD
import Derived.Deep.DeepCutAuto
namespace Go.Proofs.YtmeiionabonhnaaGreatDoor
open Go.RowKit
theorem OwU.at {w : World} {lo hi : Nat} {ao : Option Addr} {n cap : Nat} {us : List (Th × Value)} (h : OwU w lo hi (.slice ao n cap) us) (en : us.length = n) (k : Nat) (hk : k < n) :
    ∃ b, ao = some ⟨b, 0, none⟩ ∧ lo ≤ b ∧ b < hi ∧ (∀ j, w.frozen? ⟨b, j, none⟩ = false) ∧ w.cell? ⟨b, k * 3, none⟩ = some (.int .i64 (us[k]'(by omega)).1.kind) ∧ w.cell? ⟨b, k * 3 + 1, none⟩ = some (.int .i64 (us[k]'(by omega)).1.links) ∧ w.cell? ⟨b, k * 3 + 2, none⟩ = some (us[k]'(by omega)).2 := by
  subst en
  obtain ⟨-, ao', cap', e0, -, hc⟩ := h.row.rd
  cases e0
  obtain ⟨b, o, rfl, -, -⟩ := hc (by omega)
  obtain ⟨rfl, h1, h2, -, h4, h5⟩ := h.row.at
  exact ⟨b, rfl, h1, h2, h4, (h5 _ (by omega)).trans (thv_at0 us k hk), (h5 _ (by omega)).trans (thv_at1 us k hk), (h5 _ (by omega)).trans (thv_at2 us k hk)⟩
set_option maxRecDepth 100000 in
set_option maxHeartbeats 4000000 in
theorem markThingU_any (v : Value) (us : List (Th × Value)) (k0 : Int) (lo hi : Nat) (w : World) (h : OwU w lo hi v us) (hn : us.length ≤ 2147483648) (ht : totT (us.map Prod.fst) ≤ 2147483648) (h0 : 0 ≤ k0) (h1 : k0 ≤ 68719476736) :
    Calls Tryz.prog 39 #[v, .int .i64 k0] w fun e w' => e = .returned (.int .i64 (kT k0 (us.map Prod.fst) us.length)) ∧ OwU w' lo hi v (mkTh k0 us us.length) ∧ Outside lo hi w w' ∧ w'.heap.size = w.heap.size := by
  obtain ⟨hlen, ao, cap, rfl, hcap, -⟩ := h.row.rd
  obtain ⟨ts, ets⟩ : ∃ ts, ts = us.map Prod.fst := ⟨_, rfl⟩
  have TL : Hid (ts.length = us.length) := by rw [ets]; exact List.length_map ..
  have TA : Hid (∀ k (hk : k < us.length), (ts[k]'(Nat.lt_of_lt_of_eq hk TL.out.symm)).pages.length = us[k].1.pages.length) := fun k hk => by
    subst ets
    simp
  have KL : Hid (∀ k, k ≤ us.length → k0 ≤ kT k0 ts k ∧ kT k0 ts k ≤ k0 + 2 * (us.length : Int) + 2147483648) := fun k hk => by
    have q := kT_le (k0 := k0) (ts := ts) (j := k) (Nat.le_trans hk (Nat.le_of_eq TL.out.symm))
    have r : totT ts ≤ 2147483648 := by rw [ets]; exact ht
    have s := TL.out
    omega
  have KS : Hid (∀ k (hk : k < us.length), kT k0 ts (k + 1) = kT k0 ts k + 2 + (us[k].1.pages.length : Int)) := fun k hk => by
    rw [kT_succ (Nat.lt_of_lt_of_eq hk TL.out.symm), TA.out k hk]
  have KZ : Hid (kT k0 ts 0 = k0) := kT_zero k0 ts
  have PL : Hid (∀ k (hk : k < us.length), us[k].1.pages.length ≤ 2147483648) := fun k hk => by
    have a := totT_le (ts := ts) (k := k) (Nat.lt_of_lt_of_eq hk TL.out.symm)
    rw [TA.out k hk] at a
    have r : totT ts ≤ 2147483648 := by rw [ets]; exact ht
    omega
  have MS : Hid (∀ k (hk : k < us.length), mkTh k0 us (k + 1) = (mkTh k0 us k).set k (⟨kT k0 ts k, kT k0 ts k + 1, marks (kT k0 ts k + 2) us[k].1.pages.length⟩, us[k].2)) := fun k hk => by
    rw [mkTh_step hk, ets]
    rfl
  have MZ : Hid (mkTh k0 us 0 = us) := mkTh_zero k0 us
  have ML : Hid (∀ k, (mkTh k0 us k).length = us.length) := mkTh_len k0 us
  have MA : Hid (∀ k (hk : k < us.length), (mkTh k0 us k)[k]'(Nat.lt_of_lt_of_eq hk (ML.out k).symm) = us[k]) := fun k hk => by rw [mkTh_at, if_neg (by omega)]
  have HO := hideIt h
  rw [← ets]
  clear ets ht h TL TA hlen hcap
  generalize mkTh k0 us = MU at *
  generalize kT k0 ts = KT at *
  go_enter Tryz.func39, Tryz.ntmps39
  go_wp2
  go_loopw [1, 5] (fun c i wr => ∃ k : Nat, k ≤ us.length ∧ i = .int .i64 k ∧ c = .int .i64 (KT k) ∧ Hid (OwU wr lo hi (.slice ao us.length cap) (MU k)) ∧ Hid (Outside lo hi w wr) ∧ wr.heap.size = w.heap.size) (fun _ i _ => us.length - (intOf i).toNat)
  case atStart =>
    refine ⟨0, by omega, rfl, by rw [KZ.out], ?_, Outside.refl _ _ _, rfl⟩
    unfold Hid
    rw [MZ.out]
    exact HO.out
  case round =>
    obtain ⟨k, hk, rfl, rfl, H, O, hz⟩ := hrel
    clear HO
    by_cases hlt : k < us.length
    · obtain ⟨b, rfl, b1, b2, hfr, c0, c1, c2⟩ := H.out.at (ML.out k) k hlt
      rw [MA.out k hlt] at c0 c1 c2
      have f0 := hfr (k * 3)
      have f1 := hfr (k * 3 + 1)
      obtain ⟨kl1, kl2⟩ := KL.out k (by omega)
      have ks := hideIt (KS.out k hlt)
      have pl := PL.out k hlt
      have hkm : k < (MU k).length := Nat.lt_of_lt_of_eq hlt (ML.out k).symm
      have P1 := hideIt (H.out.put k hkm (KT k) (KT k + 1) (ML.out k).symm)
      have O1 : Hid (Outside lo hi w ((wr.setCell ⟨b, k * 3, none⟩ (.int .i64 (KT k))).setCell ⟨b, k * 3 + 1, none⟩ (.int .i64 (KT k + 1)))) := (O.out.setCell (by simp only; omega) (by simp only; omega) _).setCell (by simp only; omega) (by simp only; omega) _
      obtain ⟨w1, hw1⟩ : ∃ w1, w1 = (wr.setCell ⟨b, k * 3, none⟩ (.int .i64 (KT k))).setCell ⟨b, k * 3 + 1, none⟩ (.int .i64 (KT k + 1)) := ⟨_, rfl⟩
      have z1 : w1.heap.size = w.heap.size := by rw [hw1]; simp [hz]
      rw [← hw1] at P1 O1
      have lset : ((MU k).set k (⟨KT k, KT k + 1, (MU k)[k].1.pages⟩, (MU k)[k].2)).length = us.length := by rw [List.length_set]; exact ML.out k
      obtain ⟨b', eb', -, -, hfr2, -, -, d2⟩ := P1.out.at lset k hlt
      cases eb'
      rw [List.getElem_set_self] at d2
      simp only at d2
      rw [MA.out k hlt] at d2
      have G1 := hideIt (P1.out.pg k (by rw [lset]; exact hlt))
      rw [List.getElem_set_self] at G1
      simp only at G1
      rw [MA.out k hlt] at G1
      have g1 : IntKind.i64.wrap (KT k + 1) = KT k + 1 := by rw [IntKind.wrap_i64]; omega
      have g2 : IntKind.i64.wrap (KT k + 1 + 1) = KT k + 2 := by rw [IntKind.wrap_i64]; omega
      obtain ⟨x1, y1, ev⟩ : ∃ x1 y1, us[k].2 = .slice x1 us[k].1.pages.length y1 := by
        obtain ⟨-, x1, y1, e1, -⟩ := G1.out.rd
        exact ⟨x1, y1, e1⟩
      have ev2 := hideIt ev
      rw [ev] at d2
      clear hfr hfr2 c2 ev
      go_upto_region 8 with fail
      rw [← hw1]
      clear hw1 c0 c1 f0 f1 g1 g2
      go_wp2_with fail
      rw [← ev2.out]
      refine (markIntS_any us[k].2 us[k].1.pages.length _ (KT k + 2) lo hi w1 G1.out (fun u hu => by simp only [ints, List.mem_map] at hu; obtain ⟨z, _, rfl⟩ := hu; exact ⟨z, rfl⟩) pl (by omega) (by omega)).mono ?_
      rintro e w2 ⟨rfl, hr2, hg2, hz2⟩
      have P2 : Hid (OwU w2 lo hi (.slice (some ⟨b, 0, none⟩) us.length cap) (MU (k + 1))) := by
        have hks : k < ((MU k).set k (⟨KT k, KT k + 1, (MU k)[k].1.pages⟩, (MU k)[k].2)).length := by rw [lset]; exact hlt
        have ge : ((MU k).set k (⟨KT k, KT k + 1, (MU k)[k].1.pages⟩, (MU k)[k].2))[k] = (⟨KT k, KT k + 1, us[k].1.pages⟩, us[k].2) := by
          rw [List.getElem_set_self, MA.out k hlt]
        have := P1.out.page (w' := w2) k hks (marks (KT k + 2) us[k].1.pages.length) (by rw [ge, marks_len]) (by rw [ge]; exact hr2) (by rw [ge]; exact hg2)
        rw [ge] at this
        simp only [List.set_set] at this
        unfold Hid
        rw [MS.out k hlt]
        exact this
      have O2 : Hid (Outside lo hi w w2) := O1.out.trans (G1.out.grown_outside hg2)
      clear hr2 hg2 P1 O1 G1 H O d2
      go_wp2
      go_roundw
      case rel => exact ⟨k + 1, by omega, by go_num, by rw [ks.out], P2.out, O2.out, by omega⟩
      case measure => simp [intOf]; omega
    · have e : k = us.length := by omega
      subst e
      go_wp2
      go_ret
      exact ⟨rfl, H.out, O.out, hz⟩
theorem markThingS_any (v : Value) (ts : List Th) (k0 : Int) (lo hi : Nat) (w : World) (h : RowTh w lo hi v ts) (hn : ts.length ≤ 2147483648) (ht : totT ts ≤ 2147483648) (h0 : 0 ≤ k0) (h1 : k0 ≤ 68719476736) :
    Calls Tryz.prog 39 #[v, .int .i64 k0] w fun e w' => e = .returned (.int .i64 (k0 + 2 * (ts.length : Int) + (totT ts : Int))) ∧ RowTh w' lo hi v (marksTh k0 ts) ∧ Outside lo hi w w' ∧ w'.heap.size = w.heap.size := by
  obtain ⟨us, rfl, o⟩ := h
  refine (markThingU_any v us k0 lo hi w o (by rw [List.length_map] at hn; exact hn) ht h0 h1).mono ?_
  rintro e w' ⟨rfl, r, q, z⟩
  refine ⟨?_, ⟨_, mkTh_all k0 us, r⟩, q, z⟩
  have := kT_end k0 (us.map Prod.fst)
  rw [List.length_map] at this ⊢
  rw [this]
end Go.Proofs.YtmeiionabonhnaaGreatDoor
