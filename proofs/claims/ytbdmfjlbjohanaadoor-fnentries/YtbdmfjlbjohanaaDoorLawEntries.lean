/- Tiers and addresses are read back from their words: the walk of the law. -/
import Derived.Test.YtbdmfjlbjohanaaDoorWt
import Derived.Test.YtbdmfjlbjohanaaDoorAtE
namespace Go.Proofs.YtbdmfjlbjohanaaDoor
open Go.RowKit

theorem ent_back {t a : Int} (h : addrB t a = true) : tieB (entV t a) = true ∧ entV t a % 4 = t ∧ entV t a / 4 = a := by
  have e := (ent_in h).1
  have b := addrB_true h
  have e1 : entV t a % 4 = t := by omega
  have e2 : entV t a / 4 = a := by omega
  refine ⟨?_, e1, e2⟩
  unfold tieB
  rw [e1, e2, h, decide_eq_true (by omega)]
  rfl

set_option maxRecDepth 100000 in
set_option maxHeartbeats 8000000 in
theorem fnEntries_law (vA vB : Value) (cs bs : List Int) (w : World) (hA : RdB w vA cs) (hB : RdB w vB bs) (hG : TS w) (_ha : cs.length ≤ maxLen) (_hb : bs.length ≤ maxLen) :
    Calls Tryd.prog 4 #[vA, vB] w fun e w' => e = .returned (.bool true) ∧ Below w.heap.size w w' := by
  obtain ⟨aA, cA, rfl, _⟩ := hA.shape
  obtain ⟨aB, cB, rfl, _⟩ := hB.shape
  have HA := hideIt hA
  have HB := hideIt hB
  have HG := hideIt hG
  clear hA hB hG
  by_cases c1 : 1048576 < cs.length
  · go_enter Tryd.func4, Tryd.ntmps4
    go_wp2
    go_ret
    exact ⟨rfl, Below.refl _ _⟩
  by_cases c2 : 1048576 < bs.length
  · go_enter Tryd.func4, Tryd.ntmps4
    go_wp2
    go_ret
    exact ⟨rfl, Below.refl _ _⟩
  have b0 := atV_bd cs 0 2 (by omega)
  have b1 := atV_bd bs 0 24 (by omega)
  have b2 := atV_bd cs 1 16 (by omega)
  have b3 := atV_bd cs 2 11 (by omega)
  have b4 := atV_bd bs 1 24 (by omega)
  have b5 := atV_bd bs 2 3 (by omega)
  have ad : addrB (1 + atV cs 0 2) (atV bs 0 24) = true := addrB_of (by omega)
  have E1 := hideIt (ent_in ad)
  have E2 := hideIt (ent_back ad)
  have E3 := hideIt (tie_in E2.out.1)
  have E4 := hideIt (ino_in (i := atV cs 1 16) (f := atV cs 2 11) (by omega) (by omega))
  have E5 := hideIt (den_in (i := atV bs 1 24) (f := atV bs 2 3) (by omega) (by omega))
  clear ad
  go_enter Tryd.func4, Tryd.ntmps4
  go_wp2_with fail
  refine (at_exact _ cs 0 2 _ HA.out (by omega) (by omega) (by omega) (by omega) (by omega)).mono ?_
  rintro e w1 ⟨rfl, hb1⟩
  have B1 := hideIt hb1
  clear hb1
  go_wp2_with fail
  refine (at_exact _ bs 0 24 _ (HB.out.below B1.out) (by omega) (by omega) (by omega) (by omega) (by omega)).mono ?_
  rintro e w2 ⟨rfl, hb2⟩
  have B2 := hideIt (below_trans B1.out hb2 B1.out.size)
  clear hb2
  go_wp2_with fail
  refine (implPackEntry_any _ _ _ (HG.out.below B2.out)).mono ?_
  rintro e w3 ⟨rfl, rfl⟩
  rw [E1.out.2]
  go_wp2_with fail
  refine (implTierOf_any _ _ (HG.out.below B2.out) (by rw [E1.out.1]; omega) (by rw [E1.out.1]; omega)).mono ?_
  rintro e w3 ⟨rfl, rfl⟩
  rw [E3.out.1, E3.out.2.1, E3.out.2.2, E2.out.2.1, E2.out.2.2, E1.out.1]
  go_wp2_with fail
  refine (at_exact _ cs 1 16 _ (HA.out.below B2.out) (by omega) (by omega) (by omega) (by omega) (by omega)).mono ?_
  rintro e w3 ⟨rfl, hb3⟩
  have B3 := hideIt (below_trans B2.out hb3 B2.out.size)
  clear hb3
  go_wp2_with fail
  refine (at_exact _ cs 2 11 _ (HA.out.below B3.out) (by omega) (by omega) (by omega) (by omega) (by omega)).mono ?_
  rintro e w4 ⟨rfl, hb4⟩
  have B4 := hideIt (below_trans B3.out hb4 B3.out.size)
  clear hb4
  go_wp2_with fail
  refine (implInode_any _ _ _).mono ?_
  rintro e w5 ⟨rfl, rfl⟩
  rw [E4.out.1, E4.out.2]
  go_wp2_with fail
  refine (at_exact _ bs 1 24 _ (HB.out.below B4.out) (by omega) (by omega) (by omega) (by omega) (by omega)).mono ?_
  rintro e w5 ⟨rfl, hb5⟩
  have B5 := hideIt (below_trans B4.out hb5 B4.out.size)
  clear hb5
  go_wp2_with fail
  refine (at_exact _ bs 2 3 _ (HB.out.below B5.out) (by omega) (by omega) (by omega) (by omega) (by omega)).mono ?_
  rintro e w6 ⟨rfl, hb6⟩
  have B6 := hideIt (below_trans B5.out hb6 B5.out.size)
  clear hb6
  go_wp2_with fail
  refine (implDirent_any _ _ _).mono ?_
  rintro e w7 ⟨rfl, rfl⟩
  rw [E5.out.1, E5.out.2]
  go_wp2_with fail
  refine (at_exact _ cs 1 16 _ (HA.out.below B6.out) (by omega) (by omega) (by omega) (by omega) (by omega)).mono ?_
  rintro e w7 ⟨rfl, hb7⟩
  have B7 := hideIt (below_trans B6.out hb7 B6.out.size)
  clear hb7
  go_wp2_with fail
  refine (at_exact _ cs 2 11 _ (HA.out.below B7.out) (by omega) (by omega) (by omega) (by omega) (by omega)).mono ?_
  rintro e w8 ⟨rfl, hb8⟩
  have B8 := hideIt (below_trans B7.out hb8 B7.out.size)
  clear hb8
  go_wp2_with fail
  refine (specInode_any _ _ _).mono ?_
  rintro e w9 ⟨rfl, rfl⟩
  rw [E4.out.1, E4.out.2]
  go_wp2_with fail
  refine (at_exact _ bs 1 24 _ (HB.out.below B8.out) (by omega) (by omega) (by omega) (by omega) (by omega)).mono ?_
  rintro e w9 ⟨rfl, hb9⟩
  have B9 := hideIt (below_trans B8.out hb9 B8.out.size)
  clear hb9
  go_wp2_with fail
  refine (at_exact _ bs 2 3 _ (HB.out.below B9.out) (by omega) (by omega) (by omega) (by omega) (by omega)).mono ?_
  rintro e w10 ⟨rfl, hb10⟩
  have B10 := hideIt (below_trans B9.out hb10 B9.out.size)
  clear hb10
  go_wp2_with fail
  refine (specDirent_any _ _ _).mono ?_
  rintro e w11 ⟨rfl, rfl⟩
  rw [E5.out.1, E5.out.2]
  have z1 : 4 * atV bs 0 24 + (1 + atV cs 0 2) ≠ 0 := by omega
  have z2 : 240 + 3 * atV bs 1 24 + atV bs 2 3 < 312 := by omega
  have Z1 := hideIt z1
  have Z2 := hideIt z2
  clear z1 z2
  go_wp2
  go_ret
  exact ⟨ret_bool (by rw [bne_iff_ne.2 Z1.out, decide_eq_true Z2.out]; rfl), B10.out⟩
end Go.Proofs.YtbdmfjlbjohanaaDoor
