/- Several texts laid together: FreeM, LawFree. -/
import Derived.Test.YtbbmljakfbhnpaaGreatDoorZBV
import Derived.Test.YtbbmljakfbhnpaaGreatDoorZBH
import Derived.Test.YtbbmljakfbhnpaaGreatDoorZBW
import Derived.Test.YtbbmljakfbhnpaaGreatDoorZAW
import Derived.Test.YtbbmljakfbhnpaaGreatDoorZBX
namespace Go.Proofs.YtbbmljakfbhnpaaGreatDoor
open Go.RowKit

theorem idle_RF {ws es : List Int} {ns : List Ino} {ds : List Den} (h : Idle ws es ns ds) : (∀ k (h : k < ns.length), ns[k].R) ∧ ∀ k (h : k < ds.length), ds[k].name.size ≤ maxLen := by
 have q := zrf h.pm 16
 have r := zih (zcl ws []) 24
 rw [show zbd (zcl ws []) 16 = ns from h.wi.inos] at q
 rw [show zbg (zcl ws []) 24 = ds from h.wi.dens] at r
 exact ⟨q, r⟩
theorem zpv (p : Nat → Bool) (n : Nat) : (zaq p n = -1) ∨ ∃ k : Nat, zaq p n = (k : Int) ∧ k < n ∧ p k = true ∧ ∀ j, j < k → p j = false := by
 unfold zaq
 cases h : (List.range n).find? p with
 | none => exact .inl rfl
 | some k =>
  obtain ⟨a, b, c⟩ := List.find?_range_eq_some.1 h
  exact .inr ⟨k, rfl, List.mem_range.1 b, a, fun j hj => by have := c j hj; simpa using this⟩
/-- How often a number stands in a list. -/
def zsp (U : List Int) (i : Int) : Nat := U.count i
theorem zsu {U : List Int} {i : Int} {m : Nat} (h : m < U.length) : zsp (U.take (m + 1)) i = zsp (U.take m) i + if U[m] = i then 1 else 0 := by
 unfold zsp
 rw [List.take_add_one, List.getElem?_eq_getElem h, List.count_append]
 simp [List.count_cons]
theorem cntU_le (U : List Int) (i : Int) (m : Nat) : zsp (U.take m) i ≤ m := by
 unfold zsp
 have := List.count_le_length (a := i) (l := U.take m)
 rw [List.length_take] at this
 omega
theorem cnt_pair : ∀ (U : List Int), U.Pairwise (fun x y => x ≠ y) → ∀ i, i ∈ U → U.count i = 1
 | [], _, i, m => by cases m
 | x :: xs, h, i, m => by
  rw [List.pairwise_cons] at h
  rw [List.count_cons]
  by_cases e : x = i
  ·subst e
   have q : ¬ x ∈ xs := fun q => h.1 x q rfl
   rw [List.count_eq_zero_of_not_mem q]
   simp
  ·have q : i ∈ xs := by
    rcases List.mem_cons.1 m with r | r
    ·exact absurd r.symm e
    ·exact r
   rw [cnt_pair xs h.2 i q]
   simp [e]
theorem cntU_one {U : List Int} (h : zdv U = true) {i : Int} (m : zdb U i = true) : zsp U i = 1 := by
 unfold zsp
 have mem : i ∈ U := by unfold zdb at m; simpa using m
 exact cnt_pair U ((zex U).1 h) i mem
theorem cntU_none {U : List Int} {i : Int} (m : zdb U i = false) : zsp U i = 0 := by
 unfold zsp
 have mem : ¬ i ∈ U := by unfold zdb at m; simpa using m
 exact List.count_eq_zero_of_not_mem mem
/-- What is told of a tier's places: all are used, or the first that is not. -/
theorem zsi {U : List Int} (h : zdv U = true) (n : Nat) : (fpV true (zaq (fun i => !zdb U (i : Int)) n) = 0 ∧ fpC true (zaq (fun i => !zdb U (i : Int)) n) = 7) ∨ ∃ k : Nat, k < n ∧ fpV true (zaq (fun i => !zdb U (i : Int)) n) = (k : Int) ∧ fpC true (zaq (fun i => !zdb U (i : Int)) n) = 0 ∧ zsp U (k : Int) = 0 ∧ ∀ j : Nat, j < k → zsp U (j : Int) = 1 := by
 rcases zpv (fun i => !zdb U (i : Int)) n with e | ⟨k, e, a, b, c⟩
 ·rw [e]
  exact .inl ⟨rfl, rfl⟩
 ·rw [e]
  refine .inr ⟨k, a, ?_, ?_, cntU_none (by simpa using b), fun j hj => cntU_one h (by simpa using c j hj)⟩
  ·unfold fpV tellV; rw [if_pos rfl, if_neg (by omega)]
  ·unfold fpC tellC; rw [if_pos rfl, if_neg (by omega)]
theorem inode_told (ns : List Ino) (l16 : ns.length = 16) : (fpV true (zaq (fun i => decide (1 ≤ i) && zaj ns (i : Int) == 0) ns.length) = 0 ∧ fpC true (zaq (fun i => decide (1 ≤ i) && zaj ns (i : Int) == 0) ns.length) = 7) ∨ ∃ k : Nat, 1 ≤ k ∧ k < 16 ∧ fpV true (zaq (fun i => decide (1 ≤ i) && zaj ns (i : Int) == 0) ns.length) = (k : Int) ∧ fpC true (zaq (fun i => decide (1 ≤ i) && zaj ns (i : Int) == 0) ns.length) = 0 ∧ (zam ns k).kind = 0 := by
 rcases zpv (fun i => decide (1 ≤ i) && zaj ns (i : Int) == 0) ns.length with e | ⟨k, e, a, b, -⟩
 ·rw [e]
  exact .inl ⟨rfl, rfl⟩
 ·rw [e]
  simp only [Bool.and_eq_true, decide_eq_true_eq, beq_iff_eq] at b
  refine .inr ⟨k, b.1, by omega, ?_, ?_, ?_⟩
  ·unfold fpV tellV; rw [if_pos rfl, if_neg (by omega)]
  ·unfold fpC tellC; rw [if_pos rfl, if_neg (by omega)]
  ·have := b.2
   unfold zaj at this
   rw [zbs a]
   rw [Int.toNat_natCast, List.getD_eq_getElem?_getD, List.getElem?_eq_getElem a] at this
   exact this
theorem ziz : ndW = (((List.replicate 336 (0 : Int)).set 0 7).set 48 2).set 50 1 := by unfold ndW zfe; rfl
theorem zvt : riC ndW [] = 0 := by rw [ziz]; kernel_rfl
theorem nd_len : (riN ndW []).length = 16 ∧ (riD ndW []).length = 24 := by rw [ziz]; exact ⟨by kernel_rfl, by kernel_rfl⟩
theorem nd_ent : eoC (riN ndW []) (riD ndW []) 0 = 0 ∧ eoL (riN ndW []) (riD ndW []) 0 = [] := by rw [ziz]; exact ⟨by kernel_rfl, by kernel_rfl⟩
theorem nd_ok : (pmB ndW [] && zip zvh []) = true := by rw [ziz]; kernel_rfl
theorem nd_pm : pmB ndW [] = true := by rw [ziz]; kernel_rfl
theorem nd_R : (∀ k (h : k < (riN ndW []).length), (riN ndW [])[k].R) ∧ ∀ k (h : k < (riD ndW []).length), (riD ndW [])[k].name.size ≤ maxLen := by
 have e1 : riN ndW [] = zbd (zcl ndW []) 16 := by unfold riN; rw [if_pos zvt]
 have e2 : riD ndW [] = zbg (zcl ndW []) 24 := by unfold riD; rw [if_pos zvt]
 rw [e1, e2]
 exact ⟨zrf nd_pm 16, zih _ 24⟩
end Go.Proofs.YtbbmljakfbhnpaaGreatDoor

namespace Go.Proofs.YtbbmljakfbhnpaaGreatDoor
open Go.RowKit

set_option maxRecDepth 100000 in
set_option maxHeartbeats 64000000 in
theorem fnFree_law (vA : Value) (cs : List Int) (w : World) (hA : RdB w vA cs) (hT : TS w) (hE : ED w) (hF : FD w) :
  Calls Tryz.prog 4 #[vA] w fun e w' => e = .returned (.bool true) ∧ Below w.heap.size w w' := by
 obtain ⟨aA, cA, rfl, _⟩ := hA.shape
 have HA := zaa hA
 have GT := zaa (And.intro hT (And.intro hE hF))
 clear hA hT hE hF
 by_cases c1 : 1048576 < cs.length
 ·go_enter Tryz.func4, Tryz.ntmps4
  go_wp2
  go_ret
  exact ⟨rfl, Below.refl _ _⟩
 go_enter Tryz.func4, Tryz.ntmps4
 go_wp2_with fail
 refine (zwx _ cs w HA.out (by omega)).mono ?_
 rintro e w1 ⟨v1, ws, es, ns, ds, rfl, hi, hr1, hb1⟩
 have R1 := zaa hr1
 have IM := zaa hi.img
 obtain ⟨vI, vD, rfl, h1, h2⟩ := hr1
 obtain ⟨l16, l24, -, -, -, -, sg⟩ := zay hi.img
 have L16 := zaa l16
 have L24 := zaa l24
 have UO0 : Hid (zdv (zao (zai ns) 1) = true ∧ zdv (zao (zai ns) 2) = true) := by unfold zhp at sg; rw [Bool.and_eq_true] at sg; exact sg
 have UL0 := zaa (fun t => show (zao (zai ns) t).length ≤ 128 by have := zev (zai ns) t; have := zdx ns; omega)
 obtain ⟨aW, cW, rfl, _, hcW⟩ := h1.shape
 obtain ⟨aP, cP, rfl, _, _⟩ := h2.shape
 obtain ⟨bW, oW, rfl, hblW, hcellW⟩ := hcW (by omega)
 obtain ⟨W1, hW1⟩ : ∃ W1, W1 = w1.alloc (.cells #[.slice (some ⟨bW, oW, none⟩) ns.length cW, .slice aP ds.length cP] 26) := ⟨_, rfl⟩
 have A1 : Hid (Below w1.heap.size w1 W1) := by rw [hW1]; exact (Below.refl _ _).alloc (Nat.le_refl _) _
 have B1 := zaa (zab hb1 A1.out hb1.size)
 have M1 : Hid (W1.heap[w1.heap.size]? = some (.cells #[.slice (some ⟨bW, oW, none⟩) ns.length cW, .slice aP ds.length cP] 26 (0, 0))) := by rw [hW1]; exact zah rfl
 have RI := zaa (R1.out.below A1.out)
 have GR := zaa (idle_RF hi)
 have HK : Hid (∀ k, k < 16 → ∀ w', Below W1.heap.size W1 w' → w'.cell? ⟨bW, oW + k * 11, none⟩ = some (.int .i64 (zam ns k).kind)) := fun k hk w' hb' => by
  have hb : Below w1.heap.size w1 w' := zab A1.out hb' A1.out.size
  rw [zbs (by have := L16.out; omega : k < ns.length)]
  obtain ⟨a0, -⟩ := hcellW k (by omega)
  exact (hb.cell (p := ⟨bW, oW + k * 11, none⟩) hblW).trans a0
 have GW : Hid (TS W1 ∧ ED W1 ∧ FD W1) := ⟨GT.out.1.below B1.out, GT.out.2.1.below B1.out, GT.out.2.2.below B1.out⟩
 have IT := zaa (inode_told ns l16)
 clear h1 h2 hcW hcellW l16 l24 sg hi hb1 R1 HA GT
 go_upto_region 4 with fail
 rw [← hW1]
 clear hW1
 generalize w1.heap.size = mb at *
 have MB : Hid (∀ w', Below W1.heap.size W1 w' → w'.heap[mb]? = some (.cells #[.slice (some ⟨bW, oW, none⟩) ns.length cW, .slice aP ds.length cP] 26 (0, 0))) := fun w' hb => (hb.block _ (Array.getElem?_eq_some_iff.1 M1.out).1).trans M1.out
 clear M1 A1
 go_wp2_with fail
 go_loopw [4] (fun vt wr => ∃ t : Nat, 1 ≤ t ∧ t ≤ 3 ∧ vt = .int .i64 (t : Int) ∧ Hid (Below W1.heap.size W1 wr)) (fun vt _ => 3 - (intOf vt).toNat)
 case atStart => exact ⟨1, by omega, by omega, rfl, Below.refl _ _⟩
 case round =>
  obtain ⟨t, t1, t3, rfl, J0⟩ := hrel
  rcases (show t = 1 ∨ t = 2 ∨ t = 3 by omega) with rfl | rfl | rfl
  ·have UL := UL0.out 1
   have UO : Hid (zdv (zao (zai ns) 1) = true) := UO0.out.1
   have K1 := zaa (fun w' (hb : Below W1.heap.size W1 w') => zfo _ ns ds 1 w' (RI.out.below hb) (by have := L16.out; omega) (by have := L24.out; omega) (GW.out.1.below hb) (GW.out.2.1.below hb) (GW.out.2.2.below hb) GR.out.1 GR.out.2)
   have K2 := zaa (fun w' (hb : Below W1.heap.size W1 w') => zhy _ ns ds 1 w' (RI.out.below hb) (by have := L16.out; omega) (by have := L24.out; omega) GR.out.1 GR.out.2)
   rw [IM.out, show ubC true 1 = 0 from rfl, show ubL true (zai ns) 1 = zao (zai ns) 1 from rfl] at K1 K2
   obtain ⟨x0, x1, -, -⟩ := zac (MB.out _ J0.out)
   go_wp2_with fail
   refine (K1.out _ J0.out).mono ?_
   rintro e u1 ⟨v1, rfl, hr1, hb1⟩
   have J1 := zaa (zab J0.out hb1 J0.out.size)
   have RU1 : Hid (RdI u1 v1 (zao (zai ns) 1)) := hr1.rd
   obtain ⟨aU, cU, hv1, _, hcU⟩ := RdI.shape RU1.out
   subst hv1
   have UC0 : Hid (∀ k (h : k < (zao (zai ns) 1).length), ∃ b o, aU = some ⟨b, o, none⟩ ∧ ∀ w', Below u1.heap.size u1 w' → w'.cell? ⟨b, o + k, none⟩ = some (.int .i64 (zao (zai ns) 1)[k])) := fun k h => by
    obtain ⟨b, o, e1, hbl, hc⟩ := hcU (by omega)
    exact ⟨b, o, e1, fun w' hb => (hb.cell (p := ⟨b, o + k, none⟩) hbl).trans (hc k h)⟩
   clear hcU hr1 hb1 x0 x1 K1
   obtain ⟨x0, x1, -, -⟩ := zac (MB.out _ J1.out)
   go_wp2_with fail
   refine (K2.out _ J1.out).mono ?_
   rintro e u2 ⟨v2, rfl, hr2, hb2⟩
   have J2 := zaa (zab J1.out hb2 J1.out.size)
   have Z2 := zaa hb2
   have Y2 := zaa (Below.refl u2.heap.size u2)
   have RU2 : Hid (RdI u2 v2 (zao (zai ns) 1)) := hr2.rd
   obtain ⟨aV, cV, hv2, _, _⟩ := RdI.shape RU2.out
   subst hv2
   clear hr2 hb2 x0 x1 K2
   have K3 := zaa (fun w' (hb : Below W1.heap.size W1 w') => zgu _ ns ds w' (RI.out.below hb) (by have := L16.out; omega) (by have := L24.out; omega) (GW.out.1.below hb) (GW.out.2.1.below hb) (GW.out.2.2.below hb) GR.out.1 GR.out.2)
   rw [IM.out] at K3
   obtain ⟨x0, x1, -, -⟩ := zac (MB.out _ J2.out)
   go_wp2_with fail
   refine (K3.out _ J2.out).mono ?_
   rintro e u3 ⟨rfl, hb3⟩
   have J3 := zaa (zab J2.out hb3 J2.out.size)
   have Z3 := zaa (zab Z2.out hb3 Z2.out.size)
   have Y3 := zaa (zab Y2.out hb3 Y2.out.size)
   clear hb3 x0 x1 K3
   have FT := zaa (zsi UO.out 24)
   generalize fpV true (zaq (fun i => !zdb (zao (zai ns) 1) (i : Int)) 24) = fk at *
   generalize fpC true (zaq (fun i => !zdb (zao (zai ns) 1) (i : Int)) 24) = fc at *
   have J4 := J3
   have Z4 := Z3
   have Y4 := Y3
   have RU1b : Hid (RdI u3 _ (zao (zai ns) 1)) := Rd.below RU1.out Z4.out
   have RU2b : Hid (RdI u3 _ (zao (zai ns) 1)) := Rd.below RU2.out Y4.out
   have LS := zaa (zib _ _ (zao (zai ns) 1) u3 RU1b.out RU2b.out (by omega))
   go_wp2_with fail
   refine LS.out.mono ?_
   rintro e u5 ⟨rfl, hb5⟩
   have J5 := zaa (zab J4.out hb5 J4.out.size)
   have Z5 := zaa (zab Z4.out hb5 Z4.out.size)
   clear hb5 LS RU1 RU2 RU1b RU2b
   have UC : Hid (∀ k (h : k < (zao (zai ns) 1).length), ∃ b o, aU = some ⟨b, o, none⟩ ∧ ∀ w', Below u5.heap.size u5 w' → w'.cell? ⟨b, o + k, none⟩ = some (.int .i64 (zao (zai ns) 1)[k])) := fun k h => by
    obtain ⟨b, o, e1, hc⟩ := UC0.out k h
    exact ⟨b, o, e1, fun w' hb => hc w' (zab Z5.out hb Z5.out.size)⟩
   clear UC0 UO
   generalize zao (zai ns) 1 = U at *
   rcases FT.out with ⟨rfl, rfl⟩ | ⟨k, k24, rfl, rfl, kz, ko⟩
   ·clear FT UC
    go_wp2
    go_roundw
    case rel => exact ⟨1 + 1, by omega, by omega, by go_num, J5⟩
    case measure => simp [intOf]
   ·have KZ := zaa kz
    have KO := zaa ko
    clear FT kz ko
    have kb : k ≤ 32 := by omega
    go_wp2_with fail
    go_loopw [11] (fun vi wx => ∃ i : Nat, i ≤ k + 1 ∧ vi = .int .i64 (i : Int) ∧ Hid (Below u5.heap.size u5 wx)) (fun vi _ => k + 1 - (intOf vi).toNat)
    case atStart => exact ⟨0, Nat.zero_le _, rfl, Below.refl _ _⟩
    case round =>
     obtain ⟨i, hi, rfl, JX⟩ := hrel
     by_cases ci : i ≤ k
     case neg =>
      have ck : ¬ (i : Int) ≤ (k : Int) := by omega
      go_wp2
      go_roundw
      case rel => exact ⟨1 + 1, by omega, by omega, by go_num, zab J5.out JX.out J5.out.size⟩
      case measure => simp [intOf]
     have ck : (i : Int) ≤ (k : Int) := by omega
     go_wp2_with fail
     go_loopw [12, 13] (fun vn vj wy => ∃ j : Nat, j ≤ U.length ∧ vj = .int .i64 (j : Int) ∧ vn = .int .i64 (zsp (U.take j) (i : Int) : Int) ∧ Hid (Below u5.heap.size u5 wy)) (fun _ vj _ => U.length - (intOf vj).toNat)
     case atStart => exact ⟨0, Nat.zero_le _, rfl, rfl, JX⟩
     case round =>
      obtain ⟨j, hj, rfl, rfl, JY⟩ := hrel
      have cl := cntU_le U (i : Int) j
      by_cases cj : j < U.length
      case neg =>
       have cj' : ¬ (j : Int) < (U.length : Int) := by omega
       have ej : U.take j = U := by rw [show j = U.length by omega]; exact List.take_length
       rw [ej]
       by_cases cc : i < k
       ·have o1 : zsp U (i : Int) = 1 := KO.out i cc
        rw [o1]
        have d1 : decide ((i : Int) < (k : Int)) = true := decide_eq_true (by omega)
        have d1' : (i : Int) < (k : Int) := by omega
        have d2 : ((i : Int) == (k : Int)) = false := by rw [beq_eq_false_iff_ne]; omega
        go_wp2
        go_roundw
        case rel => exact ⟨i + 1, by omega, by go_num, JY⟩
        case measure => first | (simp [intOf]; done) | (simp [intOf]; omega)
       ·obtain rfl : i = k := by omega
        rw [KZ.out]
        have d1' : ¬ (i : Int) < (i : Int) := by omega
        go_wp2
        go_roundw
        case rel => exact ⟨i + 1, by omega, by go_num, JY⟩
        case measure => first | (simp [intOf]; done) | (simp [intOf]; omega)
      have cj' : (j : Int) < (U.length : Int) := by omega
      have j0 : (0 : Int) ≤ (j : Int) := by omega
      obtain ⟨bU, oU, rfl, hc⟩ := UC.out j cj
      have y0 := hc _ JY.out
      have CT := zaa (zsu (i := (i : Int)) cj)
      generalize zsp (U.take j) (i : Int) = cn at *
      generalize U[j] = z at *
      by_cases cz : z = (i : Int)
      ·have dz : (z == (i : Int)) = true := by rw [beq_iff_eq]; exact cz
       go_wp2
       go_roundw
       case rel => exact ⟨j + 1, by omega, by go_num, by rw [CT.out, if_pos cz]; go_num, JY⟩
       case measure => first | (simp [intOf]; done) | (simp [intOf]; omega)
      ·have dz : (z == (i : Int)) = false := by rw [beq_eq_false_iff_ne]; exact cz
       go_wp2
       go_roundw
       case rel => exact ⟨j + 1, by omega, by go_num, by rw [CT.out, if_neg cz]; rfl, JY⟩
       case measure => first | (simp [intOf]; done) | (simp [intOf]; omega)
  ·have UL := UL0.out 2
   have UO : Hid (zdv (zao (zai ns) 2) = true) := UO0.out.2
   have K1 := zaa (fun w' (hb : Below W1.heap.size W1 w') => zfo _ ns ds 2 w' (RI.out.below hb) (by have := L16.out; omega) (by have := L24.out; omega) (GW.out.1.below hb) (GW.out.2.1.below hb) (GW.out.2.2.below hb) GR.out.1 GR.out.2)
   have K2 := zaa (fun w' (hb : Below W1.heap.size W1 w') => zhy _ ns ds 2 w' (RI.out.below hb) (by have := L16.out; omega) (by have := L24.out; omega) GR.out.1 GR.out.2)
   rw [IM.out, show ubC true 2 = 0 from rfl, show ubL true (zai ns) 2 = zao (zai ns) 2 from rfl] at K1 K2
   obtain ⟨x0, x1, -, -⟩ := zac (MB.out _ J0.out)
   go_wp2_with fail
   refine (K1.out _ J0.out).mono ?_
   rintro e u1 ⟨v1, rfl, hr1, hb1⟩
   have J1 := zaa (zab J0.out hb1 J0.out.size)
   have RU1 : Hid (RdI u1 v1 (zao (zai ns) 2)) := hr1.rd
   obtain ⟨aU, cU, hv1, _, hcU⟩ := RdI.shape RU1.out
   subst hv1
   have UC0 : Hid (∀ k (h : k < (zao (zai ns) 2).length), ∃ b o, aU = some ⟨b, o, none⟩ ∧ ∀ w', Below u1.heap.size u1 w' → w'.cell? ⟨b, o + k, none⟩ = some (.int .i64 (zao (zai ns) 2)[k])) := fun k h => by
    obtain ⟨b, o, e1, hbl, hc⟩ := hcU (by omega)
    exact ⟨b, o, e1, fun w' hb => (hb.cell (p := ⟨b, o + k, none⟩) hbl).trans (hc k h)⟩
   clear hcU hr1 hb1 x0 x1 K1
   obtain ⟨x0, x1, -, -⟩ := zac (MB.out _ J1.out)
   go_wp2_with fail
   refine (K2.out _ J1.out).mono ?_
   rintro e u2 ⟨v2, rfl, hr2, hb2⟩
   have J2 := zaa (zab J1.out hb2 J1.out.size)
   have Z2 := zaa hb2
   have Y2 := zaa (Below.refl u2.heap.size u2)
   have RU2 : Hid (RdI u2 v2 (zao (zai ns) 2)) := hr2.rd
   obtain ⟨aV, cV, hv2, _, _⟩ := RdI.shape RU2.out
   subst hv2
   clear hr2 hb2 x0 x1 K2
   have K3 := zaa (fun w' (hb : Below W1.heap.size W1 w') => zgu _ ns ds w' (RI.out.below hb) (by have := L16.out; omega) (by have := L24.out; omega) (GW.out.1.below hb) (GW.out.2.1.below hb) (GW.out.2.2.below hb) GR.out.1 GR.out.2)
   rw [IM.out] at K3
   obtain ⟨x0, x1, -, -⟩ := zac (MB.out _ J2.out)
   go_wp2_with fail
   refine (K3.out _ J2.out).mono ?_
   rintro e u3 ⟨rfl, hb3⟩
   have J3 := zaa (zab J2.out hb3 J2.out.size)
   have Z3 := zaa (zab Z2.out hb3 Z2.out.size)
   have Y3 := zaa (zab Y2.out hb3 Y2.out.size)
   clear hb3 x0 x1 K3
   have K4 := zaa (fun w' (hb : Below W1.heap.size W1 w') => zjs _ ns ds w' (RI.out.below hb) (by have := L16.out; omega) (by have := L24.out; omega) (GW.out.1.below hb) (GW.out.2.1.below hb) (GW.out.2.2.below hb) GR.out.1 GR.out.2)
   rw [IM.out] at K4
   generalize fpV true (zaq (fun i => !zdb (zao (zai ns) 1) (i : Int)) 24) = fk0 at *
   generalize fpC true (zaq (fun i => !zdb (zao (zai ns) 1) (i : Int)) 24) = fc0 at *
   obtain ⟨x0, x1, -, -⟩ := zac (MB.out _ J3.out)
   go_wp2_with fail
   refine (K4.out _ J3.out).mono ?_
   rintro e u4 ⟨rfl, hb4⟩
   have J4 := zaa (zab J3.out hb4 J3.out.size)
   have Z4 := zaa (zab Z3.out hb4 Z3.out.size)
   have Y4 := zaa (zab Y3.out hb4 Y3.out.size)
   clear hb4 x0 x1 K4
   have FT := zaa (zsi UO.out 32)
   generalize fpV true (zaq (fun i => !zdb (zao (zai ns) 2) (i : Int)) 32) = fk at *
   generalize fpC true (zaq (fun i => !zdb (zao (zai ns) 2) (i : Int)) 32) = fc at *
   have RU1b : Hid (RdI u4 _ (zao (zai ns) 2)) := Rd.below RU1.out Z4.out
   have RU2b : Hid (RdI u4 _ (zao (zai ns) 2)) := Rd.below RU2.out Y4.out
   have LS := zaa (zib _ _ (zao (zai ns) 2) u4 RU1b.out RU2b.out (by omega))
   go_wp2_with fail
   refine LS.out.mono ?_
   rintro e u5 ⟨rfl, hb5⟩
   have J5 := zaa (zab J4.out hb5 J4.out.size)
   have Z5 := zaa (zab Z4.out hb5 Z4.out.size)
   clear hb5 LS RU1 RU2 RU1b RU2b
   have UC : Hid (∀ k (h : k < (zao (zai ns) 2).length), ∃ b o, aU = some ⟨b, o, none⟩ ∧ ∀ w', Below u5.heap.size u5 w' → w'.cell? ⟨b, o + k, none⟩ = some (.int .i64 (zao (zai ns) 2)[k])) := fun k h => by
    obtain ⟨b, o, e1, hc⟩ := UC0.out k h
    exact ⟨b, o, e1, fun w' hb => hc w' (zab Z5.out hb Z5.out.size)⟩
   clear UC0 UO
   generalize zao (zai ns) 2 = U at *
   rcases FT.out with ⟨rfl, rfl⟩ | ⟨k, k24, rfl, rfl, kz, ko⟩
   ·clear FT UC
    go_wp2
    go_roundw
    case rel => exact ⟨2 + 1, by omega, by omega, by go_num, J5⟩
    case measure => simp [intOf]
   ·have KZ := zaa kz
    have KO := zaa ko
    clear FT kz ko
    have kb : k ≤ 32 := by omega
    go_wp2_with fail
    go_loopw [11] (fun vi wx => ∃ i : Nat, i ≤ k + 1 ∧ vi = .int .i64 (i : Int) ∧ Hid (Below u5.heap.size u5 wx)) (fun vi _ => k + 1 - (intOf vi).toNat)
    case atStart => exact ⟨0, Nat.zero_le _, rfl, Below.refl _ _⟩
    case round =>
     obtain ⟨i, hi, rfl, JX⟩ := hrel
     by_cases ci : i ≤ k
     case neg =>
      have ck : ¬ (i : Int) ≤ (k : Int) := by omega
      go_wp2
      go_roundw
      case rel => exact ⟨2 + 1, by omega, by omega, by go_num, zab J5.out JX.out J5.out.size⟩
      case measure => simp [intOf]
     have ck : (i : Int) ≤ (k : Int) := by omega
     go_wp2_with fail
     go_loopw [12, 13] (fun vn vj wy => ∃ j : Nat, j ≤ U.length ∧ vj = .int .i64 (j : Int) ∧ vn = .int .i64 (zsp (U.take j) (i : Int) : Int) ∧ Hid (Below u5.heap.size u5 wy)) (fun _ vj _ => U.length - (intOf vj).toNat)
     case atStart => exact ⟨0, Nat.zero_le _, rfl, rfl, JX⟩
     case round =>
      obtain ⟨j, hj, rfl, rfl, JY⟩ := hrel
      have cl := cntU_le U (i : Int) j
      by_cases cj : j < U.length
      case neg =>
       have cj' : ¬ (j : Int) < (U.length : Int) := by omega
       have ej : U.take j = U := by rw [show j = U.length by omega]; exact List.take_length
       rw [ej]
       by_cases cc : i < k
       ·have o1 : zsp U (i : Int) = 1 := KO.out i cc
        rw [o1]
        have d1 : decide ((i : Int) < (k : Int)) = true := decide_eq_true (by omega)
        have d1' : (i : Int) < (k : Int) := by omega
        have d2 : ((i : Int) == (k : Int)) = false := by rw [beq_eq_false_iff_ne]; omega
        go_wp2
        go_roundw
        case rel => exact ⟨i + 1, by omega, by go_num, JY⟩
        case measure => first | (simp [intOf]; done) | (simp [intOf]; omega)
       ·obtain rfl : i = k := by omega
        rw [KZ.out]
        have d1' : ¬ (i : Int) < (i : Int) := by omega
        go_wp2
        go_roundw
        case rel => exact ⟨i + 1, by omega, by go_num, JY⟩
        case measure => first | (simp [intOf]; done) | (simp [intOf]; omega)
      have cj' : (j : Int) < (U.length : Int) := by omega
      have j0 : (0 : Int) ≤ (j : Int) := by omega
      obtain ⟨bU, oU, rfl, hc⟩ := UC.out j cj
      have y0 := hc _ JY.out
      have CT := zaa (zsu (i := (i : Int)) cj)
      generalize zsp (U.take j) (i : Int) = cn at *
      generalize U[j] = z at *
      by_cases cz : z = (i : Int)
      ·have dz : (z == (i : Int)) = true := by rw [beq_iff_eq]; exact cz
       go_wp2
       go_roundw
       case rel => exact ⟨j + 1, by omega, by go_num, by rw [CT.out, if_pos cz]; go_num, JY⟩
       case measure => first | (simp [intOf]; done) | (simp [intOf]; omega)
      ·have dz : (z == (i : Int)) = false := by rw [beq_eq_false_iff_ne]; exact cz
       go_wp2
       go_roundw
       case rel => exact ⟨j + 1, by omega, by go_num, by rw [CT.out, if_neg cz]; rfl, JY⟩
       case measure => first | (simp [intOf]; done) | (simp [intOf]; omega)
  ·have K6 := zaa (fun w' (hb : Below W1.heap.size W1 w') => zkc _ ns ds w' (RI.out.below hb) (by have := L16.out; omega) (by have := L24.out; omega) (GW.out.1.below hb) (GW.out.2.1.below hb) (GW.out.2.2.below hb) GR.out.1 GR.out.2)
   rw [IM.out] at K6
   generalize fpV true (zaq (fun i => decide (1 ≤ i) && zaj ns (i : Int) == 0) ns.length) = fk at *
   generalize fpC true (zaq (fun i => decide (1 ≤ i) && zaj ns (i : Int) == 0) ns.length) = fc at *
   obtain ⟨x0, x1, -, -⟩ := zac (MB.out _ J0.out)
   go_wp2_with fail
   refine (K6.out _ J0.out).mono ?_
   rintro e u1 ⟨rfl, hb1⟩
   have J1 := zaa (zab J0.out hb1 J0.out.size)
   clear hb1 x0 x1 K6 UO0 UL0
   go_wp2_with fail
   refine (zju u1 (GW.out.1.below J1.out) (GW.out.2.1.below J1.out)).mono ?_
   rintro e u2 ⟨v2, rfl, hr2, hb2⟩
   have RD2 := zaa hr2.rd
   obtain ⟨d1, d2, d3, d4, d5, d6, d7, d8, rfl, -, -⟩ := hr2.rd.form
   have J2 := zaa (zab J1.out hb2 J1.out.size)
   obtain ⟨W2, hW2⟩ : ∃ W2, W2 = u2.alloc (.cells #[.slice d1 ndW.length d2, .slice d3 0 d4, .slice d5 zvh.length d6, .slice d7 0 d8] 36) := ⟨_, rfl⟩
   have A2 : Hid (Below u2.heap.size u2 W2) := by rw [hW2]; exact (Below.refl _ _).alloc (Nat.le_refl _) _
   have D2 : Hid (W2.heap[u2.heap.size]? = some (.cells #[.slice d1 ndW.length d2, .slice d3 0 d4, .slice d5 zvh.length d6, .slice d7 0 d8] 36 (0, 0))) := by rw [hW2]; exact zah rfl
   have J2' := zaa (zab J2.out A2.out J2.out.size)
   have RDW := zaa (RD2.out.below A2.out)
   clear hr2 hb2 RD2
   go_upto_region 30 with fail
   rw [← hW2]
   clear hW2
   have KR : Hid (Calls Tryz.prog 14 #[.agg #[.slice d1 ndW.length d2, .slice d3 0 d4]] W2 fun e w' => ∃ v', e = .returned (.tuple #[v', .int .i64 0]) ∧ RdIm w' v' (riN ndW []) (riD ndW []) ∧ Below W2.heap.size W2 w') := by
    obtain ⟨e1, e2, e3, e4, e5, e6, e7, e8, ev, q, -⟩ := RDW.out.form
    simp only [Value.agg.injEq, Array.mk.injEq, List.cons.injEq, and_true] at ev
    obtain ⟨f1, f2, -, -⟩ := ev
    have z : ([] : List St).length = 0 := rfl
    rw [z] at f2
    rw [← f1] at q
    rw [z, ← f2] at q
    refine (zkl _ ndW [] W2 q (by rw [zny]; decide) (by decide) (GW.out.1.below J2'.out) (GW.out.2.1.below J2'.out) (GW.out.2.2.below J2'.out)).mono ?_
    rintro e w' ⟨v', rfl, r, hb⟩
    exact ⟨v', by rw [zvt], r.rd, hb⟩
   obtain ⟨y0, y1, y2, y3, -⟩ := zap D2.out
   go_wp2_with fail
   refine KR.out.mono ?_
   rintro e u3 ⟨v3, rfl, hr3, hb3⟩
   have R3 := zaa hr3
   have D3 := zaa ((hb3.block _ (Array.getElem?_eq_some_iff.1 D2.out).1).trans D2.out)
   have J3 := zaa (zab J2'.out hb3 J2'.out.size)
   have RD3 := zaa (RDW.out.below hb3)
   obtain ⟨vI3, vD3, rfl, h31, h32⟩ := hr3
   obtain ⟨-, g1, g2, hv31, -⟩ := h31
   obtain ⟨-, g3, g4, hv32, -⟩ := h32
   subst hv31
   subst hv32
   obtain ⟨W3, hW3⟩ : ∃ W3, W3 = u3.alloc (.cells #[.slice g1 (riN ndW []).length g2, .slice g3 (riD ndW []).length g4] 26) := ⟨_, rfl⟩
   have A3 : Hid (Below u3.heap.size u3 W3) := by rw [hW3]; exact (Below.refl _ _).alloc (Nat.le_refl _) _
   have S3 : Hid (W3.heap[u3.heap.size]? = some (.cells #[.slice g1 (riN ndW []).length g2, .slice g3 (riD ndW []).length g4] 26 (0, 0))) := by rw [hW3]; exact zah rfl
   have D3' := zaa ((A3.out.block _ (Array.getElem?_eq_some_iff.1 D3.out).1).trans D3.out)
   have J3' := zaa (zab J3.out A3.out J3.out.size)
   have RD3' := zaa (RD3.out.below A3.out)
   have KE := zaa (zke _ (riN ndW []) (riD ndW []) 0 W3 (R3.out.below A3.out) (by rw [nd_len.1]; decide) (by rw [nd_len.2]; decide) (GW.out.1.below J3'.out) (GW.out.2.1.below J3'.out) (GW.out.2.2.below J3'.out) nd_R.1 nd_R.2)
   rw [nd_ent.1, nd_ent.2] at KE
   clear hb3 KR y0 y1 y2 y3 RD3 D3 R3 A3
   go_upto_region 31 with fail
   rw [← hW3]
   clear hW3
   generalize riN ndW [] = n3 at *
   generalize riD ndW [] = d3' at *
   obtain ⟨x0, x1, -, -⟩ := zac S3.out
   go_wp2_with fail
   refine KE.out.mono ?_
   rintro e u4 ⟨v4, rfl, hr4, hb4⟩
   obtain ⟨-, a4, c4, hv4, -⟩ := hr4.rd
   subst hv4
   have J4 := zaa (zab J3'.out hb4 J3'.out.size)
   have D4 := zaa ((hb4.block _ (Array.getElem?_eq_some_iff.1 D3'.out).1).trans D3'.out)
   have KD := zaa (fun w' (hb : Below u4.heap.size u4 w') => zkh _ ndW [] zvh [] w' ((RD3'.out.below hb4).below hb) (by rw [zny]; decide) (by decide) (by decide) (by decide))
   rw [nd_ok] at KD
   clear hr4 hb4 x0 x1 KE S3 D3' RD3'
   rw [show ([] : List ByteArray).length = 0 from rfl]
   obtain ⟨y0, y1, y2, y3, -⟩ := zap D4.out
   have BF := zaa (zab B1.out J4.out B1.out.size)
   rcases IT.out with ⟨rfl, rfl⟩ | ⟨k, k1, k16, rfl, rfl, kk⟩
   ·go_wp2_with fail
    refine (KD.out _ (Below.refl _ _)).mono ?_
    rintro e u5 ⟨rfl, hb5⟩
    have BG := zaa (zab BF.out hb5 BF.out.size)
    clear hb5
    go_wp2
    go_ret
    exact ⟨rfl, BG.out⟩
   ·obtain ⟨x0, x1, -, -⟩ := zac (MB.out _ J4.out)
    have kp : (0 : Int) < (k : Int) := by omega
    have kq : (k : Int) < 16 := by omega
    have kl : (k : Int) < (ns.length : Int) := by have := L16.out; omega
    have k0 : (0 : Int) ≤ (k : Int) := by omega
    have hk0 := HK.out k k16 u4 J4.out
    rw [kk] at hk0
    clear HK IT
    go_wp2_with fail
    refine (KD.out _ (Below.refl _ _)).mono ?_
    rintro e u5 ⟨rfl, hb5⟩
    have BG := zaa (zab BF.out hb5 BF.out.size)
    clear hb5
    go_wp2
    go_ret
    exact ⟨rfl, BG.out⟩
end Go.Proofs.YtbbmljakfbhnpaaGreatDoor
