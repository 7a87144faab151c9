/- Several texts laid together: HeI, MdB, FqC. -/
import Derived.Test.YtihmihkhkmadmaaDoorZBU
import Derived.Test.YtihmihkhkmadmaaDoorZBN
import Derived.Test.YtihmihkhkmadmaaDoorZBC
import Derived.Test.YtihmihkhkmadmaaDoorWord
import Derived.Test.YtihmihkhkmadmaaDoorZAB
import Derived.Test.YtihmihkhkmadmaaDoorZAY
import Derived.Test.YtihmihkhkmadmaaDoorZAF
import Derived.Test.YtihmihkhkmadmaaDoorZAW
import Derived.Test.YtihmihkhkmadmaaDoorPiI
import Derived.Deep.DeepCutAuto
import Derived.Deep.RegionHeld3
import Derived.Deep.RegionLaw
import Derived.Deep.RegionWith
import Derived.Lib.Strings
namespace Go.Proofs.YtihmihkhkmadmaaDoor
open Go.RowKit
theorem marksD_at (k : Int) (n i : Nat) (h : i < (marksD k n).length) : (marksD k n)[i] = markD k i := by simp [marksD]
set_option maxRecDepth 100000 in
set_option maxHeartbeats 4000000 in
theorem heldDirentS_any (v : Value) (n : Nat) (k0 : Int) (w : World) (h : RdD w v (marksD k0 n)) (hn : n ≤ 16777216) (h0 : 0 ≤ k0) (h1 : k0 ≤ 1099511627776) :
    Calls Tryd.prog 22 #[v, .int .i64 k0] w fun e w' => e = .returned (.int .i64 (k0 + 3 * n)) ∧ Below w.heap.size w w' := by
  obtain ⟨ao, cap, hv, hcap, hc⟩ := h.shape
  rw [marksD_len] at hv hcap
  subst hv
  have HC := hideIt hc
  clear h hc
  go_enter Tryd.func22, Tryd.ntmps22
  go_wp2
  go_loopw [1, 5] (fun c i wr => ∃ k : Nat, k ≤ n ∧ i = .int .i64 k ∧ c = .int .i64 (k0 + 3 * (k : Int)) ∧ Hid (Below w.heap.size w wr)) (fun _ i _ => n - (intOf i).toNat)
  case atStart => exact ⟨0, by omega, rfl, by simp, Below.refl _ _⟩
  case round =>
    obtain ⟨k, hk, rfl, rfl, B⟩ := hrel
    have k0' : (0 : Int) ≤ (k : Int) := by omega
    by_cases hlt : k < n
    · obtain ⟨b, o, rfl, hbl, hcell⟩ := HC.out (by rw [marksD_len]; omega)
      have k1 : (k : Int) < (n : Int) := by omega
      have cc := hcell k (by rw [marksD_len]; exact hlt)
      rw [marksD_at] at cc
      obtain ⟨a0, a1, a2⟩ := cc
      have LM := hideIt (fun w1 => markText_any (k0 + 3 * (k : Int) + 1).toNat w1 (by omega))
      rw [show (((k0 + 3 * (k : Int) + 1).toNat : Nat) : Int) = k0 + 3 * (k : Int) + 1 by omega] at LM
      have d0 : wr.cell? ⟨b, o + k * 3, none⟩ = some (.int .i64 (k0 + 3 * (k : Int))) := (B.out.cell (p := ⟨b, o + k * 3, none⟩) hbl).trans a0
      have d1 : wr.cell? ⟨b, o + k * 3 + 1, none⟩ = some (.string (mtx (k0 + 3 * (k : Int) + 1).toNat)) := (B.out.cell (p := ⟨b, o + k * 3 + 1, none⟩) hbl).trans a1
      have d2 : Hid (w.cell? ⟨b, o + k * 3 + 2, none⟩ = some (.int .i64 (k0 + 3 * (k : Int) + 2))) := a2
      have ZN : Hid (k0 + 3 * (k : Int) + 3 = k0 + 3 * ((k + 1 : Nat) : Int)) := by unfold Hid; push_cast; omega
      have z0 : 0 ≤ k0 + 3 * (k : Int) := by omega
      have z1 : k0 + 3 * (k : Int) ≤ 2199023255552 := by omega
      clear a0 a1 a2 hcell
      generalize mtx (k0 + 3 * (k : Int) + 1).toNat = tx at *
      generalize k0 + 3 * (k : Int) = z at *
      have e2 : z + 1 + 1 = z + 2 := by omega
      have e3 : z + 2 + 1 = z + 3 := by omega
      have hblr : b < wr.heap.size := by have := B.out.size; omega
      have SK : Hid (∀ w', Below wr.heap.size wr w' → w'.cell? ⟨b, o + k * 3 + 1, none⟩ = some (.string tx)) := fun w' hb => (hb.cell (p := ⟨b, o + k * 3 + 1, none⟩) hblr).trans d1
      have hzr : w.heap.size ≤ wr.heap.size := B.out.size
      go_upto_region 7 with fail
      go_region_held3 (fun w' => w'.cell? ⟨b, o + k * 3 + 1, none⟩ = some (.string tx))
        (exact SK.out _ (by repeat (first | exact BF.out | exact Below.refl _ _ | refine Below.drew ?_)))
        (first
          | (go_at_call 42; refine (LM.out _).mono ?_; rintro e w1 ⟨rfl, hb1⟩; have BF : Hid (Below wr.heap.size wr w1) := (by first | exact hb1 | exact below_trans (by repeat (first | exact Below.refl _ _ | refine Below.drew ?_)) hb1 (Nat.le_refl _)); clear hb1))
      all_goals
        have B3 := hideIt (below_trans B.out BF.out hzr)
        have d3 := (B3.out.cell (p := ⟨b, o + k * 3 + 2, none⟩) hbl).trans d2.out
        clear SK d0 d1
        go_wp2
        go_roundw
        case rel => exact ⟨k + 1, by omega, by go_num, by rw [← ZN.out], (by repeat (first | exact B3.out | refine Below.drew ?_))⟩
        case measure => simp [intOf]; omega
    · obtain rfl : k = n := by omega
      go_wp2
      go_ret
      exact ⟨rfl, B.out⟩
end Go.Proofs.YtihmihkhkmadmaaDoor

namespace Go.Proofs.YtihmihkhkmadmaaDoor
open Go.RowKit
set_option maxRecDepth 100000 in
set_option maxHeartbeats 4000000 in
theorem markModel_any (v : Value) (ts : List Th) (ps : List Den) (k0 : Int) (lo hi : Nat) (w : World) (h : RowMd w lo hi v ts ps) (hz : hi ≤ w.heap.size) (hw : ts.length ≤ 16777216) (ht : totT ts ≤ 16777216) (hp : ps.length ≤ 16777216) (h0 : 0 ≤ k0) (h1 : k0 ≤ 1048576) :
    Calls Tryd.prog 8 #[v, .int .i64 k0] w fun e w' => e = .returned (.int .i64 (k0 + 2 * (ts.length : Int) + (totT ts : Int) + 3 * ps.length)) ∧ RowMd w' lo hi v (marksTh k0 ts) (marksD (k0 + 2 * (ts.length : Int) + (totT ts : Int)) ps.length) ∧ Outside lo hi w w' := by
  obtain ⟨vW, vP, lt, ut, lp, up, rfl, hI, hS, q⟩ := h
  obtain ⟨aW, cW, hvW⟩ := hI.rd.form
  obtain ⟨-, aP, cP, hvP, -⟩ := hS.rd
  subst hvW hvP
  have BW := hideIt ((Below.refl w.heap.size w).alloc (Nat.le_refl _) (.cells #[.slice aW ts.length cW, .slice aP ps.length cP] 25))
  have R0 := hideIt (hI.below BW.out (by omega))
  have S0 := hideIt (hS.below BW.out (by omega))
  have VB : Hid ((w.alloc (.cells #[.slice aW ts.length cW, .slice aP ps.length cP] 25)).heap[w.heap.size]? = some (.cells #[.slice aW ts.length cW, .slice aP ps.length cP] 25 (0, 0))) := at_new rfl
  have hz0 : w.heap.size < (w.alloc (.cells #[.slice aW ts.length cW, .slice aP ps.length cP] 25)).heap.size := by simp
  obtain ⟨x0, x1, _, _⟩ := two_cells VB.out
  clear hI hS
  go_enter Tryd.func8, Tryd.ntmps8
  go_wp2_with fail
  refine (markThingS_any _ ts k0 lt ut _ R0.out (by omega) (by omega) h0 (by omega)).mono ?_
  rintro e w1 ⟨rfl, hr1, ho1, hs1⟩
  have S1 := hideIt (S0.out.outside ho1 (by omega) (by omega))
  have R1 := hideIt hr1
  have O1 : Hid (Outside lo hi w w1) := (Outside.of_below BW.out).trans (ho1.mono (by omega) (by omega))
  have V1 := hideIt ((ho1.block _ hz0 (by omega)).trans VB.out)
  have hz1 : w.heap.size < w1.heap.size := by omega
  clear hr1 hs1 ho1 x0 x1 R0 S0
  obtain ⟨x0, x1, _, _⟩ := two_cells V1.out
  go_wp2_with fail
  refine (markDirentS_any _ ps (k0 + 2 * (ts.length : Int) + (totT ts : Int)) lp up _ S1.out (by omega) hp (by omega) (by omega)).mono ?_
  rintro e w2 ⟨rfl, hr2, hg2⟩
  have ho2 := Row.grown_outside S1.out hg2
  have R2 := hideIt (R1.out.outside ho2 (by omega) (by omega))
  have S2 := hideIt hr2
  have O2 := hideIt (O1.out.trans (ho2.mono (by omega) (by omega)))
  clear hr2 hg2 ho2 x0 x1
  have ML : (marksD (k0 + 2 * (ts.length : Int) + (totT ts : Int)) ps.length).length = ps.length := marksD_len _ _
  have S3 : Hid (Row w2 69 3 lp up (.slice aP ps.length cP) (marksD (k0 + 2 * (ts.length : Int) + (totT ts : Int)) ps.length).length (dens (marksD (k0 + 2 * (ts.length : Int) + (totT ts : Int)) ps.length))) := by unfold Hid; rw [ML]; exact S2.out
  clear S2 ML
  go_wp2
  go_ret
  exact ⟨rfl, ⟨_, _, lt, ut, lp, up, rfl, R2.out, S3.out, q⟩, O2.out⟩
set_option maxRecDepth 100000 in
set_option maxHeartbeats 4000000 in
theorem heldModel_any (v : Value) (ts : List Th) (m : Nat) (k0 : Int) (w : World) (h : RdMd w v (marksTh k0 ts) (marksD (k0 + 2 * (ts.length : Int) + (totT ts : Int)) m)) (hn : ts.length ≤ 16777216) (ht : totT ts ≤ 16777216) (hm : m ≤ 16777216) (h0 : 0 ≤ k0) (h1 : k0 ≤ 1048576) :
    Calls Tryd.prog 9 #[v, .int .i64 k0] w fun e w' => e = .returned (.int .i64 (k0 + 2 * (ts.length : Int) + (totT ts : Int) + 3 * m)) ∧ Below w.heap.size w w' := by
  obtain ⟨vW, vP, rfl, hI, hD⟩ := h
  have HI := hideIt hI
  have HD := hideIt hD
  obtain ⟨aW, cW, hvW⟩ := hI.form
  obtain ⟨aP, cP, hvP, _, _⟩ := hD.shape
  rw [marksTh_len] at hvW
  rw [marksD_len] at hvP
  subst hvP hvW
  clear hD hI
  obtain ⟨W, hW⟩ : ∃ W : World, W = w.alloc (.cells #[.slice aW ts.length cW, .slice aP m cP] 25) := ⟨_, rfl⟩
  have BW : Hid (Below w.heap.size w W) := by rw [hW]; exact (Below.refl _ _).alloc (Nat.le_refl _) _
  have VW : Hid (W.heap[w.heap.size]? = some (.cells #[.slice aW ts.length cW, .slice aP m cP] 25 (0, 0))) := by rw [hW]; exact at_new rfl
  have s0 : ¬ (k0 + 2 * (ts.length : Int) + (totT ts : Int)) < 0 := by omega
  have s1 : ¬ (k0 + 2 * (ts.length : Int) + (totT ts : Int) + 3 * (m : Int)) < 0 := by omega
  go_enter Tryd.func9, Tryd.ntmps9
  go_wp2_with fail
  rw [← hW]
  clear hW
  refine (heldThingS_any _ ts k0 W (HI.out.below BW.out) (by omega) (by omega) h0 (by omega)).mono ?_
  rintro e w1 ⟨rfl, hw1⟩
  subst w1
  obtain ⟨x0, x1, _, _⟩ := two_cells VW.out
  go_wp2_with fail
  refine (heldDirentS_any _ m (k0 + 2 * (ts.length : Int) + (totT ts : Int)) W (Rd.below HD.out BW.out) hm (by omega) (by omega)).mono ?_
  rintro e w1 ⟨rfl, hb1⟩
  have B1 := hideIt (below_trans BW.out hb1 BW.out.size)
  clear hb1 x0 x1
  go_wp2
  go_ret
  exact ⟨rfl, B1.out⟩
end Go.Proofs.YtihmihkhkmadmaaDoor

namespace Go.Proofs.YtihmihkhkmadmaaDoor
open Go.RowKit
theorem box_below {c w' : World} {b : Nat} {o : Obj} {B : Nat} (h : c.heap[b]? = some o) (hb : Below B c w') (hB : b < B) : w'.heap[b]? = some o := (hb.block b hB).trans h
theorem lt_box {c : World} {b : Nat} {o : Obj} (h : c.heap[b]? = some o) : b < c.heap.size := (Array.getElem?_eq_some_iff.1 h).1
end Go.Proofs.YtihmihkhkmadmaaDoor
