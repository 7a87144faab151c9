/- Several texts laid together: MeF, MkI. -/
import Derived.Test.YtihmihkhkmadmaaDoorZBQ
import Derived.Test.YtihmihkhkmadmaaDoorMdK
import Derived.Test.YtihmihkhkmadmaaDoorNdB
import Derived.Test.YtihmihkhkmadmaaDoorZAW
import Derived.Test.YtihmihkhkmadmaaDoorZAF
import Derived.Deep.DeepCutAuto
import Derived.Deep.RegionWith
namespace Go.Proofs.YtihmihkhkmadmaaDoor
open Go.RowKit
set_option maxRecDepth 100000 in
theorem nd_dv : dvB ndW [] zs32 [] = true := by kernel_rfl
set_option maxRecDepth 100000 in
theorem nd_moT : ofL ndW [] zs32 [] (dvN ndW [] zs32 []) = nwT := by kernel_rfl
set_option maxRecDepth 100000 in
theorem nd_moD : dvD ndW [] zs32 [] = nwD := by kernel_rfl
theorem mo_nd : moT ndW [] zs32 [] = nwT ∧ moD ndW [] zs32 [] = nwD ∧ moC ndW [] zs32 [] = 0 := ⟨(if_pos nd_dv).trans nd_moT, (if_pos nd_dv).trans nd_moD, if_pos nd_dv⟩
set_option maxRecDepth 100000 in
set_option maxHeartbeats 2000000 in
theorem implNewModel_any (w : World) (hT : TS w) (hE : ED w) (hF : FD w) (hN : NW w) :
    Calls Tryd.prog 6 #[] w fun e w' => ∃ v', e = .returned v' ∧ RowMd w' w.heap.size w'.heap.size v' nwT nwD ∧ Below w.heap.size w w' := by
  have LN := hideIt (fun w1 (hb : Below w.heap.size w w1) => implNewDevices_any w1 (hT.below hb) (hE.below hb))
  have LM := hideIt (fun v1 w1 (hb : Below w.heap.size w w1) (h1 : RdDev w1 v1 ndW [] zs32 []) => implModelOf_any v1 ndW [] zs32 [] w1 h1 (by rw [ndW_len]; decide) (by decide) (by rw [zs32_len]; decide) (by decide) (hT.below hb) (hE.below hb) (hF.below hb) (hN.below hb))
  rw [mo_nd.1, mo_nd.2.1, mo_nd.2.2] at LM
  clear hT hE hF hN
  obtain ⟨w0, hw0⟩ : ∃ w0 : World, w0 = w.alloc (.cells #[.slice none 0 0, .slice none 0 0] 25) := ⟨_, rfl⟩
  have V0 : Hid (w0.heap[w.heap.size]? = some (.cells #[.slice none 0 0, .slice none 0 0] 25 (0, 0))) := by rw [hw0]; exact at_new rfl
  have B0 : Hid (Below w.heap.size w w0) := by rw [hw0]; exact (Below.refl _ _).alloc (Nat.le_refl _) _
  have hz0 : w.heap.size < w0.heap.size := by rw [hw0]; simp
  generalize nwT = T2 at *
  generalize nwD = D2 at *
  go_enter Tryd.func6, Tryd.ntmps6
  go_wp2_with fail
  rw [← hw0]
  clear hw0
  refine (LN.out w0 B0.out).mono ?_
  rintro e w1 ⟨v1, rfl, hr1, hb1⟩
  have A1 := hideIt hb1
  have B1 := hideIt (below_trans B0.out hb1 B0.out.size)
  have R1 := hideIt hr1.rd
  clear hr1 hb1 LN
  go_wp2_with fail
  refine (LM.out v1 w1 B1.out R1.out).mono ?_
  rintro e w2 ⟨v2, rfl, hr2, hb2⟩
  have A2 := hideIt (bel2 A1.out hb2)
  have B2 := hideIt (below_trans B1.out hb2 B1.out.size)
  have hz1 := A1.out.size
  have O2 := hideIt (show RowMd w2 w1.heap.size w2.heap.size v2 T2 D2 from hr2)
  obtain ⟨aT, cT, aE, cE, rfl⟩ := hr2.rd.form
  clear hr2 hb2 LM R1
  generalize T2.length = nt at *
  generalize D2.length = nd at *
  have BC : Hid (Below w2.heap.size w2 (w2.alloc (.cells #[.slice aT nt cT, .slice aE nd cE] 25))) := (Below.refl _ _).alloc (Nat.le_refl _) _
  have VM : Hid ((w2.alloc (.cells #[.slice aT nt cT, .slice aE nd cE] 25)).heap[w2.heap.size]? = some (.cells #[.slice aT nt cT, .slice aE nd cE] 25 (0, 0))) := at_new rfl
  obtain ⟨w3, hw3⟩ : ∃ w3, w3 = w2.alloc (.cells #[.slice aT nt cT, .slice aE nd cE] 25) := ⟨_, rfl⟩
  have V3 := hideIt ((BC.out.block _ (Nat.lt_of_lt_of_le hz0 A2.out.size)).trans ((A2.out.block _ hz0).trans V0.out))
  obtain ⟨p0, p1, p2, p3⟩ := two_cells V3.out
  obtain ⟨y0, y1, -, -⟩ := two_cells VM.out
  have B3 := hideIt (below_trans B2.out BC.out B2.out.size)
  have O3 := hideIt (O2.out.below BC.out (Nat.le_refl _))
  have hz2 := A2.out.size
  rw [← hw3] at V3 B3 O3
  have hz3 : w2.heap.size ≤ w3.heap.size := by rw [hw3]; simp
  go_wp2
  rw [← hw3]
  have OF : Outside w.heap.size (w.heap.size + 1) w3 ((w3.setCell ⟨w.heap.size, 0, none⟩ (.slice aT nt cT)).setCell ⟨w.heap.size, 1, none⟩ (.slice aE nd cE)) := by
    repeat (refine Outside.setCell ?_ (by simp only; omega) (by simp only; omega) _)
    exact Outside.refl _ _ _
  have S2 : ((w3.setCell ⟨w.heap.size, 0, none⟩ (.slice aT nt cT)).setCell ⟨w.heap.size, 1, none⟩ (.slice aE nd cE)).heap[w.heap.size]? = some (.cells #[.slice aT nt cT, .slice aE nd cE] 25 (0, 0)) := eight_set (xs := [.slice aT nt cT, .slice none 0 0]) (two_set0 V3.out (.slice aT nt cT)) 1 _
  obtain ⟨s0, s1, -, -⟩ := two_cells S2
  have zq := OF.size
  refine bodyPost_ret (v := .agg #[.slice aT nt cT, .slice aE nd cE]) (by simp [results, Tryd.results6, go_sem, s0, s1]) rfl ?_
  exact ⟨_, rfl, (O3.out.outside OF (.inr (by omega)) (by omega)).wide (by omega) (by omega), (B3.out.setCell (by simp only; omega) _).setCell (by simp only; omega) _⟩
end Go.Proofs.YtihmihkhkmadmaaDoor

namespace Go.Proofs.YtihmihkhkmadmaaDoor
open Go.RowKit
def markD (k : Int) (i : Nat) : Den := ⟨k + 3 * (i : Int), mtx (k + 3 * (i : Int) + 1).toNat, k + 3 * (i : Int) + 2⟩
def marksD (k : Int) (n : Nat) : List Den := (List.range n).map (markD k)
theorem marksD_len (k : Int) (n : Nat) : (marksD k n).length = n := by simp [marksD]
theorem marksD_succ (k : Int) (n : Nat) : marksD k (n + 1) = marksD k n ++ [markD k n] := by unfold marksD; rw [List.range_succ, List.map_append]; rfl
def mkdTo (k0 : Int) (k : Nat) (ds : List Den) : List Den := marksD k0 k ++ ds.drop k
theorem mkdTo_zero (k0 : Int) (ds : List Den) : mkdTo k0 0 ds = ds := by simp [mkdTo, marksD]
theorem mkdTo_all (k0 : Int) (ds : List Den) : mkdTo k0 ds.length ds = marksD k0 ds.length := by simp [mkdTo]
theorem dens_app' (l l' : List Den) : dens (l ++ l') = dens l ++ dens l' := by simp [dens]
theorem mkdTo_succ {k0 : Int} {ds : List Den} {k : Nat} (h : k < ds.length) : (((dens (mkdTo k0 k ds)).set (k * 3) (.int .i64 (k0 + 3 * (k : Int)))).set (k * 3 + 1) (.string (mtx (k0 + 3 * (k : Int) + 1).toNat))).set (k * 3 + 2) (.int .i64 (k0 + 3 * (k : Int) + 2)) = dens (mkdTo k0 (k + 1) ds) := by
  have l1 : (dens (marksD k0 k)).length = k * 3 := by rw [dens_len, marksD_len]
  unfold mkdTo
  rw [List.drop_eq_getElem_cons h, marksD_succ, dens_app', dens_app', dens_app', List.set_append_right _ _ (by omega), List.set_append_right _ _ (by omega), List.set_append_right _ _ (by omega), l1, List.append_assoc]
  congr 1
  rw [show k * 3 - k * 3 = 0 by omega, show k * 3 + 1 - k * 3 = 1 by omega, show k * 3 + 2 - k * 3 = 2 by omega]
  rfl
theorem mkdTo_at {k0 : Int} {ds : List Den} {k : Nat} (h : k < ds.length) : (dens (mkdTo k0 k ds))[k * 3]? = some (.int .i64 ds[k].dir) ∧ (dens (mkdTo k0 k ds))[k * 3 + 1]? = some (.string ds[k].name) ∧ (dens (mkdTo k0 k ds))[k * 3 + 2]? = some (.int .i64 ds[k].child) := by
  have l1 : (dens (marksD k0 k)).length = k * 3 := by rw [dens_len, marksD_len]
  unfold mkdTo
  rw [List.drop_eq_getElem_cons h, dens_app', List.getElem?_append_right (by omega), List.getElem?_append_right (by omega), List.getElem?_append_right (by omega), l1]
  rw [show k * 3 - k * 3 = 0 by omega, show k * 3 + 1 - k * 3 = 1 by omega, show k * 3 + 2 - k * 3 = 2 by omega]
  exact ⟨rfl, rfl, rfl⟩
set_option maxRecDepth 100000 in
set_option maxHeartbeats 4000000 in
theorem markDirentS_any (v : Value) (ds : List Den) (k0 : Int) (lo hi : Nat) (w : World) (h : Row w 69 3 lo hi v ds.length (dens ds)) (hz : hi ≤ w.heap.size) (hn : ds.length ≤ 16777216) (h0 : 0 ≤ k0) (h1 : k0 ≤ 1099511627776) :
    Calls Tryd.prog 20 #[v, .int .i64 k0] w fun e w' => e = .returned (.int .i64 (k0 + 3 * ds.length)) ∧ Row w' 69 3 lo hi v ds.length (dens (marksD k0 ds.length)) ∧ w.grownBy w' v.ownBlock := by
  obtain ⟨_, ao, cap, rfl, hcap, hc⟩ := h.rd
  go_enter Tryd.func20, Tryd.ntmps20
  go_wp2
  go_loopw [1, 5] (fun c i wr => ∃ k : Nat, k ≤ ds.length ∧ i = .int .i64 k ∧ c = .int .i64 (k0 + 3 * k) ∧ Hid (Row wr 69 3 lo hi (.slice ao ds.length cap) ds.length (dens (mkdTo k0 k ds)) ∧ w.grownBy wr (Value.slice ao ds.length cap).ownBlock) ∧ w.heap.size ≤ wr.heap.size) (fun _ i _ => ds.length - (intOf i).toNat)
  case atStart => exact ⟨0, by omega, rfl, by simp, ⟨by rw [mkdTo_zero]; exact h, World.grownBy.refl _ _⟩, Nat.le_refl _⟩
  case round =>
    obtain ⟨k, hk, rfl, rfl, I, hzr⟩ := hrel
    clear h hc
    have k0' : (0 : Int) ≤ (k : Int) := by omega
    by_cases hlt : k < ds.length
    · obtain ⟨_, ao', cap', e', _, hc⟩ := I.out.1.rd
      cases e'
      obtain ⟨b, o, rfl, hbl, _⟩ := hc (by omega)
      obtain ⟨rfl, hb1, hb2, _, hfr, hcl⟩ := I.out.1.at
      have k1 : (k : Int) < (ds.length : Int) := by omega
      obtain ⟨q0, q1, q2⟩ := mkdTo_at (k0 := k0) hlt
      have MS := hideIt (mkdTo_succ (k0 := k0) hlt)
      have f0 := hfr (k * 3)
      have f1 := hfr (k * 3 + 1)
      have f2 := hfr (k * 3 + 2)
      have e0 := (hcl (k * 3) (by omega)).trans q0
      have e1 := (hcl (k * 3 + 1) (by omega)).trans q1
      have e2 := (hcl (k * 3 + 2) (by omega)).trans q2
      have I1 := hideIt (I.out.1.stored (k * 3) (.int .i64 (k0 + 3 * (k : Int))))
      have G1 := hideIt (grown_setCell I.out.2 (a := ⟨b, k * 3, none⟩) rfl (.int .i64 (k0 + 3 * (k : Int))))
      have LM := hideIt (fun w1 => markText_any (k0 + 3 * (k : Int) + 1).toNat w1 (by omega))
      rw [show (((k0 + 3 * (k : Int) + 1).toNat : Nat) : Int) = k0 + 3 * (k : Int) + 1 by omega] at LM
      have hzs : (wr.setCell ⟨b, k * 3, none⟩ (.int .i64 (k0 + 3 * (k : Int)))).heap.size = wr.heap.size := by simp
      generalize mtx (k0 + 3 * (k : Int) + 1).toNat = tx at *
      generalize ds[k].dir = xd at *
      generalize ds[k].name = xs at *
      generalize ds[k].child = xc at *
      clear I hc hfr hcl q0 q1 q2
      go_wp2_with fail
      refine (LM.out _).mono ?_
      rintro e w2 ⟨rfl, hb⟩
      rw [hzs] at hb
      have R2 := hideIt (I1.out.below hb (by omega))
      have G2 := hideIt (grown_trans G1.out (grown_below (row := (Value.slice (some ⟨b, 0, none⟩) ds.length cap).ownBlock) (by rw [hzs]; exact hb)))
      have hz2 : wr.heap.size ≤ w2.heap.size := by have := hb.size; omega
      obtain ⟨_, _, _, _, hfr, hcl⟩ := R2.out.at
      have l0 : (dens (mkdTo k0 k ds)).length = ds.length * 3 := by
        rw [dens_len]; unfold mkdTo; rw [List.length_append, marksD_len, List.length_drop]; congr 1; omega
      have q1 := (hcl (k * 3 + 1) (by omega))
      have q2 := (hcl (k * 3 + 2) (by omega))
      have f1 := hfr (k * 3 + 1)
      have f2 := hfr (k * 3 + 2)
      obtain ⟨y0, y1, y2⟩ := mkdTo_at (k0 := k0) hlt
      rw [List.getElem?_set_ne (by omega), y1] at q1
      rw [List.getElem?_set_ne (by omega), y2] at q2
      have R3 : Hid (Row ((w2.setCell ⟨b, k * 3 + 1, none⟩ (.string tx)).setCell ⟨b, k * 3 + 2, none⟩ (.int .i64 (k0 + 3 * (k : Int) + 1 + 1))) 69 3 lo hi (.slice (some ⟨b, 0, none⟩) ds.length cap) ds.length (dens (mkdTo k0 (k + 1) ds)) ∧ w.grownBy ((w2.setCell ⟨b, k * 3 + 1, none⟩ (.string tx)).setCell ⟨b, k * 3 + 2, none⟩ (.int .i64 (k0 + 3 * (k : Int) + 1 + 1))) (Value.slice (some ⟨b, 0, none⟩) ds.length cap).ownBlock) := by
        refine ⟨?_, grown_setCell (grown_setCell G2.out (a := ⟨b, k * 3 + 1, none⟩) rfl _) (a := ⟨b, k * 3 + 2, none⟩) rfl _⟩
        rw [← MS.out, show k0 + 3 * (k : Int) + 2 = k0 + 3 * (k : Int) + 1 + 1 by omega]
        exact (R2.out.stored _ _).stored _ _
      generalize ds[k].name = ys at q1
      generalize ds[k].child = yc at q2
      clear hb hfr hcl y0 y1 y2 I1 G1 R2 G2 hzs l0 e0 e1 e2 f0
      go_wp2
      go_roundw
      case rel => exact ⟨k + 1, by omega, by go_num, by go_num, R3, by simp; omega⟩
      case measure => simp [intOf]; omega
    · obtain rfl : k = ds.length := by omega
      have E := hideIt (mkdTo_all k0 ds)
      go_wp2
      go_ret
      exact ⟨rfl, by have := I.out.1; rw [E.out] at this; exact this, I.out.2⟩
end Go.Proofs.YtihmihkhkmadmaaDoor
