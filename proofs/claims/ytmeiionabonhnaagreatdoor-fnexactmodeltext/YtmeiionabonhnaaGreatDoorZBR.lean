/- Several texts laid together: MkI, MdB, MdC. -/
import Derived.Test.YtmeiionabonhnaaGreatDoorZAB
import Derived.Test.YtmeiionabonhnaaGreatDoorZAF
import Derived.Deep.DeepCutAuto
import Derived.Deep.RegionWith
import Derived.Test.YtmeiionabonhnaaGreatDoorZBG
namespace Go.Proofs.YtmeiionabonhnaaGreatDoor
open Go.RowKit
def markD (k : Int) (i : Nat) : Den := ⟨k + 3 * (i : Int), mtx (k + 3 * (i : Int) + 1).toNat, k + 3 * (i : Int) + 2⟩
def marksD (k : Int) (n : Nat) : List Den := (List.range n).map (markD k)
theorem marksD_len (k : Int) (n : Nat) : (marksD k n).length = n := by simp [marksD]
theorem marksD_succ (k : Int) (n : Nat) : marksD k (n + 1) = marksD k n ++ [markD k n] := by unfold marksD; rw [List.range_succ, List.map_append]; rfl
def mkdTo (k0 : Int) (k : Nat) (ds : List Den) : List Den := marksD k0 k ++ ds.drop k
theorem mkdTo_zero (k0 : Int) (ds : List Den) : mkdTo k0 0 ds = ds := by simp [mkdTo, marksD]
theorem mkdTo_all (k0 : Int) (ds : List Den) : mkdTo k0 ds.length ds = marksD k0 ds.length := by simp [mkdTo]
theorem dens_app' (l l' : List Den) : dens (l ++ l') = dens l ++ dens l' := by simp [dens]
theorem mkdTo_succ {k0 : Int} {ds : List Den} {k : Nat} (h : k < ds.length) : (((dens (mkdTo k0 k ds)).set (k * 3) (.int .i64 (k0 + 3 * (k : Int)))).set (k * 3 + 1) (.string (mtx (k0 + 3 * (k : Int) + 1).toNat))).set (k * 3 + 2) (.int .i64 (k0 + 3 * (k : Int) + 2)) = dens (mkdTo k0 (k + 1) ds) := by
  have l1 : (dens (marksD k0 k)).length = k * 3 := by rw [dens_len, marksD_len]
  unfold mkdTo
  rw [List.drop_eq_getElem_cons h, marksD_succ, dens_app', dens_app', dens_app', List.set_append_right _ _ (by omega), List.set_append_right _ _ (by omega), List.set_append_right _ _ (by omega), l1, List.append_assoc]
  congr 1
  rw [show k * 3 - k * 3 = 0 by omega, show k * 3 + 1 - k * 3 = 1 by omega, show k * 3 + 2 - k * 3 = 2 by omega]
  rfl
theorem mkdTo_at {k0 : Int} {ds : List Den} {k : Nat} (h : k < ds.length) : (dens (mkdTo k0 k ds))[k * 3]? = some (.int .i64 ds[k].dir) ∧ (dens (mkdTo k0 k ds))[k * 3 + 1]? = some (.string ds[k].name) ∧ (dens (mkdTo k0 k ds))[k * 3 + 2]? = some (.int .i64 ds[k].child) := by
  have l1 : (dens (marksD k0 k)).length = k * 3 := by rw [dens_len, marksD_len]
  unfold mkdTo
  rw [List.drop_eq_getElem_cons h, dens_app', List.getElem?_append_right (by omega), List.getElem?_append_right (by omega), List.getElem?_append_right (by omega), l1]
  rw [show k * 3 - k * 3 = 0 by omega, show k * 3 + 1 - k * 3 = 1 by omega, show k * 3 + 2 - k * 3 = 2 by omega]
  exact ⟨rfl, rfl, rfl⟩
set_option maxRecDepth 100000 in
set_option maxHeartbeats 4000000 in
theorem markDirentS_any (v : Value) (ds : List Den) (k0 : Int) (lo hi : Nat) (w : World) (h : Row w 140 3 lo hi v ds.length (dens ds)) (hz : hi ≤ w.heap.size) (hn : ds.length ≤ 16777216) (h0 : 0 ≤ k0) (h1 : k0 ≤ 1099511627776) :
    Calls Tryz.prog 40 #[v, .int .i64 k0] w fun e w' => e = .returned (.int .i64 (k0 + 3 * ds.length)) ∧ Row w' 140 3 lo hi v ds.length (dens (marksD k0 ds.length)) ∧ w.grownBy w' v.ownBlock := by
  obtain ⟨_, ao, cap, rfl, hcap, hc⟩ := h.rd
  go_enter Tryz.func40, Tryz.ntmps40
  go_wp2
  go_loopw [1, 5] (fun c i wr => ∃ k : Nat, k ≤ ds.length ∧ i = .int .i64 k ∧ c = .int .i64 (k0 + 3 * k) ∧ Hid (Row wr 140 3 lo hi (.slice ao ds.length cap) ds.length (dens (mkdTo k0 k ds)) ∧ w.grownBy wr (Value.slice ao ds.length cap).ownBlock) ∧ w.heap.size ≤ wr.heap.size) (fun _ i _ => ds.length - (intOf i).toNat)
  case atStart => exact ⟨0, by omega, rfl, by simp, ⟨by rw [mkdTo_zero]; exact h, World.grownBy.refl _ _⟩, Nat.le_refl _⟩
  case round =>
    obtain ⟨k, hk, rfl, rfl, I, hzr⟩ := hrel
    clear h hc
    have k0' : (0 : Int) ≤ (k : Int) := by omega
    by_cases hlt : k < ds.length
    · obtain ⟨_, ao', cap', e', _, hc⟩ := I.out.1.rd
      cases e'
      obtain ⟨b, o, rfl, hbl, _⟩ := hc (by omega)
      obtain ⟨rfl, hb1, hb2, _, hfr, hcl⟩ := I.out.1.at
      have k1 : (k : Int) < (ds.length : Int) := by omega
      obtain ⟨q0, q1, q2⟩ := mkdTo_at (k0 := k0) hlt
      have MS := hideIt (mkdTo_succ (k0 := k0) hlt)
      have f0 := hfr (k * 3)
      have f1 := hfr (k * 3 + 1)
      have f2 := hfr (k * 3 + 2)
      have e0 := (hcl (k * 3) (by omega)).trans q0
      have e1 := (hcl (k * 3 + 1) (by omega)).trans q1
      have e2 := (hcl (k * 3 + 2) (by omega)).trans q2
      have I1 := hideIt (I.out.1.stored (k * 3) (.int .i64 (k0 + 3 * (k : Int))))
      have G1 := hideIt (grown_setCell I.out.2 (a := ⟨b, k * 3, none⟩) rfl (.int .i64 (k0 + 3 * (k : Int))))
      have LM := hideIt (fun w1 => markText_any (k0 + 3 * (k : Int) + 1).toNat w1 (by omega))
      rw [show (((k0 + 3 * (k : Int) + 1).toNat : Nat) : Int) = k0 + 3 * (k : Int) + 1 by omega] at LM
      have hzs : (wr.setCell ⟨b, k * 3, none⟩ (.int .i64 (k0 + 3 * (k : Int)))).heap.size = wr.heap.size := by simp
      generalize mtx (k0 + 3 * (k : Int) + 1).toNat = tx at *
      generalize ds[k].dir = xd at *
      generalize ds[k].name = xs at *
      generalize ds[k].child = xc at *
      clear I hc hfr hcl q0 q1 q2
      go_wp2_with fail
      refine (LM.out _).mono ?_
      rintro e w2 ⟨rfl, hb⟩
      rw [hzs] at hb
      have R2 := hideIt (I1.out.below hb (by omega))
      have G2 := hideIt (grown_trans G1.out (grown_below (row := (Value.slice (some ⟨b, 0, none⟩) ds.length cap).ownBlock) (by rw [hzs]; exact hb)))
      have hz2 : wr.heap.size ≤ w2.heap.size := by have := hb.size; omega
      obtain ⟨_, _, _, _, hfr, hcl⟩ := R2.out.at
      have l0 : (dens (mkdTo k0 k ds)).length = ds.length * 3 := by
        rw [dens_len]; unfold mkdTo; rw [List.length_append, marksD_len, List.length_drop]; congr 1; omega
      have q1 := (hcl (k * 3 + 1) (by omega))
      have q2 := (hcl (k * 3 + 2) (by omega))
      have f1 := hfr (k * 3 + 1)
      have f2 := hfr (k * 3 + 2)
      obtain ⟨y0, y1, y2⟩ := mkdTo_at (k0 := k0) hlt
      rw [List.getElem?_set_ne (by omega), y1] at q1
      rw [List.getElem?_set_ne (by omega), y2] at q2
      have R3 : Hid (Row ((w2.setCell ⟨b, k * 3 + 1, none⟩ (.string tx)).setCell ⟨b, k * 3 + 2, none⟩ (.int .i64 (k0 + 3 * (k : Int) + 1 + 1))) 140 3 lo hi (.slice (some ⟨b, 0, none⟩) ds.length cap) ds.length (dens (mkdTo k0 (k + 1) ds)) ∧ w.grownBy ((w2.setCell ⟨b, k * 3 + 1, none⟩ (.string tx)).setCell ⟨b, k * 3 + 2, none⟩ (.int .i64 (k0 + 3 * (k : Int) + 1 + 1))) (Value.slice (some ⟨b, 0, none⟩) ds.length cap).ownBlock) := by
        refine ⟨?_, grown_setCell (grown_setCell G2.out (a := ⟨b, k * 3 + 1, none⟩) rfl _) (a := ⟨b, k * 3 + 2, none⟩) rfl _⟩
        rw [← MS.out, show k0 + 3 * (k : Int) + 2 = k0 + 3 * (k : Int) + 1 + 1 by omega]
        exact (R2.out.stored _ _).stored _ _
      generalize ds[k].name = ys at q1
      generalize ds[k].child = yc at q2
      clear hb hfr hcl y0 y1 y2 I1 G1 R2 G2 hzs l0 e0 e1 e2 f0
      go_wp2
      go_roundw
      case rel => exact ⟨k + 1, by omega, by go_num, by go_num, R3, by simp; omega⟩
      case measure => simp [intOf]; omega
    · obtain rfl : k = ds.length := by omega
      have E := hideIt (mkdTo_all k0 ds)
      go_wp2
      go_ret
      exact ⟨rfl, by have := I.out.1; rw [E.out] at this; exact this, I.out.2⟩
end Go.Proofs.YtmeiionabonhnaaGreatDoor

namespace Go.Proofs.YtmeiionabonhnaaGreatDoor
open Go.RowKit
set_option maxRecDepth 100000 in
set_option maxHeartbeats 4000000 in
theorem markModel_any (v : Value) (ts : List Th) (ps : List Den) (k0 : Int) (lo hi : Nat) (w : World) (h : RowMd w lo hi v ts ps) (hz : hi ≤ w.heap.size) (hw : ts.length ≤ 16777216) (ht : totT ts ≤ 16777216) (hp : ps.length ≤ 16777216) (h0 : 0 ≤ k0) (h1 : k0 ≤ 1048576) :
    Calls Tryz.prog 13 #[v, .int .i64 k0] w fun e w' => e = .returned (.int .i64 (k0 + 2 * (ts.length : Int) + (totT ts : Int) + 3 * ps.length)) ∧ RowMd w' lo hi v (marksTh k0 ts) (marksD (k0 + 2 * (ts.length : Int) + (totT ts : Int)) ps.length) ∧ Outside lo hi w w' := by
  obtain ⟨vW, vP, lt, ut, lp, up, rfl, hI, hS, q⟩ := h
  obtain ⟨aW, cW, hvW⟩ := hI.rd.form
  obtain ⟨-, aP, cP, hvP, -⟩ := hS.rd
  subst hvW hvP
  have BW := hideIt ((Below.refl w.heap.size w).alloc (Nat.le_refl _) (.cells #[.slice aW ts.length cW, .slice aP ps.length cP] 33))
  have R0 := hideIt (hI.below BW.out (by omega))
  have S0 := hideIt (hS.below BW.out (by omega))
  have VB : Hid ((w.alloc (.cells #[.slice aW ts.length cW, .slice aP ps.length cP] 33)).heap[w.heap.size]? = some (.cells #[.slice aW ts.length cW, .slice aP ps.length cP] 33 (0, 0))) := at_new rfl
  have hz0 : w.heap.size < (w.alloc (.cells #[.slice aW ts.length cW, .slice aP ps.length cP] 33)).heap.size := by simp
  obtain ⟨x0, x1, _, _⟩ := two_cells VB.out
  clear hI hS
  go_enter Tryz.func13, Tryz.ntmps13
  go_wp2_with fail
  refine (markThingS_any _ ts k0 lt ut _ R0.out (by omega) (by omega) h0 (by omega)).mono ?_
  rintro e w1 ⟨rfl, hr1, ho1, hs1⟩
  have S1 := hideIt (S0.out.outside ho1 (by omega) (by omega))
  have R1 := hideIt hr1
  have O1 : Hid (Outside lo hi w w1) := (Outside.of_below BW.out).trans (ho1.mono (by omega) (by omega))
  have V1 := hideIt ((ho1.block _ hz0 (by omega)).trans VB.out)
  have hz1 : w.heap.size < w1.heap.size := by omega
  clear hr1 hs1 ho1 x0 x1 R0 S0
  obtain ⟨x0, x1, _, _⟩ := two_cells V1.out
  go_wp2_with fail
  refine (markDirentS_any _ ps (k0 + 2 * (ts.length : Int) + (totT ts : Int)) lp up _ S1.out (by omega) hp (by omega) (by omega)).mono ?_
  rintro e w2 ⟨rfl, hr2, hg2⟩
  have ho2 := Row.grown_outside S1.out hg2
  have R2 := hideIt (R1.out.outside ho2 (by omega) (by omega))
  have S2 := hideIt hr2
  have O2 := hideIt (O1.out.trans (ho2.mono (by omega) (by omega)))
  clear hr2 hg2 ho2 x0 x1
  have ML : (marksD (k0 + 2 * (ts.length : Int) + (totT ts : Int)) ps.length).length = ps.length := marksD_len _ _
  have S3 : Hid (Row w2 140 3 lp up (.slice aP ps.length cP) (marksD (k0 + 2 * (ts.length : Int) + (totT ts : Int)) ps.length).length (dens (marksD (k0 + 2 * (ts.length : Int) + (totT ts : Int)) ps.length))) := by unfold Hid; rw [ML]; exact S2.out
  clear S2 ML
  go_wp2
  go_ret
  exact ⟨rfl, ⟨_, _, lt, ut, lp, up, rfl, R2.out, S3.out, q⟩, O2.out⟩
end Go.Proofs.YtmeiionabonhnaaGreatDoor

namespace Go.Proofs.YtmeiionabonhnaaGreatDoor
open Go.RowKit
theorem roomD_small {ps : List Den} {left : Int} (h0 : 0 ≤ left) (h1 : left ≤ 1048576) (h : ¬ roomD ps ps.length left < 0) : ps.length ≤ 1048576 := by
  rcases Nat.lt_or_ge 1048576 ps.length with q | q
  · exfalso
    have := roomD_neg ps left h0 0 (by unfold roomD; rw [if_pos (by omega)]; omega) ps.length
    rw [Nat.zero_add] at this
    omega
  · exact q
set_option maxRecDepth 100000 in
set_option maxHeartbeats 4000000 in
theorem szModel_any (v : Value) (ts : List Th) (ps : List Den) (left : Int) (w : World) (h : RdMd w v ts ps) (hn : ts.length ≤ maxLen) (hg : ∀ k (hk : k < ts.length), ts[k].pages.length ≤ maxLen) (hm : ps.length ≤ maxLen) (hs : ∀ k (h : k < ps.length), ps[k].name.size ≤ maxLen) (h0 : 0 ≤ left) (h1 : left ≤ 1048576) :
    Calls Tryz.prog 7 #[v, .int .i64 left] w fun e w' => ∃ r : Int, e = .returned (.int .i64 r) ∧ (0 ≤ r → (ts.length + totT ts ≤ 1048576 ∧ ps.length ≤ 1048576) ∧ r ≤ 1048576) ∧ -1 ≤ r ∧ Below w.heap.size w w' := by
  obtain ⟨vW, vP, rfl, hI, hD⟩ := h
  have LT := hideIt (fun w1 (hb : Below w.heap.size w w1) => szThingS_any vW ts left w1 (hI.below hb) hn hg h0 h1)
  have LD := hideIt (fun (q : Int) w1 (hb : Below w.heap.size w w1) (a : 0 ≤ q) (b : q ≤ 1048576) => szDirentS_any vP ps q w1 (Rd.below hD hb) hm hs a b)
  obtain ⟨aW, cW, hvW⟩ := hI.form
  obtain ⟨aP, cP, hvP, _⟩ := hD.shape
  subst hvW hvP
  clear hI hD hs hm hg hn
  obtain ⟨W, hW⟩ : ∃ W : World, W = w.alloc (.cells #[.slice aW ts.length cW, .slice aP ps.length cP] 25) := ⟨_, rfl⟩
  have BW : Hid (Below w.heap.size w W) := by rw [hW]; exact (Below.refl _ _).alloc (Nat.le_refl _) _
  have VW : Hid (W.heap[w.heap.size]? = some (.cells #[.slice aW ts.length cW, .slice aP ps.length cP] 25 (0, 0))) := by rw [hW]; exact at_new rfl
  have hz : w.heap.size < W.heap.size := by rw [hW]; simp
  go_enter Tryz.func7, Tryz.ntmps7
  go_wp2_with fail
  rw [← hW]
  clear hW
  refine (LT.out W BW.out).mono ?_
  rintro e w1 ⟨q, rfl, hq, hq1, hb1⟩
  have B1 := hideIt (below_trans BW.out hb1 BW.out.size)
  have V1 := hideIt ((hb1.block _ hz).trans VW.out)
  have HQ := hideIt hq
  clear hb1 LT hq
  by_cases c : q < 0
  · clear LD
    go_wp2
    go_ret
    exact ⟨_, rfl, fun z => absurd z (by decide), by decide, B1.out⟩
  · obtain ⟨x0, x1, _, _⟩ := two_cells V1.out
    have hq2 := HQ.out (by omega)
    have hq3 := hq2.2
    have HT := hideIt hq2.1
    clear hq2
    go_wp2_with fail
    refine (LD.out q w1 B1.out (by omega) hq3).mono ?_
    rintro e w2 ⟨rfl, hb2⟩
    have rl := roomD_le ps q (by omega) ps.length
    have RS := hideIt (fun z => roomD_small (ps := ps) (left := q) (by omega) hq3 z)
    have B2 := hideIt (below_trans B1.out hb2 B1.out.size)
    clear hb2 LD x0 x1
    generalize roomD ps ps.length q = r at *
    by_cases d : r < 0
    · have : r = -1 := by omega
      subst this
      go_wp2
      go_ret
      exact ⟨_, rfl, fun z => absurd z (by decide), by decide, B2.out⟩
    · go_wp2
      go_ret
      exact ⟨_, rfl, fun _ => ⟨⟨HT.out, RS.out d⟩, by omega⟩, by omega, B2.out⟩
end Go.Proofs.YtmeiionabonhnaaGreatDoor
