/- Marks in an image. -/
import Derived.Test.YtcilodgoognmnaaGreatDoorZBD
import Derived.Test.YtcilodgoognmnaaGreatDoorImJ
import Derived.Deep.DeepCutAuto
import Derived.Deep.RegionWith
namespace Go.Proofs.YtcilodgoognmnaaGreatDoor
open Go.RowKit

/-- The first cells marked, the others as they were. -/
def pmk (k0 : Int) (p : Nat) (xs : List Value) : List Value := ints (marks k0 p) ++ xs.drop p
theorem marks_succ (k : Int) (n : Nat) : marks k (n + 1) = marks k n ++ [k + (n : Int)] := by unfold marks; rw [List.range_succ, List.map_append]; rfl
theorem pmk_zero (k0 : Int) (xs : List Value) : pmk k0 0 xs = xs := by simp [pmk, marks, ints]
theorem pmk_set {k0 : Int} {p : Nat} {xs : List Value} (h : p < xs.length) : (pmk k0 p xs).set p (.int .i64 (k0 + (p : Int))) = pmk k0 (p + 1) xs := by
  unfold pmk
  have l1 : (ints (marks k0 p)).length = p := by rw [ints_len, marks_len]
  rw [List.set_append_right _ _ (by omega), l1, Nat.sub_self, List.drop_eq_getElem_cons h, List.set_cons_zero, marks_succ, ints_snoc, List.append_assoc]
  rfl
theorem pmk_at {k0 : Int} {p j : Nat} {xs : List Value} (h : p ≤ j) : (pmk k0 p xs)[j]? = xs[j]? := by
  unfold pmk
  rw [List.getElem?_append_right (by rw [ints_len, marks_len]; exact h), ints_len, marks_len, List.getElem?_drop]
  congr 1
  omega
theorem pmk_all {k0 : Int} {xs : List Value} {n : Nat} (h : xs.length = n) : pmk k0 n xs = ints (marks k0 n) := by
  unfold pmk
  rw [← h, List.drop_length, List.append_nil]

set_option maxRecDepth 100000 in
set_option maxHeartbeats 4000000 in
theorem markInodeS_any (v : Value) (n : Nat) (xs : List Value) (k0 : Int) (lo hi : Nat) (w : World) (h : Row w 97 11 lo hi v n xs) (hx : ∀ j, j < n * 11 → ∃ z, xs[j]? = some (.int .i64 z)) (hn : n ≤ 16777216) (h0 : 0 ≤ k0) (h1 : k0 ≤ 1099511627776) :
    Calls Tryz.prog 72 #[v, .int .i64 k0] w fun e w' => e = .returned (.int .i64 (k0 + 11 * n)) ∧ Row w' 97 11 lo hi v n (ints (marks k0 (n * 11))) ∧ w.grownBy w' v.ownBlock ∧ w'.heap.size = w.heap.size := by
  obtain ⟨hlen, ao, cap, rfl, hcap, hc⟩ := h.rd
  have HX := hideIt hx
  have HL := hideIt hlen
  clear hx hlen
  go_enter Tryz.func72, Tryz.ntmps72
  go_wp2
  go_loopw [1, 5] (fun c i wr => ∃ k : Nat, k ≤ n ∧ i = .int .i64 k ∧ c = .int .i64 (k0 + 11 * k) ∧ Hid (Row wr 97 11 lo hi (.slice ao n cap) n (pmk k0 (k * 11) xs) ∧ w.grownBy wr (Value.slice ao n cap).ownBlock ∧ wr.heap.size = w.heap.size)) (fun _ i _ => n - (intOf i).toNat)
  case atStart => exact ⟨0, by omega, rfl, by simp, by rw [Nat.zero_mul, pmk_zero]; exact h, World.grownBy.refl _ _, rfl⟩
  case round =>
    obtain ⟨k, hk, rfl, rfl, I⟩ := hrel
    clear h hc
    have k0' : (0 : Int) ≤ (k : Int) := by omega
    by_cases hlt : k < n
    · obtain ⟨_, ao', cap', e', _, hc⟩ := I.out.1.rd
      cases e'
      obtain ⟨b, o, rfl, hbl, _⟩ := hc (by omega)
      obtain ⟨rfl, hb1, hb2, _, hfr, hcl⟩ := I.out.1.at
      have k1 : (k : Int) < (n : Int) := by omega
      obtain ⟨z0, q0⟩ := HX.out (k * 11) (by omega)
      obtain ⟨z1, q1⟩ := HX.out (k * 11 + 1) (by omega)
      obtain ⟨z2, q2⟩ := HX.out (k * 11 + 2) (by omega)
      have f0 := hfr (k * 11)
      have f1 := hfr (k * 11 + 1)
      have f2 := hfr (k * 11 + 2)
      have e0 := (hcl (k * 11) (by omega)).trans ((pmk_at (Nat.le_refl _)).trans q0)
      have e1 := (hcl (k * 11 + 1) (by omega)).trans ((pmk_at (by omega)).trans q1)
      have e2 := (hcl (k * 11 + 2) (by omega)).trans ((pmk_at (by omega)).trans q2)
      have START : Hid (Row (((wr.setCell ⟨b, k * 11, none⟩ (.int .i64 (k0 + 11 * k))).setCell ⟨b, k * 11 + 1, none⟩ (.int .i64 (k0 + 11 * k + 1))).setCell ⟨b, k * 11 + 2, none⟩ (.int .i64 (k0 + 11 * k + 1 + 1))) 97 11 lo hi (.slice (some ⟨b, 0, none⟩) n cap) n (pmk k0 (k * 11 + 3) xs) ∧ w.grownBy (((wr.setCell ⟨b, k * 11, none⟩ (.int .i64 (k0 + 11 * k))).setCell ⟨b, k * 11 + 1, none⟩ (.int .i64 (k0 + 11 * k + 1))).setCell ⟨b, k * 11 + 2, none⟩ (.int .i64 (k0 + 11 * k + 1 + 1))) (Value.slice (some ⟨b, 0, none⟩) n cap).ownBlock ∧ (((wr.setCell ⟨b, k * 11, none⟩ (.int .i64 (k0 + 11 * k))).setCell ⟨b, k * 11 + 1, none⟩ (.int .i64 (k0 + 11 * k + 1))).setCell ⟨b, k * 11 + 2, none⟩ (.int .i64 (k0 + 11 * k + 1 + 1))).heap.size = w.heap.size) := by
        have hl := HL.out
        refine ⟨?_, grown_setCell (grown_setCell (grown_setCell I.out.2.1 (a := ⟨b, k * 11, none⟩) rfl _) (a := ⟨b, k * 11 + 1, none⟩) rfl _) (a := ⟨b, k * 11 + 2, none⟩) rfl _, by simp [I.out.2.2]⟩
        rw [← pmk_set (k0 := k0) (xs := xs) (p := k * 11 + 2) (by omega), ← pmk_set (k0 := k0) (xs := xs) (p := k * 11 + 1) (by omega), ← pmk_set (k0 := k0) (xs := xs) (p := k * 11) (by omega)]
        have s1 : k0 + ((k * 11 : Nat) : Int) = k0 + 11 * (k : Int) := by omega
        have s2 : k0 + ((k * 11 + 1 : Nat) : Int) = k0 + 11 * (k : Int) + 1 := by omega
        have s3 : k0 + ((k * 11 + 2 : Nat) : Int) = k0 + 11 * (k : Int) + 1 + 1 := by omega
        rw [s1, s2, s3]
        exact ((I.out.1.stored _ _).stored _ _).stored _ _
      clear I hc hfr hcl q0 q1 q2
      go_wp2
      go_loopw [1, 6] (fun c i wq => ∃ j : Nat, j ≤ 8 ∧ i = .int .i64 j ∧ c = .int .i64 (k0 + 11 * k + 3 + j) ∧ Hid (Row wq 97 11 lo hi (.slice (some ⟨b, 0, none⟩) n cap) n (pmk k0 (k * 11 + 3 + j) xs) ∧ w.grownBy wq (Value.slice (some ⟨b, 0, none⟩) n cap).ownBlock ∧ wq.heap.size = w.heap.size)) (fun _ i _ => 8 - (intOf i).toNat)
      case atStart => exact ⟨0, by omega, rfl, by go_num, START⟩
      case round =>
        obtain ⟨j, hj, rfl, rfl, J⟩ := hrel
        clear START e0 e1 e2 f0 f1 f2
        have j0 : (0 : Int) ≤ (j : Int) := by omega
        by_cases hlj : j < 8
        · obtain ⟨_, hb1', hb2', _, hfr, hcl⟩ := J.out.1.at
          have j1 : (j : Int) < 8 := by omega
          obtain ⟨z0, q0⟩ := HX.out (k * 11 + 3 + j) (by omega)
          have f0 := hfr (k * 11 + 3 + j)
          have e0 := (hcl (k * 11 + 3 + j) (by omega)).trans ((pmk_at (Nat.le_refl _)).trans q0)
          have G : Hid (Row (wr.setCell ⟨b, k * 11 + 3 + j, none⟩ (.int .i64 (k0 + 11 * k + 3 + j))) 97 11 lo hi (.slice (some ⟨b, 0, none⟩) n cap) n (pmk k0 (k * 11 + 3 + (j + 1)) xs) ∧ w.grownBy (wr.setCell ⟨b, k * 11 + 3 + j, none⟩ (.int .i64 (k0 + 11 * k + 3 + j))) (Value.slice (some ⟨b, 0, none⟩) n cap).ownBlock ∧ (wr.setCell ⟨b, k * 11 + 3 + j, none⟩ (.int .i64 (k0 + 11 * k + 3 + j))).heap.size = w.heap.size) := by
            have hl := HL.out
            refine ⟨?_, grown_setCell J.out.2.1 (a := ⟨b, k * 11 + 3 + j, none⟩) rfl _, by simp [J.out.2.2]⟩
            have s0 : k * 11 + 3 + (j + 1) = k * 11 + 3 + j + 1 := by omega
            rw [s0, ← pmk_set (k0 := k0) (xs := xs) (p := k * 11 + 3 + j) (by omega)]
            have s1 : k0 + ((k * 11 + 3 + j : Nat) : Int) = k0 + 11 * (k : Int) + 3 + (j : Int) := by omega
            rw [s1]
            exact J.out.1.stored _ _
          clear J hfr hcl q0
          go_wp2
          go_roundw
          case rel => exact ⟨j + 1, by omega, by go_num, by go_num, G⟩
          case measure => simp [intOf]; omega
        · obtain rfl : j = 8 := by omega
          have G : Hid (Row wr 97 11 lo hi (.slice (some ⟨b, 0, none⟩) n cap) n (pmk k0 ((k + 1) * 11) xs) ∧ w.grownBy wr (Value.slice (some ⟨b, 0, none⟩) n cap).ownBlock ∧ wr.heap.size = w.heap.size) := by
            have s0 : (k + 1) * 11 = k * 11 + 3 + 8 := by omega
            rw [s0]
            exact J.out
          clear J
          go_wp2
          go_roundw
          case rel => exact ⟨k + 1, by omega, by go_num, by go_num, G⟩
          case measure => simp [intOf]; omega
    · obtain rfl : k = n := by omega
      have E := hideIt (pmk_all (k0 := k0) HL.out)
      have k2 : ¬ (k : Int) < (k : Int) := by omega
      clear k2
      go_wp2
      go_ret
      exact ⟨rfl, by have := I.out.1; rw [E.out] at this; exact this, I.out.2.1, I.out.2.2⟩

/-- Marked entries. -/
def markD (k : Int) (i : Nat) : Den := ⟨k + 3 * (i : Int), mtx (k + 3 * (i : Int) + 1).toNat, k + 3 * (i : Int) + 2⟩
def marksD (k : Int) (n : Nat) : List Den := (List.range n).map (markD k)
theorem marksD_len (k : Int) (n : Nat) : (marksD k n).length = n := by simp [marksD]
theorem marksD_succ (k : Int) (n : Nat) : marksD k (n + 1) = marksD k n ++ [markD k n] := by unfold marksD; rw [List.range_succ, List.map_append]; rfl
def mkdTo (k0 : Int) (k : Nat) (ds : List Den) : List Den := marksD k0 k ++ ds.drop k
theorem mkdTo_zero (k0 : Int) (ds : List Den) : mkdTo k0 0 ds = ds := by simp [mkdTo, marksD]
theorem mkdTo_all (k0 : Int) (ds : List Den) : mkdTo k0 ds.length ds = marksD k0 ds.length := by simp [mkdTo]
theorem dens_app' (l l' : List Den) : dens (l ++ l') = dens l ++ dens l' := by simp [dens]
theorem mkdTo_succ {k0 : Int} {ds : List Den} {k : Nat} (h : k < ds.length) : (((dens (mkdTo k0 k ds)).set (k * 3) (.int .i64 (k0 + 3 * (k : Int)))).set (k * 3 + 1) (.string (mtx (k0 + 3 * (k : Int) + 1).toNat))).set (k * 3 + 2) (.int .i64 (k0 + 3 * (k : Int) + 2)) = dens (mkdTo k0 (k + 1) ds) := by
  have l1 : (dens (marksD k0 k)).length = k * 3 := by rw [dens_len, marksD_len]
  unfold mkdTo
  rw [List.drop_eq_getElem_cons h, marksD_succ, dens_app', dens_app', dens_app', List.set_append_right _ _ (by omega), List.set_append_right _ _ (by omega), List.set_append_right _ _ (by omega), l1, List.append_assoc]
  congr 1
  rw [show k * 3 - k * 3 = 0 by omega, show k * 3 + 1 - k * 3 = 1 by omega, show k * 3 + 2 - k * 3 = 2 by omega]
  rfl
theorem mkdTo_at {k0 : Int} {ds : List Den} {k : Nat} (h : k < ds.length) : (dens (mkdTo k0 k ds))[k * 3]? = some (.int .i64 ds[k].dir) ∧ (dens (mkdTo k0 k ds))[k * 3 + 1]? = some (.string ds[k].name) ∧ (dens (mkdTo k0 k ds))[k * 3 + 2]? = some (.int .i64 ds[k].child) := by
  have l1 : (dens (marksD k0 k)).length = k * 3 := by rw [dens_len, marksD_len]
  unfold mkdTo
  rw [List.drop_eq_getElem_cons h, dens_app', List.getElem?_append_right (by omega), List.getElem?_append_right (by omega), List.getElem?_append_right (by omega), l1]
  rw [show k * 3 - k * 3 = 0 by omega, show k * 3 + 1 - k * 3 = 1 by omega, show k * 3 + 2 - k * 3 = 2 by omega]
  exact ⟨rfl, rfl, rfl⟩

set_option maxRecDepth 100000 in
set_option maxHeartbeats 4000000 in
theorem markDirentS_any (v : Value) (ds : List Den) (k0 : Int) (lo hi : Nat) (w : World) (h : Row w 180 3 lo hi v ds.length (dens ds)) (hz : hi ≤ w.heap.size) (hn : ds.length ≤ 16777216) (h0 : 0 ≤ k0) (h1 : k0 ≤ 1099511627776) :
    Calls Tryz.prog 73 #[v, .int .i64 k0] w fun e w' => e = .returned (.int .i64 (k0 + 3 * ds.length)) ∧ Row w' 180 3 lo hi v ds.length (dens (marksD k0 ds.length)) ∧ w.grownBy w' v.ownBlock := by
  obtain ⟨_, ao, cap, rfl, hcap, hc⟩ := h.rd
  go_enter Tryz.func73, Tryz.ntmps73
  go_wp2
  go_loopw [1, 5] (fun c i wr => ∃ k : Nat, k ≤ ds.length ∧ i = .int .i64 k ∧ c = .int .i64 (k0 + 3 * k) ∧ Hid (Row wr 180 3 lo hi (.slice ao ds.length cap) ds.length (dens (mkdTo k0 k ds)) ∧ w.grownBy wr (Value.slice ao ds.length cap).ownBlock) ∧ w.heap.size ≤ wr.heap.size) (fun _ i _ => ds.length - (intOf i).toNat)
  case atStart => exact ⟨0, by omega, rfl, by simp, ⟨by rw [mkdTo_zero]; exact h, World.grownBy.refl _ _⟩, Nat.le_refl _⟩
  case round =>
    obtain ⟨k, hk, rfl, rfl, I, hzr⟩ := hrel
    clear h hc
    have k0' : (0 : Int) ≤ (k : Int) := by omega
    by_cases hlt : k < ds.length
    · obtain ⟨_, ao', cap', e', _, hc⟩ := I.out.1.rd
      cases e'
      obtain ⟨b, o, rfl, hbl, _⟩ := hc (by omega)
      obtain ⟨rfl, hb1, hb2, _, hfr, hcl⟩ := I.out.1.at
      have k1 : (k : Int) < (ds.length : Int) := by omega
      obtain ⟨q0, q1, q2⟩ := mkdTo_at (k0 := k0) hlt
      have MS := hideIt (mkdTo_succ (k0 := k0) hlt)
      have f0 := hfr (k * 3)
      have f1 := hfr (k * 3 + 1)
      have f2 := hfr (k * 3 + 2)
      have e0 := (hcl (k * 3) (by omega)).trans q0
      have e1 := (hcl (k * 3 + 1) (by omega)).trans q1
      have e2 := (hcl (k * 3 + 2) (by omega)).trans q2
      have I1 := hideIt (I.out.1.stored (k * 3) (.int .i64 (k0 + 3 * (k : Int))))
      have G1 := hideIt (grown_setCell I.out.2 (a := ⟨b, k * 3, none⟩) rfl (.int .i64 (k0 + 3 * (k : Int))))
      have LM := hideIt (fun w1 => markText_any (k0 + 3 * (k : Int) + 1).toNat w1 (by omega))
      rw [show (((k0 + 3 * (k : Int) + 1).toNat : Nat) : Int) = k0 + 3 * (k : Int) + 1 by omega] at LM
      have hzs : (wr.setCell ⟨b, k * 3, none⟩ (.int .i64 (k0 + 3 * (k : Int)))).heap.size = wr.heap.size := by simp
      generalize mtx (k0 + 3 * (k : Int) + 1).toNat = tx at *
      generalize ds[k].dir = xd at *
      generalize ds[k].name = xs at *
      generalize ds[k].child = xc at *
      clear I hc hfr hcl q0 q1 q2
      go_wp2_with fail
      refine (LM.out _).mono ?_
      rintro e w2 ⟨rfl, hb⟩
      rw [hzs] at hb
      have R2 := hideIt (I1.out.below hb (by omega))
      have G2 := hideIt (grown_trans G1.out (grown_below (row := (Value.slice (some ⟨b, 0, none⟩) ds.length cap).ownBlock) (by rw [hzs]; exact hb)))
      have hz2 : wr.heap.size ≤ w2.heap.size := by have := hb.size; omega
      obtain ⟨_, _, _, _, hfr, hcl⟩ := R2.out.at
      have l0 : (dens (mkdTo k0 k ds)).length = ds.length * 3 := by
        rw [dens_len]; unfold mkdTo; rw [List.length_append, marksD_len, List.length_drop]; congr 1; omega
      have q1 := (hcl (k * 3 + 1) (by omega))
      have q2 := (hcl (k * 3 + 2) (by omega))
      have f1 := hfr (k * 3 + 1)
      have f2 := hfr (k * 3 + 2)
      obtain ⟨y0, y1, y2⟩ := mkdTo_at (k0 := k0) hlt
      rw [List.getElem?_set_ne (by omega), y1] at q1
      rw [List.getElem?_set_ne (by omega), y2] at q2
      have R3 : Hid (Row ((w2.setCell ⟨b, k * 3 + 1, none⟩ (.string tx)).setCell ⟨b, k * 3 + 2, none⟩ (.int .i64 (k0 + 3 * (k : Int) + 1 + 1))) 180 3 lo hi (.slice (some ⟨b, 0, none⟩) ds.length cap) ds.length (dens (mkdTo k0 (k + 1) ds)) ∧ w.grownBy ((w2.setCell ⟨b, k * 3 + 1, none⟩ (.string tx)).setCell ⟨b, k * 3 + 2, none⟩ (.int .i64 (k0 + 3 * (k : Int) + 1 + 1))) (Value.slice (some ⟨b, 0, none⟩) ds.length cap).ownBlock) := by
        refine ⟨?_, grown_setCell (grown_setCell G2.out (a := ⟨b, k * 3 + 1, none⟩) rfl _) (a := ⟨b, k * 3 + 2, none⟩) rfl _⟩
        rw [← MS.out, show k0 + 3 * (k : Int) + 2 = k0 + 3 * (k : Int) + 1 + 1 by omega]
        exact (R2.out.stored _ _).stored _ _
      generalize ds[k].name = ys at q1
      generalize ds[k].child = yc at q2
      clear hb hfr hcl y0 y1 y2 I1 G1 R2 G2 hzs l0 e0 e1 e2 f0
      go_wp2
      go_roundw
      case rel => exact ⟨k + 1, by omega, by go_num, by go_num, R3, by simp; omega⟩
      case measure => simp [intOf]; omega
    · obtain rfl : k = ds.length := by omega
      have E := hideIt (mkdTo_all k0 ds)
      go_wp2
      go_ret
      exact ⟨rfl, by have := I.out.1; rw [E.out] at this; exact this, I.out.2⟩

set_option maxRecDepth 100000 in
set_option maxHeartbeats 4000000 in
theorem markImage_any (v : Value) (ws : List Ino) (ps : List Den) (k0 : Int) (lo hi : Nat) (w : World) (h : RowIm w lo hi v ws ps) (hz : hi ≤ w.heap.size) (hw : ws.length ≤ 16777216) (hp : ps.length ≤ 16777216) (h0 : 0 ≤ k0) (h1 : k0 ≤ 1048576) :
    Calls Tryz.prog 25 #[v, .int .i64 k0] w fun e w' => e = .returned (.int .i64 (k0 + 11 * ws.length + 3 * ps.length)) ∧ (∃ vW vP, v = .agg #[vW, vP] ∧ Row w' 97 11 lo hi vW ws.length (ints (marks k0 (ws.length * 11))) ∧ Row w' 180 3 lo hi vP ps.length (dens (marksD (k0 + 11 * ws.length) ps.length))) ∧ Outside lo hi w w' := by
  obtain ⟨vW, vP, rfl, hI, hS⟩ := h
  obtain ⟨-, aW, cW, hvW, -⟩ := hI.rd
  obtain ⟨-, aP, cP, hvP, -⟩ := hS.rd
  subst hvW hvP
  have BW := hideIt ((Below.refl w.heap.size w).alloc (Nat.le_refl _) (.cells #[.slice aW ws.length cW, .slice aP ps.length cP] 63))
  have R0 := hideIt (hI.below BW.out hz)
  have S0 := hideIt (hS.below BW.out hz)
  have VB : Hid ((w.alloc (.cells #[.slice aW ws.length cW, .slice aP ps.length cP] 63)).heap[w.heap.size]? = some (.cells #[.slice aW ws.length cW, .slice aP ps.length cP] 63 (0, 0))) := at_new rfl
  have IX : Hid (∀ j, j < ws.length * 11 → ∃ z, (inos ws)[j]? = some (.int .i64 z)) := fun j hj => by
    have e := inos_at ws (j / 11) (j % 11) (by omega) (by omega)
    rw [show j / 11 * 11 + j % 11 = j by omega] at e
    rw [e]
    rcases (show j % 11 = 0 ∨ j % 11 = 1 ∨ j % 11 = 2 ∨ j % 11 = 3 ∨ j % 11 = 4 ∨ j % 11 = 5 ∨ j % 11 = 6 ∨ j % 11 = 7 ∨ j % 11 = 8 ∨ j % 11 = 9 ∨ j % 11 = 10 by omega) with r | r | r | r | r | r | r | r | r | r | r <;> rw [r] <;> exact ⟨_, rfl⟩
  have hz0 : w.heap.size < (w.alloc (.cells #[.slice aW ws.length cW, .slice aP ps.length cP] 63)).heap.size := by simp
  obtain ⟨x0, x1, _, _⟩ := two_cells VB.out
  clear hI hS
  go_enter Tryz.func25, Tryz.ntmps25
  go_wp2_with fail
  refine (markInodeS_any _ _ _ k0 lo hi _ R0.out IX.out hw h0 (by omega)).mono ?_
  rintro e w1 ⟨rfl, hr1, hg1, hs1⟩
  have ho1 := Row.grown_outside R0.out hg1
  have S1 := hideIt (Row.apart S0.out R0.out (by decide) hg1)
  have R1 := hideIt hr1
  have O1 : Hid (Outside lo hi w w1) := (Outside.of_below BW.out).trans ho1
  have V1 := hideIt ((ho1.block _ hz0 (by omega)).trans VB.out)
  have hz1 : w.heap.size < w1.heap.size := by omega
  clear hr1 hg1 hs1 ho1 x0 x1 R0 S0
  obtain ⟨x0, x1, _, _⟩ := two_cells V1.out
  go_wp2_with fail
  refine (markDirentS_any _ ps (k0 + 11 * ws.length) lo hi _ S1.out (by omega) hp (by omega) (by omega)).mono ?_
  rintro e w2 ⟨rfl, hr2, hg2⟩
  have ho2 := Row.grown_outside S1.out hg2
  have R2 := hideIt (Row.apart R1.out S1.out (by decide) hg2)
  have S2 := hideIt hr2
  have O2 := hideIt (O1.out.trans ho2)
  clear hr2 hg2 ho2 x0 x1
  go_wp2
  go_ret
  exact ⟨rfl, ⟨_, _, rfl, R2.out, S2.out⟩, O2.out⟩
end Go.Proofs.YtcilodgoognmnaaGreatDoor
