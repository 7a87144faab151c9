/- The updates of an inode: by the program. -/
import Derived.Test.YtihmihkhkmadmaaDoorPiD
import Derived.Deep.RegionLaw
namespace Go.Proofs.YtihmihkhkmadmaaDoor
open Go.RowKit
theorem arr11_from (b : Nat) (w : World) : (Instr.sliceAt 106 (.pointer (some ⟨b, 0, none⟩)) (some (.int .i64 3)) none none).run Tryd.prog w = .ok (.slice (some ⟨b, 3, none⟩) 8 8) w := by
  have al : Tryd.prog.arrayLen 106 = 11 := by kernel_rfl
  rw [run_sliceAt_array_l w 106 ⟨b, 0, none⟩ (by kernel_rfl) .i64 3 (by omega) (by rw [al]; omega), al]
  have sz : (sizeOf (Tryd.prog.elem 106)).run Tryd.prog w = .ok 1 w := by kernel_rfl
  rw [sz]
  simp [Result.andThen, slicedAt, Addr.add]
theorem arr11_all (b : Nat) (w : World) : (Instr.sliceAt 106 (.pointer (some ⟨b, 0, none⟩)) none none none).run Tryd.prog w = .ok (.slice (some ⟨b, 0, none⟩) 11 11) w := by
  have al : Tryd.prog.arrayLen 106 = 11 := by kernel_rfl
  rw [run_sliceAt_array_all w 106 ⟨b, 0, none⟩ (by kernel_rfl), al]
  have sz : (sizeOf (Tryd.prog.elem 106)).run Tryd.prog w = .ok 1 w := by kernel_rfl
  rw [sz]
  simp [Result.andThen, slicedAt, Addr.add]
theorem map_all (b : Nat) (w : World) : (Instr.sliceAt 72 (.pointer (some ⟨b, 3, none⟩)) none none none).run Tryd.prog w = .ok (.slice (some ⟨b, 3, none⟩) 8 8) w := by
  have al : Tryd.prog.arrayLen 72 = 8 := by kernel_rfl
  rw [run_sliceAt_array_all w 72 ⟨b, 3, none⟩ (by kernel_rfl), al]
  have sz : (sizeOf (Tryd.prog.elem 72)).run Tryd.prog w = .ok 1 w := by kernel_rfl
  rw [sz]
  simp [Result.andThen, slicedAt, Addr.add]
def preC (x : Ino) : List Value := [.int .i64 x.kind, .int .i64 x.size, .int .i64 x.links, .int .i64 0, .int .i64 0, .int .i64 0, .int .i64 0, .int .i64 0, .int .i64 0, .int .i64 0, .int .i64 0]
def mapC (x : Ino) : List Value := [.int .i64 x.m0, .int .i64 x.m1, .int .i64 x.m2, .int .i64 x.m3, .int .i64 x.m4, .int .i64 x.m5, .int .i64 x.m6, .int .i64 x.m7]
theorem splice_ino (x : Ino) : splice (preC x) 3 (mapC x) = x.cs := rfl
theorem mapC_one (x : Ino) : ∀ v ∈ mapC x, v.oneCell' = true := by
  intro v hv
  simp [mapC] at hv
  rcases hv with rfl | rfl | rfl | rfl | rfl | rfl | rfl | rfl <;> rfl
theorem mapC_at (x : Ino) (j : Nat) (v : Value) (h : (mapC x)[j]? = some v) : x.cs[3 + j]? = some v := by
  have hj : j < 8 := by
    have := (List.getElem?_eq_some_iff.1 h).1
    exact this
  rcases (show j = 0 ∨ j = 1 ∨ j = 2 ∨ j = 3 ∨ j = 4 ∨ j = 5 ∨ j = 6 ∨ j = 7 by omega) with rfl | rfl | rfl | rfl | rfl | rfl | rfl | rfl <;> exact h
theorem ns_cs (x : Ino) : ints x.ns = x.cs := rfl
theorem rd_ns {x : Ino} {w : World} {b : Nat} {t : TypeId} (h : w.heap[b]? = some (.cells x.cs.toArray t (0, 0))) : RdI w (.slice (some ⟨b, 0, none⟩) 11 11) x.ns := by
  refine ⟨by rw [ints_len, Nat.mul_one], some ⟨b, 0, none⟩, 11, rfl, ⟨Nat.le_refl _, fun e => by cases e⟩, fun _ => ⟨b, 0, rfl, (Array.getElem?_eq_some_iff.1 h).1, fun j hj => ?_⟩⟩
  rw [Nat.zero_add, ns_cs]
  exact (eight_at (xs := x.cs) h j).1
theorem uf_wr (i : Int) (x : Ino) : ufL (48 + 12 * i) x.ns x.ns.length = wrL i x 8 := by
  have e1 : x.ns.length = 11 := rfl
  rw [e1]
  simp [ufL, wrL, List.range_succ, Ino.ns, Ino.map]
theorem sz3 : (Tryd.prog.info? 3).map (·.size) = some 1 := by kernel_rfl
set_option maxRecDepth 100000 in
set_option maxHeartbeats 4000000 in
theorem implInodeUpdates_any (i : Int) (x : Ino) (w : World) (hT : TS w) (hE : ED w) (hr : x.R) :
    Calls Tryd.prog 38 #[.int .i64 i, x.v] w fun e w' => ∃ v', e = .returned (.tuple #[v', .int .i64 (iuC i x)]) ∧ Row w' 81 2 w.heap.size w'.heap.size v' (iuL i x).length (ses (iuL i x)) ∧ Below w.heap.size w w' := by
  have hv : x.v = .agg x.cs.toArray := rfl
  have BW : Hid (Below w.heap.size w (w.alloc (.cells x.cs.toArray 74))) := (Below.refl _ _).alloc (Nat.le_refl _) _
  have CA : Hid (∀ w', Below (w.alloc (.cells x.cs.toArray 74)).heap.size (w.alloc (.cells x.cs.toArray 74)) w' → ∀ j, w'.cell? ⟨w.heap.size, j, none⟩ = x.cs[j]?) := fun w' hb j => by
    have : w'.heap[w.heap.size]? = some (.cells x.cs.toArray 74 (0, 0)) := (hb.block _ (by simp)).trans (at_new rfl)
    exact (eight_at (xs := x.cs) this j).1
  have T : Hid (TS (w.alloc (.cells x.cs.toArray 74))) := hT.below BW.out
  have TE : Hid (ED (w.alloc (.cells x.cs.toArray 74))) := hE.below BW.out
  have LF := hideIt (fun w1 (h : TS w1) (g : ED w1) => isInode_any x w1 h g hr)
  have hz : w.heap.size < (w.alloc (.cells x.cs.toArray 74)).heap.size := by simp
  obtain ⟨W, hW⟩ : ∃ W, W = w.alloc (.cells x.cs.toArray 74) := ⟨_, rfl⟩
  rw [← hW] at BW CA T TE hz
  rw [hv]
  clear hT hE hr
  rcases iu_cases i x with ⟨c1, e1, e2⟩ | ⟨c1, c2, e1, e2⟩ | ⟨c1, c2, e1, e2⟩
  · rw [e1, e2]
    obtain ⟨k1, k2⟩ := ino_out (i := i) (f := 0) (by omega)
    have K1 := hideIt k1
    have K2 := hideIt k2
    clear e1 e2 c1 k1 k2
    go_enter Tryd.func38, Tryd.ntmps38
    go_wp2_with fail
    rw [← hW]
    clear hW
    refine (implInode_any _ _ _).mono ?_
    rw [K2.out]
    rintro e w' ⟨rfl, hw'⟩
    subst w'
    go_wp2
    go_ret2
    exact ⟨_, rfl, Row.nil _ _ _ _ _, BW.out⟩
  · rw [e1, e2]
    obtain ⟨k1, k2⟩ := ino_in (i := i) (f := 0) (by omega) (by omega)
    have K1 := hideIt k1
    have K2 := hideIt k2
    have C2 := hideIt c2
    clear e1 e2 c1 c2 k1 k2
    go_enter Tryd.func38, Tryd.ntmps38
    go_wp2_with fail
    rw [← hW]
    clear hW
    refine (implInode_any _ _ _).mono ?_
    rw [K1.out, K2.out]
    rintro e w' ⟨rfl, hw'⟩
    subst w'
    obtain ⟨p0, p1, p2, p3, p4, p5, p6, p7, p8, p9, p10⟩ := Ino.all (CA.out W (Below.refl _ _))
    go_wp2_with fail
    refine (LF.out _ T.out TE.out).mono ?_
    rw [C2.out]
    rintro e w1 ⟨rfl, hb⟩
    have B1 := hideIt (below_trans BW.out hb (by omega))
    clear hb p0 p1 p2 p3 p4 p5 p6 p7 p8 p9 p10
    go_wp2
    go_ret2
    exact ⟨_, rfl, Row.nil _ _ _ _ _, B1.out⟩
  · rw [e1, e2]
    obtain ⟨k1, k2⟩ := ino_in (i := i) (f := 0) (by omega) (by omega)
    have K1 := hideIt k1
    have K2 := hideIt k2
    have C2 := hideIt c2
    have UF := hideIt (uf_wr i x)
    have RA := hideIt (show 0 ≤ 48 + 12 * i ∧ 48 + 12 * i ≤ 1000 by omega)
    clear e1 e2 c1 c2 k1 k2
    go_enter Tryd.func38, Tryd.ntmps38
    go_wp2_with fail
    rw [← hW]
    clear hW
    refine (implInode_any _ _ _).mono ?_
    rw [K1.out, K2.out]
    rintro e w' ⟨rfl, hw'⟩
    subst w'
    obtain ⟨p0, p1, p2, p3, p4, p5, p6, p7, p8, p9, p10⟩ := Ino.all (CA.out W (Below.refl _ _))
    go_wp2_with fail
    refine (LF.out _ T.out TE.out).mono ?_
    rw [C2.out]
    rintro e w1 ⟨rfl, hb⟩
    have B1 := hideIt (below_trans BW.out hb (by omega))
    have hz1 : W.heap.size ≤ w1.heap.size := hb.size
    have HB := hideIt hb
    obtain ⟨d0, d1, d2, d3, d4, d5, d6, d7, d8, d9, d10⟩ := Ino.all (CA.out w1 hb)
    clear hb p0 p1 p2 p3 p4 p5 p6 p7 p8 p9 p10
    go_wp2_with fail
    clear d0 d1 d2 d3 d4 d5 d6 d7 d8 d9 d10
    obtain ⟨wb, hwb⟩ : ∃ wb, wb = w1.alloc (.cells (preC x).toArray 106) := ⟨_, rfl⟩
    have HC : Hid (Below w1.heap.size w1 wb) := by rw [hwb]; exact (Below.refl _ _).alloc (Nat.le_refl _) _
    have HZ : w1.heap.size < wb.heap.size := by rw [hwb]; simp
    have HG : Hid (∀ w', Below wb.heap.size wb w' → w'.heap[w1.heap.size]? = some (.cells (preC x).toArray 106 (0, 0))) := fun w' hb => (hb.block _ HZ).trans (by rw [hwb]; exact at_new rfl)
    have HS : Hid (∀ w', Below wb.heap.size wb w' → ∀ j v, (mapC x)[j]? = some v → w'.cell? ((⟨w.heap.size, 3, none⟩ : Addr).add j) = some v) := fun w' hb j v hv => by rw [Addr.add_lit]; exact (CA.out w' (below_trans (below_trans HB.out HC.out hz1) hb (by omega)) (3 + j)).trans (mapC_at x j v hv)
    have HD : Hid (∀ w', Below wb.heap.size wb w' → Below w1.heap.size w1 w') := fun w' hb => below_trans HC.out hb (by omega)
    unfold preC at hwb
    rw [← hwb]
    clear hwb
    have s1 := arr11_from w1.heap.size
    have s2 := map_all w.heap.size
    have s3 := arr11_all w1.heap.size
    go_region_held3 (fun _ => True) (trivial)
      (first
        | (refine step_copy_splice rfl (.tmp 27) (.tmp 29) 40 40 rfl 3 Tryd.underlying40 sz3 _ _ _ _ _ _ rfl rfl w1.heap.size 3 (preC x) 106 (HG.out _ (by repeat (first | exact Below.refl _ _ | refine Below.drew ?_))) (mapC x) rfl (fun _ => ⟨rfl, _, rfl, HS.out _ (by repeat (first | exact Below.refl _ _ | refine Below.drew ?_))⟩) (Nat.le_refl 11) (mapC_one x) w1.heap.size w1 (HD.out _ (by repeat (first | exact Below.refl _ _ | refine Below.drew ?_))) (Nat.le_refl _) ?_; intro w4 hg4 hb4))
    all_goals
      rw [splice_ino] at hg4
      have R4 := hideIt (rd_ns hg4.out)
      have B4 := hideIt (below_trans B1.out hb4 (by omega))
      have hz4 : w1.heap.size ≤ w4.heap.size := hb4.size
      clear hg4 hb4 HG HS HD HC s1 s2
      go_wp2_with fail
      refine (updatesFrom_any _ _ x.ns _ R4.out (show (11 : Nat) ≤ 64 by omega) RA.out).mono ?_
      rw [UF.out]
      rintro e w5 ⟨v5, rfl, hr5, hb5⟩
      obtain ⟨-, aL, cL, hvL, -⟩ := hr5.rd
      subst hvL
      have R5 := hideIt (hr5.wide (by omega : w.heap.size ≤ w4.heap.size) (Nat.le_refl _))
      have B5 := hideIt (below_trans B4.out hb5 (by omega))
      clear hr5 hb5
      go_wp2
      go_ret2
      exact ⟨_, rfl, R5.out, B5.out⟩
end Go.Proofs.YtihmihkhkmadmaaDoor
