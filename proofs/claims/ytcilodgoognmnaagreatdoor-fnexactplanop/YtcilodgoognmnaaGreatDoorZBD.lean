/- Several texts laid together: DtD, RdE. -/
import Derived.Test.YtcilodgoognmnaaGreatDoorZBC
import Derived.Test.YtcilodgoognmnaaGreatDoorZBA
import Derived.Test.YtcilodgoognmnaaGreatDoorZAT
import Derived.Test.YtcilodgoognmnaaGreatDoorZAG
import Derived.Deep.RegionWith
namespace Go.Proofs.YtcilodgoognmnaaGreatDoor
open Go.RowKit

set_option maxRecDepth 100000 in
set_option maxHeartbeats 8000000 in
theorem l08Read_any (vd v : Value) (ws : List Int) (ps : List St) (es : List Int) (qs : List Se) (ns : List Ino) (ds : List Den) (s : ByteArray) (page : Int) (w : World) (hd : RdDev w vd ws ps es qs) (hP : pmB ws ps = true) (hB : blkB es qs = true) (h : RdIm w v ns ds) (hi : imgB ns ds = true) (hs : s.size ≤ 65536) :
    Calls Tryz.prog 43 #[vd, v, .string s, .int .i64 page] w fun e w' => e = .returned (.tuple #[.int .i64 (rpI ws ps es qs ns ds s page).1, .int .i64 (rpI ws ps es qs ns ds s page).2]) ∧ Below w.heap.size w w' := by
  have LV := hideIt (fun w1 (hb : Below w.heap.size w w1) z (hz : tieB z = true) => l08Value_any vd ws ps es qs z w1 (hd.below hb) hP hB hz)
  have LL := hideIt (fun w1 (hb : Below w.heap.size w w1) => l08File_any v ns ds s w1 (h.below hb) hi hs)
  have EL := hideIt (show rpI ws ps es qs ns ds s page = if (flI ns ds s).2 = 0 then rpF ws ps es qs ns (flI ns ds s).1 page else (0, (flI ns ds s).2) from rfl)
  have LO := hideIt (fun c => fl_file (s := s) (img_iff.1 hi) c)
  have EF := hideIt (fun i => show rpF ws ps es qs ns i page = if 0 ≤ page ∧ page < sizeAt ns i then (pgV ws ps es qs (pageAt ns i page), 0) else (0, 4) from rfl)
  have SZ : Hid (∀ i : Nat, i < 16 → 0 ≤ sizeAt ns (i : Int) ∧ sizeAt ns (i : Int) ≤ 8) := fun i hk => (ino_parts ((img_iff.1 hi).ok i hk)).2.1
  have TI : Hid (∀ i : Nat, i < 16 → ∀ j : Nat, j < 8 → tieB (pageAt ns (i : Int) (j : Int)) = true) := fun i hk j hj => by
    refine (ino_ties ((img_iff.1 hi).ok i hk)).1 _ ?_
    show (inoAt ns i).map.getD j 0 ∈ _
    rw [List.getD_eq_getElem?_getD, List.getElem?_eq_getElem (show j < (inoAt ns i).map.length from hj)]
    exact List.getElem_mem _
  obtain ⟨l16, l24, _⟩ := pimg_all hi
  have L16 := hideIt l16
  obtain ⟨dW, eW, dP, eP, dS, eS, dQ, eQ, rfl, -, -⟩ := hd.form
  obtain ⟨vW, vP, rfl, h1, h2⟩ := h
  obtain ⟨aW, cW, rfl, _, hcW⟩ := h1.shape
  obtain ⟨aP, cP, rfl, _, hcP⟩ := h2.shape
  obtain ⟨bW, oW, rfl, hblW, hcellW⟩ := hcW (by omega)
  have HM : Hid (∀ k, k < 16 → ∀ w', Below w.heap.size w w' → w'.cell? ⟨bW, oW + k * 11 + 1, none⟩ = some (.int .i64 (sizeAt ns (k : Int))) ∧ ∀ j, j < 8 → w'.cell? ⟨bW, oW + k * 11 + 3 + j, none⟩ = some (.int .i64 (pageAt ns (k : Int) (j : Int)))) := fun k hk w' hb => by
    unfold sizeAt pageAt
    rw [Int.toNat_natCast, inoAt_of (by omega : k < ns.length)]
    obtain ⟨a0, a1, a2, a3, a4, a5, a6, a7, a8, a9, a10⟩ := hcellW k (by omega)
    refine ⟨(hb.cell (p := ⟨bW, oW + k * 11 + 1, none⟩) hblW).trans a1, fun j hj => ?_⟩
    rw [Int.toNat_natCast]
    rcases (show j = 0 ∨ j = 1 ∨ j = 2 ∨ j = 3 ∨ j = 4 ∨ j = 5 ∨ j = 6 ∨ j = 7 by omega) with rfl | rfl | rfl | rfl | rfl | rfl | rfl | rfl
    · exact (hb.cell (p := ⟨bW, oW + k * 11 + 3, none⟩) hblW).trans a3
    · exact (hb.cell (p := ⟨bW, oW + k * 11 + 4, none⟩) hblW).trans a4
    · exact (hb.cell (p := ⟨bW, oW + k * 11 + 5, none⟩) hblW).trans a5
    · exact (hb.cell (p := ⟨bW, oW + k * 11 + 6, none⟩) hblW).trans a6
    · exact (hb.cell (p := ⟨bW, oW + k * 11 + 7, none⟩) hblW).trans a7
    · exact (hb.cell (p := ⟨bW, oW + k * 11 + 8, none⟩) hblW).trans a8
    · exact (hb.cell (p := ⟨bW, oW + k * 11 + 9, none⟩) hblW).trans a9
    · exact (hb.cell (p := ⟨bW, oW + k * 11 + 10, none⟩) hblW).trans a10
  clear h1 h2 hi hs hcW hcP hcellW l16 l24 hd hP hB
  obtain ⟨W, hW⟩ : ∃ W, W = (w.alloc (.cells #[.slice dW ws.length eW, .slice dP ps.length eP, .slice dS es.length eS, .slice dQ qs.length eQ] 41)).alloc (.cells #[.slice (some ⟨bW, oW, none⟩) ns.length cW, .slice aP ds.length cP] 63) := ⟨_, rfl⟩
  have hzW : W.heap.size = w.heap.size + 1 + 1 := by rw [hW]; simp
  have CD : Hid (∀ w', Below W.heap.size W w' → w'.cell? ⟨w.heap.size, 0, none⟩ = some (.slice dW ws.length eW) ∧ w'.cell? ⟨w.heap.size, 1, none⟩ = some (.slice dP ps.length eP) ∧ w'.cell? ⟨w.heap.size, 2, none⟩ = some (.slice dS es.length eS) ∧ w'.cell? ⟨w.heap.size, 3, none⟩ = some (.slice dQ qs.length eQ)) := fun w' hb => by
    have : w'.heap[w.heap.size]? = some (.cells #[.slice dW ws.length eW, .slice dP ps.length eP, .slice dS es.length eS, .slice dQ qs.length eQ] 41 (0, 0)) := (hb.block _ (by omega)).trans (by rw [hW]; exact at_old (at_new rfl))
    obtain ⟨x0, x1, x2, x3, -, -, -, -⟩ := four_cells this
    exact ⟨x0, x1, x2, x3⟩
  have CA : Hid (∀ w', Below W.heap.size W w' → w'.cell? ⟨w.heap.size + 1, 0, none⟩ = some (.slice (some ⟨bW, oW, none⟩) ns.length cW) ∧ w'.cell? ⟨w.heap.size + 1, 1, none⟩ = some (.slice aP ds.length cP)) := fun w' hb => by
    have : w'.heap[w.heap.size + 1]? = some (.cells #[.slice (some ⟨bW, oW, none⟩) ns.length cW, .slice aP ds.length cP] 63 (0, 0)) := (hb.block _ (by omega)).trans (by
      rw [hW]
      have := at_new (w := w.alloc (.cells #[.slice dW ws.length eW, .slice dP ps.length eP, .slice dS es.length eS, .slice dQ qs.length eQ] 41)) (o := .cells #[.slice (some ⟨bW, oW, none⟩) ns.length cW, .slice aP ds.length cP] 63) rfl
      rw [World.size_alloc] at this
      exact this)
    exact ⟨(two_cells this).1, (two_cells this).2.1⟩
  have BW : Hid (Below w.heap.size w W) := by rw [hW]; exact ((Below.refl _ _).alloc (Nat.le_refl _) _).alloc (by simp) _
  obtain ⟨x0, x1⟩ := CA.out _ (Below.refl _ _)
  have hz : w.heap.size + 1 < W.heap.size := by omega
  clear hzW
  generalize rpI ws ps es qs ns ds s page = res at *
  generalize flI ns ds s = lr at *
  obtain ⟨li, lc⟩ := lr
  simp only at EL LO LL
  go_enter Tryz.func43, Tryz.ntmps43
  go_wp2_with fail
  rw [← hW]
  clear hW x0 x1
  refine (LL.out _ BW.out).mono ?_
  rintro e w1 ⟨rfl, hb1⟩
  have A1 := hideIt hb1
  have B1 := hideIt (below_trans BW.out A1.out BW.out.size)
  clear hb1 LL
  by_cases c : lc = 0
  case neg =>
    rw [if_neg c] at EL
    obtain rfl := EL.out
    have q : (lc != 0) = true := by rw [bne_iff_ne]; exact c
    clear EL LO c
    go_wp2
    go_ret2
    exact ⟨rfl, B1.out⟩
  subst c
  rw [if_pos rfl] at EL
  obtain ⟨i, i16, ei, -⟩ := LO.out rfl
  subst ei
  rw [EF.out] at EL
  have HMi := hideIt (HM.out i i16)
  have TIi := hideIt (TI.out i i16)
  obtain ⟨z0, z8⟩ := SZ.out i i16
  have i1 : i < ns.length := by have := L16.out; omega
  have i0 : (0 : Int) ≤ (i : Int) := by omega
  have il : (i : Int) < (ns.length : Int) := by omega
  clear HM EF LO L16 SZ TI
  obtain ⟨x0, x1⟩ := CA.out _ A1.out
  have y0 := (HMi.out _ B1.out).1
  generalize sizeAt ns (i : Int) = sz at *
  by_cases c : 0 ≤ page ∧ page < sz
  case neg =>
    rw [if_neg c] at EL
    obtain rfl := EL.out
    clear EL
    go_wp2_with fail
    refine (l01In_no _ _ _ _ (by omega)).mono ?_
    rintro e w' ⟨rfl, hw'⟩
    subst w'
    go_wp2
    go_ret2
    exact ⟨rfl, B1.out⟩
  rw [if_pos c] at EL
  obtain ⟨j, rfl⟩ : ∃ j : Nat, page = (j : Int) := ⟨page.toNat, by omega⟩
  have j8 : j < 8 := by omega
  have te := hideIt (TIi.out j j8)
  have LV2 := hideIt (fun w1 hb => LV.out w1 hb _ te.out)
  have j0 : (0 : Int) ≤ (j : Int) := by omega
  have j1 : (j : Int) < 8 := by omega
  have KE : Hid (∀ w', Below W.heap.size W w' → w'.cell? ⟨w.heap.size, 0, none⟩ = some (.slice dW ws.length eW) ∧ w'.cell? ⟨w.heap.size, 1, none⟩ = some (.slice dP ps.length eP) ∧ w'.cell? ⟨w.heap.size, 2, none⟩ = some (.slice dS es.length eS) ∧ w'.cell? ⟨w.heap.size, 3, none⟩ = some (.slice dQ qs.length eQ) ∧ w'.cell? ⟨w.heap.size + 1, 0, none⟩ = some (.slice (some ⟨bW, oW, none⟩) ns.length cW) ∧ w'.cell? ⟨bW, oW + i * 11 + 3 + j, none⟩ = some (.int .i64 (pageAt ns (i : Int) (j : Int)))) := fun w' hb =>
    ⟨(CD.out w' hb).1, (CD.out w' hb).2.1, (CD.out w' hb).2.2.1, (CD.out w' hb).2.2.2, (CA.out w' hb).1, (HMi.out w' (below_trans BW.out hb BW.out.size)).2 j j8⟩
  generalize pageAt ns (i : Int) (j : Int) = pz at *
  go_wp2_with fail
  refine (l01In_yes _ _ _ _ (by omega)).mono ?_
  rintro e w' ⟨rfl, hw'⟩
  subst w'
  clear c y0 HMi TIi te LV CD CA x0 x1
  obtain ⟨x0, x1, x2, x3, x4, x5⟩ := KE.out _ A1.out
  go_wp2_with fail
  go_region_held3 (fun w' => w'.cell? ⟨w.heap.size, 0, none⟩ = some (.slice dW ws.length eW) ∧ w'.cell? ⟨w.heap.size, 1, none⟩ = some (.slice dP ps.length eP) ∧ w'.cell? ⟨w.heap.size, 2, none⟩ = some (.slice dS es.length eS) ∧ w'.cell? ⟨w.heap.size, 3, none⟩ = some (.slice dQ qs.length eQ) ∧ w'.cell? ⟨w.heap.size + 1, 0, none⟩ = some (.slice (some ⟨bW, oW, none⟩) ns.length cW) ∧ w'.cell? ⟨bW, oW + i * 11 + 3 + j, none⟩ = some (.int .i64 pz))
    (first | with_reducible exact KE.out _ A2.out | with_reducible exact KE.out _ A1.out | with_reducible exact KE.out _ A1.out.drew)
    (first
      | (go_at_call 92; refine (LV2.out _ (by first | with_reducible exact B1.out | with_reducible exact B1.out.drew)).mono ?_; rintro e w2 ⟨rfl, hb2⟩; have A2 := hideIt (below_trans A1.out (below_of_drew hb2) A1.out.size); have B2 := hideIt (below_trans B1.out (below_of_drew hb2) B1.out.size); clear hb2; obtain ⟨r0, r1, r2, r3, r4, r5⟩ := KE.out _ A2.out))
  all_goals
    obtain rfl := EL.out
    go_wp2
    go_ret2
    exact ⟨rfl, B2.out⟩
theorem dv_yes {ws : List Int} {ps : List St} {es : List Int} {qs : List Se} (h : dvB ws ps es qs = true) : pmB ws ps = true ∧ blkB es qs = true ∧ dvN ws ps es qs = inosOf (layW ws ps) 16 ∧ dvD ws ps es qs = densOf (layW ws ps) 24 ∧ imgB (inosOf (layW ws ps) 16) (densOf (layW ws ps) 24) = true := by
  have q := h
  unfold dvB at q
  rw [Bool.and_eq_true, Bool.and_eq_true] at q
  obtain ⟨⟨a, b⟩, r⟩ := q
  unfold riB at r
  rw [Bool.and_eq_true, Bool.and_eq_true] at r
  exact ⟨a, b, by unfold dvN; rw [if_pos h], by unfold dvD; rw [if_pos h], r.2.2⟩

end Go.Proofs.YtcilodgoognmnaaGreatDoor

namespace Go.Proofs.YtcilodgoognmnaaGreatDoor
open Go.RowKit

theorem run_arrayAt8 (a : Option Addr) (n cap : Nat) (hn : 8 ≤ n) (w : World) : (Instr.arrayAt 95 (.slice a n cap)).run Tryz.prog w = .ok (.pointer a) w := by
  have h : ¬ n < 8 := by omega
  simp [Instr.arrayAt, run_underlying Tryz.underlying95, h, go_sem]

set_option maxRecDepth 100000 in
set_option maxHeartbeats 2000000 in
theorem readInode_any (b o n c : Nat) (x : Ino) (w : World) (hn : 11 ≤ n) (hc : n ≤ c) (hb : b < w.heap.size) (h : ∀ j, j < 11 → w.cell? ⟨b, o + j, none⟩ = x.cs[j]?) :
    Calls Tryz.prog 162 #[.slice (some ⟨b, o, none⟩) n c] w fun e w' => e = .returned x.v ∧ Below w.heap.size w w' := by
  have BW := hideIt ((Below.refl w.heap.size w).alloc (Nat.le_refl _) (.cells #[.int .i64 0, .int .i64 0, .int .i64 0, .int .i64 0, .int .i64 0, .int .i64 0, .int .i64 0, .int .i64 0, .int .i64 0, .int .i64 0, .int .i64 0] 97))
  have S : Hid (∀ w', Below w.heap.size w w' → w'.cell? ⟨b, o, none⟩ = some (.int .i64 x.kind) ∧ w'.cell? ⟨b, o + 1, none⟩ = some (.int .i64 x.size) ∧ w'.cell? ⟨b, o + 2, none⟩ = some (.int .i64 x.links) ∧ w'.cell? ⟨b, o + 3, none⟩ = some (.int .i64 x.m0) ∧ w'.cell? ⟨b, o + 3 + 1, none⟩ = some (.int .i64 x.m1) ∧ w'.cell? ⟨b, o + 3 + 2, none⟩ = some (.int .i64 x.m2) ∧ w'.cell? ⟨b, o + 3 + 3, none⟩ = some (.int .i64 x.m3) ∧ w'.cell? ⟨b, o + 3 + 4, none⟩ = some (.int .i64 x.m4) ∧ w'.cell? ⟨b, o + 3 + 5, none⟩ = some (.int .i64 x.m5) ∧ w'.cell? ⟨b, o + 3 + 6, none⟩ = some (.int .i64 x.m6) ∧ w'.cell? ⟨b, o + 3 + 7, none⟩ = some (.int .i64 x.m7)) := fun w' hw' =>
    have g := fun j (hj : j < 11) => (hw'.cell (p := ⟨b, o + j, none⟩) hb).trans (h j hj)
    ⟨g 0 (by omega), g 1 (by omega), g 2 (by omega), g 3 (by omega), g 4 (by omega), g 5 (by omega), g 6 (by omega), g 7 (by omega), g 8 (by omega), g 9 (by omega), g 10 (by omega)⟩
  obtain ⟨s0, s1, s2, s3, s4, s5, s6, s7, s8, s9, s10⟩ := S.out _ BW.out
  have i0 : (0 : Int) < (n : Int) := by omega
  have i00 : 0 < n := by omega
  have i1 : (1 : Int) < (n : Int) := by omega
  have i2 : (2 : Int) < (n : Int) := by omega
  have i3 : (11 : Int) ≤ (c : Int) := by omega
  have i4 : ¬ c = 3 := by omega
  have i5 : (3 : Int) ≤ 11 := by omega
  have har := run_arrayAt8 (some ⟨b, o + 3, none⟩) 8 (c - 3) (Nat.le_refl _)
  unfold Ino.v
  clear h hn hc
  go_enter Tryz.func162, Tryz.ntmps162
  go_wp2_with fail
  go_region_held3 (fun w' => w'.cell? ⟨b, o, none⟩ = some (.int .i64 x.kind) ∧ w'.cell? ⟨b, o + 1, none⟩ = some (.int .i64 x.size) ∧ w'.cell? ⟨b, o + 2, none⟩ = some (.int .i64 x.links) ∧ w'.cell? ⟨b, o + 3, none⟩ = some (.int .i64 x.m0) ∧ w'.cell? ⟨b, o + 3 + 1, none⟩ = some (.int .i64 x.m1) ∧ w'.cell? ⟨b, o + 3 + 2, none⟩ = some (.int .i64 x.m2) ∧ w'.cell? ⟨b, o + 3 + 3, none⟩ = some (.int .i64 x.m3) ∧ w'.cell? ⟨b, o + 3 + 4, none⟩ = some (.int .i64 x.m4) ∧ w'.cell? ⟨b, o + 3 + 5, none⟩ = some (.int .i64 x.m5) ∧ w'.cell? ⟨b, o + 3 + 6, none⟩ = some (.int .i64 x.m6) ∧ w'.cell? ⟨b, o + 3 + 7, none⟩ = some (.int .i64 x.m7))
    (exact S.out _ (by repeat (first | with_reducible exact BW.out | with_reducible refine below_allocB ?_ _ | with_reducible exact Below.refl _ _ | with_reducible refine Below.drew ?_)))
    (fail)
  all_goals
    go_wp2
    refine bodyPost_ret (v := .agg #[.int .i64 x.kind, .int .i64 x.size, .int .i64 x.links, .int .i64 x.m0, .int .i64 x.m1, .int .i64 x.m2, .int .i64 x.m3, .int .i64 x.m4, .int .i64 x.m5, .int .i64 x.m6, .int .i64 x.m7]) (by simp [results, Tryz.results162, go_sem]) rfl ⟨rfl, ?_⟩
    repeat (first | with_reducible exact Below.refl _ _ | with_reducible refine below_allocB ?_ _ | with_reducible refine Below.drew ?_)

/-- An entry off three words. -/
def denZ (z0 z1 z2 : Int) : Den := if z2 = 0 then ⟨0, ⟨#[]⟩, -1⟩ else ⟨z0, unpS z1, z2 - 1⟩
def denZok (z0 z1 z2 : Int) : Bool := if z2 = 0 then z0 == 0 && z1 == 0 else goodN z1

set_option maxRecDepth 100000 in
set_option maxHeartbeats 2000000 in
theorem readDirent_any (b o n c : Nat) (z0 z1 z2 : Int) (w : World) (hn : 3 ≤ n) (_hc : n ≤ c) (hb : b < w.heap.size) (h0 : w.cell? ⟨b, o, none⟩ = some (.int .i64 z0)) (h1 : w.cell? ⟨b, o + 1, none⟩ = some (.int .i64 z1)) (h2 : w.cell? ⟨b, o + 2, none⟩ = some (.int .i64 z2)) (hF : FD w) (r1 : z1 ≤ 9223372036854775807) (r2 : 0 ≤ z2 ∧ z2 ≤ 9223372036854775807) :
    Calls Tryz.prog 163 #[.slice (some ⟨b, o, none⟩) n c] w fun e w' => (∃ s, e = .returned (.tuple #[.agg #[.int .i64 (denZ z0 z1 z2).dir, .string s, .int .i64 (denZ z0 z1 z2).child], .bool (denZok z0 z1 z2)]) ∧ (denZok z0 z1 z2 = true → s = (denZ z0 z1 z2).name)) ∧ Below w.heap.size w w' := by
  have BW := hideIt ((Below.refl w.heap.size w).alloc (Nat.le_refl _) (.cells #[.int .i64 0, .string ⟨#[]⟩, .int .i64 0] 180))
  have S : Hid (∀ w', Below w.heap.size w w' → w'.cell? ⟨b, o, none⟩ = some (.int .i64 z0) ∧ w'.cell? ⟨b, o + 1, none⟩ = some (.int .i64 z1) ∧ w'.cell? ⟨b, o + 2, none⟩ = some (.int .i64 z2)) := fun w' hw' => ⟨(hw'.cell (p := ⟨b, o, none⟩) hb).trans h0, (hw'.cell (p := ⟨b, o + 1, none⟩) hb).trans h1, (hw'.cell (p := ⟨b, o + 2, none⟩) hb).trans h2⟩
  obtain ⟨s0, s1, s2⟩ := S.out _ BW.out
  have F := hideIt hF
  have i0 : (0 : Int) < (n : Int) := by omega
  have i00 : 0 < n := by omega
  have i1 : (1 : Int) < (n : Int) := by omega
  have i2 : (2 : Int) < (n : Int) := by omega
  clear h0 h1 h2 hF
  by_cases c2 : z2 = 0
  · subst c2
    have E1 : denZ z0 z1 0 = ⟨0, ⟨#[]⟩, -1⟩ := by unfold denZ; rw [if_pos rfl]
    have E2 : denZok z0 z1 0 = (z0 == 0 && z1 == 0) := by unfold denZok; rw [if_pos rfl]
    rw [E1, E2]
    clear E1 E2
    obtain ⟨f0, f1, f2⟩ := FD.cells (F.out.below BW.out)
    by_cases c0 : z0 = 0
    · have q0 : (z0 == 0) = true := by rw [c0]; rfl
      have EQ : Hid ((z0 == 0 && z1 == 0) = (z1 == 0)) := by unfold Hid; rw [q0]; rfl
      rw [EQ.out]
      clear c0 EQ
      go_enter Tryz.func163, Tryz.ntmps163
      go_wp2_with fail
      go_region_held3 (fun w' => (w'.cell? ⟨b, o, none⟩ = some (.int .i64 z0) ∧ w'.cell? ⟨b, o + 1, none⟩ = some (.int .i64 z1) ∧ w'.cell? ⟨b, o + 2, none⟩ = some (.int .i64 0)) ∧ w'.cell? ⟨2, 0, none⟩ = some (.int .i64 0) ∧ w'.cell? ⟨2, 1, none⟩ = some (.string ⟨#[]⟩) ∧ w'.cell? ⟨2, 2, none⟩ = some (.int .i64 (-1)))
        (exact ⟨S.out _ (by repeat (first | with_reducible exact BW.out | with_reducible refine below_allocB ?_ _ | with_reducible exact Below.refl _ _ | with_reducible refine Below.drew ?_)), FD.cells (F.out.below (by repeat (first | with_reducible exact BW.out | with_reducible refine below_allocB ?_ _ | with_reducible exact Below.refl _ _ | with_reducible refine Below.drew ?_)))⟩)
        (fail)
      all_goals
        go_wp2
        refine bodyPost_ret (v := .tuple #[.agg #[.int .i64 0, .string ⟨#[]⟩, .int .i64 (-1)], .bool (z1 == 0)]) (by simp [results, Tryz.results163, go_sem]) rfl ?_
        exact ⟨⟨_, rfl, fun _ => rfl⟩, (by repeat (first | with_reducible exact BW.out | with_reducible exact Below.refl _ _ | with_reducible refine below_allocB ?_ _ | with_reducible refine Below.drew ?_ | refine Below.setCell ?_ (by exact Nat.le_refl _) _))⟩
    · have q0 : (z0 == 0) = false := by rw [beq_eq_false_iff_ne]; exact c0
      have EQ : Hid ((z0 == 0 && z1 == 0) = false) := by unfold Hid; rw [q0]; rfl
      rw [EQ.out]
      clear c0 EQ
      go_enter Tryz.func163, Tryz.ntmps163
      go_wp2_with fail
      go_region
      all_goals
        go_wp2
        refine bodyPost_ret (v := .tuple #[.agg #[.int .i64 0, .string ⟨#[]⟩, .int .i64 (-1)], .bool false]) (by simp [results, Tryz.results163, go_sem]) rfl ?_
        exact ⟨⟨_, rfl, fun _ => rfl⟩, (by repeat (first | with_reducible exact BW.out | with_reducible exact Below.refl _ _ | with_reducible refine below_allocB ?_ _ | with_reducible refine Below.drew ?_ | refine Below.setCell ?_ (by exact Nat.le_refl _) _))⟩
  · have q : (z2 == 0) = false := by rw [beq_eq_false_iff_ne]; exact c2
    have E1 : denZ z0 z1 z2 = ⟨z0, unpS z1, z2 - 1⟩ := by unfold denZ; rw [if_neg c2]
    have E2 : denZok z0 z1 z2 = goodN z1 := by unfold denZok; rw [if_neg c2]
    rw [E1, E2]
    have LU := hideIt (fun w1 => implUnpackName_any z1 w1 r1)
    have EU : Hid ((unpC z1 == 0) = goodN z1) := by
      unfold Hid unpC
      cases goodN z1 <;> rfl
    have wp1 : IntKind.i64.wrap (z2 - 1) = z2 - 1 := by rw [IntKind.wrap_i64]; omega
    rw [← EU.out]
    clear E1 E2 c2 EU
    generalize unpC z1 = uc at *
    generalize unpS z1 = us at *
    go_enter Tryz.func163, Tryz.ntmps163
    go_wp2_with fail
    refine (LU.out _).mono ?_
    rintro e w1 ⟨rfl, hb1⟩
    have B1 := hideIt (below_trans BW.out hb1 BW.out.size)
    have VB : Hid (w1.heap[w.heap.size]? = some (.cells #[.int .i64 0, .string ⟨#[]⟩, .int .i64 0] 180 (0, 0))) := (hb1.block _ (by simp)).trans (at_new rfl)
    clear hb1 s0 s1 s2
    obtain ⟨s0, s1, s2⟩ := S.out _ B1.out
    obtain ⟨t0, t1, t2⟩ := three_cells VB.out
    have u0 := (eight_at (xs := [.int .i64 0, .string ⟨#[]⟩, .int .i64 0]) VB.out 0).2
    have u1 := (eight_at (xs := [.int .i64 0, .string ⟨#[]⟩, .int .i64 0]) VB.out 1).2
    have u2 := (eight_at (xs := [.int .i64 0, .string ⟨#[]⟩, .int .i64 0]) VB.out 2).2
    go_wp2_with fail
    go_region_held3 (fun w' => w'.cell? ⟨b, o, none⟩ = some (.int .i64 z0) ∧ w'.cell? ⟨b, o + 1, none⟩ = some (.int .i64 z1) ∧ w'.cell? ⟨b, o + 2, none⟩ = some (.int .i64 z2))
      (exact S.out _ (by repeat (first | with_reducible exact B1.out | with_reducible refine Below.drew ?_ | refine Below.setCell ?_ (by exact Nat.le_refl _) _)))
      (fail)
    all_goals
      go_wp2
      refine bodyPost_ret (v := .tuple #[.agg #[.int .i64 z0, .string us, .int .i64 (z2 - 1)], .bool (uc == 0)]) (by simp [results, Tryz.results163, go_sem, t0, t1, t2]) rfl ?_
      exact ⟨⟨_, rfl, fun _ => rfl⟩, (by repeat (first | with_reducible exact B1.out | with_reducible refine Below.drew ?_ | refine Below.setCell ?_ (by exact Nat.le_refl _) _))⟩
end Go.Proofs.YtcilodgoognmnaaGreatDoor
