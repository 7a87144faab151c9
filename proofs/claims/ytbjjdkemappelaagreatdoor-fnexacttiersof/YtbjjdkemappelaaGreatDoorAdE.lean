/- What is used of a tier: by the program. -/
import Derived.Test.YtbjjdkemappelaaGreatDoorAdD
namespace Go.Proofs.YtbjjdkemappelaaGreatDoor
open Go.RowKit
structure CutS (w0 wx : World) (t : TypeId) (m bx : Nat) : Prop where
  lo : w0.heap.size ≤ bx
  hi : bx < wx.heap.size
  box : wx.heap[bx]? = some (.cells #[.int .u64 (m : Int)] t (0, 0))
  below : Below w0.heap.size w0 wx
theorem below_allocU {a w : World} (h : Below a.heap.size a w) (o : Obj) : Below a.heap.size a (w.alloc o) := h.alloc h.size o
theorem CutS.new {w0 wf : World} {t : TypeId} {m : Nat} (h : Below w0.heap.size w0 wf) : CutS w0 (wf.alloc (.cells #[.int .u64 (m : Int)] t)) t m wf.heap.size := ⟨h.size, by simp, at_new rfl, h.alloc h.size _⟩
theorem CutS.old {w0 wf : World} {t : TypeId} {m bx : Nat} {x : Value} (h : Below w0.heap.size w0 wf) (hx : wf.heap[bx]? = some (.cells #[x] t (0, 0))) (hl : w0.heap.size ≤ bx) : CutS w0 (wf.setCell ⟨bx, 0, none⟩ (.int .u64 (m : Int))) t m bx :=
  ⟨hl, by have := (Array.getElem?_eq_some_iff.1 hx).1; simpa [World.setCell] using this, one_set hx _, h.setCell hl _⟩
theorem fourU {w : World} {b : Nat} {t : TypeId} {x y z u : Value} (h : w.heap[b]? = some (.cells #[x, y, z, u] t (0, 0))) : w.cell? ⟨b, 0, none⟩ = some x ∧ w.cell? ⟨b, 1, none⟩ = some y ∧ w.cell? ⟨b, 2, none⟩ = some z ∧ w.cell? ⟨b, 3, none⟩ = some u ∧ w.frozen? ⟨b, 0, none⟩ = false ∧ w.frozen? ⟨b, 1, none⟩ = false ∧ w.frozen? ⟨b, 2, none⟩ = false ∧ w.frozen? ⟨b, 3, none⟩ = false := by
  simp [World.cell?, World.frozen?, h]
theorem drew_other {w : World} {b : Nat} {o : Option Obj} (h : w.heap[b]? = o) : w.drew.heap[b]? = o := h
theorem four_put {w : World} {b : Nat} {t : TypeId} {x y z u : Value} (h : w.heap[b]? = some (.cells #[x, y, z, u] t (0, 0))) (x' y' z' u' : Value) : ((((w.setCell ⟨b, 0, none⟩ x').setCell ⟨b, 1, none⟩ y').setCell ⟨b, 2, none⟩ z').setCell ⟨b, 3, none⟩ u').heap[b]? = some (.cells #[x', y', z', u'] t (0, 0)) := by
  simp [World.setCell, Array.getElem?_modify, h]
theorem set_other {w : World} {b c j : Nat} {o : Option Obj} (h : w.heap[b]? = o) (hn : ¬ b = c) (u : Value) : (w.setCell ⟨c, j, none⟩ u).heap[b]? = o := (Below.heap_setCell _ _ _ _ hn).trans h
set_option maxRecDepth 100000 in
set_option maxHeartbeats 4000000 in
theorem useOf_p (v : Value) (ws : List Ino) (ps : List Den) (w : World) (h : RdIm w v ws ps) (o : imgB ws ps = true) (hw : ws.length ≤ 1048576) (hp : ps.length ≤ 1048576) (hT : TS w) (hE : ED w) (hF : FD w) (hr : ∀ k (h : k < ws.length), ws[k].R) (hs : ∀ k (h : k < ps.length), ps[k].name.size ≤ maxLen) :
    Calls Tryz.prog 75 #[v, .int .i64 1] w fun e w' => e = .returned (.agg #[.int .i64 (usedOf (mapped ws) 1).length, .int .i64 24, .int .u64 (setM (usedOf (mapped ws) 1)), .int .u64 (othM 24 (setM (usedOf (mapped ws) 1)))]) ∧ Below w.heap.size w w' := by
  have LU := hideIt (fun w1 (hb : Below w.heap.size w w1) => implUsedBy_any v ws ps 1 w1 (h.below hb) hw hp (hT.below hb) (hE.below hb) (hF.below hb) hr hs)
  rw [o, show ubC true 1 = 0 by decide, show ubL true (mapped ws) 1 = usedOf (mapped ws) 1 from if_pos ⟨rfl, by decide⟩] at LU
  have ml : (mapped ws).length ≤ 128 := by have := mapped_len ws; have := (img_parts o).1; omega
  have ul := usedOf_len (mapped ws) 1
  have UO := (used_ok o 1 24 (by decide)).2
  have UL := setM_lt (l := usedOf (mapped ws) 1) (fun a ha => by have := UO a ha; omega)
  have LS := hideIt (fun v1 w1 h => setOf_p v1 (usedOf (mapped ws) 1) w1 h (by omega) (fun a ha => by have := UO a ha; omega))
  have LO := hideIt (fun w1 => others_p (setM (usedOf (mapped ws) 1)) w1 UL)
  have TC : Hid (∀ w', Below w.heap.size w w' → w'.cell? ⟨1, 1, none⟩ = some (.int .i64 24)) := fun w' hb => (hT.below hb).cells.2.1
  have hl : (usedOf (mapped ws) 1).length ≤ 128 := by omega
  obtain ⟨vW, vP, rfl, h1, h2⟩ := h
  obtain ⟨aW, cW, rfl, _, _⟩ := h1.shape
  obtain ⟨aP, cP, rfl, _, _⟩ := h2.shape
  clear h1 h2 hr hs hT hE hF UO UL ul ml o
  generalize usedOf (mapped ws) 1 = L at *
  generalize othM 24 (setM L) = fr at *
  generalize setM L = mm at *
  obtain ⟨W, hW⟩ : ∃ W, W = ((w.alloc (.cells #[.slice aW ws.length cW, .slice aP ps.length cP] 76)).alloc (.cells #[.int .i64 0, .int .i64 0, .int .u64 0, .int .u64 0] 88)) := ⟨_, rfl⟩
  have BW : Hid (Below w.heap.size w W) := by rw [hW]; exact ((Below.refl _ _).alloc (Nat.le_refl _) _).alloc (by simp) _
  have hz : w.heap.size + 1 < W.heap.size := by rw [hW]; simp
  have CI : Hid (∀ w', Below W.heap.size W w' → w'.cell? ⟨w.heap.size, 0, none⟩ = some (.slice aW ws.length cW) ∧ w'.cell? ⟨w.heap.size, 1, none⟩ = some (.slice aP ps.length cP)) := fun w' hb => by
    have : w'.heap[w.heap.size]? = some (.cells #[.slice aW ws.length cW, .slice aP ps.length cP] 76 (0, 0)) := (hb.block _ (by omega)).trans (by rw [hW]; exact at_old (at_new rfl))
    exact ⟨(two_cells this).1, (two_cells this).2.1⟩
  have CU : Hid (∀ w', Below W.heap.size W w' → w'.heap[w.heap.size + 1]? = some (.cells #[.int .i64 0, .int .i64 0, .int .u64 0, .int .u64 0] 88 (0, 0))) := fun w' hb => (hb.block _ (by omega)).trans (by
    rw [hW]
    have := at_new (w := w.alloc (.cells #[.slice aW ws.length cW, .slice aP ps.length cP] 76)) (o := .cells #[.int .i64 0, .int .i64 0, .int .u64 0, .int .u64 0] 88) rfl
    rw [World.size_alloc] at this
    exact this)
  obtain ⟨x0, x1⟩ := CI.out W (Below.refl _ _)
  go_enter Tryz.func75, Tryz.ntmps75
  go_upto_region 1 with fail
  rw [← hW]
  clear hW
  go_wp2_with fail
  refine (LU.out _ BW.out).mono ?_
  rintro e w1 ⟨v1, rfl, hr1, hb1⟩
  obtain ⟨-, aL, cL, hvL, -⟩ := hr1.rd
  subst hvL
  have R1 : Hid (RdI w1 (.slice aL L.length cL) L) := hr1.rd
  have B1 := hideIt hb1
  have Bw1 := hideIt (below_trans BW.out hb1 BW.out.size)
  have hz1 : W.heap.size ≤ w1.heap.size := hb1.size
  clear hr1 hb1 x0 x1 LU CI
  go_upto_region 2 with fail
  go_cut [7, 8] (fun s t wx => t = .int .i64 24 ∧ ∃ bx, s = .pointer (some ⟨bx, 0, none⟩) ∧ Hid (CutS w1 wx 86 mm bx))
  case first =>
    have SK : Hid (∀ w', Below w1.heap.size w1 w' → w'.cell? ⟨1, 1, none⟩ = some (.int .i64 24)) := fun w' hb => TC.out w' (below_trans Bw1.out hb Bw1.out.size)
    go_region_held3 (fun w' => w'.cell? ⟨1, 1, none⟩ = some (.int .i64 24))
      (exact SK.out _ (by repeat (first | exact BF.out | exact Below.refl _ _ | refine below_allocU ?_ _ | refine Below.drew ?_ | refine Below.setCell ?_ (by first | exact Nat.le_refl _ | exact BF.out.size) _)))
      (first
        | (go_at_call 115; refine (LS.out _ _ (R1.out.below (by repeat (first | exact Below.refl _ _ | refine below_allocU ?_ _ | refine Below.drew ?_)))).mono ?_; rintro e wf ⟨rfl, hbf⟩; have BF : Hid (Below w1.heap.size w1 wf) := below_trans (b := _) (by repeat (first | exact Below.refl _ _ | refine below_allocU ?_ _ | refine Below.drew ?_)) hbf (Below.size (B := w1.heap.size) (by repeat (first | exact Below.refl _ _ | refine below_allocU ?_ _ | refine Below.drew ?_))); (first | (have VY : Hid (wf.heap[w1.heap.size]? = some (.cells #[.int .u64 0] 86 (0, 0))) := (hbf.block w1.heap.size (by first | (rw [World.size_alloc]; exact Nat.lt_succ_self _) | (show _ < (World.alloc _ _).heap.size; rw [World.size_alloc]; exact Nat.lt_succ_self _))).trans (at_new rfl); have vy := one_cell VY.out; have vz := one_frozen VY.out) | skip); clear hbf))
    all_goals
      go_wp2_with fail
      go_meet
      first
        | exact ⟨rfl, _, rfl, CutS.new BF.out⟩
        | exact ⟨rfl, _, rfl, (CutS.new BF.out).drew⟩
        | exact ⟨rfl, _, rfl, CutS.old BF.out VY.out (Nat.le_refl _)⟩
        | exact ⟨rfl, _, rfl, (CutS.old BF.out VY.out (Nat.le_refl _)).drew⟩
  case rest =>
  obtain ⟨rfl, bx, rfl, C⟩ := hcut
  rename World => w2
  have B2 := hideIt C.out.below
  have hz2 : w1.heap.size ≤ w2.heap.size := B2.out.size
  have X2 := hideIt C.out.box
  have lo2 := C.out.lo
  have hi2 := C.out.hi
  have Bw2 := hideIt (below_trans B1.out B2.out hz1)
  have U2 := hideIt (CU.out w2 Bw2.out)
  have BB2 := hideIt (below_trans BW.out Bw2.out BW.out.size)
  clear C B2 B1 Bw1 Bw2 LS TC CU
  have nb : ¬ bx = w.heap.size + 1 := by omega
  have SK : Hid (∀ w', Below w2.heap.size w2 w' → w'.cell? ⟨bx, 0, none⟩ = some (.int .u64 mm) ∧ w'.heap[w.heap.size + 1]? = some (.cells #[.int .i64 0, .int .i64 0, .int .u64 0, .int .u64 0] 88 (0, 0))) := fun w' hb => ⟨one_cell ((hb.block _ hi2).trans X2.out), (hb.block _ (by omega)).trans U2.out⟩
  have EN : (List.length L : Int) ≤ 128 := by omega
  obtain ⟨y0, y1, y2, y3, g0, g1, g2, g3⟩ := fourU U2.out
  go_upto_region 3 with fail
  go_region_held3 (fun w' => w'.cell? ⟨bx, 0, none⟩ = some (.int .u64 mm))
    (with_reducible exact one_cell (by with_reducible repeat (first | exact X2.out | exact XF.out | refine set_other ?_ nb _ | refine drew_other ?_)))
    (first
      | (go_at_call 116; refine (LO.out _).mono ?_; rintro e wf ⟨rfl, hbf⟩; have BF : Hid (Below w2.heap.size w2 wf) := (by first | exact hbf | exact below_trans (by repeat (first | exact Below.refl _ _ | refine Below.drew ?_)) hbf (Nat.le_refl _)); have XF : Hid (wf.heap[bx]? = some (.cells #[.int .u64 mm] 86 (0, 0))) := (BF.out.block _ hi2).trans X2.out; have UF := hideIt ((BF.out.block _ (show w.heap.size + 1 < w2.heap.size by omega)).trans U2.out); obtain ⟨q0, q1, q2, q3, r0, r1, r2, r3⟩ := fourU UF.out; clear hbf))
  have B9 := hideIt (below_trans BB2.out BF.out BB2.out.size)
  obtain ⟨p0, p1, p2, p3, -, -, -, -⟩ := fourU (four_put UF.out (.int .i64 L.length) (.int .i64 24) (.int .u64 mm) (.int .u64 fr))
  go_wp2
  refine bodyPost_ret (v := .agg #[.int .i64 L.length, .int .i64 24, .int .u64 mm, .int .u64 fr]) (by simp [results, Tryz.results75, go_sem, p0, p1, p2, p3]) rfl ?_
  exact ⟨rfl, (((B9.out.setCell (by simp) _).setCell (by simp) _).setCell (by simp) _).setCell (by simp) _⟩
set_option maxRecDepth 100000 in
set_option maxHeartbeats 4000000 in
theorem useOf_s (v : Value) (ws : List Ino) (ps : List Den) (w : World) (h : RdIm w v ws ps) (o : imgB ws ps = true) (hw : ws.length ≤ 1048576) (hp : ps.length ≤ 1048576) (hT : TS w) (hE : ED w) (hF : FD w) (hr : ∀ k (h : k < ws.length), ws[k].R) (hs : ∀ k (h : k < ps.length), ps[k].name.size ≤ maxLen) :
    Calls Tryz.prog 76 #[v, .int .i64 2] w fun e w' => e = .returned (.agg #[.int .i64 (usedOf (mapped ws) 2).length, .int .i64 32, .int .u64 (setM (usedOf (mapped ws) 2)), .int .u64 (othM 32 (setM (usedOf (mapped ws) 2)))]) ∧ Below w.heap.size w w' := by
  have LU := hideIt (fun w1 (hb : Below w.heap.size w w1) => implUsedBy_any v ws ps 2 w1 (h.below hb) hw hp (hT.below hb) (hE.below hb) (hF.below hb) hr hs)
  rw [o, show ubC true 2 = 0 by decide, show ubL true (mapped ws) 2 = usedOf (mapped ws) 2 from if_pos ⟨rfl, by decide⟩] at LU
  have ml : (mapped ws).length ≤ 128 := by have := mapped_len ws; have := (img_parts o).1; omega
  have ul := usedOf_len (mapped ws) 2
  have UO := (used_ok o 2 32 (by decide)).2
  have UL := setM_lt (l := usedOf (mapped ws) 2) (fun a ha => by have := UO a ha; omega)
  have LS := hideIt (fun v1 w1 h => setOf_s v1 (usedOf (mapped ws) 2) w1 h (by omega) (fun a ha => by have := UO a ha; omega))
  have LO := hideIt (fun w1 => others_s (setM (usedOf (mapped ws) 2)) w1 UL)
  have TC : Hid (∀ w', Below w.heap.size w w' → w'.cell? ⟨1, 2, none⟩ = some (.int .i64 32)) := fun w' hb => (hT.below hb).cells.2.2
  have hl : (usedOf (mapped ws) 2).length ≤ 128 := by omega
  obtain ⟨vW, vP, rfl, h1, h2⟩ := h
  obtain ⟨aW, cW, rfl, _, _⟩ := h1.shape
  obtain ⟨aP, cP, rfl, _, _⟩ := h2.shape
  clear h1 h2 hr hs hT hE hF UO UL ul ml o
  generalize usedOf (mapped ws) 2 = L at *
  generalize othM 32 (setM L) = fr at *
  generalize setM L = mm at *
  obtain ⟨W, hW⟩ : ∃ W, W = ((w.alloc (.cells #[.slice aW ws.length cW, .slice aP ps.length cP] 76)).alloc (.cells #[.int .i64 0, .int .i64 0, .int .u64 0, .int .u64 0] 91)) := ⟨_, rfl⟩
  have BW : Hid (Below w.heap.size w W) := by rw [hW]; exact ((Below.refl _ _).alloc (Nat.le_refl _) _).alloc (by simp) _
  have hz : w.heap.size + 1 < W.heap.size := by rw [hW]; simp
  have CI : Hid (∀ w', Below W.heap.size W w' → w'.cell? ⟨w.heap.size, 0, none⟩ = some (.slice aW ws.length cW) ∧ w'.cell? ⟨w.heap.size, 1, none⟩ = some (.slice aP ps.length cP)) := fun w' hb => by
    have : w'.heap[w.heap.size]? = some (.cells #[.slice aW ws.length cW, .slice aP ps.length cP] 76 (0, 0)) := (hb.block _ (by omega)).trans (by rw [hW]; exact at_old (at_new rfl))
    exact ⟨(two_cells this).1, (two_cells this).2.1⟩
  have CU : Hid (∀ w', Below W.heap.size W w' → w'.heap[w.heap.size + 1]? = some (.cells #[.int .i64 0, .int .i64 0, .int .u64 0, .int .u64 0] 91 (0, 0))) := fun w' hb => (hb.block _ (by omega)).trans (by
    rw [hW]
    have := at_new (w := w.alloc (.cells #[.slice aW ws.length cW, .slice aP ps.length cP] 76)) (o := .cells #[.int .i64 0, .int .i64 0, .int .u64 0, .int .u64 0] 91) rfl
    rw [World.size_alloc] at this
    exact this)
  obtain ⟨x0, x1⟩ := CI.out W (Below.refl _ _)
  go_enter Tryz.func76, Tryz.ntmps76
  go_upto_region 1 with fail
  rw [← hW]
  clear hW
  go_wp2_with fail
  refine (LU.out _ BW.out).mono ?_
  rintro e w1 ⟨v1, rfl, hr1, hb1⟩
  obtain ⟨-, aL, cL, hvL, -⟩ := hr1.rd
  subst hvL
  have R1 : Hid (RdI w1 (.slice aL L.length cL) L) := hr1.rd
  have B1 := hideIt hb1
  have Bw1 := hideIt (below_trans BW.out hb1 BW.out.size)
  have hz1 : W.heap.size ≤ w1.heap.size := hb1.size
  clear hr1 hb1 x0 x1 LU CI
  go_upto_region 2 with fail
  go_cut [7, 8] (fun s t wx => t = .int .i64 32 ∧ ∃ bx, s = .pointer (some ⟨bx, 0, none⟩) ∧ Hid (CutS w1 wx 89 mm bx))
  case first =>
    have SK : Hid (∀ w', Below w1.heap.size w1 w' → w'.cell? ⟨1, 2, none⟩ = some (.int .i64 32)) := fun w' hb => TC.out w' (below_trans Bw1.out hb Bw1.out.size)
    go_region_held3 (fun w' => w'.cell? ⟨1, 2, none⟩ = some (.int .i64 32))
      (exact SK.out _ (by repeat (first | exact BF.out | exact Below.refl _ _ | refine below_allocU ?_ _ | refine Below.drew ?_ | refine Below.setCell ?_ (by first | exact Nat.le_refl _ | exact BF.out.size) _)))
      (first
        | (go_at_call 117; refine (LS.out _ _ (R1.out.below (by repeat (first | exact Below.refl _ _ | refine below_allocU ?_ _ | refine Below.drew ?_)))).mono ?_; rintro e wf ⟨rfl, hbf⟩; have BF : Hid (Below w1.heap.size w1 wf) := below_trans (b := _) (by repeat (first | exact Below.refl _ _ | refine below_allocU ?_ _ | refine Below.drew ?_)) hbf (Below.size (B := w1.heap.size) (by repeat (first | exact Below.refl _ _ | refine below_allocU ?_ _ | refine Below.drew ?_))); (first | (have VY : Hid (wf.heap[w1.heap.size]? = some (.cells #[.int .u64 0] 89 (0, 0))) := (hbf.block w1.heap.size (by first | (rw [World.size_alloc]; exact Nat.lt_succ_self _) | (show _ < (World.alloc _ _).heap.size; rw [World.size_alloc]; exact Nat.lt_succ_self _))).trans (at_new rfl); have vy := one_cell VY.out; have vz := one_frozen VY.out) | skip); clear hbf))
    all_goals
      go_wp2_with fail
      go_meet
      first
        | exact ⟨rfl, _, rfl, CutS.new BF.out⟩
        | exact ⟨rfl, _, rfl, (CutS.new BF.out).drew⟩
        | exact ⟨rfl, _, rfl, CutS.old BF.out VY.out (Nat.le_refl _)⟩
        | exact ⟨rfl, _, rfl, (CutS.old BF.out VY.out (Nat.le_refl _)).drew⟩
  case rest =>
  obtain ⟨rfl, bx, rfl, C⟩ := hcut
  rename World => w2
  have B2 := hideIt C.out.below
  have hz2 : w1.heap.size ≤ w2.heap.size := B2.out.size
  have X2 := hideIt C.out.box
  have lo2 := C.out.lo
  have hi2 := C.out.hi
  have Bw2 := hideIt (below_trans B1.out B2.out hz1)
  have U2 := hideIt (CU.out w2 Bw2.out)
  have BB2 := hideIt (below_trans BW.out Bw2.out BW.out.size)
  clear C B2 B1 Bw1 Bw2 LS TC CU
  have nb : ¬ bx = w.heap.size + 1 := by omega
  have SK : Hid (∀ w', Below w2.heap.size w2 w' → w'.cell? ⟨bx, 0, none⟩ = some (.int .u64 mm) ∧ w'.heap[w.heap.size + 1]? = some (.cells #[.int .i64 0, .int .i64 0, .int .u64 0, .int .u64 0] 91 (0, 0))) := fun w' hb => ⟨one_cell ((hb.block _ hi2).trans X2.out), (hb.block _ (by omega)).trans U2.out⟩
  have EN : (List.length L : Int) ≤ 128 := by omega
  obtain ⟨y0, y1, y2, y3, g0, g1, g2, g3⟩ := fourU U2.out
  go_upto_region 3 with fail
  go_region_held3 (fun w' => w'.cell? ⟨bx, 0, none⟩ = some (.int .u64 mm))
    (with_reducible exact one_cell (by with_reducible repeat (first | exact X2.out | exact XF.out | refine set_other ?_ nb _ | refine drew_other ?_)))
    (first
      | (go_at_call 118; refine (LO.out _).mono ?_; rintro e wf ⟨rfl, hbf⟩; have BF : Hid (Below w2.heap.size w2 wf) := (by first | exact hbf | exact below_trans (by repeat (first | exact Below.refl _ _ | refine Below.drew ?_)) hbf (Nat.le_refl _)); have XF : Hid (wf.heap[bx]? = some (.cells #[.int .u64 mm] 89 (0, 0))) := (BF.out.block _ hi2).trans X2.out; have UF := hideIt ((BF.out.block _ (show w.heap.size + 1 < w2.heap.size by omega)).trans U2.out); obtain ⟨q0, q1, q2, q3, r0, r1, r2, r3⟩ := fourU UF.out; clear hbf))
  have B9 := hideIt (below_trans BB2.out BF.out BB2.out.size)
  obtain ⟨p0, p1, p2, p3, -, -, -, -⟩ := fourU (four_put UF.out (.int .i64 L.length) (.int .i64 32) (.int .u64 mm) (.int .u64 fr))
  go_wp2
  refine bodyPost_ret (v := .agg #[.int .i64 L.length, .int .i64 32, .int .u64 mm, .int .u64 fr]) (by simp [results, Tryz.results76, go_sem, p0, p1, p2, p3]) rfl ?_
  exact ⟨rfl, (((B9.out.setCell (by simp) _).setCell (by simp) _).setCell (by simp) _).setCell (by simp) _⟩
end Go.Proofs.YtbjjdkemappelaaGreatDoor
