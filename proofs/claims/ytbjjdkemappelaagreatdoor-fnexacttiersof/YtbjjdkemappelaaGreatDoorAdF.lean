/- The audit of devices: by the program. -/
import Derived.Test.YtbjjdkemappelaaGreatDoorAdE
import Derived.Test.YtbjjdkemappelaaGreatDoorDuA
namespace Go.Proofs.YtbjjdkemappelaaGreatDoor
open Go.RowKit
theorem tenU {w : World} {b : Nat} {t : TypeId} {x0 x1 x2 x3 x4 x5 x6 x7 x8 x9 : Value} (h : w.heap[b]? = some (.cells #[x0, x1, x2, x3, x4, x5, x6, x7, x8, x9] t (0, 0))) : (w.cell? ⟨b, 0, none⟩ = some x0 ∧ w.cell? ⟨b, 1, none⟩ = some x1 ∧ w.cell? ⟨b, 2, none⟩ = some x2 ∧ w.cell? ⟨b, 3, none⟩ = some x3 ∧ w.cell? ⟨b, 4, none⟩ = some x4 ∧ w.cell? ⟨b, 5, none⟩ = some x5 ∧ w.cell? ⟨b, 6, none⟩ = some x6 ∧ w.cell? ⟨b, 7, none⟩ = some x7 ∧ w.cell? ⟨b, 8, none⟩ = some x8 ∧ w.cell? ⟨b, 9, none⟩ = some x9) ∧ (w.frozen? ⟨b, 0, none⟩ = false ∧ w.frozen? ⟨b, 1, none⟩ = false ∧ w.frozen? ⟨b, 2, none⟩ = false ∧ w.frozen? ⟨b, 3, none⟩ = false ∧ w.frozen? ⟨b, 4, none⟩ = false ∧ w.frozen? ⟨b, 5, none⟩ = false ∧ w.frozen? ⟨b, 6, none⟩ = false ∧ w.frozen? ⟨b, 7, none⟩ = false ∧ w.frozen? ⟨b, 8, none⟩ = false ∧ w.frozen? ⟨b, 9, none⟩ = false) := by
  simp [World.cell?, World.frozen?, h]
def putU (w : World) (b : Nat) (y0 y1 y2 y3 y4 y5 y6 y7 y8 y9 : Value) : World := ((((((((((w.setCell ⟨b, 0, none⟩ y0).setCell ⟨b, 1, none⟩ y1).setCell ⟨b, 2, none⟩ y2).setCell ⟨b, 3, none⟩ y3).setCell ⟨b, 4, none⟩ y4).setCell ⟨b, 5, none⟩ y5).setCell ⟨b, 6, none⟩ y6).setCell ⟨b, 7, none⟩ y7).setCell ⟨b, 8, none⟩ y8).setCell ⟨b, 9, none⟩ y9)
theorem putU_at {w : World} {b : Nat} {t : TypeId} {x0 x1 x2 x3 x4 x5 x6 x7 x8 x9 : Value} (h : w.heap[b]? = some (.cells #[x0, x1, x2, x3, x4, x5, x6, x7, x8, x9] t (0, 0))) (y0 y1 y2 y3 y4 y5 y6 y7 y8 y9 : Value) : (putU w b y0 y1 y2 y3 y4 y5 y6 y7 y8 y9).heap[b]? = some (.cells #[y0, y1, y2, y3, y4, y5, y6, y7, y8, y9] t (0, 0)) := by
  simp [putU, World.setCell, Array.getElem?_modify, h]
theorem putU_out (w : World) (b : Nat) (y0 y1 y2 y3 y4 y5 y6 y7 y8 y9 : Value) : Outside b (b + 1) w (putU w b y0 y1 y2 y3 y4 y5 y6 y7 y8 y9) := by
  unfold putU
  repeat (refine Outside.setCell ?_ (by simp only; omega) (by simp only; omega) _)
  exact Outside.refl _ _ _
theorem putU_below {a w : World} {B b : Nat} (h : Below B a w) (hb : B ≤ b) (y0 y1 y2 y3 y4 y5 y6 y7 y8 y9 : Value) : Below B a (putU w b y0 y1 y2 y3 y4 y5 y6 y7 y8 y9) := by
  unfold putU
  repeat (refine Below.setCell ?_ hb _)
  exact h
theorem rowim_outside {w w' : World} {lo hi lo' hi' : Nat} {v : Value} {xs : List Ino} {ds : List Den} (h : RowIm w lo hi v xs ds) (ho : Outside lo' hi' w w') (hd : hi ≤ lo' ∨ hi' ≤ lo) (hz : hi ≤ w.heap.size) : RowIm w' lo hi v xs ds := by
  obtain ⟨vW, vP, rfl, h1, h2⟩ := h
  exact ⟨vW, vP, rfl, h1.outside ho hd hz, h2.outside ho hd hz⟩
theorem two_keep {w : World} {b : Nat} {t : TypeId} {x y : Value} (h : w.heap[b]? = some (.cells #[x, y] t (0, 0))) : w.cell? ⟨b, 0, none⟩ = some x ∧ w.cell? ⟨b, 1, none⟩ = some y := by
  simp [World.cell?, h]
def audV (vI vD : Value) (n1 m1 f1 n2 m2 f2 : Nat) : Value := .agg #[vI, vD, .int .i64 n1, .int .i64 24, .int .u64 m1, .int .u64 f1, .int .i64 n2, .int .i64 32, .int .u64 m2, .int .u64 f2]
set_option maxRecDepth 100000 in
set_option maxHeartbeats 4000000 in
theorem auditOf_any (v : Value) (ws : List Int) (ps : List St) (es : List Int) (qs : List Se) (w : World) (h : RdDev w v ws ps es qs) (hw : ws.length ≤ 1048576) (hp : ps.length ≤ 1048576) (he : es.length ≤ 1048576) (hq : qs.length ≤ 1048576) (hT : TS w) (hE : ED w) (hF : FD w) :
    Calls Tryz.prog 40 #[v] w fun e w' => Below w.heap.size w w' ∧ ((dvB ws ps es qs = false ∧ e = .returned (.tuple #[.agg #[.slice none 0 0, .slice none 0 0, .int .i64 0, .int .i64 0, .int .u64 0, .int .u64 0, .int .i64 0, .int .i64 0, .int .u64 0, .int .u64 0], .int .i64 1])) ∨ (dvB ws ps es qs = true ∧ ∃ vI vD, e = .returned (.tuple #[audV vI vD (usedOf (mapped (dvN ws ps es qs)) 1).length (setM (usedOf (mapped (dvN ws ps es qs)) 1)) (othM 24 (setM (usedOf (mapped (dvN ws ps es qs)) 1))) (usedOf (mapped (dvN ws ps es qs)) 2).length (setM (usedOf (mapped (dvN ws ps es qs)) 2)) (othM 32 (setM (usedOf (mapped (dvN ws ps es qs)) 2))), .int .i64 0]) ∧ RdIm w' (.agg #[vI, vD]) (dvN ws ps es qs) (dvD ws ps es qs))) := by
  have LS := hideIt (fun w1 (hb : Below w.heap.size w w1) => seenImage_any v ws ps es qs w1 (h.below hb) hw hp he hq (hT.below hb) (hE.below hb) (hF.below hb))
  obtain ⟨l1, l2⟩ := dv_len ws ps es qs
  have IM := dv_img ws ps es qs
  have LI := hideIt (fun v1 w1 (hb : Below w.heap.size w w1) h1 => implImageOK_any v1 (dvN ws ps es qs) (dvD ws ps es qs) w1 h1 l1 l2 (hT.below hb) (hE.below hb) (hF.below hb) dv_R dv_name)
  rw [IM] at LI
  have LP := hideIt (fun v1 w1 (hb : Below w.heap.size w w1) h1 (o : dvB ws ps es qs = true) => useOf_p v1 (dvN ws ps es qs) (dvD ws ps es qs) w1 h1 (by rw [IM]; exact o) l1 l2 (hT.below hb) (hE.below hb) (hF.below hb) dv_R dv_name)
  have LB := hideIt (fun v1 w1 (hb : Below w.heap.size w w1) h1 (o : dvB ws ps es qs = true) => useOf_s v1 (dvN ws ps es qs) (dvD ws ps es qs) w1 h1 (by rw [IM]; exact o) l1 l2 (hT.below hb) (hE.below hb) (hF.below hb) dv_R dv_name)
  clear IM l1 l2
  obtain ⟨aW, cW, aP, cP, aS, cS, aQ, cQ, rfl, -, -⟩ := h.form
  clear h hT hE hF
  obtain ⟨W, hW⟩ : ∃ W, W = (w.alloc (.cells #[.slice aW ws.length cW, .slice aP ps.length cP, .slice aS es.length cS, .slice aQ qs.length cQ] 41)).alloc (.cells #[.slice none 0 0, .slice none 0 0, .int .i64 0, .int .i64 0, .int .u64 0, .int .u64 0, .int .i64 0, .int .i64 0, .int .u64 0, .int .u64 0] 93) := ⟨_, rfl⟩
  have BW : Hid (Below w.heap.size w W) := by rw [hW]; exact ((Below.refl _ _).alloc (Nat.le_refl _) _).alloc (by simp) _
  have hz : w.heap.size + 1 < W.heap.size := by rw [hW]; simp
  have CA : Hid (W.cell? ⟨w.heap.size, 0, none⟩ = some (.slice aW ws.length cW) ∧ W.cell? ⟨w.heap.size, 1, none⟩ = some (.slice aP ps.length cP) ∧ W.cell? ⟨w.heap.size, 2, none⟩ = some (.slice aS es.length cS) ∧ W.cell? ⟨w.heap.size, 3, none⟩ = some (.slice aQ qs.length cQ)) := by
    have : W.heap[w.heap.size]? = some (.cells #[.slice aW ws.length cW, .slice aP ps.length cP, .slice aS es.length cS, .slice aQ qs.length cQ] 41 (0, 0)) := by rw [hW]; exact at_old (at_new rfl)
    obtain ⟨x0, x1, x2, x3, -, -, -, -⟩ := fourU this
    exact ⟨x0, x1, x2, x3⟩
  have CU : Hid (∀ w', Below W.heap.size W w' → w'.heap[w.heap.size + 1]? = some (.cells #[.slice none 0 0, .slice none 0 0, .int .i64 0, .int .i64 0, .int .u64 0, .int .u64 0, .int .i64 0, .int .i64 0, .int .u64 0, .int .u64 0] 93 (0, 0))) := fun w' hb => (hb.block _ (by omega)).trans (by
    rw [hW]
    have := at_new (w := w.alloc (.cells #[.slice aW ws.length cW, .slice aP ps.length cP, .slice aS es.length cS, .slice aQ qs.length cQ] 41)) (o := .cells #[.slice none 0 0, .slice none 0 0, .int .i64 0, .int .i64 0, .int .u64 0, .int .u64 0, .int .i64 0, .int .i64 0, .int .u64 0, .int .u64 0] 93) rfl
    rw [World.size_alloc] at this
    exact this)
  obtain ⟨x0, x1, x2, x3⟩ := CA.out
  generalize (usedOf (mapped (dvN ws ps es qs)) 1).length = n1 at *
  generalize othM 24 (setM (usedOf (mapped (dvN ws ps es qs)) 1)) = f1 at *
  generalize setM (usedOf (mapped (dvN ws ps es qs)) 1) = m1 at *
  generalize (usedOf (mapped (dvN ws ps es qs)) 2).length = n2 at *
  generalize othM 32 (setM (usedOf (mapped (dvN ws ps es qs)) 2)) = f2 at *
  generalize setM (usedOf (mapped (dvN ws ps es qs)) 2) = m2 at *
  generalize dvN ws ps es qs = dn at *
  generalize dvD ws ps es qs = dd at *
  generalize dvB ws ps es qs = ok at *
  cases ok with
  | false =>
    clear LP LB
    go_enter Tryz.func40, Tryz.ntmps40
    go_upto_region 1 with fail
    rw [← hW]
    clear hW
    go_wp2_with fail
    refine (LS.out _ BW.out).mono ?_
    rintro e w1 ⟨v1, rfl, ⟨vI, vD, rfl, hI, hD⟩, hb1⟩
    obtain ⟨-, a1, c1, hv1, -⟩ := hI.rd
    obtain ⟨-, a2, c2, hv2, -⟩ := hD.rd
    subst hv1
    subst hv2
    obtain ⟨w2, hw2⟩ : ∃ w2, w2 = w1.alloc (.cells #[.slice a1 dn.length c1, .slice a2 dd.length c2] 76) := ⟨_, rfl⟩
    have B2 : Hid (Below W.heap.size W w2) := by rw [hw2]; exact hb1.alloc hb1.size _
    have RI : Hid (RdIm w2 (.agg #[.slice a1 dn.length c1, .slice a2 dd.length c2]) dn dd) := by
      rw [hw2]
      exact RdIm.below ⟨_, _, rfl, hI.rd, hD.rd⟩ ((Below.refl _ _).alloc (Nat.le_refl _) _)
    have Bw2 := hideIt (below_trans BW.out B2.out BW.out.size)
    obtain ⟨y0, y1, _, _⟩ := two_cells (at_new (w := w1) (o := .cells #[.slice a1 dn.length c1, .slice a2 dd.length c2] 76) rfl)
    rw [← hw2] at y0 y1
    clear hI hD x0 x1 x2 x3 hb1
    go_upto_region 2 with fail
    rw [← hw2]
    clear hw2
    go_wp2_with fail
    refine (LI.out _ _ Bw2.out RI.out).mono ?_
    rintro e w3 ⟨rfl, hb3⟩
    have B3 := hideIt (below_trans B2.out hb3 B2.out.size)
    have Bw3 := hideIt (below_trans BW.out B3.out BW.out.size)
    have U3 := hideIt (CU.out w3 B3.out)
    obtain ⟨⟨z0, z1, z2, z3, z4, z5, z6, z7, z8, z9⟩, ⟨g0, g1, g2, g3, g4, g5, g6, g7, g8, g9⟩⟩ := tenU U3.out
    obtain ⟨⟨p0, p1, p2, p3, p4, p5, p6, p7, p8, p9⟩, -⟩ := tenU (putU_at U3.out (.slice none 0 0) (.slice none 0 0) (.int .i64 0) (.int .i64 0) (.int .u64 0) (.int .u64 0) (.int .i64 0) (.int .i64 0) (.int .u64 0) (.int .u64 0))
    unfold putU at p0 p1 p2 p3 p4 p5 p6 p7 p8 p9
    clear hb3 y0 y1
    go_wp2
    refine bodyPost_ret (v := .tuple #[.agg #[.slice none 0 0, .slice none 0 0, .int .i64 0, .int .i64 0, .int .u64 0, .int .u64 0, .int .i64 0, .int .i64 0, .int .u64 0, .int .u64 0], .int .i64 1]) (by simp [results, Tryz.results40, go_sem, p0, p1, p2, p3, p4, p5, p6, p7, p8, p9]) rfl ?_
    exact ⟨putU_below Bw3.out (by simp) _ _ _ _ _ _ _ _ _ _, .inl ⟨by first | rfl | trivial, rfl⟩⟩
  | true =>
    go_enter Tryz.func40, Tryz.ntmps40
    go_upto_region 1 with fail
    rw [← hW]
    clear hW
    go_wp2_with fail
    refine (LS.out _ BW.out).mono ?_
    rintro e w1 ⟨v1, rfl, ⟨vI, vD, rfl, hI, hD⟩, hb1⟩
    have R1 : Hid (RowIm w1 W.heap.size w1.heap.size (.agg #[vI, vD]) dn dd) := ⟨_, _, rfl, hI, hD⟩
    obtain ⟨-, a1, c1, hv1, -⟩ := hI.rd
    obtain ⟨-, a2, c2, hv2, -⟩ := hD.rd
    subst hv1
    subst hv2
    obtain ⟨w2, hw2⟩ : ∃ w2, w2 = w1.alloc (.cells #[.slice a1 dn.length c1, .slice a2 dd.length c2] 76) := ⟨_, rfl⟩
    have B2 : Hid (Below W.heap.size W w2) := by rw [hw2]; exact hb1.alloc hb1.size _
    have R2 : Hid (RowIm w2 W.heap.size w2.heap.size (.agg #[.slice a1 dn.length c1, .slice a2 dd.length c2]) dn dd) := by
      rw [hw2]
      exact rowim_wide (R1.out.below ((Below.refl _ _).alloc (Nat.le_refl _) _) (Nat.le_refl _)) (Nat.le_refl _) (by simp)
    have Bw2 := hideIt (below_trans BW.out B2.out BW.out.size)
    have I2 : Hid (w2.heap[w1.heap.size]? = some (.cells #[.slice a1 dn.length c1, .slice a2 dd.length c2] 76 (0, 0))) := by rw [hw2]; exact at_new rfl
    obtain ⟨y0, y1, _, _⟩ := two_cells I2.out
    have hz1 : W.heap.size ≤ w1.heap.size := hb1.size
    have hz2 : w1.heap.size < w2.heap.size := by rw [hw2]; simp
    clear hI hD x0 x1 x2 x3 hb1 R1
    go_upto_region 2 with fail
    rw [← hw2]
    clear hw2
    go_wp2_with fail
    refine (LI.out _ _ Bw2.out R2.out.rd).mono ?_
    rintro e w3 ⟨rfl, hb3⟩
    have R3 := hideIt (R2.out.below hb3 (Nat.le_refl _))
    have B3 := hideIt (below_trans B2.out hb3 B2.out.size)
    have Bw3 := hideIt (below_trans BW.out B3.out BW.out.size)
    have U3 := hideIt (CU.out w3 B3.out)
    have I3 := hideIt ((hb3.block _ hz2).trans I2.out)
    have hz3 : w2.heap.size ≤ w3.heap.size := hb3.size
    clear hb3 y0 y1 I2 R2 B2 Bw2 LI LS CU
    have nb : ¬ w1.heap.size = w.heap.size + 1 := by omega
    have UK : Hid (∀ w', Below w3.heap.size w3 w' → w'.heap[w.heap.size + 1]? = some (.cells #[.slice none 0 0, .slice none 0 0, .int .i64 0, .int .i64 0, .int .u64 0, .int .u64 0, .int .i64 0, .int .i64 0, .int .u64 0, .int .u64 0] 93 (0, 0))) := fun w' hb => (hb.block _ (by omega)).trans U3.out
    have IK : Hid (∀ w', Below w3.heap.size w3 w' → w'.heap[w1.heap.size]? = some (.cells #[.slice a1 dn.length c1, .slice a2 dd.length c2] 76 (0, 0))) := fun w' hb => (hb.block _ (by omega)).trans I3.out
    obtain ⟨y0, y1, -, -⟩ := two_cells I3.out
    go_upto_region 4 with fail
    go_region_held3 (fun w' => w'.cell? ⟨w1.heap.size, 0, none⟩ = some (.slice a1 dn.length c1) ∧ w'.cell? ⟨w1.heap.size, 1, none⟩ = some (.slice a2 dd.length c2))
      (with_reducible exact two_keep (by with_reducible repeat (first | exact I3.out | exact IF.out | exact IG.out | refine set_other ?_ nb _ | refine drew_other ?_)))
      (first
        | (go_at_call 75; refine (LP.out _ _ (below_trans Bw3.out (show Below w3.heap.size w3 _ by repeat (first | exact Below.refl _ _ | refine Below.drew ?_)) Bw3.out.size) (R3.out.below (show Below w3.heap.size w3 _ by repeat (first | exact Below.refl _ _ | refine Below.drew ?_)) hz3).rd (by first | rfl | trivial)).mono ?_; rintro e wf ⟨rfl, hbf⟩; have BF : Hid (Below w3.heap.size w3 wf) := (by first | exact hbf | exact below_trans (by repeat (first | exact Below.refl _ _ | refine Below.drew ?_)) hbf (Nat.le_refl _)); have IF := hideIt (IK.out _ BF.out); clear hbf)
        | (go_at_call 76; refine (LB.out _ _ (below_trans Bw3.out (show Below w3.heap.size w3 _ by repeat (first | exact BF.out | refine Below.drew ?_)) Bw3.out.size) (R3.out.below (show Below w3.heap.size w3 _ by repeat (first | exact BF.out | refine Below.drew ?_)) hz3).rd (by first | rfl | trivial)).mono ?_; rintro e wg ⟨rfl, hbg⟩; have BG : Hid (Below w3.heap.size w3 wg) := (by first | exact below_trans BF.out hbg BF.out.size | exact below_trans (show Below w3.heap.size w3 _ by repeat (first | exact BF.out | refine Below.drew ?_)) hbg BF.out.size); have IG := hideIt (IK.out _ BG.out); have UG := hideIt (UK.out _ BG.out); obtain ⟨⟨z0, z1, z2, z3, z4, z5, z6, z7, z8, z9⟩, ⟨g0, g1, g2, g3, g4, g5, g6, g7, g8, g9⟩⟩ := tenU UG.out; clear hbg))
    have B9 := hideIt (below_trans Bw3.out BG.out Bw3.out.size)
    have P9 := hideIt (putU_at UG.out (.slice a1 dn.length c1) (.slice a2 dd.length c2) (.int .i64 n1) (.int .i64 24) (.int .u64 m1) (.int .u64 f1) (.int .i64 n2) (.int .i64 32) (.int .u64 m2) (.int .u64 f2))
    have R9 := hideIt (rowim_outside (R3.out.below BG.out hz3) (putU_out wg (w.heap.size + 1) (.slice a1 dn.length c1) (.slice a2 dd.length c2) (.int .i64 n1) (.int .i64 24) (.int .u64 m1) (.int .u64 f1) (.int .i64 n2) (.int .i64 32) (.int .u64 m2) (.int .u64 f2)) (.inr (by omega)) (Nat.le_trans hz3 BG.out.size))
    have E9 := hideIt (putU_below B9.out (show w.heap.size ≤ w.heap.size + 1 by omega) (.slice a1 dn.length c1) (.slice a2 dd.length c2) (.int .i64 n1) (.int .i64 24) (.int .u64 m1) (.int .u64 f1) (.int .i64 n2) (.int .i64 32) (.int .u64 m2) (.int .u64 f2))
    unfold putU at P9 R9 E9
    obtain ⟨⟨p0, p1, p2, p3, p4, p5, p6, p7, p8, p9⟩, -⟩ := tenU P9.out
    clear z0 z1 z2 z3 z4 z5 z6 z7 z8 z9 g0 g1 g2 g3 g4 g5 g6 g7 g8 g9 P9
    go_wp2
    refine bodyPost_ret (v := .tuple #[audV (.slice a1 dn.length c1) (.slice a2 dd.length c2) n1 m1 f1 n2 m2 f2, .int .i64 0]) (by simp [results, audV, Tryz.results40, go_sem, p0, p1, p2, p3, p4, p5, p6, p7, p8, p9]) rfl ?_
    exact ⟨E9.out, .inr ⟨by first | rfl | trivial, _, _, rfl, R9.out.rd⟩⟩
end Go.Proofs.YtbjjdkemappelaaGreatDoor
