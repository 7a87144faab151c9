/- All pages of a file: by the model. -/
import Derived.Test.YtgnfbiohjdepcaaGreatDoorZBF
namespace Go.Proofs.YtgnfbiohjdepcaaGreatDoor
open Go.RowKit
theorem pgL_len (ws : List Int) (ps : List St) (es : List Int) (qs : List Se) (x : Ino) (k : Nat) : (pgL ws ps es qs x k).length = k := by simp [pgL]
set_option maxRecDepth 100000 in
set_option maxHeartbeats 8000000 in
theorem l08Pages_any (v : Value) (ws : List Int) (ps : List St) (es : List Int) (qs : List Se) (x : Ino) (w : World) (hd : RdDev w v ws ps es qs) (hP : pmB ws ps = true) (hB : blkB es qs = true) (hx : inoB x = true) :
    Calls Tryz.prog 44 #[v, x.v] w fun e w' => ∃ v', e = .returned v' ∧ Row w' 3 1 w.heap.size w'.heap.size v' (pgL ws ps es qs x x.size.toNat).length (ints (pgL ws ps es qs x x.size.toNat)) ∧ Below w.heap.size w w' := by
  have hv : x.v = .agg x.cs.toArray := rfl
  have LV := hideIt (fun w1 (hb : Below w.heap.size w w1) z (hz : tieB z = true) => l08Value_any v ws ps es qs z w1 (hd.below hb) hP hB hz)
  have TI : Hid (∀ j : Nat, j < 8 → tieB (x.map.getD j 0) = true) := fun j hj => by
    refine (ino_ties hx).1 _ ?_
    rw [List.getD_eq_getElem?_getD, List.getElem?_eq_getElem (show j < x.map.length from hj)]
    exact List.getElem_mem _
  obtain ⟨N, hN⟩ : ∃ N : Nat, x.size = (N : Int) := ⟨x.size.toNat, by have := (ino_parts hx).2.1; omega⟩
  have N8 : N ≤ 8 := by have := (ino_parts hx).2.1; omega
  obtain ⟨dW, eW, dP, eP, dS, eS, dQ, eQ, rfl, -, -⟩ := hd.form
  have EN := hideIt (show x.size.toNat = N by omega)
  rw [EN.out]
  clear hd hP hB hx EN
  obtain ⟨W, hW⟩ : ∃ W, W = (w.alloc (.cells #[.slice dW ws.length eW, .slice dP ps.length eP, .slice dS es.length eS, .slice dQ qs.length eQ] 41)).alloc (.cells x.cs.toArray 70) := ⟨_, rfl⟩
  have hzW : W.heap.size = w.heap.size + 1 + 1 := by rw [hW]; simp
  have CD : Hid (∀ w', Below W.heap.size W w' → w'.cell? ⟨w.heap.size, 0, none⟩ = some (.slice dW ws.length eW) ∧ w'.cell? ⟨w.heap.size, 1, none⟩ = some (.slice dP ps.length eP) ∧ w'.cell? ⟨w.heap.size, 2, none⟩ = some (.slice dS es.length eS) ∧ w'.cell? ⟨w.heap.size, 3, none⟩ = some (.slice dQ qs.length eQ)) := fun w' hb => by
    have : w'.heap[w.heap.size]? = some (.cells #[.slice dW ws.length eW, .slice dP ps.length eP, .slice dS es.length eS, .slice dQ qs.length eQ] 41 (0, 0)) := (hb.block _ (by omega)).trans (by rw [hW]; exact at_old (at_new rfl))
    obtain ⟨x0, x1, x2, x3, -, -, -, -⟩ := four_cells this
    exact ⟨x0, x1, x2, x3⟩
  have CA : Hid (∀ w', Below W.heap.size W w' → ∀ j, w'.cell? ⟨w.heap.size + 1, j, none⟩ = x.cs[j]?) := fun w' hb j => by
    have : w'.heap[w.heap.size + 1]? = some (.cells x.cs.toArray 70 (0, 0)) := (hb.block _ (by omega)).trans (by
      rw [hW]
      have := at_new (w := w.alloc (.cells #[.slice dW ws.length eW, .slice dP ps.length eP, .slice dS es.length eS, .slice dQ qs.length eQ] 41)) (o := .cells x.cs.toArray 70) rfl
      rw [World.size_alloc] at this
      exact this)
    exact (eight_at (xs := x.cs) this j).1
  have CS : Hid (∀ w', Below W.heap.size W w' → w'.cell? ⟨w.heap.size + 1, 1, none⟩ = some (.int .i64 (N : Int))) := fun w' hb => (CA.out w' hb 1).trans (by rw [← hN]; rfl)
  have CM : Hid (∀ w', Below W.heap.size W w' → ∀ m, m < 8 → w'.cell? ⟨w.heap.size + 1, 3 + m, none⟩ = some (.int .i64 (x.map.getD m 0))) := fun w' hb m hm => (CA.out w' hb (3 + m)).trans (x.at m hm)
  have BW : Hid (Below w.heap.size w W) := by rw [hW]; exact ((Below.refl _ _).alloc (Nat.le_refl _) _).alloc (by simp) _
  have hz : w.heap.size + 1 < W.heap.size := by omega
  have START : Hid (InI W (W.alloc (.cells #[] 3)) (.slice (some ⟨W.heap.size, 0, none⟩) 0 0) (pgL ws ps es qs x 0)) := ⟨World.ownsRow_lit W #[] 0 (Nat.le_refl _) (by simp [maxLen]) (by simp), (Below.refl _ _).alloc (Nat.le_refl _) _⟩
  clear CA hN hzW
  rw [hv]
  go_enter Tryz.func44, Tryz.ntmps44
  go_wp2
  rw [hW] at START
  simp only [World.size_alloc] at START
  go_loopw [5, 6] (fun vL i wr => ∃ m : Nat, m ≤ N ∧ i = .int .i64 (m : Int) ∧ Hid (InI W wr vL (pgL ws ps es qs x m))) (fun _ i _ => N - (intOf i).toNat)
  case atStart => exact ⟨0, by omega, rfl, by rw [hW]; exact START.out⟩
  case round =>
    obtain ⟨m, hm, rfl, J⟩ := hrel
    clear START hW
    have x1 := CS.out wr J.out.b
    have m0 : (0 : Int) ≤ (m : Int) := by omega
    have JW := hideIt (below_trans BW.out J.out.b BW.out.size)
    by_cases hlt : m < N
    · have m1 : (m : Int) < (N : Int) := by omega
      have m8 : (m : Int) < 8 := by omega
      have n8 : m < 8 := by omega
      have LV2 := hideIt (fun w1 hb => LV.out w1 hb _ (TI.out m n8))
      have EM := hideIt (pgL_step ws ps es qs x m)
      have KE : Hid (∀ w', Below W.heap.size W w' → w'.cell? ⟨w.heap.size, 0, none⟩ = some (.slice dW ws.length eW) ∧ w'.cell? ⟨w.heap.size, 1, none⟩ = some (.slice dP ps.length eP) ∧ w'.cell? ⟨w.heap.size, 2, none⟩ = some (.slice dS es.length eS) ∧ w'.cell? ⟨w.heap.size, 3, none⟩ = some (.slice dQ qs.length eQ) ∧ w'.cell? ⟨w.heap.size + 1, 3 + m, none⟩ = some (.int .i64 (x.map.getD m 0))) := fun w' hb =>
        ⟨(CD.out w' hb).1, (CD.out w' hb).2.1, (CD.out w' hb).2.2.1, (CD.out w' hb).2.2.2, CM.out w' hb m n8⟩
      have l2 : (pgL ws ps es qs x m).length ≤ 8 := by rw [pgL_len]; omega
      generalize pgV ws ps es qs (x.map.getD m 0) = y at *
      generalize x.map.getD m 0 = z at *
      obtain ⟨r0, r1, r2, r3, r4⟩ := KE.out wr J.out.b
      go_wp2_with fail
      go_region_held3 (fun w' => w'.cell? ⟨w.heap.size, 0, none⟩ = some (.slice dW ws.length eW) ∧ w'.cell? ⟨w.heap.size, 1, none⟩ = some (.slice dP ps.length eP) ∧ w'.cell? ⟨w.heap.size, 2, none⟩ = some (.slice dS es.length eS) ∧ w'.cell? ⟨w.heap.size, 3, none⟩ = some (.slice dQ qs.length eQ) ∧ w'.cell? ⟨w.heap.size + 1, 3 + m, none⟩ = some (.int .i64 z))
        (first | with_reducible exact KE.out _ G.out.b | with_reducible exact KE.out _ J4.out.b | with_reducible exact KE.out _ J3.out.b | with_reducible exact KE.out _ J.out.b | with_reducible exact KE.out _ J.out.b.drew)
        (first
          | (go_at_call 53; refine (LV2.out _ (by first | with_reducible exact JW.out | with_reducible exact JW.out.drew)).mono ?_; rintro e w3 ⟨rfl, hb3⟩; have J3 := hideIt (J.out.below (below_of_drew hb3)); clear hb3; obtain ⟨s0, s1, s2, s3, s4⟩ := KE.out _ J3.out.b; have J4 := hideIt (J3.out.below ((Below.refl _ _).alloc (Nat.le_refl _) (.cells #[.int .i64 y] 3))); have RB := hideIt (rd_int w3 y); have hz4 := J4.out.z)
          | (refine step_append_rd rfl (.tmp 14) (.tmp 21) 22 rfl W.heap.size 3 (.int .i64 0) 1 8 Tryz.underlying22 info3 rfl (by decide) _ _ _ rfl J4.out.l _ 1 _ rfl RB.out (one_int _) (by simp [maxLen]; omega) (by omega) hz4 ?_; intro vN wN hownN hgrN; have G := hideIt (J4.out.grow y hownN hgrN); clear hownN hgrN))
      all_goals
        rw [← EM.out] at G
        clear J J3 J4 RB r0 r1 r2 r3 r4 s0 s1 s2 s3 s4 x1
        go_wp2
        go_roundw
        case rel => exact ⟨m + 1, by omega, by go_num, G⟩
        case measure => simp [intOf]; omega
    · obtain rfl : m = N := by omega
      obtain ⟨-, aN, cN, hvN, -⟩ := (own_block J.out.l).rd
      subst hvN
      go_wp2
      go_ret
      exact ⟨_, rfl, (own_block J.out.l).wide (by omega) (Nat.le_refl _), JW.out⟩
theorem pa_none {w w1 : World} {n : Nat} {c : Int} (B : Below w.heap.size w w1) (e : n = w1.heap.size) : ∃ v', Ending.returned (.tuple #[.slice (some ⟨n, 0, none⟩) 0 0, .int .i64 c]) = .returned (.tuple #[v', .int .i64 c]) ∧ Row (w1.alloc (.cells #[] 3)) 3 1 w.heap.size (w1.alloc (.cells #[] 3)).heap.size v' ([] : List Int).length (ints []) ∧ Below w.heap.size w (w1.alloc (.cells #[] 3)) := by
  subst e
  exact ⟨_, rfl, (row_none w1 3 1).wide B.size (Nat.le_refl _), B.alloc B.size _⟩
set_option maxRecDepth 100000 in
set_option maxHeartbeats 16000000 in
theorem specPagesOf_any (v : Value) (ws : List Int) (ps : List St) (es : List Int) (qs : List Se) (s : ByteArray) (w : World) (h : RdDev w v ws ps es qs) (hw : ws.length ≤ 1048576) (hp : ps.length ≤ 1048576) (he : es.length ≤ 1048576) (hq : qs.length ≤ 1048576) :
    Calls Tryz.prog 17 #[v, .string s] w fun e w' => ∃ v', e = .returned (.tuple #[v', .int .i64 (psR ws ps es qs s).2]) ∧ Row w' 3 1 w.heap.size w'.heap.size v' (psR ws ps es qs s).1.length (ints (psR ws ps es qs s).1) ∧ Below w.heap.size w w' := by
  have LI := hideIt (fun w1 (hb : Below w.heap.size w w1) => l08Image_any v ws ps es qs w1 (h.below hb) hw hp he hq)
  have IM : Hid (dvB ws ps es qs = true → imgB (dvN ws ps es qs) (dvD ws ps es qs) = true) := fun d => by rw [(dv_yes d).2.2.1, (dv_yes d).2.2.2.1]; exact (dv_yes d).2.2.2.2
  have LF := hideIt (fun (d : dvB ws ps es qs = true) (hs : s.size ≤ 65536) v2 w1 (h2 : RdIm w1 v2 (dvN ws ps es qs) (dvD ws ps es qs)) => l08File_any v2 (dvN ws ps es qs) (dvD ws ps es qs) s w1 h2 (IM.out d) hs)
  have LP : Hid (dvB ws ps es qs = true → ∀ i : Nat, i < 16 → ∀ w1, Below w.heap.size w w1 → ∀ x, x = inoAt (dvN ws ps es qs) i → Calls Tryz.prog 44 #[v, .agg #[.int .i64 x.kind, .int .i64 x.size, .int .i64 x.links, .int .i64 x.m0, .int .i64 x.m1, .int .i64 x.m2, .int .i64 x.m3, .int .i64 x.m4, .int .i64 x.m5, .int .i64 x.m6, .int .i64 x.m7]] w1 fun e w' => ∃ v', e = .returned v' ∧ Row w' 3 1 w1.heap.size w'.heap.size v' (pgL ws ps es qs x x.size.toNat).length (ints (pgL ws ps es qs x x.size.toNat)) ∧ Below w1.heap.size w1 w') := fun d i hi w1 hb x hx => by
    rw [hx]
    exact l08Pages_any v ws ps es qs _ w1 (h.below hb) (dv_yes d).1 (dv_yes d).2.1 ((img_iff.1 (IM.out d)).ok i hi)
  have LO := hideIt (fun (d : dvB ws ps es qs = true) c => fl_file (s := s) (img_iff.1 (IM.out d)) c)
  have L16 := hideIt (fun (d : dvB ws ps es qs = true) => (pimg_all (IM.out d)).1)
  have EL : Hid (psR ws ps es qs s = if 65536 < s.size then ([], 2) else if dvB ws ps es qs = true then (if (flI (dvN ws ps es qs) (dvD ws ps es qs) s).2 = 0 then (pgL ws ps es qs (inoAt (dvN ws ps es qs) (flI (dvN ws ps es qs) (dvD ws ps es qs) s).1.toNat) (inoAt (dvN ws ps es qs) (flI (dvN ws ps es qs) (dvD ws ps es qs) s).1.toNat).size.toNat, 0) else ([], (flI (dvN ws ps es qs) (dvD ws ps es qs) s).2)) else ([], 1)) := by
    unfold Hid psR psI sizeAt
    by_cases c : 65536 < s.size
    · rw [if_pos c, if_pos c]
    · rw [if_neg c, if_neg c]
      by_cases d : dvB ws ps es qs = true
      · rw [if_pos d, if_pos d, (dv_yes d).2.2.1, (dv_yes d).2.2.2.1]
      · rw [if_neg d, if_neg d]
  obtain ⟨dW, eW, dP, eP, dS, eS, dQ, eQ, rfl, -, -⟩ := h.form
  clear h IM
  obtain ⟨W, hW⟩ : ∃ W, W = w.alloc (.cells #[.slice dW ws.length eW, .slice dP ps.length eP, .slice dS es.length eS, .slice dQ qs.length eQ] 41) := ⟨_, rfl⟩
  have CD : Hid (∀ w', Below W.heap.size W w' → w'.cell? ⟨w.heap.size, 0, none⟩ = some (.slice dW ws.length eW) ∧ w'.cell? ⟨w.heap.size, 1, none⟩ = some (.slice dP ps.length eP) ∧ w'.cell? ⟨w.heap.size, 2, none⟩ = some (.slice dS es.length eS) ∧ w'.cell? ⟨w.heap.size, 3, none⟩ = some (.slice dQ qs.length eQ)) := fun w' hb => by
    have : w'.heap[w.heap.size]? = some (.cells #[.slice dW ws.length eW, .slice dP ps.length eP, .slice dS es.length eS, .slice dQ qs.length eQ] 41 (0, 0)) := (hb.block _ (by rw [hW]; simp)).trans (by rw [hW]; exact at_new rfl)
    obtain ⟨x0, x1, x2, x3, -, -, -, -⟩ := four_cells this
    exact ⟨x0, x1, x2, x3⟩
  have BW : Hid (Below w.heap.size w W) := by rw [hW]; exact (Below.refl _ _).alloc (Nat.le_refl _) _
  obtain ⟨x0, x1, x2, x3⟩ := CD.out _ (Below.refl _ _)
  generalize dvB ws ps es qs = db at *
  generalize dvN ws ps es qs = dn at *
  generalize dvD ws ps es qs = dd at *
  generalize psR ws ps es qs s = res at *
  generalize flI dn dd s = lr at *
  obtain ⟨li, lc⟩ := lr
  simp only at EL LO LF
  by_cases c1 : 65536 < s.size
  · rw [if_pos c1] at EL
    have c2 : (s.size : Int) > 65536 := by omega
    obtain rfl := EL.out
    clear EL c1 LI LF LP LO
    subst hW
    go_enter Tryz.func17, Tryz.ntmps17
    go_wp2
    go_ret2
    exact pa_none BW.out (World.size_alloc _ _).symm
  rw [if_neg c1] at EL
  have c2 : ¬ (s.size : Int) > 65536 := by omega
  have LF2 := hideIt (fun d v2 w1 h2 => LF.out d (by omega) v2 w1 h2)
  clear LF c1
  go_enter Tryz.func17, Tryz.ntmps17
  go_wp2_with fail
  rw [← hW]
  clear hW
  refine (LI.out _ BW.out).mono ?_
  rintro e w1 ⟨v1, rfl, hR, hb1⟩
  have HR := hideIt hR
  obtain ⟨vI, vD, rfl, hI, hD⟩ := hR
  obtain ⟨a1, k1, hv1, -, hcN⟩ := RdN.shape hI.rd
  obtain ⟨-, a2, k2, hv2, -⟩ := hD.rd
  subst hv1
  subst hv2
  have A1 := hideIt hb1
  have B1 := hideIt (below_trans BW.out hb1 BW.out.size)
  have BC : Hid (Below w1.heap.size w1 (w1.alloc (.cells #[.slice a1 dn.length k1, .slice a2 dd.length k2] 62))) := (Below.refl _ _).alloc (Nat.le_refl _) _
  have VM : Hid ((w1.alloc (.cells #[.slice a1 dn.length k1, .slice a2 dd.length k2] 62)).heap[w1.heap.size]? = some (.cells #[.slice a1 dn.length k1, .slice a2 dd.length k2] 62 (0, 0))) := at_new rfl
  obtain ⟨w2, hw2⟩ : ∃ w2, w2 = w1.alloc (.cells #[.slice a1 dn.length k1, .slice a2 dd.length k2] 62) := ⟨_, rfl⟩
  rw [← hw2] at BC VM
  have A2 := hideIt (bel2 A1.out BC.out)
  have B2 := hideIt (below_trans B1.out BC.out B1.out.size)
  have R2 := hideIt (HR.out.below BC.out (Nat.le_refl _)).rd
  obtain ⟨y0, y1, _, _⟩ := two_cells VM.out
  have hz2 : w1.heap.size < w2.heap.size := (Array.getElem?_eq_some_iff.1 VM.out).1
  clear hb1 x0 x1 x2 x3
  obtain ⟨x0, x1, x2, x3⟩ := CD.out _ A2.out
  cases db with
  | false =>
    obtain rfl := EL.out
    clear EL LF2 LP LO hI hD
    subst hw2
    go_wp2
    go_ret2
    exact pa_none B2.out (by simp)
  | true =>
    rw [if_pos rfl] at EL
    have LX := hideIt (L16.out rfl)
    obtain ⟨bI, oI, rfl, hblN, hcellN⟩ := hcN (by have := LX.out; omega)
    have HC : Hid (∀ i : Nat, i < 16 → ∀ x, x = inoAt dn i → ∀ w', Below w1.heap.size w1 w' → w'.cell? ⟨bI, oI + i * 11, none⟩ = some (.int .i64 x.kind) ∧ w'.cell? ⟨bI, oI + i * 11 + 1, none⟩ = some (.int .i64 x.size) ∧ w'.cell? ⟨bI, oI + i * 11 + 2, none⟩ = some (.int .i64 x.links) ∧ w'.cell? ⟨bI, oI + i * 11 + 3, none⟩ = some (.int .i64 x.m0) ∧ w'.cell? ⟨bI, oI + i * 11 + 4, none⟩ = some (.int .i64 x.m1) ∧ w'.cell? ⟨bI, oI + i * 11 + 5, none⟩ = some (.int .i64 x.m2) ∧ w'.cell? ⟨bI, oI + i * 11 + 6, none⟩ = some (.int .i64 x.m3) ∧ w'.cell? ⟨bI, oI + i * 11 + 7, none⟩ = some (.int .i64 x.m4) ∧ w'.cell? ⟨bI, oI + i * 11 + 8, none⟩ = some (.int .i64 x.m5) ∧ w'.cell? ⟨bI, oI + i * 11 + 9, none⟩ = some (.int .i64 x.m6) ∧ w'.cell? ⟨bI, oI + i * 11 + 10, none⟩ = some (.int .i64 x.m7)) := fun i hi x hx w' hb => by
      rw [hx, inoAt_of (by have := LX.out; omega : i < dn.length)]
      obtain ⟨z0, z1, z2, z3, z4, z5, z6, z7, z8, z9, z10⟩ := hcellN i (by have := LX.out; omega)
      exact ⟨(hb.cell (p := ⟨bI, oI + i * 11, none⟩) hblN).trans z0, (hb.cell (p := ⟨bI, oI + i * 11 + 1, none⟩) hblN).trans z1, (hb.cell (p := ⟨bI, oI + i * 11 + 2, none⟩) hblN).trans z2, (hb.cell (p := ⟨bI, oI + i * 11 + 3, none⟩) hblN).trans z3, (hb.cell (p := ⟨bI, oI + i * 11 + 4, none⟩) hblN).trans z4, (hb.cell (p := ⟨bI, oI + i * 11 + 5, none⟩) hblN).trans z5, (hb.cell (p := ⟨bI, oI + i * 11 + 6, none⟩) hblN).trans z6, (hb.cell (p := ⟨bI, oI + i * 11 + 7, none⟩) hblN).trans z7, (hb.cell (p := ⟨bI, oI + i * 11 + 8, none⟩) hblN).trans z8, (hb.cell (p := ⟨bI, oI + i * 11 + 9, none⟩) hblN).trans z9, (hb.cell (p := ⟨bI, oI + i * 11 + 10, none⟩) hblN).trans z10⟩
    have LF3 := hideIt (LF2.out rfl _ _ R2.out)
    clear hI hD hcN hcellN LF2 HR
    go_wp2_with fail
    rw [← hw2]
    clear hw2
    refine LF3.out.mono ?_
    rintro e w3 ⟨rfl, hb3⟩
    have A3 := hideIt (bel2 A2.out hb3)
    have B3 := hideIt (below_trans B2.out hb3 B2.out.size)
    have C3 := hideIt (bel2 BC.out hb3)
    have VM3 := hideIt ((hb3.block _ hz2).trans VM.out)
    clear hb3 x0 x1 x2 x3 y0 y1 VM LF3
    by_cases c : lc = 0
    case neg =>
      rw [if_neg c] at EL
      obtain rfl := EL.out
      have q : (lc != 0) = true := by rw [bne_iff_ne]; exact c
      clear EL LO c LP
      go_wp2
      go_ret2
      exact pa_none B3.out rfl
    subst c
    rw [if_pos rfl] at EL
    obtain ⟨i, i16, ei, -⟩ := LO.out (by trivial) rfl
    subst ei
    rw [Int.toNat_natCast] at EL
    obtain ⟨x, hx⟩ : ∃ x, x = inoAt dn i := ⟨_, rfl⟩
    rw [← hx] at EL
    have HC2 := hideIt (HC.out i i16 x hx)
    have LP2 := hideIt (fun w1 hb => LP.out (by trivial) i i16 w1 hb x hx)
    have i0 : (0 : Int) ≤ (i : Int) := by omega
    have il : (i : Int) < (dn.length : Int) := by have := LX.out; omega
    have KE : Hid (∀ w', Below w3.heap.size w3 w' → w'.cell? ⟨w.heap.size, 0, none⟩ = some (.slice dW ws.length eW) ∧ w'.cell? ⟨w.heap.size, 1, none⟩ = some (.slice dP ps.length eP) ∧ w'.cell? ⟨w.heap.size, 2, none⟩ = some (.slice dS es.length eS) ∧ w'.cell? ⟨w.heap.size, 3, none⟩ = some (.slice dQ qs.length eQ) ∧ w'.cell? ⟨w1.heap.size, 0, none⟩ = some (.slice (some ⟨bI, oI, none⟩) dn.length k1) ∧ w'.cell? ⟨bI, oI + i * 11, none⟩ = some (.int .i64 x.kind) ∧ w'.cell? ⟨bI, oI + i * 11 + 1, none⟩ = some (.int .i64 x.size) ∧ w'.cell? ⟨bI, oI + i * 11 + 2, none⟩ = some (.int .i64 x.links) ∧ w'.cell? ⟨bI, oI + i * 11 + 3, none⟩ = some (.int .i64 x.m0) ∧ w'.cell? ⟨bI, oI + i * 11 + 4, none⟩ = some (.int .i64 x.m1) ∧ w'.cell? ⟨bI, oI + i * 11 + 5, none⟩ = some (.int .i64 x.m2) ∧ w'.cell? ⟨bI, oI + i * 11 + 6, none⟩ = some (.int .i64 x.m3) ∧ w'.cell? ⟨bI, oI + i * 11 + 7, none⟩ = some (.int .i64 x.m4) ∧ w'.cell? ⟨bI, oI + i * 11 + 8, none⟩ = some (.int .i64 x.m5) ∧ w'.cell? ⟨bI, oI + i * 11 + 9, none⟩ = some (.int .i64 x.m6) ∧ w'.cell? ⟨bI, oI + i * 11 + 10, none⟩ = some (.int .i64 x.m7)) := fun w' hb => by
      obtain ⟨d0, d1, d2, d3⟩ := CD.out w' (bel2 A3.out hb)
      exact ⟨d0, d1, d2, d3, (two_cells ((hb.block _ (by have := B3.out.size; have := C3.out.size; have := (Array.getElem?_eq_some_iff.1 VM3.out).1; omega)).trans VM3.out)).1, HC2.out w' (bel2 C3.out hb)⟩
    have B3r := hideIt (Below.refl w3.heap.size w3)
    clear LP LO HC HC2 hx CD
    obtain ⟨r0, r1, r2, r3, r4, r5, r6, r7, r8, r9, r10, r11, r12, r13, r14, r15⟩ := KE.out _ B3r.out
    go_wp2_with fail
    go_region_held3 (fun w' => w'.cell? ⟨w.heap.size, 0, none⟩ = some (.slice dW ws.length eW) ∧ w'.cell? ⟨w.heap.size, 1, none⟩ = some (.slice dP ps.length eP) ∧ w'.cell? ⟨w.heap.size, 2, none⟩ = some (.slice dS es.length eS) ∧ w'.cell? ⟨w.heap.size, 3, none⟩ = some (.slice dQ qs.length eQ) ∧ w'.cell? ⟨w1.heap.size, 0, none⟩ = some (.slice (some ⟨bI, oI, none⟩) dn.length k1) ∧ w'.cell? ⟨bI, oI + i * 11, none⟩ = some (.int .i64 x.kind) ∧ w'.cell? ⟨bI, oI + i * 11 + 1, none⟩ = some (.int .i64 x.size) ∧ w'.cell? ⟨bI, oI + i * 11 + 2, none⟩ = some (.int .i64 x.links) ∧ w'.cell? ⟨bI, oI + i * 11 + 3, none⟩ = some (.int .i64 x.m0) ∧ w'.cell? ⟨bI, oI + i * 11 + 4, none⟩ = some (.int .i64 x.m1) ∧ w'.cell? ⟨bI, oI + i * 11 + 5, none⟩ = some (.int .i64 x.m2) ∧ w'.cell? ⟨bI, oI + i * 11 + 6, none⟩ = some (.int .i64 x.m3) ∧ w'.cell? ⟨bI, oI + i * 11 + 7, none⟩ = some (.int .i64 x.m4) ∧ w'.cell? ⟨bI, oI + i * 11 + 8, none⟩ = some (.int .i64 x.m5) ∧ w'.cell? ⟨bI, oI + i * 11 + 9, none⟩ = some (.int .i64 x.m6) ∧ w'.cell? ⟨bI, oI + i * 11 + 10, none⟩ = some (.int .i64 x.m7))
      (first | with_reducible exact KE.out _ A4.out | with_reducible exact KE.out _ B3r.out | with_reducible exact KE.out _ B3r.out.drew)
      (first
        | (go_at_call 44; refine (LP2.out _ (by first | with_reducible exact B3.out | with_reducible exact B3.out.drew)).mono ?_; rintro e w4 ⟨v4, rfl, hr4, hb4⟩; have A4 := hideIt (below_of_drew hb4); have hz4 := B3.out.size; have R4 := hideIt (hr4.wide (lo' := w.heap.size) (hi' := w4.heap.size) (by first | exact hz4 | (simp only [World.size_drew]; exact hz4)) (Nat.le_refl _)); obtain ⟨-, a4, c4, hv4, -⟩ := hr4.rd; subst hv4; clear hr4 hb4; obtain ⟨t0, t1, t2, t3, t4, t5, t6, t7, t8, t9, t10, t11, t12, t13, t14, t15⟩ := KE.out _ A4.out))
    all_goals
      have B4 := hideIt (below_trans B3.out A4.out B3.out.size)
      obtain rfl := EL.out
      go_wp2
      go_ret2
      exact ⟨_, rfl, R4.out, B4.out⟩
end Go.Proofs.YtgnfbiohjdepcaaGreatDoor
