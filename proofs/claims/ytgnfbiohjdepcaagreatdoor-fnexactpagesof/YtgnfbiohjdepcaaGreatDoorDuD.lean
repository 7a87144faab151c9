/- All pages of a file: by the program. -/
import Derived.Test.YtgnfbiohjdepcaaGreatDoorZBM
import Derived.Test.YtgnfbiohjdepcaaGreatDoorMeC
import Derived.Test.YtgnfbiohjdepcaaGreatDoorDtG
import Derived.Test.YtgnfbiohjdepcaaGreatDoorZAH
namespace Go.Proofs.YtgnfbiohjdepcaaGreatDoor
open Go.RowKit
theorem ps_form {ws : List Int} {ps : List St} {es : List Int} {qs : List Se} {s : ByteArray} : psR ws ps es qs s = if (flR (dvN ws ps es qs) (dvD ws ps es qs) s).2 = 0 then (pgL ws ps es qs (inoAt (dvN ws ps es qs) (flR (dvN ws ps es qs) (dvD ws ps es qs) s).1.toNat) (inoAt (dvN ws ps es qs) (flR (dvN ws ps es qs) (dvD ws ps es qs) s).1.toNat).size.toNat, 0) else ([], (flR (dvN ws ps es qs) (dvD ws ps es qs) s).2) := by
  unfold psR flR
  rw [dv_img]
  by_cases c : 65536 < s.size
  · rw [if_pos c, if_pos c]
    rfl
  · rw [if_neg c, if_neg c]
    by_cases d : dvB ws ps es qs = true
    · rw [if_pos d, if_pos d, ← (dv_yes d).2.2.1, ← (dv_yes d).2.2.2.1]
      rfl
    · rw [if_neg d, if_neg d]
      rfl
set_option maxRecDepth 100000 in
set_option maxHeartbeats 8000000 in
theorem implPagesOf_any (v : Value) (ws : List Int) (ps : List St) (es : List Int) (qs : List Se) (s : ByteArray) (w : World) (h : RdDev w v ws ps es qs) (hw : ws.length ≤ 1048576) (hp : ps.length ≤ 1048576) (he : es.length ≤ 1048576) (hq : qs.length ≤ 1048576) (hT : TS w) (hE : ED w) (hF : FD w) (hN : NW w) :
    Calls Tryz.prog 18 #[v, .string s] w fun e w' => ∃ v', e = .returned (.tuple #[v', .int .i64 (psR ws ps es qs s).2]) ∧ Row w' 3 1 w.heap.size w'.heap.size v' (psR ws ps es qs s).1.length (ints (psR ws ps es qs s).1) ∧ Below w.heap.size w w' := by
  have LI := hideIt (fun w1 (hb : Below w.heap.size w w1) => seenImage_any v ws ps es qs w1 (h.below hb) hw hp he hq (hT.below hb) (hE.below hb) (hF.below hb))
  have LF := hideIt (fun v2 w1 (hb : Below w.heap.size w w1) h2 => findFile_any v2 (dvN ws ps es qs) (dvD ws ps es qs) s w1 h2 (dv_len ws ps es qs).1 (dv_len ws ps es qs).2 (hT.below hb) (hE.below hb) (hF.below hb) dv_R dv_name)
  have LV := hideIt (fun hP hB x (hz : inoB x = true) w1 (hb : Below w.heap.size w w1) => pageWords_any v ws ps es qs x w1 (h.below hb) hP hB hz (hT.below hb) (hN.below hb))
  have EL := hideIt (ps_form (ws := ws) (ps := ps) (es := es) (qs := qs) (s := s))
  have FL := hideIt (fun h => dv_fl (ws := ws) (ps := ps) (es := es) (qs := qs) (s := s) h)
  have OK : Hid (imgB (dvN ws ps es qs) (dvD ws ps es qs) = true → ∀ i : Nat, i < 16 → ∀ x, x = inoAt (dvN ws ps es qs) i → inoB x = true) := fun hi i h16 x e => by
    have q := (img_iff.1 hi).ok i h16
    rw [← e] at q
    exact q
  obtain ⟨dW, eW, dP, eP, dS, eS, dQ, eQ, rfl, -, -⟩ := h.form
  clear h hT hE hF hN
  obtain ⟨W, hW⟩ : ∃ W, W = w.alloc (.cells #[.slice dW ws.length eW, .slice dP ps.length eP, .slice dS es.length eS, .slice dQ qs.length eQ] 41) := ⟨_, rfl⟩
  have CD : Hid (∀ w', Below W.heap.size W w' → w'.cell? ⟨w.heap.size, 0, none⟩ = some (.slice dW ws.length eW) ∧ w'.cell? ⟨w.heap.size, 1, none⟩ = some (.slice dP ps.length eP) ∧ w'.cell? ⟨w.heap.size, 2, none⟩ = some (.slice dS es.length eS) ∧ w'.cell? ⟨w.heap.size, 3, none⟩ = some (.slice dQ qs.length eQ)) := fun w' hb => by
    have : w'.heap[w.heap.size]? = some (.cells #[.slice dW ws.length eW, .slice dP ps.length eP, .slice dS es.length eS, .slice dQ qs.length eQ] 41 (0, 0)) := (hb.block _ (by rw [hW]; simp)).trans (by rw [hW]; exact at_new rfl)
    obtain ⟨x0, x1, x2, x3, -, -, -, -⟩ := four_cells this
    exact ⟨x0, x1, x2, x3⟩
  have BW : Hid (Below w.heap.size w W) := by rw [hW]; exact (Below.refl _ _).alloc (Nat.le_refl _) _
  obtain ⟨x0, x1, x2, x3⟩ := CD.out _ (Below.refl _ _)
  generalize dvN ws ps es qs = dn at *
  generalize dvD ws ps es qs = dd at *
  generalize psR ws ps es qs s = res at *
  generalize hfl : flR dn dd s = lr at *
  obtain ⟨li, lc⟩ := lr
  obtain ⟨x, hx⟩ : ∃ x, x = faI dn (li, lc) := ⟨_, rfl⟩
  have LF2 := hideIt (fun v2 w1 hb h2 => LF.out v2 w1 hb h2 x hx)
  have HX := hideIt hx
  simp only at EL FL LF2
  clear LF hfl hx
  go_enter Tryz.func18, Tryz.ntmps18
  go_wp2_with fail
  rw [← hW]
  clear hW
  refine (LI.out _ BW.out).mono ?_
  rintro e w1 ⟨v1, rfl, hR, hb1⟩
  have A1 := hideIt hb1
  have B1 := hideIt (below_trans BW.out hb1 BW.out.size)
  have R1 := hideIt hR.rd
  clear hR hb1 x0 x1 x2 x3 LI
  go_wp2_with fail
  refine (LF2.out _ _ B1.out R1.out).mono ?_
  rintro e w2 ⟨rfl, hb2⟩
  have A2 := hideIt (bel2 A1.out hb2)
  have B2 := hideIt (below_trans B1.out hb2 B1.out.size)
  clear hb2 A1 B1 R1 LF2
  have BX := hideIt (B2.out.alloc B2.out.size (.cells #[.int .i64 x.kind, .int .i64 x.size, .int .i64 x.links, .int .i64 x.m0, .int .i64 x.m1, .int .i64 x.m2, .int .i64 x.m3, .int .i64 x.m4, .int .i64 x.m5, .int .i64 x.m6, .int .i64 x.m7, .int .i64 li] 72))
  by_cases c : lc = 0
  case neg =>
    rw [if_neg c] at EL
    obtain rfl := EL.out
    have q : (lc != 0) = true := by rw [bne_iff_ne]; exact c
    clear EL c FL OK LV HX
    go_wp2
    go_ret2
    exact ⟨_, rfl, Row.nil _ _ _ _ _, BX.out⟩
  subst c
  rw [if_pos rfl] at EL
  obtain ⟨hP, hB, hi, i, i16, ei⟩ := FL.out rfl
  subst ei
  have hx : x = inoAt dn i := HX.out.trans ((if_pos rfl).trans (by simp only [Int.toNat_natCast]))
  have LV2 := hideIt (LV.out hP hB x (OK.out hi i i16 x hx))
  simp only [Int.toNat_natCast] at EL
  rw [← hx] at EL
  clear FL OK LV HX hP hB hi hx
  obtain ⟨w3, hw3⟩ : ∃ w3, w3 = w2.alloc (.cells #[.int .i64 x.kind, .int .i64 x.size, .int .i64 x.links, .int .i64 x.m0, .int .i64 x.m1, .int .i64 x.m2, .int .i64 x.m3, .int .i64 x.m4, .int .i64 x.m5, .int .i64 x.m6, .int .i64 x.m7, .int .i64 (i : Int)] 72) := ⟨_, rfl⟩
  have VX : Hid (w3.heap[w2.heap.size]? = some (.cells (x.fa (i : Int)).toArray 72 (0, 0))) := by rw [hw3]; exact at_new rfl
  have AX : Hid (Below W.heap.size W w3) := by rw [hw3]; exact A2.out.alloc A2.out.size _
  rw [← hw3] at BX
  obtain ⟨r0, r1, r2, r3⟩ := CD.out w3 AX.out
  have G := hideIt (eight_at VX.out)
  have g0 := (G.out 0).1
  have g1 := (G.out 1).1
  have g2 := (G.out 2).1
  have g3 := (G.out 3).1
  have g4 := (G.out 4).1
  have g5 := (G.out 5).1
  have g6 := (G.out 6).1
  have g7 := (G.out 7).1
  have g8 := (G.out 8).1
  have g9 := (G.out 9).1
  have g10 := (G.out 10).1
  simp only [Ino.fa, List.getElem?_cons_zero, List.getElem?_cons_succ] at g0 g1 g2 g3 g4 g5 g6 g7 g8 g9 g10
  rw [hw3] at r0 r1 r2 r3 g0 g1 g2 g3 g4 g5 g6 g7 g8 g9 g10
  have LV3 := hideIt (LV2.out w3 BX.out)
  clear G VX CD LV2
  go_wp2_with fail
  rw [← hw3]
  clear hw3 r0 r1 r2 r3 g0 g1 g2 g3 g4 g5 g6 g7 g8 g9 g10
  refine LV3.out.mono ?_
  rintro e w4 ⟨v4, rfl, hr4, hb4⟩
  have B4 := hideIt (below_trans BX.out hb4 BX.out.size)
  have R4 := hideIt (hr4.wide BX.out.size (Nat.le_refl _))
  clear hr4 hb4 LV3
  obtain rfl := EL.out
  go_wp2
  go_ret2
  exact ⟨_, rfl, R4.out, B4.out⟩
theorem psR_len (ws : List Int) (ps : List St) (es : List Int) (qs : List Se) (s : ByteArray) : (psR ws ps es qs s).1.length ≤ 1048576 := by
  rw [ps_form]
  by_cases c : (flR (dvN ws ps es qs) (dvD ws ps es qs) s).2 = 0
  · rw [if_pos c]
    obtain ⟨-, -, hi, i, h16, e⟩ := dv_fl c
    rw [e, Int.toNat_natCast]
    have := (ino_parts ((img_iff.1 hi).ok i h16)).2.1
    show (pgL _ _ _ _ _ _).length ≤ _
    rw [pgL_len]
    omega
  · rw [if_neg c]
    simp
end Go.Proofs.YtgnfbiohjdepcaaGreatDoor
