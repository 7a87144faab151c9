/- Several texts laid together: DtC, DtD. -/
import Derived.Test.YtgnfbiohjdepcaaGreatDoorZBC
import Derived.Test.YtgnfbiohjdepcaaGreatDoorRdD
namespace Go.Proofs.YtgnfbiohjdepcaaGreatDoor
open Go.RowKit
def dvN (ws : List Int) (ps : List St) (es : List Int) (qs : List Se) : List Ino := if dvB ws ps es qs = true then inosOf (layW ws ps) 16 else []
def dvD (ws : List Int) (ps : List St) (es : List Int) (qs : List Se) : List Den := if dvB ws ps es qs = true then densOf (layW ws ps) 24 else []
theorem dv_not {ws : List Int} {ps : List St} {es : List Int} {qs : List Se} (h : (pmB ws ps && blkB es qs) = false) : dvB ws ps es qs = false ∧ dvN ws ps es qs = [] ∧ dvD ws ps es qs = [] := by
  have e : dvB ws ps es qs = false := by unfold dvB; rw [h]; rfl
  exact ⟨e, by unfold dvN; rw [e]; rfl, by unfold dvD; rw [e]; rfl⟩
theorem dv_form {ws : List Int} {ps : List St} {es : List Int} {qs : List Se} (h : (pmB ws ps && blkB es qs) = true) : dvB ws ps es qs = (riC ws ps == 0) ∧ dvN ws ps es qs = riN ws ps ∧ dvD ws ps es qs = riD ws ps := by
  have p : pmB ws ps = true := by rw [Bool.and_eq_true] at h; exact h.1
  have e : dvB ws ps es qs = riB (layW ws ps) := by unfold dvB; rw [h]; rfl
  cases q : riB (layW ws ps) with
  | false =>
    obtain ⟨a, b, c⟩ := ri_form p q
    rw [q] at e
    exact ⟨by rw [e, a]; rfl, by unfold dvN; rw [e, b]; rfl, by unfold dvD; rw [e, c]; rfl⟩
  | true =>
    obtain ⟨a, b, c⟩ := ri_ok p q
    rw [q] at e
    exact ⟨by rw [e, a]; rfl, by unfold dvN; rw [e, b]; rfl, by unfold dvD; rw [e, c]; rfl⟩
theorem rowim_set {w : World} {lo hi : Nat} {vI vD : Value} {xs : List Ino} {ds : List Den} {b : Nat} {cs : Array Value} {fr : Nat × Nat} (h1 : Row w 70 11 lo hi vI xs.length (inos xs)) (h2 : Row w 147 3 lo hi vD ds.length (dens ds)) (hb : w.heap[b]? = some (.cells cs 62 fr)) (v0 v1 : Value) : RowIm ((w.setCell ⟨b, 0, none⟩ v0).setCell ⟨b, 1, none⟩ v1) lo hi (.agg #[vI, vD]) xs ds := by
  have T1 := own_type h1.1 hb img_ino
  have T2 := own_type h2.1 hb img_den
  exact ⟨_, _, rfl, ⟨ownsRow_setCell_other (ownsRow_setCell_other h1.1 T1 _) T1 _, h1.2⟩, ⟨ownsRow_setCell_other (ownsRow_setCell_other h2.1 T2 _) T2 _, h2.2⟩⟩
set_option maxRecDepth 100000 in
set_option maxHeartbeats 4000000 in
theorem l08Image_any (v : Value) (ws : List Int) (ps : List St) (es : List Int) (qs : List Se) (w : World) (h : RdDev w v ws ps es qs) (hw : ws.length ≤ 1048576) (hp : ps.length ≤ 1048576) (he : es.length ≤ 1048576) (hq : qs.length ≤ 1048576) :
    Calls Tryz.prog 24 #[v] w fun e w' => ∃ v', e = .returned (.tuple #[v', .bool (dvB ws ps es qs)]) ∧ RowIm w' w.heap.size w'.heap.size v' (dvN ws ps es qs) (dvD ws ps es qs) ∧ Below w.heap.size w w' := by
  have LO := hideIt (fun w1 (hb : Below w.heap.size w w1) => specDevicesOK_any v ws ps es qs w1 (h.below hb) hw hp he hq)
  obtain ⟨aW, cW, aP, cP, aS, cS, aQ, cQ, rfl, h1, h2⟩ := h.form
  have LR := hideIt (fun w1 (hb : Below w.heap.size w w1) => specReadImage_any _ ws ps w1 (h1.below hb) hw hp)
  have NO := hideIt (fun q => dv_not (ws := ws) (ps := ps) (es := es) (qs := qs) q)
  have YES := hideIt (fun q => dv_form (ws := ws) (ps := ps) (es := es) (qs := qs) q)
  clear h h1 h2
  obtain ⟨W1, hW1⟩ : ∃ W1, W1 = (w.alloc (.cells #[.slice aW ws.length cW, .slice aP ps.length cP, .slice aS es.length cS, .slice aQ qs.length cQ] 41)).alloc (.cells #[.slice none 0 0, .slice none 0 0] 62) := ⟨_, rfl⟩
  have hz1 : W1.heap.size = w.heap.size + 1 + 1 := by rw [hW1]; simp
  have CA : Hid (∀ w', Below W1.heap.size W1 w' → w'.cell? ⟨w.heap.size, 0, none⟩ = some (.slice aW ws.length cW) ∧ w'.cell? ⟨w.heap.size, 1, none⟩ = some (.slice aP ps.length cP) ∧ w'.cell? ⟨w.heap.size, 2, none⟩ = some (.slice aS es.length cS) ∧ w'.cell? ⟨w.heap.size, 3, none⟩ = some (.slice aQ qs.length cQ)) := fun w' hb => by
    have : w'.heap[w.heap.size]? = some (.cells #[.slice aW ws.length cW, .slice aP ps.length cP, .slice aS es.length cS, .slice aQ qs.length cQ] 41 (0, 0)) := (hb.block _ (by omega)).trans (by rw [hW1]; exact at_old (at_new rfl))
    obtain ⟨x0, x1, x2, x3, -, -, -, -⟩ := four_cells this
    exact ⟨x0, x1, x2, x3⟩
  have CR : Hid (∀ w', Below W1.heap.size W1 w' → w'.heap[w.heap.size + 1]? = some (.cells #[.slice none 0 0, .slice none 0 0] 62 (0, 0))) := fun w' hb => (hb.block _ (by omega)).trans (by
    rw [hW1]
    have := at_new (w := w.alloc (.cells #[.slice aW ws.length cW, .slice aP ps.length cP, .slice aS es.length cS, .slice aQ qs.length cQ] 41)) (o := .cells #[.slice none 0 0, .slice none 0 0] 62) rfl
    rw [World.size_alloc] at this
    exact this)
  have BW : Hid (Below w.heap.size w W1) := by rw [hW1]; exact ((Below.refl _ _).alloc (Nat.le_refl _) _).alloc (by simp) _
  have hz0 : w.heap.size + 1 < W1.heap.size := by omega
  clear hz1
  obtain ⟨x0, x1, x2, x3⟩ := CA.out W1 (Below.refl _ _)
  generalize riC ws ps = rc at *
  generalize riN ws ps = rn at *
  generalize riD ws ps = rd at *
  generalize dvB ws ps es qs = db at *
  generalize dvN ws ps es qs = dn at *
  generalize dvD ws ps es qs = dd at *
  generalize (pmB ws ps && blkB es qs) = ok at *
  go_enter Tryz.func24, Tryz.ntmps24
  go_wp2_with fail
  rw [← hW1]
  clear hW1
  refine (LO.out _ BW.out).mono ?_
  rintro e w1 ⟨rfl, hb1⟩
  have B1 := hideIt hb1
  have B1w := hideIt (below_trans BW.out B1.out BW.out.size)
  clear x0 x1 x2 x3 hb1
  obtain ⟨x0, x1, x2, x3⟩ := CA.out w1 B1.out
  cases ok with
  | false =>
    obtain ⟨rfl, rfl, rfl⟩ := NO.out rfl
    have CB := hideIt (CR.out _ B1.out)
    obtain ⟨p0, p1, p2, p3⟩ := two_cells CB.out
    have BR : Hid (Below w.heap.size w ((w1.setCell ⟨w.heap.size + 1, 0, none⟩ (.slice none 0 0)).setCell ⟨w.heap.size + 1, 1, none⟩ (.slice none 0 0))) := (B1w.out.setCell (by simp only; omega) _).setCell (by simp only; omega) _
    clear NO YES
    go_wp2
    refine bodyPost_ret (v := .tuple #[.agg #[.slice none 0 0, .slice none 0 0], .bool false]) (by simp [results, Tryz.results24, go_sem, p0, p1]) rfl ?_
    exact ⟨_, rfl, rowim_nil _ _ _, BR.out⟩
  | true =>
    obtain ⟨rfl, rfl, rfl⟩ := YES.out rfl
    clear NO YES
    go_wp2_with fail
    refine (LR.out _ B1w.out).mono ?_
    rintro e w2 ⟨v2, rfl, ⟨vI, vD, rfl, hI, hD⟩, hb2⟩
    obtain ⟨-, a1, c1, hv1, -⟩ := hI.rd
    obtain ⟨-, a2, c2, hv2, -⟩ := hD.rd
    subst hv1
    subst hv2
    have HI := hideIt hI
    have HD := hideIt hD
    have B2 := hideIt (bel2 B1.out hb2)
    have B3 : Hid (Below W1.heap.size W1 (w2.alloc (.cells #[.slice a1 dn.length c1, .slice a2 dd.length c2] 62))) := below_allocB B2.out _
    have hz12 : W1.heap.size ≤ w1.heap.size := B1.out.size
    have hz2 : w1.heap.size ≤ w2.heap.size := hb2.size
    have hzw : w.heap.size ≤ w1.heap.size := B1w.out.size
    clear x0 x1 x2 x3 hb2 hI hD
    obtain ⟨y0, y1, _, _⟩ := two_cells (at_new (w := w2) (o := .cells #[.slice a1 dn.length c1, .slice a2 dd.length c2] 62) rfl)
    obtain ⟨w3, hw3⟩ : ∃ w3, w3 = w2.alloc (.cells #[.slice a1 dn.length c1, .slice a2 dd.length c2] 62) := ⟨_, rfl⟩
    have BC : Hid (Below w2.heap.size w2 w3) := by rw [hw3]; exact (Below.refl _ _).alloc (Nat.le_refl _) _
    rw [← hw3] at B3 y0 y1
    have HI3 := hideIt (HI.out.below BC.out (Nat.le_refl _))
    have HD3 := hideIt (HD.out.below BC.out (Nat.le_refl _))
    have hz3 : w2.heap.size ≤ w3.heap.size := BC.out.size
    have CB := hideIt (CR.out _ B3.out)
    obtain ⟨p0, p1, p2, p3⟩ := two_cells CB.out
    have BR : Hid (Below w.heap.size w ((w3.setCell ⟨w.heap.size + 1, 0, none⟩ (.slice a1 dn.length c1)).setCell ⟨w.heap.size + 1, 1, none⟩ (.slice a2 dd.length c2))) := ((below_trans BW.out B3.out BW.out.size).setCell (by simp only; omega) _).setCell (by simp only; omega) _
    have RF := hideIt (rowim_wide (rowim_set HI3.out HD3.out CB.out (.slice a1 dn.length c1) (.slice a2 dd.length c2)) (lo' := w.heap.size) (hi' := ((w3.setCell ⟨w.heap.size + 1, 0, none⟩ (.slice a1 dn.length c1)).setCell ⟨w.heap.size + 1, 1, none⟩ (.slice a2 dd.length c2)).heap.size) (by omega) (by simp; omega))
    clear CB HI HD HI3 HD3 BC B3 B2 LR LO CA CR
    subst hw3
    go_wp2
    refine bodyPost_ret (v := .tuple #[.agg #[.slice a1 dn.length c1, .slice a2 dd.length c2], .bool (rc == 0)]) (by simp [results, Tryz.results24, go_sem, p0, p1]) rfl ?_
    exact ⟨_, rfl, RF.out, BR.out⟩
end Go.Proofs.YtgnfbiohjdepcaaGreatDoor

namespace Go.Proofs.YtgnfbiohjdepcaaGreatDoor
open Go.RowKit
set_option maxRecDepth 100000 in
set_option maxHeartbeats 8000000 in
theorem l08Read_any (vd v : Value) (ws : List Int) (ps : List St) (es : List Int) (qs : List Se) (ns : List Ino) (ds : List Den) (s : ByteArray) (page : Int) (w : World) (hd : RdDev w vd ws ps es qs) (hP : pmB ws ps = true) (hB : blkB es qs = true) (h : RdIm w v ns ds) (hi : imgB ns ds = true) (hs : s.size ≤ 65536) :
    Calls Tryz.prog 25 #[vd, v, .string s, .int .i64 page] w fun e w' => e = .returned (.tuple #[.int .i64 (rpI ws ps es qs ns ds s page).1, .int .i64 (rpI ws ps es qs ns ds s page).2]) ∧ Below w.heap.size w w' := by
  have LV := hideIt (fun w1 (hb : Below w.heap.size w w1) z (hz : tieB z = true) => l08Value_any vd ws ps es qs z w1 (hd.below hb) hP hB hz)
  have LL := hideIt (fun w1 (hb : Below w.heap.size w w1) => l08File_any v ns ds s w1 (h.below hb) hi hs)
  have EL := hideIt (show rpI ws ps es qs ns ds s page = if (flI ns ds s).2 = 0 then rpF ws ps es qs ns (flI ns ds s).1 page else (0, (flI ns ds s).2) from rfl)
  have LO := hideIt (fun c => fl_file (s := s) (img_iff.1 hi) c)
  have EF := hideIt (fun i => show rpF ws ps es qs ns i page = if 0 ≤ page ∧ page < sizeAt ns i then (pgV ws ps es qs (pageAt ns i page), 0) else (0, 4) from rfl)
  have SZ : Hid (∀ i : Nat, i < 16 → 0 ≤ sizeAt ns (i : Int) ∧ sizeAt ns (i : Int) ≤ 8) := fun i hk => (ino_parts ((img_iff.1 hi).ok i hk)).2.1
  have TI : Hid (∀ i : Nat, i < 16 → ∀ j : Nat, j < 8 → tieB (pageAt ns (i : Int) (j : Int)) = true) := fun i hk j hj => by
    refine (ino_ties ((img_iff.1 hi).ok i hk)).1 _ ?_
    show (inoAt ns i).map.getD j 0 ∈ _
    rw [List.getD_eq_getElem?_getD, List.getElem?_eq_getElem (show j < (inoAt ns i).map.length from hj)]
    exact List.getElem_mem _
  obtain ⟨l16, l24, _⟩ := pimg_all hi
  have L16 := hideIt l16
  obtain ⟨dW, eW, dP, eP, dS, eS, dQ, eQ, rfl, -, -⟩ := hd.form
  obtain ⟨vW, vP, rfl, h1, h2⟩ := h
  obtain ⟨aW, cW, rfl, _, hcW⟩ := h1.shape
  obtain ⟨aP, cP, rfl, _, hcP⟩ := h2.shape
  obtain ⟨bW, oW, rfl, hblW, hcellW⟩ := hcW (by omega)
  have HM : Hid (∀ k, k < 16 → ∀ w', Below w.heap.size w w' → w'.cell? ⟨bW, oW + k * 11 + 1, none⟩ = some (.int .i64 (sizeAt ns (k : Int))) ∧ ∀ j, j < 8 → w'.cell? ⟨bW, oW + k * 11 + 3 + j, none⟩ = some (.int .i64 (pageAt ns (k : Int) (j : Int)))) := fun k hk w' hb => by
    unfold sizeAt pageAt
    rw [Int.toNat_natCast, inoAt_of (by omega : k < ns.length)]
    obtain ⟨a0, a1, a2, a3, a4, a5, a6, a7, a8, a9, a10⟩ := hcellW k (by omega)
    refine ⟨(hb.cell (p := ⟨bW, oW + k * 11 + 1, none⟩) hblW).trans a1, fun j hj => ?_⟩
    rw [Int.toNat_natCast]
    rcases (show j = 0 ∨ j = 1 ∨ j = 2 ∨ j = 3 ∨ j = 4 ∨ j = 5 ∨ j = 6 ∨ j = 7 by omega) with rfl | rfl | rfl | rfl | rfl | rfl | rfl | rfl
    · exact (hb.cell (p := ⟨bW, oW + k * 11 + 3, none⟩) hblW).trans a3
    · exact (hb.cell (p := ⟨bW, oW + k * 11 + 4, none⟩) hblW).trans a4
    · exact (hb.cell (p := ⟨bW, oW + k * 11 + 5, none⟩) hblW).trans a5
    · exact (hb.cell (p := ⟨bW, oW + k * 11 + 6, none⟩) hblW).trans a6
    · exact (hb.cell (p := ⟨bW, oW + k * 11 + 7, none⟩) hblW).trans a7
    · exact (hb.cell (p := ⟨bW, oW + k * 11 + 8, none⟩) hblW).trans a8
    · exact (hb.cell (p := ⟨bW, oW + k * 11 + 9, none⟩) hblW).trans a9
    · exact (hb.cell (p := ⟨bW, oW + k * 11 + 10, none⟩) hblW).trans a10
  clear h1 h2 hi hs hcW hcP hcellW l16 l24 hd hP hB
  obtain ⟨W, hW⟩ : ∃ W, W = (w.alloc (.cells #[.slice dW ws.length eW, .slice dP ps.length eP, .slice dS es.length eS, .slice dQ qs.length eQ] 41)).alloc (.cells #[.slice (some ⟨bW, oW, none⟩) ns.length cW, .slice aP ds.length cP] 62) := ⟨_, rfl⟩
  have hzW : W.heap.size = w.heap.size + 1 + 1 := by rw [hW]; simp
  have CD : Hid (∀ w', Below W.heap.size W w' → w'.cell? ⟨w.heap.size, 0, none⟩ = some (.slice dW ws.length eW) ∧ w'.cell? ⟨w.heap.size, 1, none⟩ = some (.slice dP ps.length eP) ∧ w'.cell? ⟨w.heap.size, 2, none⟩ = some (.slice dS es.length eS) ∧ w'.cell? ⟨w.heap.size, 3, none⟩ = some (.slice dQ qs.length eQ)) := fun w' hb => by
    have : w'.heap[w.heap.size]? = some (.cells #[.slice dW ws.length eW, .slice dP ps.length eP, .slice dS es.length eS, .slice dQ qs.length eQ] 41 (0, 0)) := (hb.block _ (by omega)).trans (by rw [hW]; exact at_old (at_new rfl))
    obtain ⟨x0, x1, x2, x3, -, -, -, -⟩ := four_cells this
    exact ⟨x0, x1, x2, x3⟩
  have CA : Hid (∀ w', Below W.heap.size W w' → w'.cell? ⟨w.heap.size + 1, 0, none⟩ = some (.slice (some ⟨bW, oW, none⟩) ns.length cW) ∧ w'.cell? ⟨w.heap.size + 1, 1, none⟩ = some (.slice aP ds.length cP)) := fun w' hb => by
    have : w'.heap[w.heap.size + 1]? = some (.cells #[.slice (some ⟨bW, oW, none⟩) ns.length cW, .slice aP ds.length cP] 62 (0, 0)) := (hb.block _ (by omega)).trans (by
      rw [hW]
      have := at_new (w := w.alloc (.cells #[.slice dW ws.length eW, .slice dP ps.length eP, .slice dS es.length eS, .slice dQ qs.length eQ] 41)) (o := .cells #[.slice (some ⟨bW, oW, none⟩) ns.length cW, .slice aP ds.length cP] 62) rfl
      rw [World.size_alloc] at this
      exact this)
    exact ⟨(two_cells this).1, (two_cells this).2.1⟩
  have BW : Hid (Below w.heap.size w W) := by rw [hW]; exact ((Below.refl _ _).alloc (Nat.le_refl _) _).alloc (by simp) _
  obtain ⟨x0, x1⟩ := CA.out _ (Below.refl _ _)
  have hz : w.heap.size + 1 < W.heap.size := by omega
  clear hzW
  generalize rpI ws ps es qs ns ds s page = res at *
  generalize flI ns ds s = lr at *
  obtain ⟨li, lc⟩ := lr
  simp only at EL LO LL
  go_enter Tryz.func25, Tryz.ntmps25
  go_wp2_with fail
  rw [← hW]
  clear hW x0 x1
  refine (LL.out _ BW.out).mono ?_
  rintro e w1 ⟨rfl, hb1⟩
  have A1 := hideIt hb1
  have B1 := hideIt (below_trans BW.out A1.out BW.out.size)
  clear hb1 LL
  by_cases c : lc = 0
  case neg =>
    rw [if_neg c] at EL
    obtain rfl := EL.out
    have q : (lc != 0) = true := by rw [bne_iff_ne]; exact c
    clear EL LO c
    go_wp2
    go_ret2
    exact ⟨rfl, B1.out⟩
  subst c
  rw [if_pos rfl] at EL
  obtain ⟨i, i16, ei, -⟩ := LO.out rfl
  subst ei
  rw [EF.out] at EL
  have HMi := hideIt (HM.out i i16)
  have TIi := hideIt (TI.out i i16)
  obtain ⟨z0, z8⟩ := SZ.out i i16
  have i1 : i < ns.length := by have := L16.out; omega
  have i0 : (0 : Int) ≤ (i : Int) := by omega
  have il : (i : Int) < (ns.length : Int) := by omega
  clear HM EF LO L16 SZ TI
  obtain ⟨x0, x1⟩ := CA.out _ A1.out
  have y0 := (HMi.out _ B1.out).1
  generalize sizeAt ns (i : Int) = sz at *
  by_cases c : 0 ≤ page ∧ page < sz
  case neg =>
    rw [if_neg c] at EL
    obtain rfl := EL.out
    clear EL
    go_wp2_with fail
    refine (l01In_no _ _ _ _ (by omega)).mono ?_
    rintro e w' ⟨rfl, hw'⟩
    subst w'
    go_wp2
    go_ret2
    exact ⟨rfl, B1.out⟩
  rw [if_pos c] at EL
  obtain ⟨j, rfl⟩ : ∃ j : Nat, page = (j : Int) := ⟨page.toNat, by omega⟩
  have j8 : j < 8 := by omega
  have te := hideIt (TIi.out j j8)
  have LV2 := hideIt (fun w1 hb => LV.out w1 hb _ te.out)
  have j0 : (0 : Int) ≤ (j : Int) := by omega
  have j1 : (j : Int) < 8 := by omega
  have KE : Hid (∀ w', Below W.heap.size W w' → w'.cell? ⟨w.heap.size, 0, none⟩ = some (.slice dW ws.length eW) ∧ w'.cell? ⟨w.heap.size, 1, none⟩ = some (.slice dP ps.length eP) ∧ w'.cell? ⟨w.heap.size, 2, none⟩ = some (.slice dS es.length eS) ∧ w'.cell? ⟨w.heap.size, 3, none⟩ = some (.slice dQ qs.length eQ) ∧ w'.cell? ⟨w.heap.size + 1, 0, none⟩ = some (.slice (some ⟨bW, oW, none⟩) ns.length cW) ∧ w'.cell? ⟨bW, oW + i * 11 + 3 + j, none⟩ = some (.int .i64 (pageAt ns (i : Int) (j : Int)))) := fun w' hb =>
    ⟨(CD.out w' hb).1, (CD.out w' hb).2.1, (CD.out w' hb).2.2.1, (CD.out w' hb).2.2.2, (CA.out w' hb).1, (HMi.out w' (below_trans BW.out hb BW.out.size)).2 j j8⟩
  generalize pageAt ns (i : Int) (j : Int) = pz at *
  go_wp2_with fail
  refine (l01In_yes _ _ _ _ (by omega)).mono ?_
  rintro e w' ⟨rfl, hw'⟩
  subst w'
  clear c y0 HMi TIi te LV CD CA x0 x1
  obtain ⟨x0, x1, x2, x3, x4, x5⟩ := KE.out _ A1.out
  go_wp2_with fail
  go_region_held3 (fun w' => w'.cell? ⟨w.heap.size, 0, none⟩ = some (.slice dW ws.length eW) ∧ w'.cell? ⟨w.heap.size, 1, none⟩ = some (.slice dP ps.length eP) ∧ w'.cell? ⟨w.heap.size, 2, none⟩ = some (.slice dS es.length eS) ∧ w'.cell? ⟨w.heap.size, 3, none⟩ = some (.slice dQ qs.length eQ) ∧ w'.cell? ⟨w.heap.size + 1, 0, none⟩ = some (.slice (some ⟨bW, oW, none⟩) ns.length cW) ∧ w'.cell? ⟨bW, oW + i * 11 + 3 + j, none⟩ = some (.int .i64 pz))
    (first | with_reducible exact KE.out _ A2.out | with_reducible exact KE.out _ A1.out | with_reducible exact KE.out _ A1.out.drew)
    (first
      | (go_at_call 53; refine (LV2.out _ (by first | with_reducible exact B1.out | with_reducible exact B1.out.drew)).mono ?_; rintro e w2 ⟨rfl, hb2⟩; have A2 := hideIt (below_trans A1.out (below_of_drew hb2) A1.out.size); have B2 := hideIt (below_trans B1.out (below_of_drew hb2) B1.out.size); clear hb2; obtain ⟨r0, r1, r2, r3, r4, r5⟩ := KE.out _ A2.out))
  all_goals
    obtain rfl := EL.out
    go_wp2
    go_ret2
    exact ⟨rfl, B2.out⟩
theorem dv_yes {ws : List Int} {ps : List St} {es : List Int} {qs : List Se} (h : dvB ws ps es qs = true) : pmB ws ps = true ∧ blkB es qs = true ∧ dvN ws ps es qs = inosOf (layW ws ps) 16 ∧ dvD ws ps es qs = densOf (layW ws ps) 24 ∧ imgB (inosOf (layW ws ps) 16) (densOf (layW ws ps) 24) = true := by
  have q := h
  unfold dvB at q
  rw [Bool.and_eq_true, Bool.and_eq_true] at q
  obtain ⟨⟨a, b⟩, r⟩ := q
  unfold riB at r
  rw [Bool.and_eq_true, Bool.and_eq_true] at r
  exact ⟨a, b, by unfold dvN; rw [if_pos h], by unfold dvD; rw [if_pos h], r.2.2⟩
set_option maxRecDepth 100000 in
set_option maxHeartbeats 8000000 in
theorem specReadPage_any (v : Value) (ws : List Int) (ps : List St) (es : List Int) (qs : List Se) (s : ByteArray) (page : Int) (w : World) (h : RdDev w v ws ps es qs) (hw : ws.length ≤ 1048576) (hp : ps.length ≤ 1048576) (he : es.length ≤ 1048576) (hq : qs.length ≤ 1048576) :
    Calls Tryz.prog 7 #[v, .string s, .int .i64 page] w fun e w' => e = .returned (.tuple #[.int .i64 (rpR ws ps es qs s page).1, .int .i64 (rpR ws ps es qs s page).2]) ∧ Below w.heap.size w w' := by
  have LI := hideIt (fun w1 (hb : Below w.heap.size w w1) => l08Image_any v ws ps es qs w1 (h.below hb) hw hp he hq)
  have LR := hideIt (fun (d : dvB ws ps es qs = true) (hs : s.size ≤ 65536) v2 w1 (hb : Below w.heap.size w w1) (h2 : RdIm w1 v2 (dvN ws ps es qs) (dvD ws ps es qs)) => l08Read_any v v2 ws ps es qs (dvN ws ps es qs) (dvD ws ps es qs) s page w1 (h.below hb) (dv_yes d).1 (dv_yes d).2.1 h2 (by rw [(dv_yes d).2.2.1, (dv_yes d).2.2.2.1]; exact (dv_yes d).2.2.2.2) hs)
  have EL : Hid (rpR ws ps es qs s page = if 65536 < s.size then (0, 2) else if dvB ws ps es qs = true then rpI ws ps es qs (dvN ws ps es qs) (dvD ws ps es qs) s page else (0, 1)) := by
    unfold Hid rpR
    by_cases c : 65536 < s.size
    · rw [if_pos c, if_pos c]
    · rw [if_neg c, if_neg c]
      by_cases d : dvB ws ps es qs = true
      · rw [if_pos d, if_pos d, (dv_yes d).2.2.1, (dv_yes d).2.2.2.1]
      · rw [if_neg d, if_neg d]
  obtain ⟨dW, eW, dP, eP, dS, eS, dQ, eQ, rfl, -, -⟩ := h.form
  clear h
  obtain ⟨W, hW⟩ : ∃ W, W = w.alloc (.cells #[.slice dW ws.length eW, .slice dP ps.length eP, .slice dS es.length eS, .slice dQ qs.length eQ] 41) := ⟨_, rfl⟩
  have CD : Hid (∀ w', Below W.heap.size W w' → w'.cell? ⟨w.heap.size, 0, none⟩ = some (.slice dW ws.length eW) ∧ w'.cell? ⟨w.heap.size, 1, none⟩ = some (.slice dP ps.length eP) ∧ w'.cell? ⟨w.heap.size, 2, none⟩ = some (.slice dS es.length eS) ∧ w'.cell? ⟨w.heap.size, 3, none⟩ = some (.slice dQ qs.length eQ)) := fun w' hb => by
    have : w'.heap[w.heap.size]? = some (.cells #[.slice dW ws.length eW, .slice dP ps.length eP, .slice dS es.length eS, .slice dQ qs.length eQ] 41 (0, 0)) := (hb.block _ (by rw [hW]; simp)).trans (by rw [hW]; exact at_new rfl)
    obtain ⟨x0, x1, x2, x3, -, -, -, -⟩ := four_cells this
    exact ⟨x0, x1, x2, x3⟩
  have BW : Hid (Below w.heap.size w W) := by rw [hW]; exact (Below.refl _ _).alloc (Nat.le_refl _) _
  obtain ⟨x0, x1, x2, x3⟩ := CD.out _ (Below.refl _ _)
  generalize dvB ws ps es qs = db at *
  generalize dvN ws ps es qs = dn at *
  generalize dvD ws ps es qs = dd at *
  generalize rpR ws ps es qs s page = res at *
  generalize rpI ws ps es qs dn dd s page = ri at *
  by_cases c1 : 65536 < s.size
  · rw [if_pos c1] at EL
    have c2 : (s.size : Int) > 65536 := by omega
    obtain rfl := EL.out
    clear EL c1 LI LR
    go_enter Tryz.func7, Tryz.ntmps7
    go_wp2
    go_ret2
    rw [← hW]
    exact ⟨rfl, BW.out⟩
  rw [if_neg c1] at EL
  have c2 : ¬ (s.size : Int) > 65536 := by omega
  have LR2 := hideIt (fun d v2 w1 hb h2 => LR.out d (by omega) v2 w1 hb h2)
  clear LR c1
  go_enter Tryz.func7, Tryz.ntmps7
  go_wp2_with fail
  rw [← hW]
  clear hW
  refine (LI.out _ BW.out).mono ?_
  rintro e w1 ⟨v1, rfl, hR, hb1⟩
  have HR := hideIt hR
  obtain ⟨vI, vD, rfl, hI, hD⟩ := hR
  obtain ⟨-, a1, k1, hv1, -⟩ := hI.rd
  obtain ⟨-, a2, k2, hv2, -⟩ := hD.rd
  subst hv1
  subst hv2
  have A1 := hideIt hb1
  have B1 := hideIt (below_trans BW.out hb1 BW.out.size)
  have BC : Hid (Below w1.heap.size w1 (w1.alloc (.cells #[.slice a1 dn.length k1, .slice a2 dd.length k2] 62))) := (Below.refl _ _).alloc (Nat.le_refl _) _
  have A2 := hideIt (bel2 A1.out BC.out)
  have B2 := hideIt (below_trans B1.out BC.out B1.out.size)
  have R2 := hideIt (HR.out.below BC.out (Nat.le_refl _)).rd
  obtain ⟨y0, y1, _, _⟩ := two_cells (at_new (w := w1) (o := .cells #[.slice a1 dn.length k1, .slice a2 dd.length k2] 62) rfl)
  clear hI hD hb1 HR x0 x1 x2 x3 BC
  obtain ⟨x0, x1, x2, x3⟩ := CD.out _ A2.out
  cases db with
  | false =>
    obtain rfl := EL.out
    clear EL LR2
    go_wp2
    go_ret2
    exact ⟨rfl, B2.out⟩
  | true =>
    rw [if_pos rfl] at EL
    obtain rfl := EL.out
    have LR3 := hideIt (LR2.out rfl _ _ B2.out R2.out)
    clear EL LR2
    go_wp2_with fail
    refine LR3.out.mono ?_
    rintro e w3 ⟨rfl, hb3⟩
    have B3 := hideIt (below_trans B2.out hb3 B2.out.size)
    clear hb3
    go_wp2
    go_ret2
    exact ⟨rfl, B3.out⟩
end Go.Proofs.YtgnfbiohjdepcaaGreatDoor
