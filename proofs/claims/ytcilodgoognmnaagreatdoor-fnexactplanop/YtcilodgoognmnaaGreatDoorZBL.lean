/- Several texts laid together: DuC, DtF. -/
import Derived.Test.YtcilodgoognmnaaGreatDoorZBK
import Derived.Test.YtcilodgoognmnaaGreatDoorZAT
import Derived.Test.YtcilodgoognmnaaGreatDoorZAB
import Derived.Deep.RegionHeld3
import Derived.Test.YtcilodgoognmnaaGreatDoorZBA
namespace Go.Proofs.YtcilodgoognmnaaGreatDoor
open Go.RowKit

theorem load_page {ws : List Int} {ps : List St} (h : pmB ws ps = true) {k : Nat} (hk : k < 24) : loadV ws ps (312 + (k : Int)) = ldW ws ps (312 + k) ∧ askC ws ps (312 + (k : Int)) = 0 := by
  have p : placeB (312 + (k : Int)) = true := decide_eq_true (by omega)
  have a : askC ws ps (312 + (k : Int)) = 0 := by unfold askC; rw [h, p]; rfl
  refine ⟨?_, a⟩
  unfold loadV ldW
  rw [if_pos a, show (312 + (k : Int)).toNat = 312 + k by omega, show ((312 + k : Nat) : Int) = 312 + (k : Int) by omega]
theorem read_page {es : List Int} {qs : List Se} (h : blkB es qs = true) {k : Nat} (hk : k < 32) : readV es qs (k : Int) = lastE (k : Int) (es[k]?.getD 0) qs ∧ askE es qs (k : Int) = 0 := by
  have p : secB (k : Int) = true := decide_eq_true (by omega)
  have a : askE es qs (k : Int) = 0 := by unfold askE; rw [h, p]; rfl
  refine ⟨?_, a⟩
  unfold readV
  rw [if_pos a, Int.toNat_natCast]

set_option maxRecDepth 100000 in
set_option maxHeartbeats 4000000 in
theorem wordOfE_any (v : Value) (ws : List Int) (ps : List St) (es : List Int) (qs : List Se) (e : Int) (w : World) (h : RdDev w v ws ps es qs) (hP : pmB ws ps = true) (hB : blkB es qs = true) (te : tieB e = true) (hT : TS w) (hN : NW w) :
    Calls Tryz.prog 49 #[v, .int .i64 e] w fun r w' => r = .returned (.int .i64 (pgV ws ps es qs e)) ∧ Below w.heap.size w w' := by
  obtain ⟨aW, cW, aP, cP, aS, cS, aQ, cQ, rfl, h1, h2⟩ := h.form
  have te' : 0 ≤ e ∧ ((e % 4 = 0 ∧ e / 4 = 0) ∨ (e % 4 = 1 ∧ 0 ≤ e / 4 ∧ e / 4 < 24) ∨ (e % 4 = 2 ∧ 0 ≤ e / 4 ∧ e / 4 < 32)) := by
    unfold tieB addrB at te
    rw [Bool.and_eq_true, decide_eq_true_eq, decide_eq_true_eq] at te
    exact te
  have wl := pmB_len hP
  have el := blkB_len hB
  have BW : Hid (Below w.heap.size w (w.alloc (.cells #[.slice aW ws.length cW, .slice aP ps.length cP, .slice aS es.length cS, .slice aQ qs.length cQ] 41))) := (Below.refl _ _).alloc (Nat.le_refl _) _
  have LT : Hid (∀ w1, Below w.heap.size w w1 → Calls Tryz.prog 100 #[.int .i64 e] w1 fun r w' => r = .returned (.tuple #[.int .i64 (e % 4), .int .i64 (e / 4), .int .i64 0]) ∧ w' = w1) := fun w1 hb => by
    have q := implTierOf_any e w1 (hT.below hb) (by omega) (by omega)
    rw [(tie_in te).1, (tie_in te).2.1, (tie_in te).2.2] at q
    exact q
  have EV := hideIt (show pgV ws ps es qs e = if e % 4 = 1 then ldW ws ps (312 + e / 4).toNat else if e % 4 = 2 then lastE (e / 4) (es[(e / 4).toNat]?.getD 0) qs else 0 from rfl)
  have L1 : Hid (∀ (k : Nat), k < 24 → ∀ w1, Below w.heap.size w w1 → Calls Tryz.prog 101 #[.agg #[.slice aW ws.length cW, .slice aP ps.length cP], .int .i64 (312 + (k : Int))] w1 fun r w' => r = .returned (.tuple #[.int .i64 (ldW ws ps (312 + k)), .int .i64 0]) ∧ Below w1.heap.size w1 w') := fun k hk w1 hb => by
    have := implPmLoad_any _ ws ps (312 + (k : Int)) w1 (h1.below hb) (by omega) (by omega)
    rw [(load_page hP hk).1, (load_page hP hk).2] at this
    exact this
  have L2 : Hid (∀ (k : Nat), k < 32 → ∀ w1, Below w.heap.size w w1 → Calls Tryz.prog 102 #[.agg #[.slice aS es.length cS, .slice aQ qs.length cQ], .int .i64 (k : Int)] w1 fun r w' => r = .returned (.tuple #[.int .i64 (lastE (k : Int) (es[k]?.getD 0) qs), .int .i64 0]) ∧ Below w1.heap.size w1 w') := fun k hk w1 hb => by
    have := implBlkRead_any _ es qs (k : Int) w1 (h2.below hb) (hN.below hb) (by omega) (by omega)
    rw [(read_page hB hk).1, (read_page hB hk).2] at this
    exact this
  clear h h1 h2 te hP hB wl el hT hN
  generalize pgV ws ps es qs e = r at *
  generalize e % 4 = t at *
  generalize e / 4 = a at *
  rcases te'.2 with ⟨rfl, rfl⟩ | ⟨rfl, a0, a1⟩ | ⟨rfl, a0, a1⟩
  · rw [if_neg (by omega), if_neg (by omega)] at EV
    obtain rfl := EV.out
    clear te' L1 L2 EV
    go_enter Tryz.func49, Tryz.ntmps49
    go_wp2_with fail
    refine (LT.out _ BW.out).mono ?_
    rintro r w1 ⟨rfl, hw1⟩
    subst w1
    go_wp2
    go_ret
    exact ⟨rfl, BW.out⟩
  · obtain ⟨k, rfl⟩ : ∃ k : Nat, a = (k : Int) := ⟨a.toNat, by omega⟩
    rw [if_pos rfl, show (312 + (k : Int)).toNat = 312 + k by omega] at EV
    obtain rfl := EV.out
    have k24 : k < 24 := by omega
    have Q := hideIt (L1.out k k24)
    clear te' L1 L2 EV a0 a1
    go_enter Tryz.func49, Tryz.ntmps49
    go_wp2_with fail
    refine (LT.out _ BW.out).mono ?_
    rintro r w1 ⟨rfl, hw1⟩
    subst w1
    go_wp2_with fail
    refine (Q.out _ BW.out).mono ?_
    rintro r w2 ⟨rfl, hb2⟩
    have B2 := hideIt (below_trans BW.out hb2 BW.out.size)
    clear hb2
    go_wp2
    go_ret
    exact ⟨rfl, B2.out⟩
  · obtain ⟨k, rfl⟩ : ∃ k : Nat, a = (k : Int) := ⟨a.toNat, by omega⟩
    rw [if_neg (by omega), if_pos rfl, Int.toNat_natCast] at EV
    obtain rfl := EV.out
    have k32 : k < 32 := by omega
    have Q := hideIt (L2.out k k32)
    clear te' L1 L2 EV a0 a1
    go_enter Tryz.func49, Tryz.ntmps49
    go_wp2_with fail
    refine (LT.out _ BW.out).mono ?_
    rintro r w1 ⟨rfl, hw1⟩
    subst w1
    go_wp2_with fail
    refine (Q.out _ BW.out).mono ?_
    rintro r w2 ⟨rfl, hb2⟩
    have B2 := hideIt (below_trans BW.out hb2 BW.out.size)
    clear hb2
    go_wp2
    go_ret
    exact ⟨rfl, B2.out⟩


/-- What is read, by the file of the path. -/
theorem rp_form {ws : List Int} {ps : List St} {es : List Int} {qs : List Se} {s : ByteArray} {page : Int} : rpR ws ps es qs s page = if (flR (dvN ws ps es qs) (dvD ws ps es qs) s).2 = 0 then rpF ws ps es qs (dvN ws ps es qs) (flR (dvN ws ps es qs) (dvD ws ps es qs) s).1 page else (0, (flR (dvN ws ps es qs) (dvD ws ps es qs) s).2) := by
  unfold rpR flR
  rw [dv_img]
  by_cases c : 65536 < s.size
  · rw [if_pos c, if_pos c]
    rfl
  · rw [if_neg c, if_neg c]
    by_cases d : dvB ws ps es qs = true
    · rw [if_pos d, if_pos d, ← (dv_yes d).2.2.1, ← (dv_yes d).2.2.2.1]
      rfl
    · rw [if_neg d, if_neg d]
      rfl
theorem dv_fl {ws : List Int} {ps : List St} {es : List Int} {qs : List Se} {s : ByteArray} (h : (flR (dvN ws ps es qs) (dvD ws ps es qs) s).2 = 0) : pmB ws ps = true ∧ blkB es qs = true ∧ imgB (dvN ws ps es qs) (dvD ws ps es qs) = true ∧ ∃ i : Nat, i < 16 ∧ (flR (dvN ws ps es qs) (dvD ws ps es qs) s).1 = (i : Int) := by
  obtain ⟨hi, -, e⟩ := fl_right h
  have d : dvB ws ps es qs = true := by rw [← dv_img]; exact hi
  rw [e] at h ⊢
  obtain ⟨i, h16, ei, -⟩ := fl_file (img_iff.1 hi) h
  exact ⟨(dv_yes d).1, (dv_yes d).2.1, hi, i, h16, ei⟩
/-- The box of a file. -/
def Ino.fa (x : Ino) (i : Int) : List Value := [.int .i64 x.kind, .int .i64 x.size, .int .i64 x.links, .int .i64 x.m0, .int .i64 x.m1, .int .i64 x.m2, .int .i64 x.m3, .int .i64 x.m4, .int .i64 x.m5, .int .i64 x.m6, .int .i64 x.m7, .int .i64 i]
theorem Ino.faM (x : Ino) (i : Int) (m : Nat) (hm : m < 8) : (x.fa i)[3 + m]? = some (.int .i64 (x.map.getD m 0)) := by
  rcases (show m = 0 ∨ m = 1 ∨ m = 2 ∨ m = 3 ∨ m = 4 ∨ m = 5 ∨ m = 6 ∨ m = 7 by omega) with rfl | rfl | rfl | rfl | rfl | rfl | rfl | rfl <;> rfl

set_option maxRecDepth 100000 in
set_option maxHeartbeats 8000000 in
theorem implReadPage_any (v : Value) (ws : List Int) (ps : List St) (es : List Int) (qs : List Se) (s : ByteArray) (page : Int) (w : World) (h : RdDev w v ws ps es qs) (hw : ws.length ≤ 1048576) (hp : ps.length ≤ 1048576) (he : es.length ≤ 1048576) (hq : qs.length ≤ 1048576) (hT : TS w) (hE : ED w) (hF : FD w) (hN : NW w) :
    Calls Tryz.prog 11 #[v, .string s, .int .i64 page] w fun e w' => e = .returned (.tuple #[.int .i64 (rpR ws ps es qs s page).1, .int .i64 (rpR ws ps es qs s page).2]) ∧ Below w.heap.size w w' := by
  have LI := hideIt (fun w1 (hb : Below w.heap.size w w1) => seenImage_any v ws ps es qs w1 (h.below hb) hw hp he hq (hT.below hb) (hE.below hb) (hF.below hb))
  have LF := hideIt (fun v2 w1 (hb : Below w.heap.size w w1) h2 => findFile_any v2 (dvN ws ps es qs) (dvD ws ps es qs) s w1 h2 (dv_len ws ps es qs).1 (dv_len ws ps es qs).2 (hT.below hb) (hE.below hb) (hF.below hb) dv_R dv_name)
  have LV := hideIt (fun hP hB w1 (hb : Below w.heap.size w w1) z (hz : tieB z = true) => wordOfE_any v ws ps es qs z w1 (h.below hb) hP hB hz (hT.below hb) (hN.below hb))
  have EL := hideIt (rp_form (ws := ws) (ps := ps) (es := es) (qs := qs) (s := s) (page := page))
  have FL := hideIt (fun h => dv_fl (ws := ws) (ps := ps) (es := es) (qs := qs) (s := s) h)
  have EF : Hid (∀ i : Nat, ∀ x, x = inoAt (dvN ws ps es qs) i → rpF ws ps es qs (dvN ws ps es qs) (i : Int) page = if 0 ≤ page ∧ page < x.size then (pgV ws ps es qs (x.map.getD page.toNat 0), 0) else (0, 4)) := fun i x e => by rw [e]; rfl
  have OK : Hid (imgB (dvN ws ps es qs) (dvD ws ps es qs) = true → ∀ i : Nat, i < 16 → ∀ x, x = inoAt (dvN ws ps es qs) i → (0 ≤ x.size ∧ x.size ≤ 8) ∧ ∀ j : Nat, j < 8 → tieB (x.map.getD j 0) = true) := fun hi i h16 x e => by
    have q := (img_iff.1 hi).ok i h16
    rw [← e] at q
    refine ⟨(ino_parts q).2.1, fun j hj => (ino_ties q).1 _ ?_⟩
    rw [List.getD_eq_getElem?_getD, List.getElem?_eq_getElem (show j < x.map.length from hj)]
    exact List.getElem_mem _
  obtain ⟨dW, eW, dP, eP, dS, eS, dQ, eQ, rfl, -, -⟩ := h.form
  clear h hT hE hF hN
  obtain ⟨W, hW⟩ : ∃ W, W = w.alloc (.cells #[.slice dW ws.length eW, .slice dP ps.length eP, .slice dS es.length eS, .slice dQ qs.length eQ] 41) := ⟨_, rfl⟩
  have CD : Hid (∀ w', Below W.heap.size W w' → w'.cell? ⟨w.heap.size, 0, none⟩ = some (.slice dW ws.length eW) ∧ w'.cell? ⟨w.heap.size, 1, none⟩ = some (.slice dP ps.length eP) ∧ w'.cell? ⟨w.heap.size, 2, none⟩ = some (.slice dS es.length eS) ∧ w'.cell? ⟨w.heap.size, 3, none⟩ = some (.slice dQ qs.length eQ)) := fun w' hb => by
    have : w'.heap[w.heap.size]? = some (.cells #[.slice dW ws.length eW, .slice dP ps.length eP, .slice dS es.length eS, .slice dQ qs.length eQ] 41 (0, 0)) := (hb.block _ (by rw [hW]; simp)).trans (by rw [hW]; exact at_new rfl)
    obtain ⟨x0, x1, x2, x3, -, -, -, -⟩ := four_cells this
    exact ⟨x0, x1, x2, x3⟩
  have BW : Hid (Below w.heap.size w W) := by rw [hW]; exact (Below.refl _ _).alloc (Nat.le_refl _) _
  obtain ⟨x0, x1, x2, x3⟩ := CD.out _ (Below.refl _ _)
  generalize dvN ws ps es qs = dn at *
  generalize dvD ws ps es qs = dd at *
  generalize rpR ws ps es qs s page = res at *
  generalize hfl : flR dn dd s = lr at *
  obtain ⟨li, lc⟩ := lr
  obtain ⟨x, hx⟩ : ∃ x, x = faI dn (li, lc) := ⟨_, rfl⟩
  have LF2 := hideIt (fun v2 w1 hb h2 => LF.out v2 w1 hb h2 x hx)
  have HX := hideIt hx
  simp only at EL FL LF2
  clear LF hfl hx
  go_enter Tryz.func11, Tryz.ntmps11
  go_wp2_with fail
  rw [← hW]
  clear hW
  refine (LI.out _ BW.out).mono ?_
  rintro e w1 ⟨v1, rfl, hR, hb1⟩
  have A1 := hideIt hb1
  have B1 := hideIt (below_trans BW.out hb1 BW.out.size)
  have R1 := hideIt hR.rd
  clear hR hb1 x0 x1 x2 x3 LI
  go_wp2_with fail
  refine (LF2.out _ _ B1.out R1.out).mono ?_
  rintro e w2 ⟨rfl, hb2⟩
  have A2 := hideIt (bel2 A1.out hb2)
  have B2 := hideIt (below_trans B1.out hb2 B1.out.size)
  clear hb2 A1 B1 R1 LF2
  have BX := hideIt (B2.out.alloc B2.out.size (.cells #[.int .i64 x.kind, .int .i64 x.size, .int .i64 x.links, .int .i64 x.m0, .int .i64 x.m1, .int .i64 x.m2, .int .i64 x.m3, .int .i64 x.m4, .int .i64 x.m5, .int .i64 x.m6, .int .i64 x.m7, .int .i64 li] 99))
  by_cases c : lc = 0
  case neg =>
    rw [if_neg c] at EL
    obtain rfl := EL.out
    have q : (lc != 0) = true := by rw [bne_iff_ne]; exact c
    clear EL c FL OK EF LV HX
    go_wp2
    go_ret2
    exact ⟨rfl, BX.out⟩
  subst c
  rw [if_pos rfl] at EL
  obtain ⟨hP, hB, hi, i, i16, ei⟩ := FL.out rfl
  have LV2 := hideIt (LV.out hP hB)
  subst ei
  have hx : x = inoAt dn i := HX.out.trans ((if_pos rfl).trans (by simp only [Int.toNat_natCast]))
  obtain ⟨⟨z0, z8⟩, ti⟩ := OK.out hi i i16 x hx
  have TI := hideIt ti
  rw [EF.out i x hx] at EL
  clear FL OK EF LV HX hP hB hi ti hx
  have VX : Hid ((w2.alloc (.cells #[.int .i64 x.kind, .int .i64 x.size, .int .i64 x.links, .int .i64 x.m0, .int .i64 x.m1, .int .i64 x.m2, .int .i64 x.m3, .int .i64 x.m4, .int .i64 x.m5, .int .i64 x.m6, .int .i64 x.m7, .int .i64 (i : Int)] 99)).heap[w2.heap.size]? = some (.cells (x.fa (i : Int)).toArray 99 (0, 0))) := at_new rfl
  have AX := hideIt (A2.out.alloc A2.out.size (.cells #[.int .i64 x.kind, .int .i64 x.size, .int .i64 x.links, .int .i64 x.m0, .int .i64 x.m1, .int .i64 x.m2, .int .i64 x.m3, .int .i64 x.m4, .int .i64 x.m5, .int .i64 x.m6, .int .i64 x.m7, .int .i64 (i : Int)] 99))
  obtain ⟨w3, hw3⟩ : ∃ w3, w3 = w2.alloc (.cells #[.int .i64 x.kind, .int .i64 x.size, .int .i64 x.links, .int .i64 x.m0, .int .i64 x.m1, .int .i64 x.m2, .int .i64 x.m3, .int .i64 x.m4, .int .i64 x.m5, .int .i64 x.m6, .int .i64 x.m7, .int .i64 (i : Int)] 99) := ⟨_, rfl⟩
  rw [← hw3] at VX AX BX
  have hz3 : w2.heap.size < w3.heap.size := (Array.getElem?_eq_some_iff.1 VX.out).1
  have KS : Hid (∀ w', Below w3.heap.size w3 w' → w'.cell? ⟨w2.heap.size, 1, none⟩ = some (.int .i64 x.size)) := fun w' hb => (hb.cell (p := ⟨w2.heap.size, 1, none⟩) hz3).trans (eight_at VX.out 1).1
  have KM : Hid (∀ w', Below w3.heap.size w3 w' → ∀ m, m < 8 → w'.cell? ⟨w2.heap.size, 3 + m, none⟩ = some (.int .i64 (x.map.getD m 0))) := fun w' hb m hm => ((hb.cell (p := ⟨w2.heap.size, 3 + m, none⟩) hz3).trans (eight_at VX.out (3 + m)).1).trans (x.faM _ m hm)
  have y1 := KS.out _ (Below.refl _ _)
  clear VX A2 B2
  by_cases c : 0 ≤ page ∧ page < x.size
  case neg =>
    rw [if_neg c] at EL
    obtain rfl := EL.out
    clear EL
    generalize x.size = sz at *
    go_wp2_with fail
    rw [← hw3]
    refine (isIndex_no _ _ _ c).mono ?_
    rintro e w' ⟨rfl, hw'⟩
    subst w'
    clear hw3
    go_wp2
    go_ret2
    exact ⟨rfl, BX.out⟩
  rw [if_pos c] at EL
  obtain ⟨j, rfl⟩ : ∃ j : Nat, page = (j : Int) := ⟨page.toNat, by omega⟩
  rw [Int.toNat_natCast] at EL
  have j8 : j < 8 := by omega
  have te := hideIt (TI.out j j8)
  have LV3 := hideIt (fun w1 hb => LV2.out w1 hb _ te.out)
  have j0 : (0 : Int) ≤ (j : Int) := by omega
  have j1 : (j : Int) < 8 := by omega
  have KE : Hid (∀ w', Below w3.heap.size w3 w' → w'.cell? ⟨w.heap.size, 0, none⟩ = some (.slice dW ws.length eW) ∧ w'.cell? ⟨w.heap.size, 1, none⟩ = some (.slice dP ps.length eP) ∧ w'.cell? ⟨w.heap.size, 2, none⟩ = some (.slice dS es.length eS) ∧ w'.cell? ⟨w.heap.size, 3, none⟩ = some (.slice dQ qs.length eQ) ∧ w'.cell? ⟨w2.heap.size, 3 + j, none⟩ = some (.int .i64 (x.map.getD j 0))) := fun w' hb => by
    obtain ⟨a0, a1, a2, a3⟩ := CD.out w' (bel2 AX.out hb)
    exact ⟨a0, a1, a2, a3, KM.out w' hb j j8⟩
  generalize x.map.getD j 0 = pz at *
  go_wp2_with fail
  rw [← hw3]
  refine (isIndex_yes _ _ _ c).mono ?_
  rintro e w' ⟨rfl, hw'⟩
  subst w'
  clear hw3 c y1 KS KM TI te LV2 CD
  have B3r := hideIt (Below.refl w3.heap.size w3)
  obtain ⟨r0, r1, r2, r3, r4⟩ := KE.out _ B3r.out
  go_wp2_with fail
  go_region_held3 (fun w' => w'.cell? ⟨w.heap.size, 0, none⟩ = some (.slice dW ws.length eW) ∧ w'.cell? ⟨w.heap.size, 1, none⟩ = some (.slice dP ps.length eP) ∧ w'.cell? ⟨w.heap.size, 2, none⟩ = some (.slice dS es.length eS) ∧ w'.cell? ⟨w.heap.size, 3, none⟩ = some (.slice dQ qs.length eQ) ∧ w'.cell? ⟨w2.heap.size, 3 + j, none⟩ = some (.int .i64 pz))
    (first | with_reducible exact KE.out _ A4.out | with_reducible exact KE.out _ B3r.out | with_reducible exact KE.out _ B3r.out.drew)
    (first
      | (go_at_call 49; refine (LV3.out _ (by first | with_reducible exact BX.out | with_reducible exact BX.out.drew)).mono ?_; rintro e w4 ⟨rfl, hb4⟩; have A4 := hideIt (below_of_drew hb4); clear hb4; obtain ⟨t0, t1, t2, t3, t4⟩ := KE.out _ A4.out))
  all_goals
    have B4 := hideIt (below_trans BX.out A4.out BX.out.size)
    obtain rfl := EL.out
    go_wp2
    go_ret2
    exact ⟨rfl, B4.out⟩
end Go.Proofs.YtcilodgoognmnaaGreatDoor

namespace Go.Proofs.YtcilodgoognmnaaGreatDoor
open Go.RowKit

set_option maxRecDepth 100000 in
set_option maxHeartbeats 8000000 in
theorem l08Cut_any (v : Value) (ns : List Ino) (ds : List Den) (s : ByteArray) (size : Int) (w : World) (h : RdIm w v ns ds) (hi : imgB ns ds = true) (hs : s.size ≤ 65536) :
    Calls Tryz.prog 65 #[v, .string s, .int .i64 size] w fun e w' => PlOut w w' e (cuI ns ds s size) := by
  have LL := hideIt (fun w1 (hb : Below w.heap.size w w1) => l08File_any v ns ds s w1 (h.below hb) hi hs)
  have EL := hideIt (show cuI ns ds s size = if (flI ns ds s).2 = 0 then cuF ns (flI ns ds s).1 size else ([], (flI ns ds s).2) from rfl)
  have LO := hideIt (fun c => fl_file (s := s) (img_iff.1 hi) c)
  obtain ⟨l16, l24, _⟩ := pimg_all hi
  have L16 := hideIt l16
  obtain ⟨vW, vP, rfl, h1, h2⟩ := h
  obtain ⟨aW, cW, rfl, _, hcW⟩ := h1.shape
  obtain ⟨aP, cP, rfl, _, hcP⟩ := h2.shape
  obtain ⟨bW, oW, rfl, hblW, hcellW⟩ := hcW (by omega)
  have HM : Hid (∀ k, k < 16 → ∀ w', Below w.heap.size w w' → ∀ j, j < 8 → w'.cell? ⟨bW, oW + k * 11 + 3 + j, none⟩ = some (.int .i64 ((inoAt ns k).map.getD j 0))) := fun k hk w' hb j hj => by
    rw [inoAt_of (by omega : k < ns.length)]
    obtain ⟨a0, a1, a2, a3, a4, a5, a6, a7, a8, a9, a10⟩ := hcellW k (by omega)
    rcases (show j = 0 ∨ j = 1 ∨ j = 2 ∨ j = 3 ∨ j = 4 ∨ j = 5 ∨ j = 6 ∨ j = 7 by omega) with rfl | rfl | rfl | rfl | rfl | rfl | rfl | rfl
    · exact (hb.cell (p := ⟨bW, oW + k * 11 + 3, none⟩) hblW).trans a3
    · exact (hb.cell (p := ⟨bW, oW + k * 11 + 4, none⟩) hblW).trans a4
    · exact (hb.cell (p := ⟨bW, oW + k * 11 + 5, none⟩) hblW).trans a5
    · exact (hb.cell (p := ⟨bW, oW + k * 11 + 6, none⟩) hblW).trans a6
    · exact (hb.cell (p := ⟨bW, oW + k * 11 + 7, none⟩) hblW).trans a7
    · exact (hb.cell (p := ⟨bW, oW + k * 11 + 8, none⟩) hblW).trans a8
    · exact (hb.cell (p := ⟨bW, oW + k * 11 + 9, none⟩) hblW).trans a9
    · exact (hb.cell (p := ⟨bW, oW + k * 11 + 10, none⟩) hblW).trans a10
  clear h1 h2 hi hs hcW hcP hcellW l16 l24
  obtain ⟨W, hW⟩ : ∃ W, W = w.alloc (.cells #[.slice (some ⟨bW, oW, none⟩) ns.length cW, .slice aP ds.length cP] 63) := ⟨_, rfl⟩
  have CA : Hid (∀ w', Below W.heap.size W w' → w'.cell? ⟨w.heap.size, 0, none⟩ = some (.slice (some ⟨bW, oW, none⟩) ns.length cW) ∧ w'.cell? ⟨w.heap.size, 1, none⟩ = some (.slice aP ds.length cP)) := fun w' hb => by
    have : w'.heap[w.heap.size]? = some (.cells #[.slice (some ⟨bW, oW, none⟩) ns.length cW, .slice aP ds.length cP] 63 (0, 0)) := (hb.block _ (by rw [hW]; simp)).trans (by rw [hW]; exact at_new rfl)
    exact ⟨(two_cells this).1, (two_cells this).2.1⟩
  have BW : Hid (Below w.heap.size w W) := by rw [hW]; exact (Below.refl _ _).alloc (Nat.le_refl _) _
  obtain ⟨x0, x1⟩ := CA.out _ (Below.refl _ _)
  have hz : w.heap.size < W.heap.size := by rw [hW]; simp
  generalize cuI ns ds s size = res at *
  generalize flI ns ds s = lr at *
  obtain ⟨li, lc⟩ := lr
  simp only at EL LO LL
  go_enter Tryz.func65, Tryz.ntmps65
  go_wp2_with fail
  rw [← hW]
  clear hW x0 x1
  refine (LL.out _ BW.out).mono ?_
  rintro e w1 ⟨rfl, hb1⟩
  have A1 := hideIt hb1
  have B1 := hideIt (below_trans BW.out A1.out BW.out.size)
  clear hb1 LL
  by_cases c : lc = 0
  case neg =>
    rw [if_neg c] at EL
    obtain rfl := EL.out
    have q : (lc != 0) = true := by rw [bne_iff_ne]; exact c
    clear EL LO c
    go_wp2
    go_ret2
    exact pl_none B1.out
  subst c
  rw [if_pos rfl] at EL
  obtain ⟨i, i16, ei, -⟩ := LO.out rfl
  subst ei
  have EC := hideIt (show cuF ns (i : Int) size = if 0 ≤ size ∧ size ≤ 8 then (cuU (inoAt ns i).map (i : Int) size.toNat 8, 0) else ([], 4) from rfl)
  rw [EC.out] at EL
  have HMi := hideIt (HM.out i i16)
  have i1 : i < ns.length := by have := L16.out; omega
  have i0 : (0 : Int) ≤ (i : Int) := by omega
  have il : (i : Int) < (ns.length : Int) := by omega
  have ir : 0 ≤ (i : Int) ∧ (i : Int) < 16 := by omega
  clear HM EC LO L16
  by_cases c : 0 ≤ size ∧ size ≤ 8
  case neg =>
    rw [if_neg c] at EL
    obtain rfl := EL.out
    clear EL
    go_wp2_with fail
    refine (l01In_no _ _ _ _ c).mono ?_
    rintro e w' ⟨rfl, hw'⟩
    subst w'
    go_wp2
    go_ret2
    exact pl_none B1.out
  rw [if_pos c] at EL
  obtain ⟨n, rfl⟩ : ∃ n : Nat, size = (n : Int) := ⟨size.toNat, by omega⟩
  rw [Int.toNat_natCast] at EL
  have n8 : n ≤ 8 := by omega
  generalize (inoAt ns i).map = zs at *
  go_wp2_with fail
  refine (l01In_yes _ _ _ _ c).mono ?_
  rintro e w' ⟨rfl, hw'⟩
  subst w'
  clear c
  go_wp2_with (go_at_call 110; refine (l03Inode_any _ _ _ ir (by omega)).mono ?_; rintro e w' ⟨rfl, hw'⟩; subst w')
  have ST : Hid (UpI W (w1.alloc (.cells #[.int .i64 (48 + 12 * (i : Int) + 1), .int .i64 (n : Int)] 130)) (.slice (some ⟨w1.heap.size, 0, none⟩) 1 1) (cuU zs (i : Int) n n)) := by
    unfold Hid cuU
    rw [cuT_start]
    exact ⟨World.ownsRow_lit w1 _ 1 A1.out.size (by simp [maxLen]) rfl, A1.out.alloc A1.out.size _⟩
  go_loopw [10, 11] (fun vL k wr => ∃ m : Nat, n ≤ m ∧ m ≤ 8 ∧ k = .int .i64 (m : Int) ∧ Hid (UpI W wr vL (cuU zs (i : Int) n m))) (fun _ k _ => 8 - (intOf k).toNat)
  case atStart => exact ⟨n, Nat.le_refl _, n8, rfl, ST⟩
  case round =>
    obtain ⟨m, hm, hm8, rfl, J⟩ := hrel
    clear ST A1 B1
    obtain ⟨x0, x1⟩ := CA.out _ J.out.b
    have JW := hideIt (below_trans BW.out J.out.b BW.out.size)
    have hzj : W.heap.size ≤ wr.heap.size := J.out.z
    have m0 : (0 : Int) ≤ (m : Int) := by omega
    by_cases hlt : m < 8
    · have m1 : (m : Int) < 8 := by omega
      have e0 := HMi.out wr JW.out m hlt
      have YES := hideIt (fun e => cuT_yes (zs := zs) (i := (i : Int)) (n := n) (k := m) hm e)
      have NO := hideIt (fun e => cuT_no (zs := zs) (i := (i : Int)) (n := n) (k := m) e)
      have hlen : (cuU zs (i : Int) n m).length ≤ 9 := by
        have := cuT_len zs (i : Int) n m
        show (cuT zs (i : Int) n m).length + 1 ≤ 9
        omega
      generalize zs.getD m 0 = z at e0 YES NO
      by_cases q : z = 0
      · have q' : (z != 0) = false := by rw [q]; rfl
        have G : Hid (UpI W wr u10 (cuU zs (i : Int) n (m + 1))) := by
          unfold Hid cuU
          rw [NO.out q]
          exact J.out
        clear q J YES NO
        go_wp2
        go_roundw
        case rel => exact ⟨m + 1, by omega, by omega, by go_num, G⟩
        case measure => simp [intOf]; omega
      · have q' : (z != 0) = true := by rw [bne_iff_ne]; exact q
        have JB : Hid (UpI W (wr.alloc (.cells #[.int .i64 (48 + 12 * (i : Int) + (3 + (m : Int))), .int .i64 0] 130)) u10 (cuU zs (i : Int) n m)) := J.out.below ((Below.refl _ _).alloc (Nat.le_refl _) _)
        have RB := hideIt (rd_upd wr (48 + 12 * (i : Int) + (3 + (m : Int))) 0)
        have hzb := JB.out.z
        have MN : Hid (cuU zs (i : Int) n (m + 1) = cuU zs (i : Int) n m ++ [⟨48 + 12 * (i : Int) + (3 + (m : Int)), 0⟩]) := by
          unfold Hid cuU
          rw [YES.out q]
          rfl
        have mr : 0 ≤ 3 + (m : Int) ∧ 3 + (m : Int) < 11 := by omega
        clear q J YES NO
        go_wp2_with fail
        refine (l03Inode_any _ _ _ ir mr).mono ?_
        rintro e w' ⟨rfl, hw'⟩
        subst w'
        go_wp2_with (at_builtin; refine wpList_append_rd _ rfl (.tmp 45) (.tmp 51) 57 rfl W.heap.size 130 (.agg #[.int .i64 0, .int .i64 0]) 2 16 Tryz.underlying57 infoUp rfl (by decide) _ _ _ rfl JB.out.l _ 1 _ rfl RB.out (ses_ones _) (by first | omega | (simp [maxLen]; omega)) (by first | omega | (simp; omega)) hzb ?_)
        intro vN wN hownN hgrN
        have G := hideIt (JB.out.grow [⟨48 + 12 * (i : Int) + (3 + (m : Int)), 0⟩] hownN hgrN)
        rw [← MN.out] at G
        clear hownN hgrN JB RB
        go_wp2
        go_roundw
        case rel => exact ⟨m + 1, by omega, by omega, by go_num, G⟩
        case measure => simp [intOf]; omega
    · obtain rfl : m = 8 := by omega
      obtain rfl := EL.out
      obtain ⟨-, aN, cN, hvN, -⟩ := (own_block J.out.l).rd
      subst hvN
      go_wp2
      go_ret2
      exact ⟨_, rfl, (own_block J.out.l).wide (by omega) (Nat.le_refl _), JW.out⟩

end Go.Proofs.YtcilodgoognmnaaGreatDoor
