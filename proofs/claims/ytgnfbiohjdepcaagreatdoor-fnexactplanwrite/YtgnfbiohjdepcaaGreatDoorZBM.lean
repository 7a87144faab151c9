/- Several texts laid together: BlkReadI, DuC. -/
import Derived.Test.YtgnfbiohjdepcaaGreatDoorZBL
import Derived.Test.YtgnfbiohjdepcaaGreatDoorZBK
import Derived.Test.YtgnfbiohjdepcaaGreatDoorZAV
import Derived.Test.YtgnfbiohjdepcaaGreatDoorZAC
import Derived.Test.YtgnfbiohjdepcaaGreatDoorZAB
import Derived.Deep.RegionHeld3
namespace Go.Proofs.YtgnfbiohjdepcaaGreatDoor
open Go.RowKit
theorem lwFold_full (at_ : Int) : ∀ (ps : List Se) (s : Se) (mo : Int), (ps.length : Int) ≤ mo → ((∀ p ∈ ps, ¬ p.at_ = at_) ∧ (ps.foldl (lwStep at_) (s, mo)).1 = s) ∨ ((ps.foldl (lwStep at_) (s, mo)).1.at_ = at_ ∧ ∀ d, lastE at_ d ps = (ps.foldl (lwStep at_) (s, mo)).1.val)
  | [], s, mo, _ => .inl ⟨by simp, rfl⟩
  | p :: ps, s, mo, h => by
    have h' : (ps.length : Int) + 1 ≤ mo := by simpa using h
    by_cases c : p.at_ = at_
    · have e : lwStep at_ (s, mo) p = (p, mo - 1) := if_pos ⟨c, by show 0 < mo; omega⟩
      rw [List.foldl_cons, e]
      rcases lwFold_full at_ ps p (mo - 1) (by omega) with ⟨h1, h2⟩ | ⟨h1, h2⟩
      · right
        rw [h2]
        refine ⟨c, fun d => ?_⟩
        show lastE at_ (if p.at_ = at_ then p.val else d) ps = p.val
        rw [if_pos c]
        exact lastE_none h1
      · exact .inr ⟨h1, fun d => h2 _⟩
    · have e : lwStep at_ (s, mo) p = (s, mo) := if_neg (fun x => c x.1)
      rw [List.foldl_cons, e]
      rcases lwFold_full at_ ps s mo (by omega) with ⟨h1, h2⟩ | ⟨h1, h2⟩
      · left
        refine ⟨fun q hq => ?_, h2⟩
        rcases List.mem_cons.1 hq with rfl | hq
        · exact c
        · exact h1 q hq
      · exact .inr ⟨h1, fun d => h2 _⟩
theorem lastM_full {at_ : Int} {ps : List Se} (h : ps.length ≤ 400) : ((∀ p ∈ ps, ¬ p.at_ = at_) ∧ lastM at_ 400 ps = ⟨-1, 0⟩) ∨ ((lastM at_ 400 ps).at_ = at_ ∧ ∀ d, lastE at_ d ps = (lastM at_ 400 ps).val) :=
  lwFold_full at_ ps ⟨-1, 0⟩ 400 (by omega)
set_option maxHeartbeats 4000000 in
theorem implBlkRead_any (v : Value) (ws : List Int) (ps : List Se) (at_ : Int) (w : World) (h : RdBlk w v ws ps) (hG : NW w) (hw : ws.length ≤ 1048576) (hp : ps.length ≤ 1048576) :
    Calls Tryz.prog 62 #[v, .int .i64 at_] w fun e w' => e = .returned (.tuple #[.int .i64 (readV ws ps at_), .int .i64 (askE ws ps at_)]) ∧ Below w.heap.size w w' := by
  have HR := hideIt h
  obtain ⟨vW, vP, rfl, h1, h2⟩ := h
  have H2 := hideIt h2
  obtain ⟨aW, cW, rfl, _, hcW⟩ := h1.shape
  obtain ⟨aP, cP, rfl, _⟩ := h2.shape
  clear h1 h2
  have hb0 : Below w.heap.size w (w.alloc (.cells #[.slice aW ws.length cW, .slice aP ps.length cP] 39)) := (Below.refl _ _).alloc (Nat.le_refl _) _
  rcases askE_cases ws ps at_ with hc | ⟨hc, hok, k, rfl, hk, hkl⟩
  · have hne : (askE ws ps at_ != 0) = true := by rcases hc with hc | hc <;> simp [hc]
    have E := hideIt (readV_not (ws := ws) (ps := ps) (at_ := at_) (by rcases hc with hc | hc <;> simp [hc]))
    clear hc hcW
    go_enter Tryz.func62, Tryz.ntmps62
    go_wp2_with (go_at_call 105; refine (sectorFault_any _ ws ps _ _ (HR.out.below hb0) hw hp).mono ?_; rintro e w1 ⟨rfl, hb1⟩)
    go_ret2
    exact ⟨ret_two E.out.symm rfl, below_trans hb0 hb1 (by simp)⟩
  · have E := hideIt (readV_ok hc hkl)
    have C := hideIt hc
    obtain ⟨bW, oW, rfl, hbW, hcellW⟩ := hcW (by omega)
    have hcw := hideIt (hcellW k hkl)
    have LF := hideIt (lastM_full (at_ := (k : Int)) (ps := ps) (blkB_len hok).2)
    clear hc hcW hcellW
    go_enter Tryz.func62, Tryz.ntmps62
    go_wp2_with fail
    refine (sectorFault_any _ ws ps _ _ (HR.out.below hb0) hw hp).mono ?_
    rw [C.out]
    rintro e w1 ⟨rfl, hb1⟩
    have V1 := (hb1.block w.heap.size (by simp)).trans (at_new rfl)
    obtain ⟨x1, x2, _, _⟩ := two_cells V1
    have B1 := hideIt (below_trans hb0 hb1 (by simp))
    have hz1 : w.heap.size + 1 ≤ w1.heap.size := by have := hb1.size; simp at this; omega
    have VH := hideIt V1
    have G1 := hideIt (hG.below B1.out)
    clear V1 hb1 hb0
    go_wp2_with fail
    refine (lastWrite_any _ ps _ _ _ (Rd.below H2.out B1.out) G1.out hp (by omega) (by omega)).mono ?_
    rcases LF.out with ⟨hn, hl⟩ | ⟨ha, hl⟩
    · rw [hl]
      rintro e w2 ⟨rfl, hb2⟩
      have hz2 := hb2.size
      have B2 := hideIt (below_trans B1.out hb2 (by omega))
      have hb3 := below_trans B1.out hb2 (by omega) |>.alloc (by omega) (.cells #[.int .i64 (-1), .int .i64 0] 138)
      obtain ⟨g0, g1⟩ := ((G1.out.below hb2).below ((Below.refl _ _).alloc (Nat.le_refl _) (.cells #[.int .i64 (-1), .int .i64 0] 138))).cells
      obtain ⟨x1', x2', _, _⟩ := two_cells (at_old (o := .cells #[.int .i64 (-1), .int .i64 0] 138) ((hb2.block w.heap.size (by omega)).trans VH.out))
      have hcw1 := (hb3.cell (p := ⟨bW, oW + k, none⟩) hbW).trans hcw.out
      have B3 := hideIt hb3
      have E2 := hideIt (lastE_none (d := ws[k]) hn)
      clear hb2 hb3 hn hl x1 x2
      go_wp2
      go_ret2
      exact ⟨ret_two (E.out.trans E2.out).symm C.out.symm, B3.out⟩
    · rw [ha]
      rintro e w2 ⟨rfl, hb2⟩
      have hz2 := hb2.size
      have hb3 := below_trans B1.out hb2 (by omega) |>.alloc (by omega) (.cells #[.int .i64 (k : Int), .int .i64 (lastM (k : Int) 400 ps).val] 138)
      obtain ⟨g0, g1⟩ := ((G1.out.below hb2).below ((Below.refl _ _).alloc (Nat.le_refl _) (.cells #[.int .i64 (k : Int), .int .i64 (lastM (k : Int) 400 ps).val] 138))).cells
      have B3 := hideIt hb3
      have E2 := hideIt (hl ws[k])
      have kn : ((k : Int) == -1) = false := by first | (simp; done) | (simp; omega)
      clear hb2 hb3 ha hl x1 x2
      generalize (lastM (k : Int) 400 ps).val = y at *
      go_wp2
      go_ret2
      exact ⟨ret_two (E.out.trans E2.out).symm C.out.symm, B3.out⟩
end Go.Proofs.YtgnfbiohjdepcaaGreatDoor

namespace Go.Proofs.YtgnfbiohjdepcaaGreatDoor
open Go.RowKit
theorem load_page {ws : List Int} {ps : List St} (h : pmB ws ps = true) {k : Nat} (hk : k < 24) : loadV ws ps (312 + (k : Int)) = ldW ws ps (312 + k) ∧ askC ws ps (312 + (k : Int)) = 0 := by
  have p : placeB (312 + (k : Int)) = true := decide_eq_true (by omega)
  have a : askC ws ps (312 + (k : Int)) = 0 := by unfold askC; rw [h, p]; rfl
  refine ⟨?_, a⟩
  unfold loadV ldW
  rw [if_pos a, show (312 + (k : Int)).toNat = 312 + k by omega, show ((312 + k : Nat) : Int) = 312 + (k : Int) by omega]
theorem read_page {es : List Int} {qs : List Se} (h : blkB es qs = true) {k : Nat} (hk : k < 32) : readV es qs (k : Int) = lastE (k : Int) (es[k]?.getD 0) qs ∧ askE es qs (k : Int) = 0 := by
  have p : secB (k : Int) = true := decide_eq_true (by omega)
  have a : askE es qs (k : Int) = 0 := by unfold askE; rw [h, p]; rfl
  refine ⟨?_, a⟩
  unfold readV
  rw [if_pos a, Int.toNat_natCast]
set_option maxRecDepth 100000 in
set_option maxHeartbeats 4000000 in
theorem wordOfE_any (v : Value) (ws : List Int) (ps : List St) (es : List Int) (qs : List Se) (e : Int) (w : World) (h : RdDev w v ws ps es qs) (hP : pmB ws ps = true) (hB : blkB es qs = true) (te : tieB e = true) (hT : TS w) (hN : NW w) :
    Calls Tryz.prog 30 #[v, .int .i64 e] w fun r w' => r = .returned (.int .i64 (pgV ws ps es qs e)) ∧ Below w.heap.size w w' := by
  obtain ⟨aW, cW, aP, cP, aS, cS, aQ, cQ, rfl, h1, h2⟩ := h.form
  have te' : 0 ≤ e ∧ ((e % 4 = 0 ∧ e / 4 = 0) ∨ (e % 4 = 1 ∧ 0 ≤ e / 4 ∧ e / 4 < 24) ∨ (e % 4 = 2 ∧ 0 ≤ e / 4 ∧ e / 4 < 32)) := by
    unfold tieB addrB at te
    rw [Bool.and_eq_true, decide_eq_true_eq, decide_eq_true_eq] at te
    exact te
  have wl := pmB_len hP
  have el := blkB_len hB
  have BW : Hid (Below w.heap.size w (w.alloc (.cells #[.slice aW ws.length cW, .slice aP ps.length cP, .slice aS es.length cS, .slice aQ qs.length cQ] 41))) := (Below.refl _ _).alloc (Nat.le_refl _) _
  have LT : Hid (∀ w1, Below w.heap.size w w1 → Calls Tryz.prog 60 #[.int .i64 e] w1 fun r w' => r = .returned (.tuple #[.int .i64 (e % 4), .int .i64 (e / 4), .int .i64 0]) ∧ w' = w1) := fun w1 hb => by
    have q := implTierOf_any e w1 (hT.below hb) (by omega) (by omega)
    rw [(tie_in te).1, (tie_in te).2.1, (tie_in te).2.2] at q
    exact q
  have EV := hideIt (show pgV ws ps es qs e = if e % 4 = 1 then ldW ws ps (312 + e / 4).toNat else if e % 4 = 2 then lastE (e / 4) (es[(e / 4).toNat]?.getD 0) qs else 0 from rfl)
  have L1 : Hid (∀ (k : Nat), k < 24 → ∀ w1, Below w.heap.size w w1 → Calls Tryz.prog 61 #[.agg #[.slice aW ws.length cW, .slice aP ps.length cP], .int .i64 (312 + (k : Int))] w1 fun r w' => r = .returned (.tuple #[.int .i64 (ldW ws ps (312 + k)), .int .i64 0]) ∧ Below w1.heap.size w1 w') := fun k hk w1 hb => by
    have := implPmLoad_any _ ws ps (312 + (k : Int)) w1 (h1.below hb) (by omega) (by omega)
    rw [(load_page hP hk).1, (load_page hP hk).2] at this
    exact this
  have L2 : Hid (∀ (k : Nat), k < 32 → ∀ w1, Below w.heap.size w w1 → Calls Tryz.prog 62 #[.agg #[.slice aS es.length cS, .slice aQ qs.length cQ], .int .i64 (k : Int)] w1 fun r w' => r = .returned (.tuple #[.int .i64 (lastE (k : Int) (es[k]?.getD 0) qs), .int .i64 0]) ∧ Below w1.heap.size w1 w') := fun k hk w1 hb => by
    have := implBlkRead_any _ es qs (k : Int) w1 (h2.below hb) (hN.below hb) (by omega) (by omega)
    rw [(read_page hB hk).1, (read_page hB hk).2] at this
    exact this
  clear h h1 h2 te hP hB wl el hT hN
  generalize pgV ws ps es qs e = r at *
  generalize e % 4 = t at *
  generalize e / 4 = a at *
  rcases te'.2 with ⟨rfl, rfl⟩ | ⟨rfl, a0, a1⟩ | ⟨rfl, a0, a1⟩
  · rw [if_neg (by omega), if_neg (by omega)] at EV
    obtain rfl := EV.out
    clear te' L1 L2 EV
    go_enter Tryz.func30, Tryz.ntmps30
    go_wp2_with fail
    refine (LT.out _ BW.out).mono ?_
    rintro r w1 ⟨rfl, hw1⟩
    subst w1
    go_wp2
    go_ret
    exact ⟨rfl, BW.out⟩
  · obtain ⟨k, rfl⟩ : ∃ k : Nat, a = (k : Int) := ⟨a.toNat, by omega⟩
    rw [if_pos rfl, show (312 + (k : Int)).toNat = 312 + k by omega] at EV
    obtain rfl := EV.out
    have k24 : k < 24 := by omega
    have Q := hideIt (L1.out k k24)
    clear te' L1 L2 EV a0 a1
    go_enter Tryz.func30, Tryz.ntmps30
    go_wp2_with fail
    refine (LT.out _ BW.out).mono ?_
    rintro r w1 ⟨rfl, hw1⟩
    subst w1
    go_wp2_with fail
    refine (Q.out _ BW.out).mono ?_
    rintro r w2 ⟨rfl, hb2⟩
    have B2 := hideIt (below_trans BW.out hb2 BW.out.size)
    clear hb2
    go_wp2
    go_ret
    exact ⟨rfl, B2.out⟩
  · obtain ⟨k, rfl⟩ : ∃ k : Nat, a = (k : Int) := ⟨a.toNat, by omega⟩
    rw [if_neg (by omega), if_pos rfl, Int.toNat_natCast] at EV
    obtain rfl := EV.out
    have k32 : k < 32 := by omega
    have Q := hideIt (L2.out k k32)
    clear te' L1 L2 EV a0 a1
    go_enter Tryz.func30, Tryz.ntmps30
    go_wp2_with fail
    refine (LT.out _ BW.out).mono ?_
    rintro r w1 ⟨rfl, hw1⟩
    subst w1
    go_wp2_with fail
    refine (Q.out _ BW.out).mono ?_
    rintro r w2 ⟨rfl, hb2⟩
    have B2 := hideIt (below_trans BW.out hb2 BW.out.size)
    clear hb2
    go_wp2
    go_ret
    exact ⟨rfl, B2.out⟩
theorem rp_form {ws : List Int} {ps : List St} {es : List Int} {qs : List Se} {s : ByteArray} {page : Int} : rpR ws ps es qs s page = if (flR (dvN ws ps es qs) (dvD ws ps es qs) s).2 = 0 then rpF ws ps es qs (dvN ws ps es qs) (flR (dvN ws ps es qs) (dvD ws ps es qs) s).1 page else (0, (flR (dvN ws ps es qs) (dvD ws ps es qs) s).2) := by
  unfold rpR flR
  rw [dv_img]
  by_cases c : 65536 < s.size
  · rw [if_pos c, if_pos c]
    rfl
  · rw [if_neg c, if_neg c]
    by_cases d : dvB ws ps es qs = true
    · rw [if_pos d, if_pos d, ← (dv_yes d).2.2.1, ← (dv_yes d).2.2.2.1]
      rfl
    · rw [if_neg d, if_neg d]
      rfl
theorem dv_fl {ws : List Int} {ps : List St} {es : List Int} {qs : List Se} {s : ByteArray} (h : (flR (dvN ws ps es qs) (dvD ws ps es qs) s).2 = 0) : pmB ws ps = true ∧ blkB es qs = true ∧ imgB (dvN ws ps es qs) (dvD ws ps es qs) = true ∧ ∃ i : Nat, i < 16 ∧ (flR (dvN ws ps es qs) (dvD ws ps es qs) s).1 = (i : Int) := by
  obtain ⟨hi, -, e⟩ := fl_right h
  have d : dvB ws ps es qs = true := by rw [← dv_img]; exact hi
  rw [e] at h ⊢
  obtain ⟨i, h16, ei, -⟩ := fl_file (img_iff.1 hi) h
  exact ⟨(dv_yes d).1, (dv_yes d).2.1, hi, i, h16, ei⟩
def Ino.fa (x : Ino) (i : Int) : List Value := [.int .i64 x.kind, .int .i64 x.size, .int .i64 x.links, .int .i64 x.m0, .int .i64 x.m1, .int .i64 x.m2, .int .i64 x.m3, .int .i64 x.m4, .int .i64 x.m5, .int .i64 x.m6, .int .i64 x.m7, .int .i64 i]
theorem Ino.faM (x : Ino) (i : Int) (m : Nat) (hm : m < 8) : (x.fa i)[3 + m]? = some (.int .i64 (x.map.getD m 0)) := by
  rcases (show m = 0 ∨ m = 1 ∨ m = 2 ∨ m = 3 ∨ m = 4 ∨ m = 5 ∨ m = 6 ∨ m = 7 by omega) with rfl | rfl | rfl | rfl | rfl | rfl | rfl | rfl <;> rfl
set_option maxRecDepth 100000 in
set_option maxHeartbeats 8000000 in
theorem implReadPage_any (v : Value) (ws : List Int) (ps : List St) (es : List Int) (qs : List Se) (s : ByteArray) (page : Int) (w : World) (h : RdDev w v ws ps es qs) (hw : ws.length ≤ 1048576) (hp : ps.length ≤ 1048576) (he : es.length ≤ 1048576) (hq : qs.length ≤ 1048576) (hT : TS w) (hE : ED w) (hF : FD w) (hN : NW w) :
    Calls Tryz.prog 9 #[v, .string s, .int .i64 page] w fun e w' => e = .returned (.tuple #[.int .i64 (rpR ws ps es qs s page).1, .int .i64 (rpR ws ps es qs s page).2]) ∧ Below w.heap.size w w' := by
  have LI := hideIt (fun w1 (hb : Below w.heap.size w w1) => seenImage_any v ws ps es qs w1 (h.below hb) hw hp he hq (hT.below hb) (hE.below hb) (hF.below hb))
  have LF := hideIt (fun v2 w1 (hb : Below w.heap.size w w1) h2 => fileToRead_any v2 (dvN ws ps es qs) (dvD ws ps es qs) s page w1 h2 (dv_len ws ps es qs).1 (dv_len ws ps es qs).2 (hT.below hb) (hE.below hb) (hF.below hb) dv_R dv_name)
  have LV := hideIt (fun hP hB w1 (hb : Below w.heap.size w w1) z (hz : tieB z = true) => wordOfE_any v ws ps es qs z w1 (h.below hb) hP hB hz (hT.below hb) (hN.below hb))
  have EL := hideIt (rp_form (ws := ws) (ps := ps) (es := es) (qs := qs) (s := s) (page := page))
  have FL := hideIt (fun h => dv_fl (ws := ws) (ps := ps) (es := es) (qs := qs) (s := s) h)
  have EF : Hid (∀ i : Nat, ∀ x, x = inoAt (dvN ws ps es qs) i → rpF ws ps es qs (dvN ws ps es qs) (i : Int) page = if 0 ≤ page ∧ page < x.size then (pgV ws ps es qs (x.map.getD page.toNat 0), 0) else (0, 4)) := fun i x e => by rw [e]; rfl
  have OK : Hid (imgB (dvN ws ps es qs) (dvD ws ps es qs) = true → ∀ i : Nat, i < 16 → ∀ x, x = inoAt (dvN ws ps es qs) i → (0 ≤ x.size ∧ x.size ≤ 8) ∧ ∀ j : Nat, j < 8 → tieB (x.map.getD j 0) = true) := fun hi i h16 x e => by
    have q := (img_iff.1 hi).ok i h16
    rw [← e] at q
    refine ⟨(ino_parts q).2.1, fun j hj => (ino_ties q).1 _ ?_⟩
    rw [List.getD_eq_getElem?_getD, List.getElem?_eq_getElem (show j < x.map.length from hj)]
    exact List.getElem_mem _
  obtain ⟨dW, eW, dP, eP, dS, eS, dQ, eQ, rfl, -, -⟩ := h.form
  clear h hT hE hF hN
  obtain ⟨W, hW⟩ : ∃ W, W = w.alloc (.cells #[.slice dW ws.length eW, .slice dP ps.length eP, .slice dS es.length eS, .slice dQ qs.length eQ] 41) := ⟨_, rfl⟩
  have CD : Hid (∀ w', Below W.heap.size W w' → w'.cell? ⟨w.heap.size, 0, none⟩ = some (.slice dW ws.length eW) ∧ w'.cell? ⟨w.heap.size, 1, none⟩ = some (.slice dP ps.length eP) ∧ w'.cell? ⟨w.heap.size, 2, none⟩ = some (.slice dS es.length eS) ∧ w'.cell? ⟨w.heap.size, 3, none⟩ = some (.slice dQ qs.length eQ)) := fun w' hb => by
    have : w'.heap[w.heap.size]? = some (.cells #[.slice dW ws.length eW, .slice dP ps.length eP, .slice dS es.length eS, .slice dQ qs.length eQ] 41 (0, 0)) := (hb.block _ (by rw [hW]; simp)).trans (by rw [hW]; exact at_new rfl)
    obtain ⟨x0, x1, x2, x3, -, -, -, -⟩ := four_cells this
    exact ⟨x0, x1, x2, x3⟩
  have BW : Hid (Below w.heap.size w W) := by rw [hW]; exact (Below.refl _ _).alloc (Nat.le_refl _) _
  obtain ⟨x0, x1, x2, x3⟩ := CD.out _ (Below.refl _ _)
  generalize dvN ws ps es qs = dn at *
  generalize dvD ws ps es qs = dd at *
  generalize rpR ws ps es qs s page = res at *
  generalize hfl : flR dn dd s = lr at *
  obtain ⟨li, lc⟩ := lr
  obtain ⟨x, hx⟩ : ∃ x, x = faI dn (li, lc) := ⟨_, rfl⟩
  have LF2 := hideIt (fun v2 w1 hb h2 => LF.out v2 w1 hb h2 x li lc hx rfl)
  have HX := hideIt hx
  simp only at EL FL
  clear LF hfl hx
  -- nothing is read: the code is told
  have FAIL : ∀ c : Int, ¬ c = 0 → res = (0, c) → FtIs x li lc (0 ≤ page ∧ page < x.size) zeroN 0 c → Calls Tryz.prog 9 #[.agg #[.slice dW ws.length eW, .slice dP ps.length eP, .slice dS es.length eS, .slice dQ qs.length eQ], .string s, .int .i64 page] w fun e w' => e = .returned (.tuple #[.int .i64 res.1, .int .i64 res.2]) ∧ Below w.heap.size w w' := by
    rintro c cn rfl hq
    have LF3 := hideIt (fun v2 w1 hb h2 => LF2.out v2 w1 hb h2 zeroN 0 c hq)
    have q : (c != 0) = true := by rw [bne_iff_ne]; exact cn
    clear EL FL EF OK LV HX LF2 hq cn
    go_enter Tryz.func9, Tryz.ntmps9
    go_wp2_with fail
    rw [← hW]
    clear hW
    refine (LI.out _ BW.out).mono ?_
    rintro e w1 ⟨v1, rfl, hR, hb1⟩
    have B1 := hideIt (below_trans BW.out hb1 BW.out.size)
    have R1 := hideIt hR.rd
    clear hR hb1 x0 x1 x2 x3 LI
    go_wp2_with fail
    refine (LF3.out _ _ B1.out R1.out).mono ?_
    rintro e w2 ⟨rfl, hb2⟩
    have B2 := hideIt (below_trans B1.out hb2 B1.out.size)
    have BX := hideIt (B2.out.alloc B2.out.size (.cells #[.int .i64 zeroN.kind, .int .i64 zeroN.size, .int .i64 zeroN.links, .int .i64 zeroN.m0, .int .i64 zeroN.m1, .int .i64 zeroN.m2, .int .i64 zeroN.m3, .int .i64 zeroN.m4, .int .i64 zeroN.m5, .int .i64 zeroN.m6, .int .i64 zeroN.m7, .int .i64 0] 72))
    clear hb2 B1 R1 LF3
    go_wp2
    go_ret2
    exact ⟨rfl, BX.out⟩
  by_cases cl : lc = 0
  case neg => exact FAIL lc cl (by rw [if_neg cl] at EL; exact EL.out) (.inl ⟨cl, rfl, rfl, rfl⟩)
  subst cl
  rw [if_pos rfl] at EL
  obtain ⟨hP, hB, hi, i, i16, ei⟩ := FL.out rfl
  have LV2 := hideIt (LV.out hP hB)
  subst ei
  have hx : x = inoAt dn i := HX.out.trans ((if_pos rfl).trans (by simp only [Int.toNat_natCast]))
  obtain ⟨⟨z0, z8⟩, ti⟩ := OK.out hi i i16 x hx
  have TI := hideIt ti
  rw [EF.out i x hx] at EL
  by_cases c : 0 ≤ page ∧ page < x.size
  case neg => exact FAIL 4 (by decide) (by rw [if_neg c] at EL; exact EL.out) (.inr (.inl ⟨rfl, c, rfl, rfl, rfl⟩))
  clear FAIL FL OK EF LV HX hP hB hi ti hx
  rw [if_pos c] at EL
  have LF3 := hideIt (fun v2 w1 hb h2 => LF2.out v2 w1 hb h2 x i 0 (.inr (.inr ⟨rfl, c, rfl, rfl, rfl⟩)))
  clear LF2
  go_enter Tryz.func9, Tryz.ntmps9
  go_wp2_with fail
  rw [← hW]
  clear hW
  refine (LI.out _ BW.out).mono ?_
  rintro e w1 ⟨v1, rfl, hR, hb1⟩
  have A1 := hideIt hb1
  have B1 := hideIt (below_trans BW.out hb1 BW.out.size)
  have R1 := hideIt hR.rd
  clear hR hb1 x0 x1 x2 x3 LI
  go_wp2_with fail
  refine (LF3.out _ _ B1.out R1.out).mono ?_
  rintro e w2 ⟨rfl, hb2⟩
  have A2 := hideIt (bel2 A1.out hb2)
  have B2 := hideIt (below_trans B1.out hb2 B1.out.size)
  clear hb2 A1 B1 R1 LF3
  have BX := hideIt (B2.out.alloc B2.out.size (.cells #[.int .i64 x.kind, .int .i64 x.size, .int .i64 x.links, .int .i64 x.m0, .int .i64 x.m1, .int .i64 x.m2, .int .i64 x.m3, .int .i64 x.m4, .int .i64 x.m5, .int .i64 x.m6, .int .i64 x.m7, .int .i64 (i : Int)] 72))
  have VX : Hid ((w2.alloc (.cells #[.int .i64 x.kind, .int .i64 x.size, .int .i64 x.links, .int .i64 x.m0, .int .i64 x.m1, .int .i64 x.m2, .int .i64 x.m3, .int .i64 x.m4, .int .i64 x.m5, .int .i64 x.m6, .int .i64 x.m7, .int .i64 (i : Int)] 72)).heap[w2.heap.size]? = some (.cells (x.fa (i : Int)).toArray 72 (0, 0))) := at_new rfl
  have AX := hideIt (A2.out.alloc A2.out.size (.cells #[.int .i64 x.kind, .int .i64 x.size, .int .i64 x.links, .int .i64 x.m0, .int .i64 x.m1, .int .i64 x.m2, .int .i64 x.m3, .int .i64 x.m4, .int .i64 x.m5, .int .i64 x.m6, .int .i64 x.m7, .int .i64 (i : Int)] 72))
  obtain ⟨w3, hw3⟩ : ∃ w3, w3 = w2.alloc (.cells #[.int .i64 x.kind, .int .i64 x.size, .int .i64 x.links, .int .i64 x.m0, .int .i64 x.m1, .int .i64 x.m2, .int .i64 x.m3, .int .i64 x.m4, .int .i64 x.m5, .int .i64 x.m6, .int .i64 x.m7, .int .i64 (i : Int)] 72) := ⟨_, rfl⟩
  rw [← hw3] at VX AX BX
  have hz3 : w2.heap.size < w3.heap.size := (Array.getElem?_eq_some_iff.1 VX.out).1
  have KS : Hid (∀ w', Below w3.heap.size w3 w' → w'.cell? ⟨w2.heap.size, 1, none⟩ = some (.int .i64 x.size)) := fun w' hb => (hb.cell (p := ⟨w2.heap.size, 1, none⟩) hz3).trans (eight_at VX.out 1).1
  have KM : Hid (∀ w', Below w3.heap.size w3 w' → ∀ m, m < 8 → w'.cell? ⟨w2.heap.size, 3 + m, none⟩ = some (.int .i64 (x.map.getD m 0))) := fun w' hb m hm => ((hb.cell (p := ⟨w2.heap.size, 3 + m, none⟩) hz3).trans (eight_at VX.out (3 + m)).1).trans (x.faM _ m hm)
  have y1 := KS.out _ (Below.refl _ _)
  clear VX A2 B2
  obtain ⟨j, rfl⟩ : ∃ j : Nat, page = (j : Int) := ⟨page.toNat, by omega⟩
  rw [Int.toNat_natCast] at EL
  have j8 : j < 8 := by omega
  have te := hideIt (TI.out j j8)
  have LV3 := hideIt (fun w1 hb => LV2.out w1 hb _ te.out)
  have j0 : (0 : Int) ≤ (j : Int) := by omega
  have j1 : (j : Int) < 8 := by omega
  have KE : Hid (∀ w', Below w3.heap.size w3 w' → w'.cell? ⟨w.heap.size, 0, none⟩ = some (.slice dW ws.length eW) ∧ w'.cell? ⟨w.heap.size, 1, none⟩ = some (.slice dP ps.length eP) ∧ w'.cell? ⟨w.heap.size, 2, none⟩ = some (.slice dS es.length eS) ∧ w'.cell? ⟨w.heap.size, 3, none⟩ = some (.slice dQ qs.length eQ) ∧ w'.cell? ⟨w2.heap.size, 3 + j, none⟩ = some (.int .i64 (x.map.getD j 0))) := fun w' hb => by
    obtain ⟨a0, a1, a2, a3⟩ := CD.out w' (bel2 AX.out hb)
    exact ⟨a0, a1, a2, a3, KM.out w' hb j j8⟩
  generalize x.map.getD j 0 = pz at *
  have B3r := hideIt (Below.refl w3.heap.size w3)
  obtain ⟨r0, r1, r2, r3, r4⟩ := KE.out _ B3r.out
  rw [hw3] at r0 r1 r2 r3 r4
  go_wp2_with fail
  rw [← hw3] at r0 r1 r2 r3 r4 ⊢
  clear hw3 c y1 KS KM TI te LV2 CD
  go_region_held3 (fun w' => w'.cell? ⟨w.heap.size, 0, none⟩ = some (.slice dW ws.length eW) ∧ w'.cell? ⟨w.heap.size, 1, none⟩ = some (.slice dP ps.length eP) ∧ w'.cell? ⟨w.heap.size, 2, none⟩ = some (.slice dS es.length eS) ∧ w'.cell? ⟨w.heap.size, 3, none⟩ = some (.slice dQ qs.length eQ) ∧ w'.cell? ⟨w2.heap.size, 3 + j, none⟩ = some (.int .i64 pz))
    (first | with_reducible exact KE.out _ A4.out | with_reducible exact KE.out _ B3r.out | with_reducible exact KE.out _ B3r.out.drew)
    (first
      | (go_at_call 30; refine (LV3.out _ (by first | with_reducible exact BX.out | with_reducible exact BX.out.drew)).mono ?_; rintro e w4 ⟨rfl, hb4⟩; have A4 := hideIt (below_of_drew hb4); clear hb4; obtain ⟨t0, t1, t2, t3, t4⟩ := KE.out _ A4.out))
  all_goals
    have B4 := hideIt (below_trans BX.out A4.out BX.out.size)
    obtain rfl := EL.out
    go_wp2
    go_ret2
    exact ⟨rfl, B4.out⟩
end Go.Proofs.YtgnfbiohjdepcaaGreatDoor
