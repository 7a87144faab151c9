/- Several texts laid together: BlkReadI, DuC, MeC. -/
import Derived.Test.YtmeiionabonhnaaGreatDoorZBS
import Derived.Test.YtmeiionabonhnaaGreatDoorZBE
import Derived.Test.YtmeiionabonhnaaGreatDoorZAX
import Derived.Test.YtmeiionabonhnaaGreatDoorZAW
import Derived.Test.YtmeiionabonhnaaGreatDoorZBQ
import Derived.Test.YtmeiionabonhnaaGreatDoorZAF
import Derived.Test.YtmeiionabonhnaaGreatDoorZAZ
import Derived.Test.YtmeiionabonhnaaGreatDoorZAE
import Derived.Test.YtmeiionabonhnaaGreatDoorZAR
import Derived.Test.YtmeiionabonhnaaGreatDoorZAC
import Derived.Test.YtmeiionabonhnaaGreatDoorZAI
import Derived.Deep.RegionHeld3
import Derived.Deep.LoopGhost
import Derived.WalkMore
import Derived.Maps.OwnSet
import Derived.Deep.RegionLaw
import Derived.Test.YtmeiionabonhnaaGreatDoorZBK
namespace Go.Proofs.YtmeiionabonhnaaGreatDoor
open Go.RowKit
theorem lwFold_full (at_ : Int) : ∀ (ps : List Se) (s : Se) (mo : Int), (ps.length : Int) ≤ mo → ((∀ p ∈ ps, ¬ p.at_ = at_) ∧ (ps.foldl (lwStep at_) (s, mo)).1 = s) ∨ ((ps.foldl (lwStep at_) (s, mo)).1.at_ = at_ ∧ ∀ d, lastE at_ d ps = (ps.foldl (lwStep at_) (s, mo)).1.val)
  | [], s, mo, _ => .inl ⟨by simp, rfl⟩
  | p :: ps, s, mo, h => by
    have h' : (ps.length : Int) + 1 ≤ mo := by simpa using h
    by_cases c : p.at_ = at_
    · have e : lwStep at_ (s, mo) p = (p, mo - 1) := if_pos ⟨c, by show 0 < mo; omega⟩
      rw [List.foldl_cons, e]
      rcases lwFold_full at_ ps p (mo - 1) (by omega) with ⟨h1, h2⟩ | ⟨h1, h2⟩
      · right
        rw [h2]
        refine ⟨c, fun d => ?_⟩
        show lastE at_ (if p.at_ = at_ then p.val else d) ps = p.val
        rw [if_pos c]
        exact lastE_none h1
      · exact .inr ⟨h1, fun d => h2 _⟩
    · have e : lwStep at_ (s, mo) p = (s, mo) := if_neg (fun x => c x.1)
      rw [List.foldl_cons, e]
      rcases lwFold_full at_ ps s mo (by omega) with ⟨h1, h2⟩ | ⟨h1, h2⟩
      · left
        refine ⟨fun q hq => ?_, h2⟩
        rcases List.mem_cons.1 hq with rfl | hq
        · exact c
        · exact h1 q hq
      · exact .inr ⟨h1, fun d => h2 _⟩
theorem lastM_full {at_ : Int} {ps : List Se} (h : ps.length ≤ 400) : ((∀ p ∈ ps, ¬ p.at_ = at_) ∧ lastM at_ 400 ps = ⟨-1, 0⟩) ∨ ((lastM at_ 400 ps).at_ = at_ ∧ ∀ d, lastE at_ d ps = (lastM at_ 400 ps).val) :=
  lwFold_full at_ ps ⟨-1, 0⟩ 400 (by omega)
set_option maxHeartbeats 4000000 in
theorem implBlkRead_any (v : Value) (ws : List Int) (ps : List Se) (at_ : Int) (w : World) (h : RdBlk w v ws ps) (hG : NW w) (hw : ws.length ≤ 1048576) (hp : ps.length ≤ 1048576) :
    Calls Tryz.prog 234 #[v, .int .i64 at_] w fun e w' => e = .returned (.tuple #[.int .i64 (readV ws ps at_), .int .i64 (askE ws ps at_)]) ∧ Below w.heap.size w w' := by
  have HR := hideIt h
  obtain ⟨vW, vP, rfl, h1, h2⟩ := h
  have H2 := hideIt h2
  obtain ⟨aW, cW, rfl, _, hcW⟩ := h1.shape
  obtain ⟨aP, cP, rfl, _⟩ := h2.shape
  clear h1 h2
  have hb0 : Below w.heap.size w (w.alloc (.cells #[.slice aW ws.length cW, .slice aP ps.length cP] 69)) := (Below.refl _ _).alloc (Nat.le_refl _) _
  rcases askE_cases ws ps at_ with hc | ⟨hc, hok, k, rfl, hk, hkl⟩
  · have hne : (askE ws ps at_ != 0) = true := by rcases hc with hc | hc <;> simp [hc]
    have E := hideIt (readV_not (ws := ws) (ps := ps) (at_ := at_) (by rcases hc with hc | hc <;> simp [hc]))
    clear hc hcW
    go_enter Tryz.func234, Tryz.ntmps234
    go_wp2_with (go_at_call 272; refine (sectorFault_any _ ws ps _ _ (HR.out.below hb0) hw hp).mono ?_; rintro e w1 ⟨rfl, hb1⟩)
    go_ret2
    exact ⟨ret_two E.out.symm rfl, below_trans hb0 hb1 (by simp)⟩
  · have E := hideIt (readV_ok hc hkl)
    have C := hideIt hc
    obtain ⟨bW, oW, rfl, hbW, hcellW⟩ := hcW (by omega)
    have hcw := hideIt (hcellW k hkl)
    have LF := hideIt (lastM_full (at_ := (k : Int)) (ps := ps) (blkB_len hok).2)
    clear hc hcW hcellW
    go_enter Tryz.func234, Tryz.ntmps234
    go_wp2_with fail
    refine (sectorFault_any _ ws ps _ _ (HR.out.below hb0) hw hp).mono ?_
    rw [C.out]
    rintro e w1 ⟨rfl, hb1⟩
    have V1 := (hb1.block w.heap.size (by simp)).trans (at_new rfl)
    obtain ⟨x1, x2, _, _⟩ := two_cells V1
    have B1 := hideIt (below_trans hb0 hb1 (by simp))
    have hz1 : w.heap.size + 1 ≤ w1.heap.size := by have := hb1.size; simp at this; omega
    have VH := hideIt V1
    have G1 := hideIt (hG.below B1.out)
    clear V1 hb1 hb0
    go_wp2_with fail
    refine (lastWrite_any _ ps _ _ _ (Rd.below H2.out B1.out) G1.out hp (by omega) (by omega)).mono ?_
    rcases LF.out with ⟨hn, hl⟩ | ⟨ha, hl⟩
    · rw [hl]
      rintro e w2 ⟨rfl, hb2⟩
      have hz2 := hb2.size
      have B2 := hideIt (below_trans B1.out hb2 (by omega))
      have hb3 := below_trans B1.out hb2 (by omega) |>.alloc (by omega) (.cells #[.int .i64 (-1), .int .i64 0] 276)
      obtain ⟨g0, g1⟩ := ((G1.out.below hb2).below ((Below.refl _ _).alloc (Nat.le_refl _) (.cells #[.int .i64 (-1), .int .i64 0] 276))).cells
      obtain ⟨x1', x2', _, _⟩ := two_cells (at_old (o := .cells #[.int .i64 (-1), .int .i64 0] 276) ((hb2.block w.heap.size (by omega)).trans VH.out))
      have hcw1 := (hb3.cell (p := ⟨bW, oW + k, none⟩) hbW).trans hcw.out
      have B3 := hideIt hb3
      have E2 := hideIt (lastE_none (d := ws[k]) hn)
      clear hb2 hb3 hn hl x1 x2
      go_wp2
      go_ret2
      exact ⟨ret_two (E.out.trans E2.out).symm C.out.symm, B3.out⟩
    · rw [ha]
      rintro e w2 ⟨rfl, hb2⟩
      have hz2 := hb2.size
      have hb3 := below_trans B1.out hb2 (by omega) |>.alloc (by omega) (.cells #[.int .i64 (k : Int), .int .i64 (lastM (k : Int) 400 ps).val] 276)
      obtain ⟨g0, g1⟩ := ((G1.out.below hb2).below ((Below.refl _ _).alloc (Nat.le_refl _) (.cells #[.int .i64 (k : Int), .int .i64 (lastM (k : Int) 400 ps).val] 276))).cells
      have B3 := hideIt hb3
      have E2 := hideIt (hl ws[k])
      have kn : ((k : Int) == -1) = false := by first | (simp; done) | (simp; omega)
      clear hb2 hb3 ha hl x1 x2
      generalize (lastM (k : Int) 400 ps).val = y at *
      go_wp2
      go_ret2
      exact ⟨ret_two (E.out.trans E2.out).symm C.out.symm, B3.out⟩
end Go.Proofs.YtmeiionabonhnaaGreatDoor

namespace Go.Proofs.YtmeiionabonhnaaGreatDoor
open Go.RowKit
theorem load_page {ws : List Int} {ps : List St} (h : pmB ws ps = true) {k : Nat} (hk : k < 24) : loadV ws ps (312 + (k : Int)) = ldW ws ps (312 + k) ∧ askC ws ps (312 + (k : Int)) = 0 := by
  have p : placeB (312 + (k : Int)) = true := decide_eq_true (by omega)
  have a : askC ws ps (312 + (k : Int)) = 0 := by unfold askC; rw [h, p]; rfl
  refine ⟨?_, a⟩
  unfold loadV ldW
  rw [if_pos a, show (312 + (k : Int)).toNat = 312 + k by omega, show ((312 + k : Nat) : Int) = 312 + (k : Int) by omega]
theorem read_page {es : List Int} {qs : List Se} (h : blkB es qs = true) {k : Nat} (hk : k < 32) : readV es qs (k : Int) = lastE (k : Int) (es[k]?.getD 0) qs ∧ askE es qs (k : Int) = 0 := by
  have p : secB (k : Int) = true := decide_eq_true (by omega)
  have a : askE es qs (k : Int) = 0 := by unfold askE; rw [h, p]; rfl
  refine ⟨?_, a⟩
  unfold readV
  rw [if_pos a, Int.toNat_natCast]
set_option maxRecDepth 100000 in
set_option maxHeartbeats 4000000 in
theorem wordOfE_any (v : Value) (ws : List Int) (ps : List St) (es : List Int) (qs : List Se) (e : Int) (w : World) (h : RdDev w v ws ps es qs) (hP : pmB ws ps = true) (hB : blkB es qs = true) (te : tieB e = true) (hT : TS w) (hN : NW w) :
    Calls Tryz.prog 174 #[v, .int .i64 e] w fun r w' => r = .returned (.int .i64 (pgV ws ps es qs e)) ∧ Below w.heap.size w w' := by
  obtain ⟨aW, cW, aP, cP, aS, cS, aQ, cQ, rfl, h1, h2⟩ := h.form
  have te' : 0 ≤ e ∧ ((e % 4 = 0 ∧ e / 4 = 0) ∨ (e % 4 = 1 ∧ 0 ≤ e / 4 ∧ e / 4 < 24) ∨ (e % 4 = 2 ∧ 0 ≤ e / 4 ∧ e / 4 < 32)) := by
    unfold tieB addrB at te
    rw [Bool.and_eq_true, decide_eq_true_eq, decide_eq_true_eq] at te
    exact te
  have wl := pmB_len hP
  have el := blkB_len hB
  have BW : Hid (Below w.heap.size w (w.alloc (.cells #[.slice aW ws.length cW, .slice aP ps.length cP, .slice aS es.length cS, .slice aQ qs.length cQ] 71))) := (Below.refl _ _).alloc (Nat.le_refl _) _
  have LT : Hid (∀ w1, Below w.heap.size w w1 → Calls Tryz.prog 232 #[.int .i64 e] w1 fun r w' => r = .returned (.tuple #[.int .i64 (e % 4), .int .i64 (e / 4), .int .i64 0]) ∧ w' = w1) := fun w1 hb => by
    have q := implTierOf_any e w1 (hT.below hb) (by omega) (by omega)
    rw [(tie_in te).1, (tie_in te).2.1, (tie_in te).2.2] at q
    exact q
  have EV := hideIt (show pgV ws ps es qs e = if e % 4 = 1 then ldW ws ps (312 + e / 4).toNat else if e % 4 = 2 then lastE (e / 4) (es[(e / 4).toNat]?.getD 0) qs else 0 from rfl)
  have L1 : Hid (∀ (k : Nat), k < 24 → ∀ w1, Below w.heap.size w w1 → Calls Tryz.prog 233 #[.agg #[.slice aW ws.length cW, .slice aP ps.length cP], .int .i64 (312 + (k : Int))] w1 fun r w' => r = .returned (.tuple #[.int .i64 (ldW ws ps (312 + k)), .int .i64 0]) ∧ Below w1.heap.size w1 w') := fun k hk w1 hb => by
    have := implPmLoad_any _ ws ps (312 + (k : Int)) w1 (h1.below hb) (by omega) (by omega)
    rw [(load_page hP hk).1, (load_page hP hk).2] at this
    exact this
  have L2 : Hid (∀ (k : Nat), k < 32 → ∀ w1, Below w.heap.size w w1 → Calls Tryz.prog 234 #[.agg #[.slice aS es.length cS, .slice aQ qs.length cQ], .int .i64 (k : Int)] w1 fun r w' => r = .returned (.tuple #[.int .i64 (lastE (k : Int) (es[k]?.getD 0) qs), .int .i64 0]) ∧ Below w1.heap.size w1 w') := fun k hk w1 hb => by
    have := implBlkRead_any _ es qs (k : Int) w1 (h2.below hb) (hN.below hb) (by omega) (by omega)
    rw [(read_page hB hk).1, (read_page hB hk).2] at this
    exact this
  clear h h1 h2 te hP hB wl el hT hN
  generalize pgV ws ps es qs e = r at *
  generalize e % 4 = t at *
  generalize e / 4 = a at *
  rcases te'.2 with ⟨rfl, rfl⟩ | ⟨rfl, a0, a1⟩ | ⟨rfl, a0, a1⟩
  · rw [if_neg (by omega), if_neg (by omega)] at EV
    obtain rfl := EV.out
    clear te' L1 L2 EV
    go_enter Tryz.func174, Tryz.ntmps174
    go_wp2_with fail
    refine (LT.out _ BW.out).mono ?_
    rintro r w1 ⟨rfl, hw1⟩
    subst w1
    go_wp2
    go_ret
    exact ⟨rfl, BW.out⟩
  · obtain ⟨k, rfl⟩ : ∃ k : Nat, a = (k : Int) := ⟨a.toNat, by omega⟩
    rw [if_pos rfl, show (312 + (k : Int)).toNat = 312 + k by omega] at EV
    obtain rfl := EV.out
    have k24 : k < 24 := by omega
    have Q := hideIt (L1.out k k24)
    clear te' L1 L2 EV a0 a1
    go_enter Tryz.func174, Tryz.ntmps174
    go_wp2_with fail
    refine (LT.out _ BW.out).mono ?_
    rintro r w1 ⟨rfl, hw1⟩
    subst w1
    go_wp2_with fail
    refine (Q.out _ BW.out).mono ?_
    rintro r w2 ⟨rfl, hb2⟩
    have B2 := hideIt (below_trans BW.out hb2 BW.out.size)
    clear hb2
    go_wp2
    go_ret
    exact ⟨rfl, B2.out⟩
  · obtain ⟨k, rfl⟩ : ∃ k : Nat, a = (k : Int) := ⟨a.toNat, by omega⟩
    rw [if_neg (by omega), if_pos rfl, Int.toNat_natCast] at EV
    obtain rfl := EV.out
    have k32 : k < 32 := by omega
    have Q := hideIt (L2.out k k32)
    clear te' L1 L2 EV a0 a1
    go_enter Tryz.func174, Tryz.ntmps174
    go_wp2_with fail
    refine (LT.out _ BW.out).mono ?_
    rintro r w1 ⟨rfl, hw1⟩
    subst w1
    go_wp2_with fail
    refine (Q.out _ BW.out).mono ?_
    rintro r w2 ⟨rfl, hb2⟩
    have B2 := hideIt (below_trans BW.out hb2 BW.out.size)
    clear hb2
    go_wp2
    go_ret
    exact ⟨rfl, B2.out⟩
end Go.Proofs.YtmeiionabonhnaaGreatDoor

namespace Go.Proofs.YtmeiionabonhnaaGreatDoor
open Go.RowKit
set_option maxRecDepth 100000 in
set_option maxHeartbeats 8000000 in
theorem pageWords_any (v : Value) (ws : List Int) (ps : List St) (es : List Int) (qs : List Se) (x : Ino) (w : World) (h : RdDev w v ws ps es qs) (hP : pmB ws ps = true) (hB : blkB es qs = true) (hx : inoB x = true) (hT : TS w) (hN : NW w) :
    Calls Tryz.prog 114 #[v, .agg #[.int .i64 x.kind, .int .i64 x.size, .int .i64 x.links, .int .i64 x.m0, .int .i64 x.m1, .int .i64 x.m2, .int .i64 x.m3, .int .i64 x.m4, .int .i64 x.m5, .int .i64 x.m6, .int .i64 x.m7]] w fun e w' => ∃ v', e = .returned v' ∧ Row w' 3 1 w.heap.size w'.heap.size v' (pgL ws ps es qs x x.size.toNat).length (ints (pgL ws ps es qs x x.size.toNat)) ∧ Below w.heap.size w w' := by
  have LV2 := hideIt (fun w1 (hb : Below w.heap.size w w1) z (hz : tieB z = true) => wordOfE_any v ws ps es qs z w1 (h.below hb) hP hB hz (hT.below hb) (hN.below hb))
  have OK : Hid ((0 ≤ x.size ∧ x.size ≤ 8) ∧ ∀ j : Nat, j < 8 → tieB (x.map.getD j 0) = true) := by
    refine ⟨(ino_parts hx).2.1, fun j hj => (ino_ties hx).1 _ ?_⟩
    rw [List.getD_eq_getElem?_getD, List.getElem?_eq_getElem (show j < x.map.length from hj)]
    exact List.getElem_mem _
  obtain ⟨dW, eW, dP, eP, dS, eS, dQ, eQ, rfl, -, -⟩ := h.form
  clear h hT hN hP hB hx
  obtain ⟨w3, hw3⟩ : ∃ w3, w3 = (w.alloc (.cells #[.slice dW ws.length eW, .slice dP ps.length eP, .slice dS es.length eS, .slice dQ qs.length eQ] 71)).alloc (.cells #[.int .i64 x.kind, .int .i64 x.size, .int .i64 x.links, .int .i64 x.m0, .int .i64 x.m1, .int .i64 x.m2, .int .i64 x.m3, .int .i64 x.m4, .int .i64 x.m5, .int .i64 x.m6, .int .i64 x.m7] 150) := ⟨_, rfl⟩
  have hz3 : w.heap.size + 1 < w3.heap.size := by rw [hw3]; simp
  have hz4 : w.heap.size < w3.heap.size := by omega
  have BX : Hid (Below w.heap.size w w3) := by rw [hw3]; exact ((Below.refl _ _).alloc (Nat.le_refl _) _).alloc (by simp) _
  have KE : Hid (∀ w', Below w3.heap.size w3 w' → w'.cell? ⟨w.heap.size, 0, none⟩ = some (.slice dW ws.length eW) ∧ w'.cell? ⟨w.heap.size, 1, none⟩ = some (.slice dP ps.length eP) ∧ w'.cell? ⟨w.heap.size, 2, none⟩ = some (.slice dS es.length eS) ∧ w'.cell? ⟨w.heap.size, 3, none⟩ = some (.slice dQ qs.length eQ)) := fun w' hb => by
    have : w'.heap[w.heap.size]? = some (.cells #[.slice dW ws.length eW, .slice dP ps.length eP, .slice dS es.length eS, .slice dQ qs.length eQ] 71 (0, 0)) := (hb.block _ hz4).trans (by rw [hw3]; exact at_old (at_new rfl))
    obtain ⟨x0, x1, x2, x3, -, -, -, -⟩ := four_cells this
    exact ⟨x0, x1, x2, x3⟩
  have VX : Hid (w3.heap[w.heap.size + 1]? = some (.cells x.cs.toArray 150 (0, 0))) := by
    rw [hw3]
    have q := at_new (w := w.alloc (.cells #[.slice dW ws.length eW, .slice dP ps.length eP, .slice dS es.length eS, .slice dQ qs.length eQ] 71)) (o := .cells x.cs.toArray 150) rfl
    rw [World.size_alloc] at q
    exact q
  have KS : Hid (∀ w', Below w3.heap.size w3 w' → w'.cell? ⟨w.heap.size + 1, 1, none⟩ = some (.int .i64 x.size)) := fun w' hb => (hb.cell (p := ⟨w.heap.size + 1, 1, none⟩) hz3).trans (eight_at (xs := x.cs) VX.out 1).1
  have KM : Hid (∀ w', Below w3.heap.size w3 w' → ∀ m, m < 8 → w'.cell? ⟨w.heap.size + 1, 3 + m, none⟩ = some (.int .i64 (x.map.getD m 0))) := fun w' hb m hm => ((hb.cell (p := ⟨w.heap.size + 1, 3 + m, none⟩) hz3).trans (eight_at (xs := x.cs) VX.out (3 + m)).1).trans (x.at m hm)
  obtain ⟨⟨z0, z8⟩, ti⟩ := OK.out
  have TI := hideIt ti
  clear VX OK ti
  have y1 := KS.out _ (Below.refl _ _)
  obtain ⟨N, hN⟩ : ∃ N : Nat, x.size = (N : Int) := ⟨x.size.toNat, by omega⟩
  have N8 : N ≤ 8 := by omega
  have EN := hideIt (show x.size.toNat = N by omega)
  rw [EN.out]
  rw [hN] at KS y1
  have START : Hid (InI w3 w3 (.slice none 0 0) (pgL ws ps es qs x 0)) := ⟨World.ownsRow_nil _ _ _ _, Below.refl _ _⟩
  have nn : (0 : Int) ≤ (N : Int) := by omega
  have n8 : (N : Int) ≤ 8 := by omega
  have hsl : ∀ w1, (Instr.sliceAt 148 (.pointer (some ⟨w.heap.size + 1, 3, none⟩)) none (some (.int .i64 x.size)) none).run Tryz.prog w1 = .ok (.slice (some ⟨w.heap.size + 1, 3, none⟩) N 8) w1 := fun w1 => by rw [hN]; exact mapHead w1 _ N N8
  rw [hN] at hsl
  clear EN z0 z8
  go_enter Tryz.func114, Tryz.ntmps114
  rw [hN] at hw3 ⊢
  go_wp2
  rw [← hw3]
  clear hw3 y1 hN
  go_loopw [5, 13] (fun vL k wr => ∃ m : Nat, m ≤ N ∧ k = .int .i64 (m : Int) ∧ Hid (InI w3 wr vL (pgL ws ps es qs x m))) (fun _ k _ => N - (intOf k).toNat)
  case atStart => exact ⟨0, by omega, rfl, START⟩
  case round =>
    obtain ⟨m, hm, rfl, J⟩ := hrel
    clear START
    have m0 : (0 : Int) ≤ (m : Int) := by omega
    have JW := hideIt (below_trans BX.out J.out.b BX.out.size)
    by_cases hlt : m < N
    · have m1 : (m : Int) < (N : Int) := by omega
      have m8 : m < 8 := by omega
      have LV3 := hideIt (fun w1 hb => LV2.out w1 hb _ (TI.out m m8))
      have EM := hideIt (pgL_step ws ps es qs x m)
      have l2 : (pgL ws ps es qs x m).length ≤ 8 := by rw [pgL_len]; omega
      have y2 := KM.out wr J.out.b m m8
      obtain ⟨r0, r1, r2, r3⟩ := KE.out wr J.out.b
      generalize pgV ws ps es qs (x.map.getD m 0) = y at *
      generalize x.map.getD m 0 = z at *
      go_wp2_with fail
      refine (LV3.out _ JW.out).mono ?_
      rintro e w5 ⟨rfl, hb5⟩
      have JB : Hid (InI w3 (w5.alloc (.cells #[.int .i64 y] 3)) u5 (pgL ws ps es qs x m)) := (J.out.below hb5).below ((Below.refl _ _).alloc (Nat.le_refl _) _)
      have RB := hideIt (rd_int w5 y)
      have hzb := JB.out.z
      clear hb5 r0 r1 r2 r3 y2
      go_wp2_with (at_builtin; refine wpList_append_rd _ rfl (.tmp 17) (.tmp 21) 43 rfl w3.heap.size 3 (.int .i64 0) 1 8 Tryz.underlying43 info3 rfl (by decide) _ _ _ rfl JB.out.l _ 1 _ rfl RB.out (one_int _) (by first | omega | (simp [maxLen]; omega)) (by first | omega | (simp; omega)) hzb ?_)
      intro vN wN hownN hgrN
      have G := hideIt (JB.out.grow y hownN hgrN)
      rw [← EM.out] at G
      clear hownN hgrN JB RB J
      go_wp2
      go_roundw
      case rel => exact ⟨m + 1, by omega, by go_num, G⟩
      case measure => simp [intOf]; omega
    · obtain rfl : m = N := by omega
      obtain ⟨-, aN, cN, hvN, -⟩ := (own_block J.out.l).rd
      subst hvN
      go_wp2
      go_ret
      exact ⟨_, rfl, (own_block J.out.l).wide BX.out.size (Nat.le_refl _), JW.out⟩
set_option maxRecDepth 100000 in
set_option maxHeartbeats 8000000 in
theorem modelOf1_any (b : Nat) (i : Int) (v : Value) (ws : List Int) (ps : List St) (es : List Int) (qs : List Se) (x : Ino) (w : World) (h : RdDev w v ws ps es qs) (hb : ∃ a0 n0 c0 a1 n1 c1 a2 n2 c2 a3 n3 c3, v = .agg #[.slice a0 n0 c0, .slice a1 n1 c1, .slice a2 n2 c2, .slice a3 n3 c3] ∧ w.heap[b]? = some (.cells #[.slice a0 n0 c0, .slice a1 n1 c1, .slice a2 n2 c2, .slice a3 n3 c3] 71 (0, 0))) (hP : pmB ws ps = true) (hB : blkB es qs = true) (hx : inoB x = true) (hT : TS w) (hN : NW w) :
    Calls Tryz.prog 113 #[.int .i64 i, .agg #[.int .i64 x.kind, .int .i64 x.size, .int .i64 x.links, .int .i64 x.m0, .int .i64 x.m1, .int .i64 x.m2, .int .i64 x.m3, .int .i64 x.m4, .int .i64 x.m5, .int .i64 x.m6, .int .i64 x.m7], .pointer (some ⟨b, 0, none⟩)] w fun e w' => ∃ v', e = .returned v' ∧ Row w' 3 1 w.heap.size w'.heap.size v' (pgL ws ps es qs x x.size.toNat).length (ints (pgL ws ps es qs x x.size.toNat)) ∧ Below w.heap.size w w' := by
  have LP := hideIt (fun w1 (hb : Below w.heap.size w w1) => pageWords_any v ws ps es qs x w1 (h.below hb) hP hB hx (hT.below hb) (hN.below hb))
  obtain ⟨a0, n0, c0, a1, n1, c1, a2, n2, c2, a3, n3, c3, rfl, hb⟩ := hb
  have hlt : b < w.heap.size := (Array.getElem?_eq_some_iff.1 hb).1
  clear h hT hN hP hB hx
  obtain ⟨W, hW⟩ : ∃ W, W = w.alloc (.cells #[.int .i64 x.kind, .int .i64 x.size, .int .i64 x.links, .int .i64 x.m0, .int .i64 x.m1, .int .i64 x.m2, .int .i64 x.m3, .int .i64 x.m4, .int .i64 x.m5, .int .i64 x.m6, .int .i64 x.m7] 150) := ⟨_, rfl⟩
  have BW : Hid (Below w.heap.size w W) := by rw [hW]; exact (Below.refl _ _).alloc (Nat.le_refl _) _
  have VX : Hid (W.heap[w.heap.size]? = some (.cells x.cs.toArray 150 (0, 0))) := by rw [hW]; exact at_new rfl
  have VD := (BW.out.block b hlt).trans hb
  obtain ⟨x0, x1, x2, x3, -, -, -, -⟩ := four_cells VD
  obtain ⟨k0, k1, k2, k3, -, -, -, -⟩ := four_cells hb
  have e0 := (eight_at (xs := x.cs) VX.out 0).1
  have e1 := (eight_at (xs := x.cs) VX.out 1).1
  have e2 := (eight_at (xs := x.cs) VX.out 2).1
  have e3 := (eight_at (xs := x.cs) VX.out 3).1
  have e4 := (eight_at (xs := x.cs) VX.out 4).1
  have e5 := (eight_at (xs := x.cs) VX.out 5).1
  have e6 := (eight_at (xs := x.cs) VX.out 6).1
  have e7 := (eight_at (xs := x.cs) VX.out 7).1
  have e8 := (eight_at (xs := x.cs) VX.out 8).1
  have e9 := (eight_at (xs := x.cs) VX.out 9).1
  have e10 := (eight_at (xs := x.cs) VX.out 10).1
  simp only [Ino.cs, List.getElem?_cons_zero, List.getElem?_cons_succ] at e0 e1 e2 e3 e4 e5 e6 e7 e8 e9 e10
  clear VX VD hb
  go_enter Tryz.func113, Tryz.ntmps113
  go_wp2_with fail
  rw [← hW]
  refine (LP.out W BW.out).mono ?_
  rintro e w1 ⟨v1, rfl, hr, hb1⟩
  have B1 := hideIt (below_trans BW.out hb1 BW.out.size)
  have R1 := hideIt (hr.wide BW.out.size (Nat.le_refl _))
  clear hr hb1 e0 e1 e2 e3 e4 e5 e6 e7 e8 e9 e10 x0 x1 x2 x3
  go_wp2
  go_ret
  exact ⟨_, rfl, R1.out, B1.out⟩
end Go.Proofs.YtmeiionabonhnaaGreatDoor
