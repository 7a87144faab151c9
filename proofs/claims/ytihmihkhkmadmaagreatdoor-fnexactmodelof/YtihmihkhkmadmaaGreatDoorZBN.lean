/- Several texts laid together: BlkReadI, DuC. -/
import Derived.Test.YtihmihkhkmadmaaGreatDoorZBM
import Derived.Test.YtihmihkhkmadmaaGreatDoorZAX
import Derived.Test.YtihmihkhkmadmaaGreatDoorZAG
import Derived.Test.YtihmihkhkmadmaaGreatDoorZAM
import Derived.Test.YtihmihkhkmadmaaGreatDoorZAF
import Derived.Test.YtihmihkhkmadmaaGreatDoorRows
import Derived.Test.YtihmihkhkmadmaaGreatDoorZAL
import Derived.Test.YtihmihkhkmadmaaGreatDoorImX
import Derived.Test.YtihmihkhkmadmaaGreatDoorPiJ
import Derived.Test.YtihmihkhkmadmaaGreatDoorZBA
import Derived.Test.YtihmihkhkmadmaaGreatDoorWt
import Derived.Test.YtihmihkhkmadmaaGreatDoorZAB
import Derived.Deep.RegionHeld3
import Derived.Deep.LoopGhost
import Derived.Laws.OwnMore
import Derived.Lib.SplitLaws
import Derived.Lib.IndexBytes
import Derived.Deep.DeepCutAuto
import Derived.Deep.RegionWith
import Derived.Lib.Strings
import Derived.WalkMore
import Derived.Shelf.Small.Strs
import Derived.Shelf.Small.Wraps
import Derived.Shelf.Strings.Search3
import Derived.Shelf.Strings.Count
import Derived.Shelf.Strings.Split
import Derived.Maps.OwnSet
import Derived.Maps.Views
import Derived.BigQuiet
import Derived.Sort.Walk0
import Derived.Laws.Cover1
import Derived.Deep.RegionLaw
namespace Go.Proofs.YtihmihkhkmadmaaGreatDoor
open Go.RowKit
theorem lwFold_full (at_ : Int) : ∀ (ps : List Se) (s : Se) (mo : Int), (ps.length : Int) ≤ mo → ((∀ p ∈ ps, ¬ p.at_ = at_) ∧ (ps.foldl (lwStep at_) (s, mo)).1 = s) ∨ ((ps.foldl (lwStep at_) (s, mo)).1.at_ = at_ ∧ ∀ d, lastE at_ d ps = (ps.foldl (lwStep at_) (s, mo)).1.val)
  | [], s, mo, _ => .inl ⟨by simp, rfl⟩
  | p :: ps, s, mo, h => by
    have h' : (ps.length : Int) + 1 ≤ mo := by simpa using h
    by_cases c : p.at_ = at_
    · have e : lwStep at_ (s, mo) p = (p, mo - 1) := if_pos ⟨c, by show 0 < mo; omega⟩
      rw [List.foldl_cons, e]
      rcases lwFold_full at_ ps p (mo - 1) (by omega) with ⟨h1, h2⟩ | ⟨h1, h2⟩
      · right
        rw [h2]
        refine ⟨c, fun d => ?_⟩
        show lastE at_ (if p.at_ = at_ then p.val else d) ps = p.val
        rw [if_pos c]
        exact lastE_none h1
      · exact .inr ⟨h1, fun d => h2 _⟩
    · have e : lwStep at_ (s, mo) p = (s, mo) := if_neg (fun x => c x.1)
      rw [List.foldl_cons, e]
      rcases lwFold_full at_ ps s mo (by omega) with ⟨h1, h2⟩ | ⟨h1, h2⟩
      · left
        refine ⟨fun q hq => ?_, h2⟩
        rcases List.mem_cons.1 hq with rfl | hq
        · exact c
        · exact h1 q hq
      · exact .inr ⟨h1, fun d => h2 _⟩
theorem lastM_full {at_ : Int} {ps : List Se} (h : ps.length ≤ 400) : ((∀ p ∈ ps, ¬ p.at_ = at_) ∧ lastM at_ 400 ps = ⟨-1, 0⟩) ∨ ((lastM at_ 400 ps).at_ = at_ ∧ ∀ d, lastE at_ d ps = (lastM at_ 400 ps).val) :=
  lwFold_full at_ ps ⟨-1, 0⟩ 400 (by omega)
set_option maxHeartbeats 4000000 in
theorem implBlkRead_any (v : Value) (ws : List Int) (ps : List Se) (at_ : Int) (w : World) (h : RdBlk w v ws ps) (hG : NW w) (hw : ws.length ≤ 1048576) (hp : ps.length ≤ 1048576) :
    Calls Tryz.prog 89 #[v, .int .i64 at_] w fun e w' => e = .returned (.tuple #[.int .i64 (readV ws ps at_), .int .i64 (askE ws ps at_)]) ∧ Below w.heap.size w w' := by
  have HR := hideIt h
  obtain ⟨vW, vP, rfl, h1, h2⟩ := h
  have H2 := hideIt h2
  obtain ⟨aW, cW, rfl, _, hcW⟩ := h1.shape
  obtain ⟨aP, cP, rfl, _⟩ := h2.shape
  clear h1 h2
  have hb0 : Below w.heap.size w (w.alloc (.cells #[.slice aW ws.length cW, .slice aP ps.length cP] 43)) := (Below.refl _ _).alloc (Nat.le_refl _) _
  rcases askE_cases ws ps at_ with hc | ⟨hc, hok, k, rfl, hk, hkl⟩
  · have hne : (askE ws ps at_ != 0) = true := by rcases hc with hc | hc <;> simp [hc]
    have E := hideIt (readV_not (ws := ws) (ps := ps) (at_ := at_) (by rcases hc with hc | hc <;> simp [hc]))
    clear hc hcW
    go_enter Tryz.func89, Tryz.ntmps89
    go_wp2_with (go_at_call 113; refine (sectorFault_any _ ws ps _ _ (HR.out.below hb0) hw hp).mono ?_; rintro e w1 ⟨rfl, hb1⟩)
    go_ret2
    exact ⟨ret_two E.out.symm rfl, below_trans hb0 hb1 (by simp)⟩
  · have E := hideIt (readV_ok hc hkl)
    have C := hideIt hc
    obtain ⟨bW, oW, rfl, hbW, hcellW⟩ := hcW (by omega)
    have hcw := hideIt (hcellW k hkl)
    have LF := hideIt (lastM_full (at_ := (k : Int)) (ps := ps) (blkB_len hok).2)
    clear hc hcW hcellW
    go_enter Tryz.func89, Tryz.ntmps89
    go_wp2_with fail
    refine (sectorFault_any _ ws ps _ _ (HR.out.below hb0) hw hp).mono ?_
    rw [C.out]
    rintro e w1 ⟨rfl, hb1⟩
    have V1 := (hb1.block w.heap.size (by simp)).trans (at_new rfl)
    obtain ⟨x1, x2, _, _⟩ := two_cells V1
    have B1 := hideIt (below_trans hb0 hb1 (by simp))
    have hz1 : w.heap.size + 1 ≤ w1.heap.size := by have := hb1.size; simp at this; omega
    have VH := hideIt V1
    have G1 := hideIt (hG.below B1.out)
    clear V1 hb1 hb0
    go_wp2_with fail
    refine (lastWrite_any _ ps _ _ _ (Rd.below H2.out B1.out) G1.out hp (by omega) (by omega)).mono ?_
    rcases LF.out with ⟨hn, hl⟩ | ⟨ha, hl⟩
    · rw [hl]
      rintro e w2 ⟨rfl, hb2⟩
      have hz2 := hb2.size
      have B2 := hideIt (below_trans B1.out hb2 (by omega))
      have hb3 := below_trans B1.out hb2 (by omega) |>.alloc (by omega) (.cells #[.int .i64 (-1), .int .i64 0] 112)
      obtain ⟨g0, g1⟩ := ((G1.out.below hb2).below ((Below.refl _ _).alloc (Nat.le_refl _) (.cells #[.int .i64 (-1), .int .i64 0] 112))).cells
      obtain ⟨x1', x2', _, _⟩ := two_cells (at_old (o := .cells #[.int .i64 (-1), .int .i64 0] 112) ((hb2.block w.heap.size (by omega)).trans VH.out))
      have hcw1 := (hb3.cell (p := ⟨bW, oW + k, none⟩) hbW).trans hcw.out
      have B3 := hideIt hb3
      have E2 := hideIt (lastE_none (d := ws[k]) hn)
      clear hb2 hb3 hn hl x1 x2
      go_wp2
      go_ret2
      exact ⟨ret_two (E.out.trans E2.out).symm C.out.symm, B3.out⟩
    · rw [ha]
      rintro e w2 ⟨rfl, hb2⟩
      have hz2 := hb2.size
      have hb3 := below_trans B1.out hb2 (by omega) |>.alloc (by omega) (.cells #[.int .i64 (k : Int), .int .i64 (lastM (k : Int) 400 ps).val] 112)
      obtain ⟨g0, g1⟩ := ((G1.out.below hb2).below ((Below.refl _ _).alloc (Nat.le_refl _) (.cells #[.int .i64 (k : Int), .int .i64 (lastM (k : Int) 400 ps).val] 112))).cells
      have B3 := hideIt hb3
      have E2 := hideIt (hl ws[k])
      have kn : ((k : Int) == -1) = false := by first | (simp; done) | (simp; omega)
      clear hb2 hb3 ha hl x1 x2
      generalize (lastM (k : Int) 400 ps).val = y at *
      go_wp2
      go_ret2
      exact ⟨ret_two (E.out.trans E2.out).symm C.out.symm, B3.out⟩
end Go.Proofs.YtihmihkhkmadmaaGreatDoor

namespace Go.Proofs.YtihmihkhkmadmaaGreatDoor
open Go.RowKit
theorem load_page {ws : List Int} {ps : List St} (h : pmB ws ps = true) {k : Nat} (hk : k < 24) : loadV ws ps (312 + (k : Int)) = ldW ws ps (312 + k) ∧ askC ws ps (312 + (k : Int)) = 0 := by
  have p : placeB (312 + (k : Int)) = true := decide_eq_true (by omega)
  have a : askC ws ps (312 + (k : Int)) = 0 := by unfold askC; rw [h, p]; rfl
  refine ⟨?_, a⟩
  unfold loadV ldW
  rw [if_pos a, show (312 + (k : Int)).toNat = 312 + k by omega, show ((312 + k : Nat) : Int) = 312 + (k : Int) by omega]
theorem read_page {es : List Int} {qs : List Se} (h : blkB es qs = true) {k : Nat} (hk : k < 32) : readV es qs (k : Int) = lastE (k : Int) (es[k]?.getD 0) qs ∧ askE es qs (k : Int) = 0 := by
  have p : secB (k : Int) = true := decide_eq_true (by omega)
  have a : askE es qs (k : Int) = 0 := by unfold askE; rw [h, p]; rfl
  refine ⟨?_, a⟩
  unfold readV
  rw [if_pos a, Int.toNat_natCast]
set_option maxRecDepth 100000 in
set_option maxHeartbeats 4000000 in
theorem wordOfE_any (v : Value) (ws : List Int) (ps : List St) (es : List Int) (qs : List Se) (e : Int) (w : World) (h : RdDev w v ws ps es qs) (hP : pmB ws ps = true) (hB : blkB es qs = true) (te : tieB e = true) (hT : TS w) (hN : NW w) :
    Calls Tryz.prog 54 #[v, .int .i64 e] w fun r w' => r = .returned (.int .i64 (pgV ws ps es qs e)) ∧ Below w.heap.size w w' := by
  obtain ⟨aW, cW, aP, cP, aS, cS, aQ, cQ, rfl, h1, h2⟩ := h.form
  have te' : 0 ≤ e ∧ ((e % 4 = 0 ∧ e / 4 = 0) ∨ (e % 4 = 1 ∧ 0 ≤ e / 4 ∧ e / 4 < 24) ∨ (e % 4 = 2 ∧ 0 ≤ e / 4 ∧ e / 4 < 32)) := by
    unfold tieB addrB at te
    rw [Bool.and_eq_true, decide_eq_true_eq, decide_eq_true_eq] at te
    exact te
  have wl := pmB_len hP
  have el := blkB_len hB
  have BW : Hid (Below w.heap.size w (w.alloc (.cells #[.slice aW ws.length cW, .slice aP ps.length cP, .slice aS es.length cS, .slice aQ qs.length cQ] 45))) := (Below.refl _ _).alloc (Nat.le_refl _) _
  have LT : Hid (∀ w1, Below w.heap.size w w1 → Calls Tryz.prog 87 #[.int .i64 e] w1 fun r w' => r = .returned (.tuple #[.int .i64 (e % 4), .int .i64 (e / 4), .int .i64 0]) ∧ w' = w1) := fun w1 hb => by
    have q := implTierOf_any e w1 (hT.below hb) (by omega) (by omega)
    rw [(tie_in te).1, (tie_in te).2.1, (tie_in te).2.2] at q
    exact q
  have EV := hideIt (show pgV ws ps es qs e = if e % 4 = 1 then ldW ws ps (312 + e / 4).toNat else if e % 4 = 2 then lastE (e / 4) (es[(e / 4).toNat]?.getD 0) qs else 0 from rfl)
  have L1 : Hid (∀ (k : Nat), k < 24 → ∀ w1, Below w.heap.size w w1 → Calls Tryz.prog 88 #[.agg #[.slice aW ws.length cW, .slice aP ps.length cP], .int .i64 (312 + (k : Int))] w1 fun r w' => r = .returned (.tuple #[.int .i64 (ldW ws ps (312 + k)), .int .i64 0]) ∧ Below w1.heap.size w1 w') := fun k hk w1 hb => by
    have := implPmLoad_any _ ws ps (312 + (k : Int)) w1 (h1.below hb) (by omega) (by omega)
    rw [(load_page hP hk).1, (load_page hP hk).2] at this
    exact this
  have L2 : Hid (∀ (k : Nat), k < 32 → ∀ w1, Below w.heap.size w w1 → Calls Tryz.prog 89 #[.agg #[.slice aS es.length cS, .slice aQ qs.length cQ], .int .i64 (k : Int)] w1 fun r w' => r = .returned (.tuple #[.int .i64 (lastE (k : Int) (es[k]?.getD 0) qs), .int .i64 0]) ∧ Below w1.heap.size w1 w') := fun k hk w1 hb => by
    have := implBlkRead_any _ es qs (k : Int) w1 (h2.below hb) (hN.below hb) (by omega) (by omega)
    rw [(read_page hB hk).1, (read_page hB hk).2] at this
    exact this
  clear h h1 h2 te hP hB wl el hT hN
  generalize pgV ws ps es qs e = r at *
  generalize e % 4 = t at *
  generalize e / 4 = a at *
  rcases te'.2 with ⟨rfl, rfl⟩ | ⟨rfl, a0, a1⟩ | ⟨rfl, a0, a1⟩
  · rw [if_neg (by omega), if_neg (by omega)] at EV
    obtain rfl := EV.out
    clear te' L1 L2 EV
    go_enter Tryz.func54, Tryz.ntmps54
    go_wp2_with fail
    refine (LT.out _ BW.out).mono ?_
    rintro r w1 ⟨rfl, hw1⟩
    subst w1
    go_wp2
    go_ret
    exact ⟨rfl, BW.out⟩
  · obtain ⟨k, rfl⟩ : ∃ k : Nat, a = (k : Int) := ⟨a.toNat, by omega⟩
    rw [if_pos rfl, show (312 + (k : Int)).toNat = 312 + k by omega] at EV
    obtain rfl := EV.out
    have k24 : k < 24 := by omega
    have Q := hideIt (L1.out k k24)
    clear te' L1 L2 EV a0 a1
    go_enter Tryz.func54, Tryz.ntmps54
    go_wp2_with fail
    refine (LT.out _ BW.out).mono ?_
    rintro r w1 ⟨rfl, hw1⟩
    subst w1
    go_wp2_with fail
    refine (Q.out _ BW.out).mono ?_
    rintro r w2 ⟨rfl, hb2⟩
    have B2 := hideIt (below_trans BW.out hb2 BW.out.size)
    clear hb2
    go_wp2
    go_ret
    exact ⟨rfl, B2.out⟩
  · obtain ⟨k, rfl⟩ : ∃ k : Nat, a = (k : Int) := ⟨a.toNat, by omega⟩
    rw [if_neg (by omega), if_pos rfl, Int.toNat_natCast] at EV
    obtain rfl := EV.out
    have k32 : k < 32 := by omega
    have Q := hideIt (L2.out k k32)
    clear te' L1 L2 EV a0 a1
    go_enter Tryz.func54, Tryz.ntmps54
    go_wp2_with fail
    refine (LT.out _ BW.out).mono ?_
    rintro r w1 ⟨rfl, hw1⟩
    subst w1
    go_wp2_with fail
    refine (Q.out _ BW.out).mono ?_
    rintro r w2 ⟨rfl, hb2⟩
    have B2 := hideIt (below_trans BW.out hb2 BW.out.size)
    clear hb2
    go_wp2
    go_ret
    exact ⟨rfl, B2.out⟩
end Go.Proofs.YtihmihkhkmadmaaGreatDoor
