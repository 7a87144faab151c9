/- Several texts laid together: DuC, DtG. -/
import Derived.Test.YtihmihkhkmadmaaDoorDuA
import Derived.Test.YtihmihkhkmadmaaDoorZAW
import Derived.Test.YtihmihkhkmadmaaDoorZAF
import Derived.Test.YtihmihkhkmadmaaDoorPiI
import Derived.Test.YtihmihkhkmadmaaDoorZAE
import Derived.Test.YtihmihkhkmadmaaDoorZAV
import Derived.Test.YtihmihkhkmadmaaDoorRows
import Derived.Test.YtihmihkhkmadmaaDoorPiF
import Derived.Test.YtihmihkhkmadmaaDoorImX
import Derived.Test.YtihmihkhkmadmaaDoorPiE
import Derived.Test.YtihmihkhkmadmaaDoorPiJ
import Derived.Test.YtihmihkhkmadmaaDoorZBH
import Derived.Test.YtihmihkhkmadmaaDoorZAY
import Derived.Test.YtihmihkhkmadmaaDoorZAC
import Derived.Test.YtihmihkhkmadmaaDoorZAB
import Derived.Deep.RegionHeld3
import Derived.Deep.LoopGhost
import Derived.Laws.OwnMore
import Derived.Lib.SplitLaws
import Derived.Lib.IndexBytes
import Derived.Deep.DeepCutAuto
import Derived.Deep.RegionWith
import Derived.Lib.Strings
import Derived.WalkMore
import Derived.Shelf.Small.Strs
import Derived.Shelf.Small.Wraps
import Derived.Shelf.Strings.Search3
import Derived.Shelf.Strings.Count
import Derived.Shelf.Strings.Split
import Derived.Maps.OwnSet
import Derived.Maps.Views
import Derived.BigQuiet
import Derived.Sort.Walk0
import Derived.Laws.Cover1
import Derived.Test.YtihmihkhkmadmaaDoorZBD
namespace Go.Proofs.YtihmihkhkmadmaaDoor
open Go.RowKit
theorem load_page {ws : List Int} {ps : List St} (h : pmB ws ps = true) {k : Nat} (hk : k < 24) : loadV ws ps (312 + (k : Int)) = ldW ws ps (312 + k) ∧ askC ws ps (312 + (k : Int)) = 0 := by
  have p : placeB (312 + (k : Int)) = true := decide_eq_true (by omega)
  have a : askC ws ps (312 + (k : Int)) = 0 := by unfold askC; rw [h, p]; rfl
  refine ⟨?_, a⟩
  unfold loadV ldW
  rw [if_pos a, show (312 + (k : Int)).toNat = 312 + k by omega, show ((312 + k : Nat) : Int) = 312 + (k : Int) by omega]
theorem read_page {es : List Int} {qs : List Se} (h : blkB es qs = true) {k : Nat} (hk : k < 32) : readV es qs (k : Int) = lastE (k : Int) (es[k]?.getD 0) qs ∧ askE es qs (k : Int) = 0 := by
  have p : secB (k : Int) = true := decide_eq_true (by omega)
  have a : askE es qs (k : Int) = 0 := by unfold askE; rw [h, p]; rfl
  refine ⟨?_, a⟩
  unfold readV
  rw [if_pos a, Int.toNat_natCast]
set_option maxRecDepth 100000 in
set_option maxHeartbeats 4000000 in
theorem wordOfE_any (v : Value) (ws : List Int) (ps : List St) (es : List Int) (qs : List Se) (e : Int) (w : World) (h : RdDev w v ws ps es qs) (hP : pmB ws ps = true) (hB : blkB es qs = true) (te : tieB e = true) (hT : TS w) (hN : NW w) :
    Calls Tryd.prog 66 #[v, .int .i64 e] w fun r w' => r = .returned (.int .i64 (pgV ws ps es qs e)) ∧ Below w.heap.size w w' := by
  obtain ⟨aW, cW, aP, cP, aS, cS, aQ, cQ, rfl, h1, h2⟩ := h.form
  have te' : 0 ≤ e ∧ ((e % 4 = 0 ∧ e / 4 = 0) ∨ (e % 4 = 1 ∧ 0 ≤ e / 4 ∧ e / 4 < 24) ∨ (e % 4 = 2 ∧ 0 ≤ e / 4 ∧ e / 4 < 32)) := by
    unfold tieB addrB at te
    rw [Bool.and_eq_true, decide_eq_true_eq, decide_eq_true_eq] at te
    exact te
  have wl := pmB_len hP
  have el := blkB_len hB
  have BW : Hid (Below w.heap.size w (w.alloc (.cells #[.slice aW ws.length cW, .slice aP ps.length cP, .slice aS es.length cS, .slice aQ qs.length cQ] 48))) := (Below.refl _ _).alloc (Nat.le_refl _) _
  have LT : Hid (∀ w1, Below w.heap.size w w1 → Calls Tryd.prog 90 #[.int .i64 e] w1 fun r w' => r = .returned (.tuple #[.int .i64 (e % 4), .int .i64 (e / 4), .int .i64 0]) ∧ w' = w1) := fun w1 hb => by
    have q := implTierOf_any e w1 (hT.below hb) (by omega) (by omega)
    rw [(tie_in te).1, (tie_in te).2.1, (tie_in te).2.2] at q
    exact q
  have EV := hideIt (show pgV ws ps es qs e = if e % 4 = 1 then ldW ws ps (312 + e / 4).toNat else if e % 4 = 2 then lastE (e / 4) (es[(e / 4).toNat]?.getD 0) qs else 0 from rfl)
  have L1 : Hid (∀ (k : Nat), k < 24 → ∀ w1, Below w.heap.size w w1 → Calls Tryd.prog 91 #[.agg #[.slice aW ws.length cW, .slice aP ps.length cP], .int .i64 (312 + (k : Int))] w1 fun r w' => r = .returned (.tuple #[.int .i64 (ldW ws ps (312 + k)), .int .i64 0]) ∧ Below w1.heap.size w1 w') := fun k hk w1 hb => by
    have := implPmLoad_any _ ws ps (312 + (k : Int)) w1 (h1.below hb) (by omega) (by omega)
    rw [(load_page hP hk).1, (load_page hP hk).2] at this
    exact this
  have L2 : Hid (∀ (k : Nat), k < 32 → ∀ w1, Below w.heap.size w w1 → Calls Tryd.prog 92 #[.agg #[.slice aS es.length cS, .slice aQ qs.length cQ], .int .i64 (k : Int)] w1 fun r w' => r = .returned (.tuple #[.int .i64 (lastE (k : Int) (es[k]?.getD 0) qs), .int .i64 0]) ∧ Below w1.heap.size w1 w') := fun k hk w1 hb => by
    have := implBlkRead_any _ es qs (k : Int) w1 (h2.below hb) (hN.below hb) (by omega) (by omega)
    rw [(read_page hB hk).1, (read_page hB hk).2] at this
    exact this
  clear h h1 h2 te hP hB wl el hT hN
  generalize pgV ws ps es qs e = r at *
  generalize e % 4 = t at *
  generalize e / 4 = a at *
  rcases te'.2 with ⟨rfl, rfl⟩ | ⟨rfl, a0, a1⟩ | ⟨rfl, a0, a1⟩
  · rw [if_neg (by omega), if_neg (by omega)] at EV
    obtain rfl := EV.out
    clear te' L1 L2 EV
    go_enter Tryd.func66, Tryd.ntmps66
    go_wp2_with fail
    refine (LT.out _ BW.out).mono ?_
    rintro r w1 ⟨rfl, hw1⟩
    subst w1
    go_wp2
    go_ret
    exact ⟨rfl, BW.out⟩
  · obtain ⟨k, rfl⟩ : ∃ k : Nat, a = (k : Int) := ⟨a.toNat, by omega⟩
    rw [if_pos rfl, show (312 + (k : Int)).toNat = 312 + k by omega] at EV
    obtain rfl := EV.out
    have k24 : k < 24 := by omega
    have Q := hideIt (L1.out k k24)
    clear te' L1 L2 EV a0 a1
    go_enter Tryd.func66, Tryd.ntmps66
    go_wp2_with fail
    refine (LT.out _ BW.out).mono ?_
    rintro r w1 ⟨rfl, hw1⟩
    subst w1
    go_wp2_with fail
    refine (Q.out _ BW.out).mono ?_
    rintro r w2 ⟨rfl, hb2⟩
    have B2 := hideIt (below_trans BW.out hb2 BW.out.size)
    clear hb2
    go_wp2
    go_ret
    exact ⟨rfl, B2.out⟩
  · obtain ⟨k, rfl⟩ : ∃ k : Nat, a = (k : Int) := ⟨a.toNat, by omega⟩
    rw [if_neg (by omega), if_pos rfl, Int.toNat_natCast] at EV
    obtain rfl := EV.out
    have k32 : k < 32 := by omega
    have Q := hideIt (L2.out k k32)
    clear te' L1 L2 EV a0 a1
    go_enter Tryd.func66, Tryd.ntmps66
    go_wp2_with fail
    refine (LT.out _ BW.out).mono ?_
    rintro r w1 ⟨rfl, hw1⟩
    subst w1
    go_wp2_with fail
    refine (Q.out _ BW.out).mono ?_
    rintro r w2 ⟨rfl, hb2⟩
    have B2 := hideIt (below_trans BW.out hb2 BW.out.size)
    clear hb2
    go_wp2
    go_ret
    exact ⟨rfl, B2.out⟩
end Go.Proofs.YtihmihkhkmadmaaDoor

namespace Go.Proofs.YtihmihkhkmadmaaDoor
open Go.RowKit
theorem pgL_len (ws : List Int) (ps : List St) (es : List Int) (qs : List Se) (x : Ino) (k : Nat) : (pgL ws ps es qs x k).length = k := by simp [pgL]
end Go.Proofs.YtihmihkhkmadmaaDoor
