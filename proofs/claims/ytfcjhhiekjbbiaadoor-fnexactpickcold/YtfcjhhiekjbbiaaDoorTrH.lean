/- The coldest page of the faster tier, the hottest of the slower one: by the model. -/
import Derived.Test.YtfcjhhiekjbbiaaDoorTrG
namespace Go.Proofs.YtfcjhhiekjbbiaaDoor
open Go.RowKit

/-- What is picked: inode, page, code. -/
def pcI (ns : List Ino) (ds : List Den) (hs : List Int) (t : Int) (hot : Bool) : Int × Int × Int := if imgB ns ds = true ∧ heatB hs = true then (if pkN ns hs t hot 128 < 0 then (0, 0, 5) else (pkN ns hs t hot 128 / 8, pkN ns hs t hot 128 % 8, 0)) else (0, 0, 1)
def pcR (ns : List Ino) (ds : List Den) (hs : List Int) (t : Int) (hot : Bool) : Int × Int × Int := if 4096 < hs.length then (0, 0, 2) else pcI ns ds hs t hot

set_option maxRecDepth 100000 in
set_option maxHeartbeats 8000000 in
theorem l09Tell_any (v vh : Value) (ns : List Ino) (ds : List Den) (hs : List Int) (t : Int) (hot : Bool) (w : World) (h : RdIm w v ns ds) (hw : ns.length ≤ 1048576) (hp : ds.length ≤ 1048576) (hr : ∀ k (h : k < ns.length), ns[k].R) (hsz : ∀ k (h : k < ds.length), ds[k].name.size ≤ maxLen) (hh : RdI w vh hs) (hn : hs.length ≤ 1048576) :
    Calls Tryd.prog 16 #[v, vh, .int .i64 t, .bool hot] w fun e w' => e = .returned (.tuple #[.int .i64 (pcI ns ds hs t hot).1, .int .i64 (pcI ns ds hs t hot).2.1, .int .i64 (pcI ns ds hs t hot).2.2]) ∧ Below w.heap.size w w' := by
  have LI := hideIt (fun w1 (hb : Below w.heap.size w w1) => specImageOK_any v ns ds w1 (h.below hb) hw hp hr hsz)
  have LH := hideIt (fun w1 (hb : Below w.heap.size w w1) => specHeatOK_any vh hs w1 (Rd.below hh hb) hn)
  have LP := hideIt (fun w1 (hb : Below w.heap.size w w1) (c1 : imgB ns ds = true) (c2 : heatB hs = true) => l09Pick_any v vh ns ds hs t hot w1 (h.below hb) c1 (Rd.below hh hb) c2)
  have EL := hideIt (show pcI ns ds hs t hot = if imgB ns ds = true ∧ heatB hs = true then (if pkN ns hs t hot 128 < 0 then (0, 0, 5) else (pkN ns hs t hot 128 / 8, pkN ns hs t hot 128 % 8, 0)) else (0, 0, 1) from rfl)
  obtain ⟨pr0, pr1⟩ := pkN_range ns hs t hot 128
  obtain ⟨vW, vP, rfl, h1, h2⟩ := h
  obtain ⟨aW, cW, rfl, _, _⟩ := h1.shape
  obtain ⟨aP, cP, rfl, _, _⟩ := h2.shape
  obtain ⟨aH, cH, rfl, _, _⟩ := hh.shape
  clear h1 h2 hh hr hsz
  obtain ⟨W, hW⟩ : ∃ W, W = w.alloc (.cells #[.slice aW ns.length cW, .slice aP ds.length cP] 33) := ⟨_, rfl⟩
  have CA : Hid (∀ w', Below W.heap.size W w' → w'.cell? ⟨w.heap.size, 0, none⟩ = some (.slice aW ns.length cW) ∧ w'.cell? ⟨w.heap.size, 1, none⟩ = some (.slice aP ds.length cP)) := fun w' hb => by
    have : w'.heap[w.heap.size]? = some (.cells #[.slice aW ns.length cW, .slice aP ds.length cP] 33 (0, 0)) := (hb.block _ (by rw [hW]; simp)).trans (by rw [hW]; exact at_new rfl)
    exact ⟨(two_cells this).1, (two_cells this).2.1⟩
  have BW : Hid (Below w.heap.size w W) := by rw [hW]; exact (Below.refl _ _).alloc (Nat.le_refl _) _
  obtain ⟨x0, x1⟩ := CA.out _ (Below.refl _ _)
  rw [hW] at x0 x1
  generalize pkN ns hs t hot 128 = pk at *
  generalize pcI ns ds hs t hot = res at *
  obtain ⟨r0, r1, r2⟩ := res
  generalize imgB ns ds = ib at *
  generalize heatB hs = hb at *
  go_enter Tryd.func16, Tryd.ntmps16
  go_wp2_with fail
  rw [← hW]
  clear hW x0 x1
  refine (LI.out _ BW.out).mono ?_
  rintro e w1 ⟨rfl, hb1⟩
  have A1 := hideIt hb1
  have B1 := hideIt (below_trans BW.out A1.out BW.out.size)
  clear hb1 LI
  cases ib with
  | false =>
    rw [if_neg (fun q => by cases q.1)] at EL
    obtain ⟨rfl, rfl, rfl⟩ : r0 = 0 ∧ r1 = 0 ∧ r2 = 1 := by have := EL.out; simp only [Prod.mk.injEq] at this; exact this
    clear EL LP LH
    go_wp2
    go_ret3
    exact ⟨rfl, B1.out⟩
  | true =>
  go_wp2_with fail
  refine (LH.out _ B1.out).mono ?_
  rintro e w' ⟨rfl, hw'⟩
  subst w'
  clear LH
  cases hb with
  | false =>
    rw [if_neg (fun q => by cases q.2)] at EL
    obtain ⟨rfl, rfl, rfl⟩ : r0 = 0 ∧ r1 = 0 ∧ r2 = 1 := by have := EL.out; simp only [Prod.mk.injEq] at this; exact this
    clear EL LP
    go_wp2
    go_ret3
    exact ⟨rfl, B1.out⟩
  | true =>
  rw [if_pos ⟨(by first | rfl | trivial), (by first | rfl | trivial)⟩] at EL
  obtain ⟨x0, x1⟩ := CA.out _ A1.out
  have LP1 := hideIt (LP.out _ B1.out (by first | rfl | trivial) (by first | rfl | trivial))
  clear LP CA
  go_wp2_with fail
  refine LP1.out.mono ?_
  rintro e w2 ⟨rfl, hb2⟩
  have B2 := hideIt (below_trans B1.out hb2 B1.out.size)
  clear hb2 LP1 x0 x1
  by_cases c : pk < 0
  · rw [if_pos c] at EL
    obtain ⟨rfl, rfl, rfl⟩ : r0 = 0 ∧ r1 = 0 ∧ r2 = 5 := by have := EL.out; simp only [Prod.mk.injEq] at this; exact this
    clear EL
    go_wp2
    go_ret3
    exact ⟨rfl, B2.out⟩
  · rw [if_neg c] at EL
    obtain ⟨rfl, rfl, rfl⟩ : r0 = pk / 8 ∧ r1 = pk % 8 ∧ r2 = 0 := by have := EL.out; simp only [Prod.mk.injEq] at this; exact this
    have t1 : Int.tdiv pk 8 = pk / 8 := Int.tdiv_eq_ediv_of_nonneg (by omega)
    have t2 : Int.tmod pk 8 = pk % 8 := Int.tmod_eq_emod_of_nonneg (by omega)
    clear EL
    go_wp2
    go_ret3
    exact ⟨rfl, B2.out⟩

set_option maxRecDepth 100000 in
set_option maxHeartbeats 8000000 in
theorem specPickCold_any (v vh : Value) (ns : List Ino) (ds : List Den) (hs : List Int) (w : World) (h : RdIm w v ns ds) (hw : ns.length ≤ 1048576) (hp : ds.length ≤ 1048576) (hr : ∀ k (h : k < ns.length), ns[k].R) (hsz : ∀ k (h : k < ds.length), ds[k].name.size ≤ maxLen) (hh : RdI w vh hs) (hn : hs.length ≤ 1048576) :
    Calls Tryd.prog 6 #[v, vh] w fun e w' => e = .returned (.tuple #[.int .i64 (pcR ns ds hs 1 false).1, .int .i64 (pcR ns ds hs 1 false).2.1, .int .i64 (pcR ns ds hs 1 false).2.2]) ∧ Below w.heap.size w w' := by
  have LT := hideIt (fun w1 (hb : Below w.heap.size w w1) => l09Tell_any v vh ns ds hs 1 false w1 (h.below hb) hw hp hr hsz (Rd.below hh hb) hn)
  have EL := hideIt (show pcR ns ds hs 1 false = if 4096 < hs.length then (0, 0, 2) else pcI ns ds hs 1 false from rfl)
  obtain ⟨vW, vP, rfl, h1, h2⟩ := h
  obtain ⟨aW, cW, rfl, _, _⟩ := h1.shape
  obtain ⟨aP, cP, rfl, _, _⟩ := h2.shape
  obtain ⟨aH, cH, rfl, _, _⟩ := hh.shape
  clear h1 h2 hh hr hsz
  obtain ⟨W, hW⟩ : ∃ W, W = w.alloc (.cells #[.slice aW ns.length cW, .slice aP ds.length cP] 33) := ⟨_, rfl⟩
  have BW : Hid (Below w.heap.size w W) := by rw [hW]; exact (Below.refl _ _).alloc (Nat.le_refl _) _
  obtain ⟨x0, x1, -, -⟩ := two_cells (at_new (w := w) (o := .cells #[.slice aW ns.length cW, .slice aP ds.length cP] 33) rfl)
  generalize pcI ns ds hs 1 false = ri at *
  generalize pcR ns ds hs 1 false = res at *
  by_cases c1 : 4096 < hs.length
  · rw [if_pos c1] at EL
    obtain rfl := EL.out
    have c2 : (hs.length : Int) > 4096 := by omega
    clear EL c1 LT
    go_enter Tryd.func6, Tryd.ntmps6
    go_wp2
    go_ret3
    exact ⟨rfl, by rw [← hW]; exact BW.out⟩
  rw [if_neg c1] at EL
  obtain rfl := EL.out
  have c2 : ¬ (hs.length : Int) > 4096 := by omega
  clear c1 EL
  go_enter Tryd.func6, Tryd.ntmps6
  go_wp2_with fail
  rw [← hW]
  clear hW x0 x1
  refine (LT.out _ BW.out).mono ?_
  rintro e w1 ⟨rfl, hb1⟩
  have B1 := hideIt (below_trans BW.out hb1 BW.out.size)
  clear hb1
  go_wp2
  go_ret3
  exact ⟨rfl, B1.out⟩

set_option maxRecDepth 100000 in
set_option maxHeartbeats 8000000 in
theorem specPickHot_any (v vh : Value) (ns : List Ino) (ds : List Den) (hs : List Int) (w : World) (h : RdIm w v ns ds) (hw : ns.length ≤ 1048576) (hp : ds.length ≤ 1048576) (hr : ∀ k (h : k < ns.length), ns[k].R) (hsz : ∀ k (h : k < ds.length), ds[k].name.size ≤ maxLen) (hh : RdI w vh hs) (hn : hs.length ≤ 1048576) :
    Calls Tryd.prog 12 #[v, vh] w fun e w' => e = .returned (.tuple #[.int .i64 (pcR ns ds hs 2 true).1, .int .i64 (pcR ns ds hs 2 true).2.1, .int .i64 (pcR ns ds hs 2 true).2.2]) ∧ Below w.heap.size w w' := by
  have LT := hideIt (fun w1 (hb : Below w.heap.size w w1) => l09Tell_any v vh ns ds hs 2 true w1 (h.below hb) hw hp hr hsz (Rd.below hh hb) hn)
  have EL := hideIt (show pcR ns ds hs 2 true = if 4096 < hs.length then (0, 0, 2) else pcI ns ds hs 2 true from rfl)
  obtain ⟨vW, vP, rfl, h1, h2⟩ := h
  obtain ⟨aW, cW, rfl, _, _⟩ := h1.shape
  obtain ⟨aP, cP, rfl, _, _⟩ := h2.shape
  obtain ⟨aH, cH, rfl, _, _⟩ := hh.shape
  clear h1 h2 hh hr hsz
  obtain ⟨W, hW⟩ : ∃ W, W = w.alloc (.cells #[.slice aW ns.length cW, .slice aP ds.length cP] 33) := ⟨_, rfl⟩
  have BW : Hid (Below w.heap.size w W) := by rw [hW]; exact (Below.refl _ _).alloc (Nat.le_refl _) _
  obtain ⟨x0, x1, -, -⟩ := two_cells (at_new (w := w) (o := .cells #[.slice aW ns.length cW, .slice aP ds.length cP] 33) rfl)
  generalize pcI ns ds hs 2 true = ri at *
  generalize pcR ns ds hs 2 true = res at *
  by_cases c1 : 4096 < hs.length
  · rw [if_pos c1] at EL
    obtain rfl := EL.out
    have c2 : (hs.length : Int) > 4096 := by omega
    clear EL c1 LT
    go_enter Tryd.func12, Tryd.ntmps12
    go_wp2
    go_ret3
    exact ⟨rfl, by rw [← hW]; exact BW.out⟩
  rw [if_neg c1] at EL
  obtain rfl := EL.out
  have c2 : ¬ (hs.length : Int) > 4096 := by omega
  clear c1 EL
  go_enter Tryd.func12, Tryd.ntmps12
  go_wp2_with fail
  rw [← hW]
  clear hW x0 x1
  refine (LT.out _ BW.out).mono ?_
  rintro e w1 ⟨rfl, hb1⟩
  have B1 := hideIt (below_trans BW.out hb1 BW.out.size)
  clear hb1
  go_wp2
  go_ret3
  exact ⟨rfl, B1.out⟩
end Go.Proofs.YtfcjhhiekjbbiaaDoor
