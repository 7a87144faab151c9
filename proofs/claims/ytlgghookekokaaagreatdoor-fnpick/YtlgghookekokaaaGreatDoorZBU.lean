/- Several texts laid together: TrH, TrI, TrD, TrF, TrJ. -/
import Derived.Test.YtlgghookekokaaaGreatDoorZBN
import Derived.Test.YtlgghookekokaaaGreatDoorZAE
import Derived.Test.YtlgghookekokaaaGreatDoorZBL
import Derived.Laws.CopyOwn
import Derived.Laws.Cover3
import Derived.Deep.OwnRows
import Derived.Deep.RegionHeld3
import Derived.Deep.DeepCutAuto
namespace Go.Proofs.YtlgghookekokaaaGreatDoor
open Go.RowKit

/-- What is picked: inode, page, code. -/
def pcI (ns : List Ino) (ds : List Den) (hs : List Int) (t : Int) (hot : Bool) : Int × Int × Int := if imgB ns ds = true ∧ heatB hs = true then (if pkN ns hs t hot 128 < 0 then (0, 0, 5) else (pkN ns hs t hot 128 / 8, pkN ns hs t hot 128 % 8, 0)) else (0, 0, 1)
def pcR (ns : List Ino) (ds : List Den) (hs : List Int) (t : Int) (hot : Bool) : Int × Int × Int := if 4096 < hs.length then (0, 0, 2) else pcI ns ds hs t hot

set_option maxRecDepth 100000 in
set_option maxHeartbeats 8000000 in
theorem l09Tell_any (v vh : Value) (ns : List Ino) (ds : List Den) (hs : List Int) (t : Int) (hot : Bool) (w : World) (h : RdIm w v ns ds) (hw : ns.length ≤ 1048576) (hp : ds.length ≤ 1048576) (hr : ∀ k (h : k < ns.length), ns[k].R) (hsz : ∀ k (h : k < ds.length), ds[k].name.size ≤ maxLen) (hh : RdI w vh hs) (hn : hs.length ≤ 1048576) :
    Calls Tryz.prog 94 #[v, vh, .int .i64 t, .bool hot] w fun e w' => e = .returned (.tuple #[.int .i64 (pcI ns ds hs t hot).1, .int .i64 (pcI ns ds hs t hot).2.1, .int .i64 (pcI ns ds hs t hot).2.2]) ∧ Below w.heap.size w w' := by
  have LI := hideIt (fun w1 (hb : Below w.heap.size w w1) => specImageOK_any v ns ds w1 (h.below hb) hw hp hr hsz)
  have LH := hideIt (fun w1 (hb : Below w.heap.size w w1) => specHeatOK_any vh hs w1 (Rd.below hh hb) hn)
  have LP := hideIt (fun w1 (hb : Below w.heap.size w w1) (c1 : imgB ns ds = true) (c2 : heatB hs = true) => l09Pick_any v vh ns ds hs t hot w1 (h.below hb) c1 (Rd.below hh hb) c2)
  have EL := hideIt (show pcI ns ds hs t hot = if imgB ns ds = true ∧ heatB hs = true then (if pkN ns hs t hot 128 < 0 then (0, 0, 5) else (pkN ns hs t hot 128 / 8, pkN ns hs t hot 128 % 8, 0)) else (0, 0, 1) from rfl)
  obtain ⟨pr0, pr1⟩ := pkN_range ns hs t hot 128
  obtain ⟨vW, vP, rfl, h1, h2⟩ := h
  obtain ⟨aW, cW, rfl, _, _⟩ := h1.shape
  obtain ⟨aP, cP, rfl, _, _⟩ := h2.shape
  obtain ⟨aH, cH, rfl, _, _⟩ := hh.shape
  clear h1 h2 hh hr hsz
  obtain ⟨W, hW⟩ : ∃ W, W = w.alloc (.cells #[.slice aW ns.length cW, .slice aP ds.length cP] 26) := ⟨_, rfl⟩
  have CA : Hid (∀ w', Below W.heap.size W w' → w'.cell? ⟨w.heap.size, 0, none⟩ = some (.slice aW ns.length cW) ∧ w'.cell? ⟨w.heap.size, 1, none⟩ = some (.slice aP ds.length cP)) := fun w' hb => by
    have : w'.heap[w.heap.size]? = some (.cells #[.slice aW ns.length cW, .slice aP ds.length cP] 26 (0, 0)) := (hb.block _ (by rw [hW]; simp)).trans (by rw [hW]; exact at_new rfl)
    exact ⟨(two_cells this).1, (two_cells this).2.1⟩
  have BW : Hid (Below w.heap.size w W) := by rw [hW]; exact (Below.refl _ _).alloc (Nat.le_refl _) _
  obtain ⟨x0, x1⟩ := CA.out _ (Below.refl _ _)
  rw [hW] at x0 x1
  generalize pkN ns hs t hot 128 = pk at *
  generalize pcI ns ds hs t hot = res at *
  obtain ⟨r0, r1, r2⟩ := res
  generalize imgB ns ds = ib at *
  generalize heatB hs = hb at *
  go_enter Tryz.func94, Tryz.ntmps94
  go_wp2_with fail
  rw [← hW]
  clear hW x0 x1
  refine (LI.out _ BW.out).mono ?_
  rintro e w1 ⟨rfl, hb1⟩
  have A1 := hideIt hb1
  have B1 := hideIt (below_trans BW.out A1.out BW.out.size)
  clear hb1 LI
  cases ib with
  | false =>
    rw [if_neg (fun q => by cases q.1)] at EL
    obtain ⟨rfl, rfl, rfl⟩ : r0 = 0 ∧ r1 = 0 ∧ r2 = 1 := by have := EL.out; simp only [Prod.mk.injEq] at this; exact this
    clear EL LP LH
    go_wp2
    go_ret3
    exact ⟨rfl, B1.out⟩
  | true =>
  go_wp2_with fail
  refine (LH.out _ B1.out).mono ?_
  rintro e w' ⟨rfl, hw'⟩
  subst w'
  clear LH
  cases hb with
  | false =>
    rw [if_neg (fun q => by cases q.2)] at EL
    obtain ⟨rfl, rfl, rfl⟩ : r0 = 0 ∧ r1 = 0 ∧ r2 = 1 := by have := EL.out; simp only [Prod.mk.injEq] at this; exact this
    clear EL LP
    go_wp2
    go_ret3
    exact ⟨rfl, B1.out⟩
  | true =>
  rw [if_pos ⟨(by first | rfl | trivial), (by first | rfl | trivial)⟩] at EL
  obtain ⟨x0, x1⟩ := CA.out _ A1.out
  have LP1 := hideIt (LP.out _ B1.out (by first | rfl | trivial) (by first | rfl | trivial))
  clear LP CA
  go_wp2_with fail
  refine LP1.out.mono ?_
  rintro e w2 ⟨rfl, hb2⟩
  have B2 := hideIt (below_trans B1.out hb2 B1.out.size)
  clear hb2 LP1 x0 x1
  by_cases c : pk < 0
  · rw [if_pos c] at EL
    obtain ⟨rfl, rfl, rfl⟩ : r0 = 0 ∧ r1 = 0 ∧ r2 = 5 := by have := EL.out; simp only [Prod.mk.injEq] at this; exact this
    clear EL
    go_wp2
    go_ret3
    exact ⟨rfl, B2.out⟩
  · rw [if_neg c] at EL
    obtain ⟨rfl, rfl, rfl⟩ : r0 = pk / 8 ∧ r1 = pk % 8 ∧ r2 = 0 := by have := EL.out; simp only [Prod.mk.injEq] at this; exact this
    have t1 : Int.tdiv pk 8 = pk / 8 := Int.tdiv_eq_ediv_of_nonneg (by omega)
    have t2 : Int.tmod pk 8 = pk % 8 := Int.tmod_eq_emod_of_nonneg (by omega)
    clear EL
    go_wp2
    go_ret3
    exact ⟨rfl, B2.out⟩

set_option maxRecDepth 100000 in
set_option maxHeartbeats 8000000 in
theorem specPickCold_any (v vh : Value) (ns : List Ino) (ds : List Den) (hs : List Int) (w : World) (h : RdIm w v ns ds) (hw : ns.length ≤ 1048576) (hp : ds.length ≤ 1048576) (hr : ∀ k (h : k < ns.length), ns[k].R) (hsz : ∀ k (h : k < ds.length), ds[k].name.size ≤ maxLen) (hh : RdI w vh hs) (hn : hs.length ≤ 1048576) :
    Calls Tryz.prog 40 #[v, vh] w fun e w' => e = .returned (.tuple #[.int .i64 (pcR ns ds hs 1 false).1, .int .i64 (pcR ns ds hs 1 false).2.1, .int .i64 (pcR ns ds hs 1 false).2.2]) ∧ Below w.heap.size w w' := by
  have LT := hideIt (fun w1 (hb : Below w.heap.size w w1) => l09Tell_any v vh ns ds hs 1 false w1 (h.below hb) hw hp hr hsz (Rd.below hh hb) hn)
  have EL := hideIt (show pcR ns ds hs 1 false = if 4096 < hs.length then (0, 0, 2) else pcI ns ds hs 1 false from rfl)
  obtain ⟨vW, vP, rfl, h1, h2⟩ := h
  obtain ⟨aW, cW, rfl, _, _⟩ := h1.shape
  obtain ⟨aP, cP, rfl, _, _⟩ := h2.shape
  obtain ⟨aH, cH, rfl, _, _⟩ := hh.shape
  clear h1 h2 hh hr hsz
  obtain ⟨W, hW⟩ : ∃ W, W = w.alloc (.cells #[.slice aW ns.length cW, .slice aP ds.length cP] 26) := ⟨_, rfl⟩
  have BW : Hid (Below w.heap.size w W) := by rw [hW]; exact (Below.refl _ _).alloc (Nat.le_refl _) _
  obtain ⟨x0, x1, -, -⟩ := two_cells (at_new (w := w) (o := .cells #[.slice aW ns.length cW, .slice aP ds.length cP] 26) rfl)
  generalize pcI ns ds hs 1 false = ri at *
  generalize pcR ns ds hs 1 false = res at *
  by_cases c1 : 4096 < hs.length
  · rw [if_pos c1] at EL
    obtain rfl := EL.out
    have c2 : (hs.length : Int) > 4096 := by omega
    clear EL c1 LT
    go_enter Tryz.func40, Tryz.ntmps40
    go_wp2
    go_ret3
    exact ⟨rfl, by rw [← hW]; exact BW.out⟩
  rw [if_neg c1] at EL
  obtain rfl := EL.out
  have c2 : ¬ (hs.length : Int) > 4096 := by omega
  clear c1 EL
  go_enter Tryz.func40, Tryz.ntmps40
  go_wp2_with fail
  rw [← hW]
  clear hW x0 x1
  refine (LT.out _ BW.out).mono ?_
  rintro e w1 ⟨rfl, hb1⟩
  have B1 := hideIt (below_trans BW.out hb1 BW.out.size)
  clear hb1
  go_wp2
  go_ret3
  exact ⟨rfl, B1.out⟩

set_option maxRecDepth 100000 in
set_option maxHeartbeats 8000000 in
theorem specPickHot_any (v vh : Value) (ns : List Ino) (ds : List Den) (hs : List Int) (w : World) (h : RdIm w v ns ds) (hw : ns.length ≤ 1048576) (hp : ds.length ≤ 1048576) (hr : ∀ k (h : k < ns.length), ns[k].R) (hsz : ∀ k (h : k < ds.length), ds[k].name.size ≤ maxLen) (hh : RdI w vh hs) (hn : hs.length ≤ 1048576) :
    Calls Tryz.prog 41 #[v, vh] w fun e w' => e = .returned (.tuple #[.int .i64 (pcR ns ds hs 2 true).1, .int .i64 (pcR ns ds hs 2 true).2.1, .int .i64 (pcR ns ds hs 2 true).2.2]) ∧ Below w.heap.size w w' := by
  have LT := hideIt (fun w1 (hb : Below w.heap.size w w1) => l09Tell_any v vh ns ds hs 2 true w1 (h.below hb) hw hp hr hsz (Rd.below hh hb) hn)
  have EL := hideIt (show pcR ns ds hs 2 true = if 4096 < hs.length then (0, 0, 2) else pcI ns ds hs 2 true from rfl)
  obtain ⟨vW, vP, rfl, h1, h2⟩ := h
  obtain ⟨aW, cW, rfl, _, _⟩ := h1.shape
  obtain ⟨aP, cP, rfl, _, _⟩ := h2.shape
  obtain ⟨aH, cH, rfl, _, _⟩ := hh.shape
  clear h1 h2 hh hr hsz
  obtain ⟨W, hW⟩ : ∃ W, W = w.alloc (.cells #[.slice aW ns.length cW, .slice aP ds.length cP] 26) := ⟨_, rfl⟩
  have BW : Hid (Below w.heap.size w W) := by rw [hW]; exact (Below.refl _ _).alloc (Nat.le_refl _) _
  obtain ⟨x0, x1, -, -⟩ := two_cells (at_new (w := w) (o := .cells #[.slice aW ns.length cW, .slice aP ds.length cP] 26) rfl)
  generalize pcI ns ds hs 2 true = ri at *
  generalize pcR ns ds hs 2 true = res at *
  by_cases c1 : 4096 < hs.length
  · rw [if_pos c1] at EL
    obtain rfl := EL.out
    have c2 : (hs.length : Int) > 4096 := by omega
    clear EL c1 LT
    go_enter Tryz.func41, Tryz.ntmps41
    go_wp2
    go_ret3
    exact ⟨rfl, by rw [← hW]; exact BW.out⟩
  rw [if_neg c1] at EL
  obtain rfl := EL.out
  have c2 : ¬ (hs.length : Int) > 4096 := by omega
  clear c1 EL
  go_enter Tryz.func41, Tryz.ntmps41
  go_wp2_with fail
  rw [← hW]
  clear hW x0 x1
  refine (LT.out _ BW.out).mono ?_
  rintro e w1 ⟨rfl, hb1⟩
  have B1 := hideIt (below_trans BW.out hb1 BW.out.size)
  clear hb1
  go_wp2
  go_ret3
  exact ⟨rfl, B1.out⟩
end Go.Proofs.YtlgghookekokaaaGreatDoor

namespace Go.Proofs.YtlgghookekokaaaGreatDoor
open Go.RowKit

/-- A page with its heat: inode, page, heat. -/
def wpM (hs : List Int) (k : Nat) : Mi := ⟨((k / 8 : Nat) : Int), ((k % 8 : Nat) : Int), hs.getD k 0⟩
/-- The pages of a tier among the first ones. -/
def wpL (ns : List Ino) (hs : List Int) (t : Int) : Nat → List Mi
  | 0 => []
  | n + 1 => if pgE ns n = 0 ∨ ¬ pgE ns n % 4 = t then wpL ns hs t n else wpL ns hs t n ++ [wpM hs n]
theorem wpL_len (ns : List Ino) (hs : List Int) (t : Int) (n : Nat) : (wpL ns hs t n).length ≤ n := by
  induction n with
  | zero => exact Nat.le_refl _
  | succ n ih =>
    unfold wpL
    split
    · omega
    · rw [List.length_append, List.length_singleton]; omega
/-- One more is held against the best so far. -/
def chT (hot : Bool) (c x : Mi) : Mi := if (hot = true ∧ c.val < x.val) ∨ (hot = false ∧ x.val < c.val) then x else c
def zeroMi : Mi := ⟨0, 0, 0⟩
def chO (hot : Bool) : List Mi → Mi
  | [] => zeroMi
  | x :: xs => xs.foldl (chT hot) x
theorem chO_snoc (hot : Bool) (l : List Mi) (x : Mi) (h : ¬ l = []) : chO hot (l ++ [x]) = chT hot (chO hot l) x := by
  cases l with
  | nil => exact absurd rfl h
  | cons y ys =>
    show (ys ++ [x]).foldl (chT hot) y = _
    rw [List.foldl_append]
    rfl
theorem pick_chosen (ns : List Ino) (hs : List Int) (t : Int) (hot : Bool) (n : Nat) : (wpL ns hs t n = [] ∧ pkN ns hs t hot n = -1) ∨ (¬ wpL ns hs t n = [] ∧ ∃ q : Nat, pkN ns hs t hot n = (q : Int) ∧ chO hot (wpL ns hs t n) = wpM hs q) := by
  induction n with
  | zero => exact .inl ⟨rfl, rfl⟩
  | succ n ih =>
    have e1 : pkN ns hs t hot (n + 1) = pkS ns hs t hot (pkN ns hs t hot n) n := rfl
    rw [e1]
    by_cases c : pgE ns n = 0 ∨ ¬ pgE ns n % 4 = t
    · have e2 : wpL ns hs t (n + 1) = wpL ns hs t n := by rw [wpL, if_pos c]
      rw [e2, pkS_no c]
      exact ih
    · have e2 : wpL ns hs t (n + 1) = wpL ns hs t n ++ [wpM hs n] := by rw [wpL, if_neg c]
      rw [e2]
      have ne : ¬ wpL ns hs t n ++ [wpM hs n] = [] := by simp
      rcases ih with ⟨h1, h2⟩ | ⟨h1, q, h2, h3⟩
      · rw [h2, pkS_take c (.inl (by decide)), h1]
        exact .inr ⟨by simp, n, rfl, rfl⟩
      · refine .inr ⟨ne, ?_⟩
        rw [h2, chO_snoc hot _ _ h1, h3]
        have tq : ((q : Int)).toNat = q := Int.toNat_natCast q
        by_cases d : (hot = true ∧ hs.getD q 0 < hs.getD n 0) ∨ (hot = false ∧ hs.getD n 0 < hs.getD q 0)
        · rw [pkS_take c (.inr (by rw [tq]; exact d))]
          exact ⟨n, rfl, if_pos d⟩
        · rw [pkS_not c (by rw [tq]; exact fun x => x.elim (by omega) d)]
          exact ⟨q, rfl, if_neg d⟩
theorem wpL_inode (ns : List Ino) (hs : List Int) (t : Int) (a b : Nat) (hb : b < 8) : wpL ns hs t (8 * a + (b + 1)) = if (inoAt ns a).map.getD b 0 = 0 ∨ ¬ (inoAt ns a).map.getD b 0 % 4 = t then wpL ns hs t (8 * a + b) else wpL ns hs t (8 * a + b) ++ [⟨(a : Int), (b : Int), hs.getD (8 * a + b) 0⟩] := by
  have e : pgE ns (8 * a + b) = (inoAt ns a).map.getD b 0 := by
    unfold pgE
    rw [show (8 * a + b) / 8 = a by omega, show (8 * a + b) % 8 = b by omega]
  have m : wpM hs (8 * a + b) = ⟨(a : Int), (b : Int), hs.getD (8 * a + b) 0⟩ := by
    unfold wpM
    rw [show (8 * a + b) / 8 = a by omega, show (8 * a + b) % 8 = b by omega]
  show wpL ns hs t ((8 * a + b) + 1) = _
  rw [wpL, e, m]
/-- What the program's choice answers is what the model's answers. -/
theorem pick_told (ns : List Ino) (ds : List Den) (hs : List Int) (t : Int) (hot : Bool) (hi : imgB ns ds = true) (hh : heatB hs = true) : pcR ns ds hs t hot = if wpL ns hs t 128 = [] then (0, 0, 5) else ((chO hot (wpL ns hs t 128)).kind, (chO hot (wpL ns hs t 128)).at_, 0) := by
  unfold pcR pcI
  rw [if_neg (by have := (heat_parts hh).1; omega), if_pos ⟨hi, hh⟩]
  rcases pick_chosen ns hs t hot 128 with ⟨h1, h2⟩ | ⟨h1, q, h2, h3⟩
  · rw [h2, if_pos (by decide), if_pos h1]
  · rw [h2, if_neg (by omega), if_neg h1, h3]
    unfold wpM
    rw [show ((q / 8 : Nat) : Int) = (q : Int) / 8 by omega, show ((q % 8 : Nat) : Int) = (q : Int) % 8 by omega]
end Go.Proofs.YtlgghookekokaaaGreatDoor

namespace Go.Proofs.YtlgghookekokaaaGreatDoor
open Go.RowKit

/-- A number of heat. -/
def isH (n : Int) : Bool := decide (0 ≤ n ∧ n < 65)
def heatsB (zs : List Int) : Bool := decide (∀ k (h : k < zs.length), isH zs[k] = true)
theorem heatsB_mk {zs : List Int} (h : ∀ k (h : k < zs.length), isH zs[k] = true) : heatsB zs = true := decide_eq_true h
theorem heatsB_not {zs : List Int} {k : Nat} (hk : k < zs.length) (h : isH zs[k] = false) : heatsB zs = false := decide_eq_false (fun x => by have := x k hk; rw [h] at this; cases this)
theorem heat_every {hs : List Int} : heatB hs = (decide (hs.length = 128) && heatsB hs) := by
  unfold heatB heatsB isH
  rw [Bool.eq_iff_iff, Bool.and_eq_true]
  simp only [decide_eq_true_eq]
  constructor
  · exact fun h => ⟨h.1, fun k hk => ⟨(h.2 k hk).1, by have := (h.2 k hk).2; omega⟩⟩
  · exact fun h => ⟨h.1, fun k hk => ⟨(h.2 k hk).1, by have := (h.2 k hk).2; omega⟩⟩

theorem isHeat_any (n : Int) (w : World) : Calls Tryz.prog 212 #[.int .i64 n] w fun e w' => e = .returned (.bool (isH n)) ∧ w' = w := by
  by_cases h : 0 ≤ n ∧ n < 65
  · have e : isH n = true := decide_eq_true h
    rw [e]; clear e
    go_enter Tryz.func212, Tryz.ntmps212
    go_wp2_with fail
    refine (isIndex_yes _ _ _ h).mono ?_
    rintro e w' ⟨rfl, hw'⟩
    subst w'
    go_wp2
    go_ret
    exact ⟨rfl, rfl⟩
  · have e : isH n = false := decide_eq_false h
    rw [e]; clear e
    go_enter Tryz.func212, Tryz.ntmps212
    go_wp2_with fail
    refine (isIndex_no _ _ _ h).mono ?_
    rintro e w' ⟨rfl, hw'⟩
    subst w'
    go_wp2
    go_ret
    exact ⟨rfl, rfl⟩

set_option maxHeartbeats 2000000 in
theorem everyHeat_any (v : Value) (zs : List Int) (w : World) (h : RdI w v zs) (hn : zs.length ≤ 2147483648) :
    Calls Tryz.prog 115 #[v, .func (.func 212) #[] #[]] w fun e w' => e = .returned (.bool (heatsB zs)) ∧ w' = w := by
  obtain ⟨ao, cap, rfl, _, hc⟩ := h.shape
  clear h
  go_enter Tryz.func115, Tryz.ntmps115
  go_wp2
  go_loop [6, 9] (fun _ i => ∃ k : Nat, k ≤ zs.length ∧ i = .int .i64 k ∧ Hid (∀ j (h : j < zs.length), j < k → isH zs[j] = true)) (fun _ i => zs.length - (intOf i).toNat)
  case atStart => exact ⟨0, by omega, rfl, fun j h a => absurd a (by omega)⟩
  case round =>
    obtain ⟨k, hk, rfl, H⟩ := hrel
    by_cases hlt : k < zs.length
    · obtain ⟨b, o, rfl, hbl, hcell⟩ := hc (by omega)
      have hck := hcell k hlt
      clear hcell hc
      by_cases q : isH zs[k] = true
      · go_wp2_with (go_at_call 212; refine (isHeat_any _ _).mono ?_; rintro e w' ⟨rfl, rfl⟩)
        go_round
        case rel =>
          refine ⟨k + 1, by omega, by go_num, fun j h a => ?_⟩
          by_cases e : j = k
          · subst e; exact q
          · exact H.out j h (by omega)
        case measure => simp [intOf]; omega
      · have q' : isH zs[k] = false := by simpa using q
        have E := hideIt (heatsB_not hlt q')
        go_wp2_with (go_at_call 212; refine (isHeat_any _ _).mono ?_; rintro e w' ⟨rfl, rfl⟩)
        go_ret
        exact ⟨ret_bool E.out.symm, rfl⟩
    · have E := hideIt (heatsB_mk (fun j h => H.out j h (by omega)))
      clear H
      go_wp2
      go_ret
      exact ⟨ret_bool E.out.symm, rfl⟩

set_option maxRecDepth 100000 in
set_option maxHeartbeats 4000000 in
theorem implHeatOK_any (v : Value) (hs : List Int) (w : World) (h : RdI w v hs) (hn : hs.length ≤ 1048576) : Calls Tryz.prog 186 #[v] w fun e w' => e = .returned (.bool (heatB hs)) ∧ w' = w := by
  have LE := hideIt (everyHeat_any v hs w h (by omega))
  obtain ⟨ao, cap, rfl, -, -⟩ := h.shape
  rw [heat_every]
  clear h
  generalize heatsB hs = b at *
  by_cases c : hs.length = 128
  · rw [decide_eq_true c, Bool.true_and]
    have q : ((hs.length : Int) == 128) = true := by rw [beq_iff_eq]; omega
    clear c
    go_enter Tryz.func186, Tryz.ntmps186
    go_wp2_with fail
    refine LE.out.mono ?_
    rintro e w' ⟨rfl, hw'⟩
    subst w'
    go_wp2
    go_ret
    exact ⟨rfl, rfl⟩
  · rw [decide_eq_false c, Bool.false_and]
    have q : ((hs.length : Int) == 128) = false := by rw [beq_eq_false_iff_ne]; omega
    clear c LE
    go_enter Tryz.func186, Tryz.ntmps186
    go_wp2
    go_ret
    exact ⟨rfl, rfl⟩

/-- What is wrong about heat. -/
def hfI (hs : List Int) : Int := if 4096 < hs.length then 2 else if heatB hs = true then 0 else 1
set_option maxRecDepth 100000 in
set_option maxHeartbeats 4000000 in
theorem heatFault_any (v : Value) (hs : List Int) (w : World) (h : RdI w v hs) (hn : hs.length ≤ 1048576) : Calls Tryz.prog 135 #[v] w fun e w' => e = .returned (.int .i64 (hfI hs)) ∧ w' = w := by
  have LE := hideIt (implHeatOK_any v hs w h hn)
  have EO := hideIt (show hfI hs = if 4096 < hs.length then 2 else if heatB hs = true then 0 else 1 from rfl)
  obtain ⟨ao, cap, rfl, -, -⟩ := h.shape
  generalize hfI hs = r at *
  generalize heatB hs = b at *
  clear h
  by_cases c1 : 4096 < hs.length
  · rw [if_pos c1] at EO
    obtain rfl := EO.out
    have c2 : (hs.length : Int) > 4096 := by omega
    clear EO c1 LE
    go_enter Tryz.func135, Tryz.ntmps135
    go_wp2
    go_ret
    exact ⟨rfl, rfl⟩
  rw [if_neg c1] at EO
  have c2 : ¬ (hs.length : Int) > 4096 := by omega
  clear c1
  cases b
  all_goals
    simp only [if_true, Bool.false_eq_true, if_false] at EO
    obtain rfl := EO.out
    clear EO
    go_enter Tryz.func135, Tryz.ntmps135
    go_wp2_with fail
    refine LE.out.mono ?_
    rintro e w' ⟨rfl, hw'⟩
    subst w'
    go_wp2
    go_ret
    exact ⟨rfl, rfl⟩

@[go_sem] theorem eqlNilInt (a : Option Addr) (l c : Nat) (w : World) : (binOp .eql 28 (.slice a l c) (.slice none 0 0)).run Tryz.prog w = .ok (.bool a.isNone) w := by
  simp only [binOp]
  simp [run_equal_slice_nil w 28 3 a l c Tryz.underlying28]

end Go.Proofs.YtlgghookekokaaaGreatDoor

namespace Go.Proofs.YtlgghookekokaaaGreatDoor
open Go.RowKit

theorem heatAt_any (i p : Nat) (w : World) (hi : i < 16) (hp : p < 8) : Calls Tryz.prog 187 #[.int .i64 (i : Int), .int .i64 (p : Int)] w fun e w' => e = .returned (.int .i64 ((8 * i + p : Nat) : Int)) ∧ w' = w := by
  have w1f : IntKind.i64.wrap (8 * (i : Int)) = 8 * (i : Int) := by rw [IntKind.wrap_i64]; omega
  have w2f : IntKind.i64.wrap (8 * (i : Int) + (p : Int)) = 8 * (i : Int) + (p : Int) := by rw [IntKind.wrap_i64]; omega
  rw [show ((8 * i + p : Nat) : Int) = 8 * (i : Int) + (p : Int) by omega]
  go_enter Tryz.func187, Tryz.ntmps187
  go_wp2
  go_ret
  exact ⟨rfl, rfl⟩

theorem hf_ways (hs : List Int) : (4096 < hs.length ∧ hfI hs = 2) ∨ (¬ 4096 < hs.length ∧ heatB hs = false ∧ hfI hs = 1) ∨ (¬ 4096 < hs.length ∧ heatB hs = true ∧ hfI hs = 0) := by
  unfold hfI
  by_cases c : 4096 < hs.length
  · rw [if_pos c]; exact .inl ⟨c, rfl⟩
  · rw [if_neg c]
    cases h : heatB hs with
    | false => exact .inr (.inl ⟨c, rfl, by simp⟩)
    | true => exact .inr (.inr ⟨c, rfl, by simp⟩)

end Go.Proofs.YtlgghookekokaaaGreatDoor

namespace Go.Proofs.YtlgghookekokaaaGreatDoor
open Go.RowKit

theorem infoWp : (Tryz.prog.info? 167).map (fun i => (i.zero, i.size, i.bytes)) = some (some (.agg #[.int .i64 0, .int .i64 0, .int .i64 0]), 3, 24) := by kernel_rfl
/-- A row of pages with their heat that grows. -/
structure WpI (W w : World) (vL : Value) (ms : List Mi) : Prop where
  l : w.ownsRow W.heap.size 167 3 vL ms.length (mis ms)
  b : Below W.heap.size W w
theorem WpI.z {W w : World} {vL : Value} {ms : List Mi} (h : WpI W w vL ms) : W.heap.size ≤ w.heap.size := h.b.size
theorem WpI.below {W w w' : World} {vL : Value} {ms : List Mi} (h : WpI W w vL ms) (hb : Below w.heap.size w w') : WpI W w' vL ms :=
  ⟨((own_block h.l).below hb (Nat.le_refl _)).1, below_trans h.b hb h.z⟩
theorem WpI.grow {W w w' : World} {vL v' : Value} {ms : List Mi} (h : WpI W w vL ms) (x : Mi) (ho : w'.ownsRow W.heap.size 167 3 v' (ms.length + 1) (mis ms ++ x.cells)) (hg : w.grownBy w' vL.ownBlock) : WpI W w' v' (ms ++ [x]) :=
  ⟨by unfold mis; rw [List.flatMap_append, List.length_append, List.flatMap_singleton]; exact ho, h.b.grown hg h.z (fun q hq => (h.l.lt q hq).1)⟩
theorem wp_cell {w : World} {b : Nat} {x y z : Value} {t : TypeId} (q : w.heap[b]? = some (.cells #[x, y, z] t (0, 0))) : w.cell? ⟨b, 0, none⟩ = some x ∧ w.cell? ⟨b, 1, none⟩ = some y ∧ w.cell? ⟨b, 2, none⟩ = some z := by simp [World.cell?, q]
theorem rd_wp (w1 : World) (x : Mi) : Rd (w1.alloc (.cells #[.int .i64 x.kind, .int .i64 x.at_, .int .i64 x.val] 167)) 3 (.slice (some ⟨w1.heap.size, 0, none⟩) 1 1) 1 x.cells := by
  refine ⟨rfl, some ⟨w1.heap.size, 0, none⟩, 1, rfl, ⟨Nat.le_refl _, fun e => by cases e⟩, fun _ => ⟨_, 0, rfl, by simp, fun j hj => ?_⟩⟩
  have q : (w1.alloc (.cells #[.int .i64 x.kind, .int .i64 x.at_, .int .i64 x.val] 167)).heap[w1.heap.size]? = some (.cells #[.int .i64 x.kind, .int .i64 x.at_, .int .i64 x.val] 167 (0, 0)) := at_new rfl
  rcases (show j = 0 ∨ j = 1 ∨ j = 2 by omega) with rfl | rfl | rfl
  · exact (wp_cell q).1
  · exact (wp_cell q).2.1
  · exact (wp_cell q).2.2
theorem wp_ones (x : Mi) : ∀ u ∈ x.cells, u.oneCell' = true := by
  intro u hu
  simp only [Mi.cells, List.mem_cons, List.mem_nil_iff, or_false] at hu
  rcases hu with rfl | rfl | rfl <;> rfl

set_option maxRecDepth 100000 in
set_option maxHeartbeats 8000000 in
theorem pagesOfTier_any (v vh : Value) (ns : List Ino) (ds : List Den) (hs : List Int) (t : Int) (w : World) (h : RdIm w v ns ds) (hi : imgB ns ds = true) (hh : RdI w vh hs) (hb : heatB hs = true) (ht : t = 1 ∨ t = 2) (hT : TS w) :
    Calls Tryz.prog 137 #[v, vh, .int .i64 t] w fun e w' => ∃ v', e = .returned v' ∧ Row w' 167 3 w.heap.size w'.heap.size v' (wpL ns hs t 128).length (mis (wpL ns hs t 128)) ∧ Below w.heap.size w w' := by
  have TI := hideIt (fun k (hk : k < 16) j => tie_at hi hk j)
  obtain ⟨l16, l24, _⟩ := pimg_all hi
  have L16 := hideIt l16
  have L128 := hideIt (heat_parts hb).1
  obtain ⟨vW, vP, rfl, h1, h2⟩ := h
  obtain ⟨aW, cW, rfl, _, hcW⟩ := h1.shape
  obtain ⟨aP, cP, rfl, _, hcP⟩ := h2.shape
  obtain ⟨aH, cH, rfl, _, hcH⟩ := hh.shape
  obtain ⟨bW, oW, rfl, hblW, hcellW⟩ := hcW (by omega)
  obtain ⟨bH, oH, rfl, hblH, hcellH⟩ := hcH (by have := L128.out; omega)
  have HCW := hideIt hcellW
  have HH : Hid (∀ k, k < 128 → ∀ w', Below w.heap.size w w' → w'.cell? ⟨bH, oH + k, none⟩ = some (.int .i64 (hs.getD k 0))) := fun k hk w' hb => by
    have q : k < hs.length := by have := L128.out; omega
    rw [List.getD_eq_getElem?_getD, List.getElem?_eq_getElem q]
    exact (hb.cell (p := ⟨bH, oH + k, none⟩) hblH).trans (hcellH k q)
  have HTT := hideIt hT
  clear h1 h2 hi hcW hcP hcellW hcH hcellH l16 l24 hh hb hT
  obtain ⟨W, hW⟩ : ∃ W, W = w.alloc (.cells #[.slice (some ⟨bW, oW, none⟩) ns.length cW, .slice aP ds.length cP] 26) := ⟨_, rfl⟩
  have BW : Hid (Below w.heap.size w W) := by rw [hW]; exact (Below.refl _ _).alloc (Nat.le_refl _) _
  obtain ⟨x0, x1, -, -⟩ := two_cells (at_new (w := w) (o := .cells #[.slice (some ⟨bW, oW, none⟩) ns.length cW, .slice aP ds.length cP] 26) rfl)
  have hn16 : ns.length ≤ 16 := by have := L16.out; omega
  have HN16 := hideIt (show 16 ≤ ns.length by have := L16.out; omega)
  go_enter Tryz.func137, Tryz.ntmps137
  go_upto_region 3 with fail
  rw [← hW]
  clear hW x0 x1 L16
  go_loopw [7, 18] (fun vL i wr => ∃ k : Nat, k ≤ 16 ∧ i = .int .i64 k ∧ Hid (WpI W wr vL (wpL ns hs t (8 * k)))) (fun _ i _ => 16 - (intOf i).toNat)
  case atStart => exact ⟨0, by omega, rfl, ⟨World.ownsRow_nil _ _ _ _, Below.refl _ _⟩⟩
  case round =>
    obtain ⟨k, hk, rfl, I⟩ := hrel
    have k0 : (0 : Int) ≤ (k : Int) := by omega
    by_cases hlt : k < 16
    case neg =>
      obtain rfl : k = 16 := by omega
      have k1 : ¬ ((16 : Nat) : Int) < (ns.length : Int) := by omega
      have E := hideIt (show wpL ns hs t (8 * 16) = wpL ns hs t 128 from rfl)
      rw [E.out] at I
      obtain ⟨-, aL, cL, hvL, -⟩ := (own_block I.out.l).rd
      subst hvL
      have R := hideIt ((own_block I.out.l).wide (lo' := w.heap.size) BW.out.size (Nat.le_refl _))
      have B := hideIt (below_trans BW.out I.out.b BW.out.size)
      go_wp2
      go_ret
      exact ⟨_, rfl, R.out, B.out⟩
    have hkl : k < ns.length := by have := HN16.out; omega
    have IB := hideIt (below_trans BW.out I.out.b BW.out.size)
    obtain ⟨a0, a1, a2, a3, a4, a5, a6, a7, a8, a9, a10⟩ := HCW.out k hkl
    have d0 := (IB.out.cell (p := ⟨bW, oW + k * 11, none⟩) hblW).trans a0
    have d1 := (IB.out.cell (p := ⟨bW, oW + k * 11 + 1, none⟩) hblW).trans a1
    have d2 := (IB.out.cell (p := ⟨bW, oW + k * 11 + 2, none⟩) hblW).trans a2
    have d3 := (IB.out.cell (p := ⟨bW, oW + k * 11 + 3, none⟩) hblW).trans a3
    have d4 := (IB.out.cell (p := ⟨bW, oW + k * 11 + 4, none⟩) hblW).trans a4
    have d5 := (IB.out.cell (p := ⟨bW, oW + k * 11 + 5, none⟩) hblW).trans a5
    have d6 := (IB.out.cell (p := ⟨bW, oW + k * 11 + 6, none⟩) hblW).trans a6
    have d7 := (IB.out.cell (p := ⟨bW, oW + k * 11 + 7, none⟩) hblW).trans a7
    have d8 := (IB.out.cell (p := ⟨bW, oW + k * 11 + 8, none⟩) hblW).trans a8
    have d9 := (IB.out.cell (p := ⟨bW, oW + k * 11 + 9, none⟩) hblW).trans a9
    have d10 := (IB.out.cell (p := ⟨bW, oW + k * 11 + 10, none⟩) hblW).trans a10
    have k1 : (k : Int) < (ns.length : Int) := by omega
    have MS := hideIt (fun j (hj : j < 8) => wpL_inode ns hs t k j hj)
    have TK := hideIt (fun j => TI.out k hlt j)
    rw [inoAt_of hkl] at MS TK
    clear a0 a1 a2 a3 a4 a5 a6 a7 a8 a9 a10
    generalize ns[k] = x at *
    have START : Hid (WpI W (wr.alloc (.cells x.cs.toArray 44)) u7 (wpL ns hs t (8 * k + 0))) := I.out.below ((Below.refl wr.heap.size wr).alloc (Nat.le_refl _) (.cells x.cs.toArray 44))
    unfold Ino.cs at START
    clear I IB
    go_wp2
    go_loopw [7, 25] (fun vL i wq => ∃ j : Nat, j ≤ 8 ∧ i = .int .i64 j ∧ Hid (WpI W wq vL (wpL ns hs t (8 * k + j)))) (fun _ i _ => 8 - (intOf i).toNat)
    case atStart => exact ⟨0, by omega, rfl, START⟩
    case round =>
      obtain ⟨j, hj, rfl, J⟩ := hrel
      clear START d0 d1 d2 d3 d4 d5 d6 d7 d8 d9 d10
      have j0 : (0 : Int) ≤ (j : Int) := by omega
      by_cases hlj : j < 8
      case neg =>
        obtain rfl : j = 8 := by omega
        have E := hideIt (show wpL ns hs t (8 * k + 8) = wpL ns hs t (8 * (k + 1)) from rfl)
        rw [E.out] at J
        go_wp2
        go_roundw
        case rel => exact ⟨k + 1, by omega, by go_num, J⟩
        case measure => simp [intOf]; omega
      have j1 : (j : Int) < 8 := by omega
      have ix := idx8 x j hlj
      have MJ := hideIt (MS.out j hlj)
      have TJ := hideIt (TK.out j)
      have hlen : (wpL ns hs t (8 * k + j)).length ≤ 128 := by have := wpL_len ns hs t (8 * k + j); omega
      have JB := hideIt (below_trans BW.out J.out.b BW.out.size)
      generalize x.map.getD j 0 = z at ix MJ TJ
      obtain ⟨z0, z1⟩ := tie_small TJ.out
      have LT := hideIt (implTierOf_any z wr (HTT.out.below JB.out) (by omega) (by omega))
      have TE := hideIt (tier_is TJ.out ht)
      by_cases q : z = 0 ∨ ¬ z % 4 = t
      · have q' : (tieT z == t) = false := by
          cases c : (tieT z == t) with
          | false => rfl
          | true => exact absurd q (TE.out.1 c)
        have G : Hid (WpI W wr u7 (wpL ns hs t (8 * k + (j + 1)))) := by unfold Hid; rw [MJ.out, if_pos q]; exact J.out
        generalize tieT z = tz at *
        generalize tieA z = ta at *
        generalize tieC z = tc at *
        clear q J MJ TE TJ
        go_wp2_with fail
        refine LT.out.mono ?_
        rintro e w' ⟨rfl, hw'⟩
        subst w'
        go_wp2
        go_roundw
        case rel => exact ⟨j + 1, by omega, by go_num, G⟩
        case measure => simp [intOf]; omega
      · have q' : (tieT z == t) = true := TE.out.2 q
        have MN : Hid (wpL ns hs t (8 * k + (j + 1)) = wpL ns hs t (8 * k + j) ++ [⟨(k : Int), (j : Int), hs.getD (8 * k + j) 0⟩]) := by unfold Hid; rw [MJ.out, if_neg q]
        have LA := hideIt (heatAt_any k j · hlt hlj)
        have e1 := HH.out (8 * k + j) (by omega) wr JB.out
        obtain ⟨p, hp⟩ : ∃ p : Nat, p = 8 * k + j := ⟨_, rfl⟩
        rw [← hp] at LA e1 MN J hlen
        have p0 : (0 : Int) ≤ (p : Int) := by omega
        have p1 : (p : Int) < (hs.length : Int) := by have := L128.out; omega
        generalize hs.getD p 0 = hz at *
        generalize tieT z = tz at *
        generalize tieA z = ta at *
        generalize tieC z = tc at *
        have JA : Hid (WpI W (wr.alloc (.cells #[.int .i64 (k : Int), .int .i64 (j : Int), .int .i64 hz] 167)) u7 (wpL ns hs t p)) := J.out.below ((Below.refl _ _).alloc (Nat.le_refl _) _)
        have RB := hideIt (rd_wp wr ⟨(k : Int), (j : Int), hz⟩)
        have hzb := JA.out.z
        clear q J MJ TE TJ hp L128
        go_wp2_with fail
        refine LT.out.mono ?_
        rintro e w' ⟨rfl, hw'⟩
        subst w'
        go_wp2_with fail
        refine (LA.out _).mono ?_
        rintro e w' ⟨rfl, hw'⟩
        subst w'
        go_wp2_with (at_builtin; refine wpList_append_rd _ rfl (.tmp 38) (.tmp 48) 170 rfl W.heap.size 167 (.agg #[.int .i64 0, .int .i64 0, .int .i64 0]) 3 24 Tryz.underlying170 infoWp rfl (by decide) _ _ _ rfl JA.out.l _ 1 _ rfl RB.out (wp_ones _) (by simp [maxLen]; omega) (by omega) hzb ?_)
        intro vN wN hownN hgrN
        have G := hideIt (JA.out.grow _ hownN hgrN)
        rw [← MN.out] at G
        clear hownN hgrN JA RB
        go_wp2
        go_roundw
        case rel => exact ⟨j + 1, by omega, by go_num, G⟩
        case measure => simp [intOf]; omega
end Go.Proofs.YtlgghookekokaaaGreatDoor
