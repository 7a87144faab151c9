/- Several texts laid together: DtA, PlD, PcD, PlM. -/
import Derived.Test.YtlgghookekokaaaGreatDoorZAZ
import Derived.Test.YtlgghookekokaaaGreatDoorZAC
import Derived.Test.YtlgghookekokaaaGreatDoorZAV
import Derived.Test.YtlgghookekokaaaGreatDoorZAH
import Derived.Test.YtlgghookekokaaaGreatDoorZAI
import Derived.Test.YtlgghookekokaaaGreatDoorZAN
import Derived.Deep.RegionLaw
import Derived.Test.YtlgghookekokaaaGreatDoorZAS
namespace Go.Proofs.YtlgghookekokaaaGreatDoor
open Go.RowKit

/-- What a page has; one that is nowhere has 0. -/
def pgV (ws : List Int) (ps : List St) (es : List Int) (qs : List Se) (e : Int) : Int := if e % 4 = 1 then ldW ws ps (312 + e / 4).toNat else if e % 4 = 2 then lastE (e / 4) (es[(e / 4).toNat]?.getD 0) qs else 0
/-- The file of a path. -/
def flI (ns : List Ino) (ds : List Den) (s : ByteArray) : Int × Int := if (lkI ns ds s).2 = 0 then (if kindAt ns (lkI ns ds s).1 = 1 then ((lkI ns ds s).1, 0) else (0, 9)) else (0, (lkI ns ds s).2)
/-- Of the inode of a number the size, and a page. -/
def sizeAt (ns : List Ino) (z : Int) : Int := (inoAt ns z.toNat).size
def pageAt (ns : List Ino) (z : Int) (p : Int) : Int := (inoAt ns z.toNat).map.getD p.toNat 0
/-- A page is read. -/
def rpF (ws : List Int) (ps : List St) (es : List Int) (qs : List Se) (ns : List Ino) (i page : Int) : Int × Int := if 0 ≤ page ∧ page < sizeAt ns i then (pgV ws ps es qs (pageAt ns i page), 0) else (0, 4)
def rpI (ws : List Int) (ps : List St) (es : List Int) (qs : List Se) (ns : List Ino) (ds : List Den) (s : ByteArray) (page : Int) : Int × Int := if (flI ns ds s).2 = 0 then rpF ws ps es qs ns (flI ns ds s).1 page else (0, (flI ns ds s).2)
/-- The first free page, the first free sector; -1 without one. -/
def fpI (ns : List Ino) : Int := firstIx (fun i => !hasB (usedOf (mapped ns) 1) (i : Int)) 24
def fsI (ns : List Ino) : Int := firstIx (fun i => !hasB (usedOf (mapped ns) 2) (i : Int)) 32
/-- A page is put where nothing is; then the file has it. -/
def wrS (ns : List Ino) (x : Int) : List Mi := if 0 ≤ fpI ns then ⟨1, 312 + fpI ns, x⟩ :: flushL [312 + fpI ns] else [⟨4, fsI ns, x⟩, ⟨5, 0, 0⟩]
def wrE (ns : List Ino) : Int := if 0 ≤ fpI ns then 4 * fpI ns + 1 else 4 * fsI ns + 2
def wrU (i page size e : Int) : List Se := ⟨48 + 12 * i + (3 + page), e⟩ :: (if size ≤ page then [⟨48 + 12 * i + 1, page + 1⟩] else [])
def wrF (ns : List Ino) (i page x : Int) : List Mi × Int := if (0 ≤ page ∧ page < 8) ∧ wordB x = true then (if fpI ns < 0 ∧ fsI ns < 0 then ([], 7) else (wrS ns x ++ planL (upsL (wrU i page (sizeAt ns i) (wrE ns))), 0)) else ([], 4)
def wrI (ns : List Ino) (ds : List Den) (s : ByteArray) (page x : Int) : List Mi × Int := if (flI ns ds s).2 = 0 then wrF ns (flI ns ds s).1 page x else ([], (flI ns ds s).2)
/-- A file is cut: its size, and the pages that go, up to the k-th. -/
def cuT (zs : List Int) (i : Int) (n k : Nat) : List Se := ((List.range k).filter fun j => decide (n ≤ j) && !(zs.getD j 0 == 0)).map fun (j : Nat) => ⟨48 + 12 * i + (3 + (j : Int)), 0⟩
def cuU (zs : List Int) (i : Int) (n k : Nat) : List Se := ⟨48 + 12 * i + 1, (n : Int)⟩ :: cuT zs i n k
def cuF (ns : List Ino) (i size : Int) : List Se × Int := if 0 ≤ size ∧ size ≤ 8 then (cuU (inoAt ns i.toNat).map i size.toNat 8, 0) else ([], 4)
def cuI (ns : List Ino) (ds : List Den) (s : ByteArray) (size : Int) : List Se × Int := if (flI ns ds s).2 = 0 then cuF ns (flI ns ds s).1 size else ([], (flI ns ds s).2)
theorem cuT_yes {zs : List Int} {i : Int} {n k : Nat} (h : n ≤ k) (e : ¬ zs.getD k 0 = 0) : cuT zs i n (k + 1) = cuT zs i n k ++ [⟨48 + 12 * i + (3 + (k : Int)), 0⟩] := by
  unfold cuT
  rw [List.range_succ, List.filter_append, List.map_append]
  congr 1
  rw [List.filter_cons_of_pos (by rw [decide_eq_true h]; simpa using e)]
  rfl
theorem cuT_no {zs : List Int} {i : Int} {n k : Nat} (e : zs.getD k 0 = 0) : cuT zs i n (k + 1) = cuT zs i n k := by
  unfold cuT
  rw [List.range_succ, List.filter_append, List.map_append, List.filter_cons_of_neg (by rw [e]; simp)]
  simp
theorem cuT_start (zs : List Int) (i : Int) (n : Nat) : cuT zs i n n = [] := by
  unfold cuT
  rw [List.filter_eq_nil_iff.2 (fun j hj => by have := List.mem_range.1 hj; simp; omega)]
  rfl
theorem cuT_len (zs : List Int) (i : Int) (n k : Nat) : (cuT zs i n k).length ≤ k := by
  unfold cuT
  rw [List.length_map]
  refine Nat.le_trans (List.length_filter_le _ _) ?_
  rw [List.length_range]
  exact Nat.le_refl _
theorem cuT_in {zs : List Int} {i n k : Nat} (hi : i < 16) (hk : k ≤ 8) : UpIn (cuT zs (i : Int) n k) := fun u hu => by
  unfold cuT at hu
  obtain ⟨j, hm, rfl⟩ := List.mem_map.1 hu
  have := List.mem_range.1 (List.mem_filter.1 hm).1
  exact ⟨by show 48 ≤ 48 + 12 * (i : Int) + (3 + (j : Int)); omega, by show 48 + 12 * (i : Int) + (3 + (j : Int)) < 312; omega⟩
/-- A file that is told is one. -/
theorem fl_file {ns : List Ino} {ds : List Den} {s : ByteArray} (I : Img ns ds) (h : (flI ns ds s).2 = 0) : ∃ i : Nat, i < 16 ∧ (flI ns ds s).1 = (i : Int) ∧ (inoAt ns i).kind = 1 := by
  unfold flI at h ⊢
  by_cases c : (lkI ns ds s).2 = 0
  · rw [if_pos c] at h ⊢
    by_cases d : kindAt ns (lkI ns ds s).1 = 1
    · rw [if_pos d]
      obtain ⟨i, e, hi, _, k⟩ := lk_plain I c (by rw [d]; omega)
      exact ⟨i, hi, e, k⟩
    · rw [if_neg d] at h
      simp at h
  · rw [if_neg c] at h
    exact absurd h c
end Go.Proofs.YtlgghookekokaaaGreatDoor

namespace Go.Proofs.YtlgghookekokaaaGreatDoor
open Go.RowKit

set_option maxRecDepth 100000 in
set_option maxHeartbeats 2000000 in
theorem l05FreeDirent_any (v : Value) (ws : List Ino) (ps : List Den) (w : World) (h : RdIm w v ws ps) (hl : ps.length ≤ 4096) :
    Calls Tryz.prog 251 #[v] w fun e w' => e = .returned (.int .i64 (feI ps)) ∧ Below w.heap.size w w' := by
  obtain ⟨vW, vP, rfl, h1, h2⟩ := h
  obtain ⟨aW, cW, rfl, _, _⟩ := h1.shape
  obtain ⟨aP, cP, rfl, _, hcP⟩ := h2.shape
  have HP := hideIt hcP
  clear h1 h2 hcP
  have CA : Hid (∀ w', Below (w.alloc (.cells #[.slice aW ws.length cW, .slice aP ps.length cP] 26)).heap.size (w.alloc (.cells #[.slice aW ws.length cW, .slice aP ps.length cP] 26)) w' → w'.cell? ⟨w.heap.size, 0, none⟩ = some (.slice aW ws.length cW) ∧ w'.cell? ⟨w.heap.size, 1, none⟩ = some (.slice aP ps.length cP)) := fun w' hb => by
    have : w'.heap[w.heap.size]? = some (.cells #[.slice aW ws.length cW, .slice aP ps.length cP] 26 (0, 0)) := (hb.block _ (by simp)).trans (at_new rfl)
    exact ⟨(two_cells this).1, (two_cells this).2.1⟩
  have BW : Hid (Below w.heap.size w (w.alloc (.cells #[.slice aW ws.length cW, .slice aP ps.length cP] 26))) := (Below.refl _ _).alloc (Nat.le_refl _) _
  obtain ⟨W, hW⟩ : ∃ W, W = w.alloc (.cells #[.slice aW ws.length cW, .slice aP ps.length cP] 26) := ⟨_, rfl⟩
  rw [← hW] at CA BW
  obtain ⟨y0, y1⟩ := CA.out _ (Below.refl _ _)
  have EF := hideIt (show feI ps = firstIx (fun i => decide (childAt ps i < 0)) ps.length from rfl)
  go_enter Tryz.func251, Tryz.ntmps251
  go_wp2
  rw [← hW]
  clear hW
  go_loopw [3] (fun i wr => ∃ k : Nat, k ≤ ps.length ∧ i = .int .i64 k ∧ wr = W ∧ Hid (∀ j, j < k → decide (childAt ps j < 0) = false)) (fun i _ => ps.length - (intOf i).toNat)
  case atStart => exact ⟨0, by omega, rfl, rfl, fun j a => absurd a (by omega)⟩
  case round =>
    obtain ⟨k, hk, rfl, rfl, H⟩ := hrel
    have k0 : (0 : Int) ≤ (k : Int) := by omega
    by_cases hlt : k < ps.length
    · obtain ⟨b, o, rfl, hbl, hcell⟩ := HP.out (by omega)
      have d0 := (BW.out.cell (p := ⟨b, o + k * 3 + 2, none⟩) hbl).trans (hcell k hlt).2.2
      rw [← childAt_of hlt] at d0
      have k1 : (k : Int) < (ps.length : Int) := by omega
      clear hcell
      by_cases q : childAt ps k < 0
      · have E := hideIt (EF.out.trans (first_at (p := fun i => decide (childAt ps i < 0)) hlt H.out (decide_eq_true q)))
        clear H
        generalize childAt ps k = z at d0 q
        go_wp2
        go_ret
        exact ⟨ret_int E.out.symm, BW.out⟩
      · have H' : Hid (∀ j, j < k + 1 → decide (childAt ps j < 0) = false) := fun j a => by
          by_cases e : j = k
          · subst e; exact decide_eq_false q
          · exact H.out j (by omega)
        clear H
        generalize childAt ps k = z at d0 q
        go_wp2
        go_roundw
        case rel => exact ⟨k + 1, by omega, by go_num, trivial, H'⟩
        case measure => simp [intOf]; omega
    · have E := hideIt (EF.out.trans (first_none (p := fun i => decide (childAt ps i < 0)) (n := ps.length) (fun j hj => H.out j (by omega))))
      have k2 : ¬ (k : Int) < (ps.length : Int) := by omega
      clear H
      go_wp2
      go_ret
      exact ⟨ret_int E.out.symm, BW.out⟩

end Go.Proofs.YtlgghookekokaaaGreatDoor

namespace Go.Proofs.YtlgghookekokaaaGreatDoor
open Go.RowKit

set_option maxRecDepth 100000 in
set_option maxHeartbeats 4000000 in
theorem l06Parent_any (v : Value) (ws : List Ino) (ps : List Den) (s : ByteArray) (w : World) (h : RdIm w v ws ps) (hi : imgB ws ps = true) (hs : s.size ≤ 65536) :
    Calls Tryz.prog 89 #[v, .string s] w fun e w' => e = .returned (.tuple #[.int .i64 (paI ws ps s).1, .string (paI ws ps s).2.1, .int .i64 (paI ws ps s).2.2]) ∧ Below w.heap.size w w' := by
  have HR := hideIt h
  have LS := hideIt (fun w1 => l06Split_any s w1 hs)
  have LW := hideIt (fun vL ns w1 h hL hn => l06Walk_any v vL ws ps ns w1 h hL hi hn)
  have WR := hideIt (fun ns => wk_range hi ns 0 (by omega))
  have SL := hideIt (@spL_len s)
  have EL := hideIt (show paI ws ps s = if spB s = true then paL ws ps (spL s) else (0, ⟨#[]⟩, 12) from rfl)
  have L16 := hideIt (pimg_all hi).1
  obtain ⟨vW, vP, rfl, h1, h2⟩ := h
  obtain ⟨aW, cW, rfl, _, hcW⟩ := h1.shape
  obtain ⟨aP, cP, rfl, _, _⟩ := h2.shape
  obtain ⟨bW, oW, rfl, hblW, hcellW⟩ := hcW (by have := L16.out; omega)
  have HW : Hid (∀ w', Below w.heap.size w w' → ∀ n : Nat, n < 16 → w'.cell? ⟨bW, oW + n * 11, none⟩ = some (.int .i64 (kindAt ws n))) := fun w' hb n hn => by
    have hnl : n < ws.length := by have := L16.out; omega
    rw [kindAt_of hnl]
    exact (hb.cell (p := ⟨bW, oW + n * 11, none⟩) hblW).trans (hcellW n hnl).1
  clear h1 h2 hi hcW hcellW
  have CA : Hid (∀ w', Below (w.alloc (.cells #[.slice (some ⟨bW, oW, none⟩) ws.length cW, .slice aP ps.length cP] 26)).heap.size (w.alloc (.cells #[.slice (some ⟨bW, oW, none⟩) ws.length cW, .slice aP ps.length cP] 26)) w' → w'.cell? ⟨w.heap.size, 0, none⟩ = some (.slice (some ⟨bW, oW, none⟩) ws.length cW) ∧ w'.cell? ⟨w.heap.size, 1, none⟩ = some (.slice aP ps.length cP)) := fun w' hb => by
    have : w'.heap[w.heap.size]? = some (.cells #[.slice (some ⟨bW, oW, none⟩) ws.length cW, .slice aP ps.length cP] 26 (0, 0)) := (hb.block _ (by simp)).trans (at_new rfl)
    exact ⟨(two_cells this).1, (two_cells this).2.1⟩
  have BW : Hid (Below w.heap.size w (w.alloc (.cells #[.slice (some ⟨bW, oW, none⟩) ws.length cW, .slice aP ps.length cP] 26))) := (Below.refl _ _).alloc (Nat.le_refl _) _
  generalize hres : paI ws ps s = res at *
  clear hres
  cases c : spB s with
  | false =>
    rw [c] at LS EL
    obtain rfl := EL.out
    clear EL LW
    go_enter Tryz.func89, Tryz.ntmps89
    go_wp2_with fail
    refine (LS.out _).mono ?_
    rintro e w1 ⟨v1, rfl, hr1, hb1⟩
    have B1 := hideIt (below_trans BW.out hb1 BW.out.size)
    clear hr1 hb1
    go_wp2
    go_ret3
    exact ⟨rfl, B1.out⟩
  | true =>
  rw [c] at LS EL
  have EL2 : Hid (res = paL ws ps (spL s)) := EL
  clear EL c
  generalize spL s = ns at *
  by_cases c1 : ns = []
  · subst c1
    obtain rfl := EL2.out
    clear EL2 LW
    go_enter Tryz.func89, Tryz.ntmps89
    go_wp2_with fail
    refine (LS.out _).mono ?_
    rintro e w1 ⟨v1, rfl, hr1, hb1⟩
    have B1 := hideIt (below_trans BW.out hb1 BW.out.size)
    obtain ⟨aL, cL, rfl, _, _⟩ := hr1.shape
    clear hr1 hb1
    simp only [List.length_nil]
    go_wp2
    go_ret3
    exact ⟨rfl, B1.out⟩
  obtain ⟨xs, x, rfl⟩ := snoc_of c1
  rw [paL_snoc] at EL2
  clear c1
  have EP := hideIt (show paN ws ps xs x = if (wk ws ps 0 xs).2 = 0 then (if kindAt ws (wk ws ps 0 xs).1 = 2 then ((wk ws ps 0 xs).1, x, 0) else (0, ⟨#[]⟩, 10)) else (0, ⟨#[]⟩, (wk ws ps 0 xs).2) from rfl)
  rw [EP.out] at EL2
  clear EP
  have sl := SL.out
  rw [List.length_append, List.length_cons, List.length_nil, Nat.zero_add] at sl
  have wr1 := WR.out xs
  have LW2 := hideIt (fun vL w1 h hL => LW.out vL xs w1 h hL (by omega))
  obtain ⟨z, hz⟩ : ∃ z : Nat, (wk ws ps 0 xs).1 = (z : Int) := ⟨((wk ws ps 0 xs).1).toNat, by omega⟩
  have z16 : z < 16 := by omega
  rw [hz] at EL2 LW2
  clear LW WR SL wr1 hz
  generalize (wk ws ps 0 xs).2 = wc at *
  go_enter Tryz.func89, Tryz.ntmps89
  go_wp2_with fail
  refine (LS.out _).mono ?_
  rintro e w1 ⟨v1, rfl, hr1, hb1⟩
  have B1 := hideIt (below_trans BW.out hb1 BW.out.size)
  have BA := hideIt hb1
  have hbn : (w.alloc (.cells #[.slice (some ⟨bW, oW, none⟩) ws.length cW, .slice aP ps.length cP] 26)).heap.size ≤ w1.heap.size := hb1.size
  obtain ⟨x0, x1⟩ := CA.out _ hb1
  have R1 := hideIt hr1
  obtain ⟨aL, cL, rfl, hcap, hcL⟩ := hr1.shape
  obtain ⟨b, o, rfl, hbl, hcell⟩ := hcL (by rw [List.length_append]; simp)
  have hx : w1.cell? ⟨b, o + xs.length, none⟩ = some (.string x) := by
    have := hcell xs.length (by rw [List.length_append]; simp)
    simpa using this
  have RT : Hid (RdT w1 (.slice (some ⟨b, o, none⟩) xs.length cL) xs) := by
    have := rdt_take R1.out (m := xs.length) (by rw [List.length_append]; omega)
    rw [List.take_left] at this
    exact this
  rw [List.length_append, List.length_cons, List.length_nil, Nat.zero_add] at hcap
  simp only [List.length_append, List.length_cons, List.length_nil, Nat.zero_add]
  clear hr1 hb1 hcL hcell R1 LS
  generalize xs.length = n at *
  have n0 : (((n + 1 : Nat) : Int) == 0) = false := by rw [beq_eq_false_iff_ne]; omega
  have nw : IntKind.i64.wrap (((n + 1 : Nat) : Int) - 1) = (n : Int) := by
    rw [show (((n + 1 : Nat) : Int) - 1) = (n : Int) by omega, IntKind.wrap_i64]
    omega
  have ncap : (n : Int) ≤ (cL : Int) := by omega
  have nw2 : IntKind.i64.wrap ((n : Int) + 1 - 1) = (n : Int) := by rw [IntKind.wrap_i64]; omega
  have nw3 : IntKind.i64.wrap (n : Int) = (n : Int) := by rw [IntKind.wrap_i64]; omega
  have nn0 : (0 : Int) ≤ (n : Int) := by omega
  have nn1 : (n : Int) < ((n + 1 : Nat) : Int) := by omega
  have nn2 : (n : Int) < (n : Int) + 1 := by omega
  have z0 : (0 : Int) ≤ (z : Int) := by omega
  have z1 : (z : Int) < (ws.length : Int) := by have := L16.out; omega
  have SK : Hid (∀ w', Below w1.heap.size w1 w' → w'.cell? ⟨w.heap.size, 0, none⟩ = some (.slice (some ⟨bW, oW, none⟩) ws.length cW) ∧ w'.cell? ⟨w.heap.size, 1, none⟩ = some (.slice aP ps.length cP)) := fun w' hb => CA.out w' (below_trans BA.out hb hbn)
  have HX : Hid (∀ w', Below w1.heap.size w1 w' → w'.cell? ⟨b, o + n, none⟩ = some (.string x)) := fun w' hb => (hb.cell (p := ⟨b, o + n, none⟩) hbl).trans hx
  have LW3 := hideIt (fun w2 (hb : Below w1.heap.size w1 w2) => LW2.out _ w2 (HR.out.below (below_trans B1.out hb B1.out.size)) (Rd.below RT.out hb))
  clear LW2 RT hx
  by_cases q : wc = 0
  case neg =>
    rw [if_neg q] at EL2
    obtain rfl := EL2.out
    have q1 : (wc != 0) = true := by rw [bne_iff_ne]; exact q
    clear EL2 q
    go_wp2_with fail
    go_region_held3 (fun w' => w'.cell? ⟨w.heap.size, 0, none⟩ = some (.slice (some ⟨bW, oW, none⟩) ws.length cW) ∧ w'.cell? ⟨w.heap.size, 1, none⟩ = some (.slice aP ps.length cP))
      (exact SK.out _ (by repeat (first | exact BF.out | exact Below.refl _ _ | refine Below.drew ?_)))
      (first
        | (go_at_call 130; refine (LW3.out _ (by repeat (first | exact Below.refl _ _ | refine Below.drew ?_))).mono ?_; rintro e w2 ⟨rfl, hb2⟩; have BF : Hid (Below w1.heap.size w1 w2) := (by first | exact hb2 | exact below_trans (by repeat (first | exact Below.refl _ _ | refine Below.drew ?_)) hb2 (Nat.le_refl _)); clear hb2))
    all_goals
      have B3 := hideIt (below_trans B1.out BF.out B1.out.size)
      clear SK x0 x1
      go_wp2
      go_ret3
      exact ⟨rfl, (by repeat (first | exact B3.out | refine Below.drew ?_))⟩
  rw [if_pos q] at EL2
  subst q
  have HZ := hideIt (fun w' hb => HW.out w' hb z z16)
  by_cases r : kindAt ws z = 2
  case neg =>
    rw [if_neg r] at EL2
    obtain rfl := EL2.out
    have r1 : (kindAt ws z != 2) = true := by rw [bne_iff_ne]; exact r
    clear EL2 r
    generalize kindAt ws z = kz at *
    go_wp2_with fail
    go_region_held3 (fun w' => w'.cell? ⟨w.heap.size, 0, none⟩ = some (.slice (some ⟨bW, oW, none⟩) ws.length cW) ∧ w'.cell? ⟨w.heap.size, 1, none⟩ = some (.slice aP ps.length cP))
      (exact SK.out _ (by repeat (first | exact BF.out | exact Below.refl _ _ | refine Below.drew ?_)))
      (first
        | (go_at_call 130; refine (LW3.out _ (by repeat (first | exact Below.refl _ _ | refine Below.drew ?_))).mono ?_; rintro e w2 ⟨rfl, hb2⟩; have BF : Hid (Below w1.heap.size w1 w2) := (by first | exact hb2 | exact below_trans (by repeat (first | exact Below.refl _ _ | refine Below.drew ?_)) hb2 (Nat.le_refl _)); clear hb2))
    all_goals
      have B3 := hideIt (below_trans B1.out BF.out B1.out.size)
      clear x0 x1
      obtain ⟨x0, x1⟩ := SK.out _ BF.out
      have y0 := HZ.out _ B3.out
      clear SK
      go_wp2
      go_ret3
      exact ⟨rfl, (by repeat (first | exact B3.out | refine Below.drew ?_))⟩
  rw [if_pos r] at EL2
  obtain rfl := EL2.out
  have r1 : (kindAt ws z != 2) = false := by rw [r]; rfl
  clear EL2 r
  generalize kindAt ws z = kz at *
  go_wp2_with fail
  go_region_held3 (fun w' => w'.cell? ⟨w.heap.size, 0, none⟩ = some (.slice (some ⟨bW, oW, none⟩) ws.length cW) ∧ w'.cell? ⟨w.heap.size, 1, none⟩ = some (.slice aP ps.length cP))
    (exact SK.out _ (by repeat (first | exact BF.out | exact Below.refl _ _ | refine Below.drew ?_)))
    (first
      | (go_at_call 130; refine (LW3.out _ (by repeat (first | exact Below.refl _ _ | refine Below.drew ?_))).mono ?_; rintro e w2 ⟨rfl, hb2⟩; have BF : Hid (Below w1.heap.size w1 w2) := (by first | exact hb2 | exact below_trans (by repeat (first | exact Below.refl _ _ | refine Below.drew ?_)) hb2 (Nat.le_refl _)); clear hb2))
  all_goals
    have B3 := hideIt (below_trans B1.out BF.out B1.out.size)
    clear x0 x1
    obtain ⟨x0, x1⟩ := SK.out _ BF.out
    have y0 := HZ.out _ B3.out
    have hx := HX.out _ BF.out
    clear SK
    go_wp2_with fail
    go_region_held3 (fun w' => w'.cell? ⟨b, o + n, none⟩ = some (.string x))
      (exact HX.out _ (by repeat (first | exact BF.out | refine Below.drew ?_)))
      (fail)
    all_goals
      go_wp2
      go_ret3
      exact ⟨rfl, (by repeat (first | exact B3.out | refine Below.drew ?_))⟩

end Go.Proofs.YtlgghookekokaaaGreatDoor

namespace Go.Proofs.YtlgghookekokaaaGreatDoor
open Go.RowKit

/-- What a plan answers stands in a row of its own. -/
def PlOut (w w' : World) (e : Ending) (r : List Se × Int) : Prop := ∃ v', e = .returned (.tuple #[v', .int .i64 r.2]) ∧ Row w' 47 2 w.heap.size w'.heap.size v' r.1.length (ses r.1) ∧ Below w.heap.size w w'
theorem upn {w w1 : World} (B : Below w.heap.size w w1) : Row (w1.alloc (.cells #[] 47)) 47 2 w.heap.size (w1.alloc (.cells #[] 47)).heap.size (.slice (some ⟨w1.heap.size, 0, none⟩) 0 0) 0 [] ∧ Below w.heap.size w (w1.alloc (.cells #[] 47)) :=
  ⟨(row_none w1 _ _).wide B.size (Nat.le_refl _), B.alloc B.size _⟩
theorem pl_none {w w1 : World} {c : Int} (B : Below w.heap.size w w1) : PlOut w (w1.alloc (.cells #[] 47)) (.returned (.tuple #[.slice (some ⟨w1.heap.size, 0, none⟩) 0 0, .int .i64 c])) ([], c) :=
  ⟨_, rfl, (upn B).1, (upn B).2⟩
theorem pl_row {w w1 : World} {v : Value} {L : List Se} (c : Int) (h : UpI w w1 v L) : PlOut w w1 (.returned (.tuple #[v, .int .i64 c])) (L, c) :=
  ⟨_, rfl, own_block h.l, h.b⟩
set_option maxRecDepth 100000 in
set_option maxHeartbeats 8000000 in
theorem l07Make_any (v : Value) (ws : List Ino) (ps : List Den) (s : ByteArray) (kind : Int) (w : World) (h : RdIm w v ws ps) (hi : imgB ws ps = true) (hs : s.size ≤ 65536) :
    Calls Tryz.prog 244 #[v, .string s, .int .i64 kind] w fun e w' => PlOut w w' e (mkI ws ps s kind) := by
  have HR := hideIt h
  have LP := hideIt (fun w1 (hb : Below w.heap.size w w1) => l06Parent_any v ws ps s w1 (h.below hb) hi hs)
  have LE := hideIt (fun d nm w1 (hb : Below w.heap.size w w1) => l06Entry_any v ws ps d nm w1 (h.below hb) (by have := (pimg_all hi).2.1; omega))
  have LI := hideIt (fun w1 (hb : Below w.heap.size w w1) => l05FreeInode_any v ws ps w1 (h.below hb) (by have := (pimg_all hi).1; omega))
  have LK := hideIt (fun w1 (hb : Below w.heap.size w w1) => l05FreeDirent_any v ws ps w1 (h.below hb) (by have := (pimg_all hi).2.1; omega))
  have EL := hideIt (show mkI ws ps s kind = if (paI ws ps s).2.2 = 0 then mkN ws ps kind (paI ws ps s).1 (paI ws ps s).2.1 else ([], (paI ws ps s).2.2) from rfl)
  have EN := hideIt (fun d nm => show mkN ws ps kind d nm = if 0 ≤ entI ps d nm then ([], 8) else if fiI ws < 0 then ([], 7) else if feI ps < 0 then ([], 7) else (mkU (fiI ws) (feI ps) kind d nm, 0) from rfl)
  have PO := hideIt (fun c => paI_ok (s := s) hi c)
  have f1 := fi_range hi
  have f2 := fe_range hi
  have FP := hideIt (@fi_pos ws)
  rw [show firstIx (fun i => decide (1 ≤ i) && kindAt ws (i : Int) == 0) ws.length = fiI ws from rfl] at LI
  obtain ⟨vW, vP, rfl, h1, h2⟩ := h
  obtain ⟨aW, cW, rfl, _, _⟩ := h1.shape
  obtain ⟨aP, cP, rfl, _, _⟩ := h2.shape
  clear h1 h2 hi hs
  have CA : Hid (∀ w', Below (w.alloc (.cells #[.slice aW ws.length cW, .slice aP ps.length cP] 26)).heap.size (w.alloc (.cells #[.slice aW ws.length cW, .slice aP ps.length cP] 26)) w' → w'.cell? ⟨w.heap.size, 0, none⟩ = some (.slice aW ws.length cW) ∧ w'.cell? ⟨w.heap.size, 1, none⟩ = some (.slice aP ps.length cP)) := fun w' hb => by
    have : w'.heap[w.heap.size]? = some (.cells #[.slice aW ws.length cW, .slice aP ps.length cP] 26 (0, 0)) := (hb.block _ (by simp)).trans (at_new rfl)
    exact ⟨(two_cells this).1, (two_cells this).2.1⟩
  have BW : Hid (Below w.heap.size w (w.alloc (.cells #[.slice aW ws.length cW, .slice aP ps.length cP] 26))) := (Below.refl _ _).alloc (Nat.le_refl _) _
  have hz : w.heap.size < (w.alloc (.cells #[.slice aW ws.length cW, .slice aP ps.length cP] 26)).heap.size := by simp
  obtain ⟨x0, x1⟩ := CA.out _ (Below.refl _ _)
  generalize mkI ws ps s kind = res at *
  generalize paI ws ps s = pr at *
  generalize fiI ws = fi at *
  generalize feI ps = fe at *
  obtain ⟨pd, pn, pc⟩ := pr
  simp only at EL PO LP
  go_enter Tryz.func244, Tryz.ntmps244
  go_wp2_with fail
  refine (LP.out _ BW.out).mono ?_
  rintro e w1 ⟨rfl, hb1⟩
  have A1 := hideIt hb1
  have B1 := hideIt (below_trans BW.out hb1 BW.out.size)
  have z1 : (w.alloc (.cells #[.slice aW ws.length cW, .slice aP ps.length cP] 26)).heap.size ≤ w1.heap.size := hb1.size
  clear x0 x1
  obtain ⟨x0, x1⟩ := CA.out _ hb1
  clear hb1 LP
  by_cases c : pc = 0
  case neg =>
    rw [if_neg c] at EL
    obtain rfl := EL.out
    have q : (pc != 0) = true := by rw [bne_iff_ne]; exact c
    clear EL c x0 x1
    go_wp2
    go_ret2
    exact pl_none B1.out
  rw [if_pos c] at EL
  subst c
  obtain ⟨p1, p2, p3⟩ := PO.out rfl
  have NM := hideIt p3
  rw [EN.out] at EL
  clear PO p2 p3 EN
  have LE2 := hideIt (fun w1 hb => LE.out pd pn w1 hb)
  generalize entI ps pd pn = ei at *
  clear LE
  go_wp2_with fail
  refine (LE2.out _ B1.out).mono ?_
  rintro e w2 ⟨rfl, hb2⟩
  have A2 := hideIt (below_trans A1.out hb2 z1)
  have B2 := hideIt (below_trans B1.out hb2 B1.out.size)
  have z2 : (w.alloc (.cells #[.slice aW ws.length cW, .slice aP ps.length cP] 26)).heap.size ≤ w2.heap.size := A2.out.size
  clear x0 x1
  obtain ⟨x0, x1⟩ := CA.out _ A2.out
  clear hb2 LE2 A1 B1
  by_cases c : 0 ≤ ei
  · rw [if_pos c] at EL
    obtain rfl := EL.out
    have c1 : ei ≥ 0 := c
    clear EL x0 x1 c
    go_wp2
    go_ret2
    exact pl_none B2.out
  rw [if_neg c] at EL
  have c1 : ¬ ei ≥ 0 := c
  clear c
  go_wp2_with fail
  refine (LI.out _ B2.out).mono ?_
  rintro e w3 ⟨rfl, hb3⟩
  have A3 := hideIt (below_trans A2.out hb3 z2)
  have B3 := hideIt (below_trans B2.out hb3 B2.out.size)
  have z3 : (w.alloc (.cells #[.slice aW ws.length cW, .slice aP ps.length cP] 26)).heap.size ≤ w3.heap.size := A3.out.size
  clear x0 x1
  obtain ⟨x0, x1⟩ := CA.out _ A3.out
  clear hb3 LI A2 B2 c1
  go_wp2_with fail
  refine (LK.out _ B3.out).mono ?_
  rintro e w4 ⟨rfl, hb4⟩
  have B4 := hideIt (below_trans B3.out hb4 B3.out.size)
  clear hb4 LK A3 B3 x0 x1 CA
  by_cases c2 : fi < 0
  · rw [if_pos c2] at EL
    obtain rfl := EL.out
    clear EL
    go_wp2
    go_ret2
    exact pl_none B4.out
  rw [if_neg c2] at EL
  by_cases c3 : fe < 0
  · rw [if_pos c3] at EL
    obtain rfl := EL.out
    clear EL
    go_wp2
    go_ret2
    exact pl_none B4.out
  rw [if_neg c3] at EL
  have fp := FP.out (by omega)
  have LN := hideIt (fun w1 => l05Entry_any fe ⟨pd, pn, fi⟩ w1 (by omega) (show -1 ≤ fi ∧ fi ≤ 15 by omega) (.inr NM.out))
  have EU := hideIt (show mkU fi fe kind pd pn = [⟨48 + 12 * fi, kind⟩, ⟨48 + 12 * fi + 2, 1⟩] ++ enL fe ⟨pd, pn, fi⟩ from rfl)
  have LV := hideIt (show (Den.mk pd pn fi).v = .agg #[.int .i64 pd, .string pn, .int .i64 fi] from rfl)
  rw [LV.out] at LN
  have l3 : (enL fe ⟨pd, pn, fi⟩).length ≤ 3 := Nat.le_refl _
  generalize enL fe ⟨pd, pn, fi⟩ = L at *
  have fr : 0 ≤ fi ∧ fi < 16 := by omega
  go_wp2_with (go_at_call 105; refine (l03Inode_any _ _ _ fr (by omega)).mono ?_; rintro e w' ⟨rfl, hw'⟩; subst w')
  have J5 : Hid (UpI w (w4.alloc (.cells #[.int .i64 (48 + 12 * fi), .int .i64 kind, .int .i64 (48 + 12 * fi + 2), .int .i64 1] 47)) (.slice (some ⟨w4.heap.size, 0, none⟩) 2 2) [⟨48 + 12 * fi, kind⟩, ⟨48 + 12 * fi + 2, 1⟩]) := ⟨World.ownsRow_lit w4 _ 2 B4.out.size (by simp [maxLen]) rfl, B4.out.alloc B4.out.size _⟩
  refine (LN.out _).mono ?_
  rintro e w6 ⟨v6, rfl, hr6, hb6⟩
  have J6 := hideIt (J5.out.below hb6)
  have R6 := hideIt hr6.rd
  obtain ⟨-, aL, cL, hvL, -⟩ := hr6.rd
  subst hvL
  have z6 : w.heap.size ≤ w6.heap.size := J6.out.z
  clear hr6 hb6 J5 LN
  go_wp2_with (at_builtin; refine wpList_append_rd _ rfl (.tmp 50) (.tmp 56) 39 rfl w.heap.size 47 (.agg #[.int .i64 0, .int .i64 0]) 2 16 Tryz.underlying39 infoUp rfl (by decide) _ _ _ rfl J6.out.l _ _ _ rfl R6.out (ses_ones _) (by simp [maxLen]; omega) (by simp; omega) z6 ?_)
  intro vN wN hownN hgrN
  have G := hideIt (J6.out.grow L hownN hgrN)
  rw [← EU.out] at G
  obtain ⟨-, aN, cN, hvN, -⟩ := (own_block hownN).rd
  subst hvN
  obtain rfl := EL.out
  clear hownN hgrN J6 R6 EL
  go_wp2
  go_ret2
  exact pl_row 0 G.out

end Go.Proofs.YtlgghookekokaaaGreatDoor
