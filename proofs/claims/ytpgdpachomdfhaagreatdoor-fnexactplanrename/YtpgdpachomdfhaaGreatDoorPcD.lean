/- Parent: by the model. -/
import Derived.Test.YtpgdpachomdfhaaGreatDoorZBH
namespace Go.Proofs.YtpgdpachomdfhaaGreatDoor
open Go.RowKit

theorem ret_isi {a c : Int} {b : ByteArray} {r : Int × ByteArray × Int} (h : r = (a, b, c)) : Ending.returned (.tuple #[.int .i64 a, .string b, .int .i64 c]) = .returned (.tuple #[.int .i64 r.1, .string r.2.1, .int .i64 r.2.2]) := by rw [h]

set_option maxRecDepth 100000 in
set_option maxHeartbeats 4000000 in
theorem l06Parent_any (v : Value) (ws : List Ino) (ps : List Den) (s : ByteArray) (w : World) (h : RdIm w v ws ps) (hi : imgB ws ps = true) (hs : s.size ≤ 65536) :
    Calls Tryz.prog 54 #[v, .string s] w fun e w' => e = .returned (.tuple #[.int .i64 (paI ws ps s).1, .string (paI ws ps s).2.1, .int .i64 (paI ws ps s).2.2]) ∧ Below w.heap.size w w' := by
  have HR := hideIt h
  have LS := hideIt (fun w1 => l06Split_any s w1 hs)
  have LW := hideIt (fun vL ns w1 h hL hn => l06Walk_any v vL ws ps ns w1 h hL hi hn)
  have WR := hideIt (fun ns => wk_range hi ns 0 (by omega))
  have SL := hideIt (@spL_len s)
  have EL := hideIt (show paI ws ps s = if spB s = true then paL ws ps (spL s) else (0, ⟨#[]⟩, 12) from rfl)
  have L16 := hideIt (pimg_all hi).1
  obtain ⟨vW, vP, rfl, h1, h2⟩ := h
  obtain ⟨aW, cW, rfl, _, hcW⟩ := h1.shape
  obtain ⟨aP, cP, rfl, _, _⟩ := h2.shape
  obtain ⟨bW, oW, rfl, hblW, hcellW⟩ := hcW (by have := L16.out; omega)
  have HW : Hid (∀ w', Below w.heap.size w w' → ∀ n : Nat, n < 16 → w'.cell? ⟨bW, oW + n * 11, none⟩ = some (.int .i64 (kindAt ws n))) := fun w' hb n hn => by
    have hnl : n < ws.length := by have := L16.out; omega
    rw [kindAt_of hnl]
    exact (hb.cell (p := ⟨bW, oW + n * 11, none⟩) hblW).trans (hcellW n hnl).1
  clear h1 h2 hi hcW hcellW
  have CA : Hid (∀ w', Below (w.alloc (.cells #[.slice (some ⟨bW, oW, none⟩) ws.length cW, .slice aP ps.length cP] 33)).heap.size (w.alloc (.cells #[.slice (some ⟨bW, oW, none⟩) ws.length cW, .slice aP ps.length cP] 33)) w' → w'.cell? ⟨w.heap.size, 0, none⟩ = some (.slice (some ⟨bW, oW, none⟩) ws.length cW) ∧ w'.cell? ⟨w.heap.size, 1, none⟩ = some (.slice aP ps.length cP)) := fun w' hb => by
    have : w'.heap[w.heap.size]? = some (.cells #[.slice (some ⟨bW, oW, none⟩) ws.length cW, .slice aP ps.length cP] 33 (0, 0)) := (hb.block _ (by simp)).trans (at_new rfl)
    exact ⟨(two_cells this).1, (two_cells this).2.1⟩
  have BW : Hid (Below w.heap.size w (w.alloc (.cells #[.slice (some ⟨bW, oW, none⟩) ws.length cW, .slice aP ps.length cP] 33))) := (Below.refl _ _).alloc (Nat.le_refl _) _
  generalize hres : paI ws ps s = res at *
  clear hres
  cases c : spB s with
  | false =>
    rw [c] at LS EL
    obtain rfl := EL.out
    clear EL LW
    go_enter Tryz.func54, Tryz.ntmps54
    go_wp2_with fail
    refine (LS.out _).mono ?_
    rintro e w1 ⟨v1, rfl, hr1, hb1⟩
    have B1 := hideIt (below_trans BW.out hb1 BW.out.size)
    clear hr1 hb1
    go_wp2
    go_ret3
    exact ⟨rfl, B1.out⟩
  | true =>
  rw [c] at LS EL
  have EL2 : Hid (res = paL ws ps (spL s)) := EL
  clear EL c
  generalize spL s = ns at *
  by_cases c1 : ns = []
  · subst c1
    obtain rfl := EL2.out
    clear EL2 LW
    go_enter Tryz.func54, Tryz.ntmps54
    go_wp2_with fail
    refine (LS.out _).mono ?_
    rintro e w1 ⟨v1, rfl, hr1, hb1⟩
    have B1 := hideIt (below_trans BW.out hb1 BW.out.size)
    obtain ⟨aL, cL, rfl, _, _⟩ := hr1.shape
    clear hr1 hb1
    simp only [List.length_nil]
    go_wp2
    go_ret3
    exact ⟨rfl, B1.out⟩
  obtain ⟨xs, x, rfl⟩ := snoc_of c1
  rw [paL_snoc] at EL2
  clear c1
  have EP := hideIt (show paN ws ps xs x = if (wk ws ps 0 xs).2 = 0 then (if kindAt ws (wk ws ps 0 xs).1 = 2 then ((wk ws ps 0 xs).1, x, 0) else (0, ⟨#[]⟩, 10)) else (0, ⟨#[]⟩, (wk ws ps 0 xs).2) from rfl)
  rw [EP.out] at EL2
  clear EP
  have sl := SL.out
  rw [List.length_append, List.length_cons, List.length_nil, Nat.zero_add] at sl
  have wr1 := WR.out xs
  have LW2 := hideIt (fun vL w1 h hL => LW.out vL xs w1 h hL (by omega))
  obtain ⟨z, hz⟩ : ∃ z : Nat, (wk ws ps 0 xs).1 = (z : Int) := ⟨((wk ws ps 0 xs).1).toNat, by omega⟩
  have z16 : z < 16 := by omega
  rw [hz] at EL2 LW2
  clear LW WR SL wr1 hz
  generalize (wk ws ps 0 xs).2 = wc at *
  go_enter Tryz.func54, Tryz.ntmps54
  go_wp2_with fail
  refine (LS.out _).mono ?_
  rintro e w1 ⟨v1, rfl, hr1, hb1⟩
  have B1 := hideIt (below_trans BW.out hb1 BW.out.size)
  have BA := hideIt hb1
  have hbn : (w.alloc (.cells #[.slice (some ⟨bW, oW, none⟩) ws.length cW, .slice aP ps.length cP] 33)).heap.size ≤ w1.heap.size := hb1.size
  obtain ⟨x0, x1⟩ := CA.out _ hb1
  have R1 := hideIt hr1
  obtain ⟨aL, cL, rfl, hcap, hcL⟩ := hr1.shape
  obtain ⟨b, o, rfl, hbl, hcell⟩ := hcL (by rw [List.length_append]; simp)
  have hx : w1.cell? ⟨b, o + xs.length, none⟩ = some (.string x) := by
    have := hcell xs.length (by rw [List.length_append]; simp)
    simpa using this
  have RT : Hid (RdT w1 (.slice (some ⟨b, o, none⟩) xs.length cL) xs) := by
    have := rdt_take R1.out (m := xs.length) (by rw [List.length_append]; omega)
    rw [List.take_left] at this
    exact this
  rw [List.length_append, List.length_cons, List.length_nil, Nat.zero_add] at hcap
  simp only [List.length_append, List.length_cons, List.length_nil, Nat.zero_add]
  clear hr1 hb1 hcL hcell R1 LS
  generalize xs.length = n at *
  have n0 : (((n + 1 : Nat) : Int) == 0) = false := by rw [beq_eq_false_iff_ne]; omega
  have nw : IntKind.i64.wrap (((n + 1 : Nat) : Int) - 1) = (n : Int) := by
    rw [show (((n + 1 : Nat) : Int) - 1) = (n : Int) by omega, IntKind.wrap_i64]
    omega
  have ncap : (n : Int) ≤ (cL : Int) := by omega
  have nw2 : IntKind.i64.wrap ((n : Int) + 1 - 1) = (n : Int) := by rw [IntKind.wrap_i64]; omega
  have nw3 : IntKind.i64.wrap (n : Int) = (n : Int) := by rw [IntKind.wrap_i64]; omega
  have nn0 : (0 : Int) ≤ (n : Int) := by omega
  have nn1 : (n : Int) < ((n + 1 : Nat) : Int) := by omega
  have nn2 : (n : Int) < (n : Int) + 1 := by omega
  have z0 : (0 : Int) ≤ (z : Int) := by omega
  have z1 : (z : Int) < (ws.length : Int) := by have := L16.out; omega
  have SK : Hid (∀ w', Below w1.heap.size w1 w' → w'.cell? ⟨w.heap.size, 0, none⟩ = some (.slice (some ⟨bW, oW, none⟩) ws.length cW) ∧ w'.cell? ⟨w.heap.size, 1, none⟩ = some (.slice aP ps.length cP)) := fun w' hb => CA.out w' (below_trans BA.out hb hbn)
  have HX : Hid (∀ w', Below w1.heap.size w1 w' → w'.cell? ⟨b, o + n, none⟩ = some (.string x)) := fun w' hb => (hb.cell (p := ⟨b, o + n, none⟩) hbl).trans hx
  have LW3 := hideIt (fun w2 (hb : Below w1.heap.size w1 w2) => LW2.out _ w2 (HR.out.below (below_trans B1.out hb B1.out.size)) (Rd.below RT.out hb))
  clear LW2 RT hx
  by_cases q : wc = 0
  case neg =>
    rw [if_neg q] at EL2
    obtain rfl := EL2.out
    have q1 : (wc != 0) = true := by rw [bne_iff_ne]; exact q
    clear EL2 q
    go_wp2_with fail
    go_region_held3 (fun w' => w'.cell? ⟨w.heap.size, 0, none⟩ = some (.slice (some ⟨bW, oW, none⟩) ws.length cW) ∧ w'.cell? ⟨w.heap.size, 1, none⟩ = some (.slice aP ps.length cP))
      (exact SK.out _ (by repeat (first | exact BF.out | exact Below.refl _ _ | refine Below.drew ?_)))
      (first
        | (go_at_call 89; refine (LW3.out _ (by repeat (first | exact Below.refl _ _ | refine Below.drew ?_))).mono ?_; rintro e w2 ⟨rfl, hb2⟩; have BF : Hid (Below w1.heap.size w1 w2) := (by first | exact hb2 | exact below_trans (by repeat (first | exact Below.refl _ _ | refine Below.drew ?_)) hb2 (Nat.le_refl _)); clear hb2))
    all_goals
      have B3 := hideIt (below_trans B1.out BF.out B1.out.size)
      clear SK x0 x1
      go_wp2
      go_ret3
      exact ⟨rfl, (by repeat (first | exact B3.out | refine Below.drew ?_))⟩
  rw [if_pos q] at EL2
  subst q
  have HZ := hideIt (fun w' hb => HW.out w' hb z z16)
  by_cases r : kindAt ws z = 2
  case neg =>
    rw [if_neg r] at EL2
    obtain rfl := EL2.out
    have r1 : (kindAt ws z != 2) = true := by rw [bne_iff_ne]; exact r
    clear EL2 r
    generalize kindAt ws z = kz at *
    go_wp2_with fail
    go_region_held3 (fun w' => w'.cell? ⟨w.heap.size, 0, none⟩ = some (.slice (some ⟨bW, oW, none⟩) ws.length cW) ∧ w'.cell? ⟨w.heap.size, 1, none⟩ = some (.slice aP ps.length cP))
      (exact SK.out _ (by repeat (first | exact BF.out | exact Below.refl _ _ | refine Below.drew ?_)))
      (first
        | (go_at_call 89; refine (LW3.out _ (by repeat (first | exact Below.refl _ _ | refine Below.drew ?_))).mono ?_; rintro e w2 ⟨rfl, hb2⟩; have BF : Hid (Below w1.heap.size w1 w2) := (by first | exact hb2 | exact below_trans (by repeat (first | exact Below.refl _ _ | refine Below.drew ?_)) hb2 (Nat.le_refl _)); clear hb2))
    all_goals
      have B3 := hideIt (below_trans B1.out BF.out B1.out.size)
      clear x0 x1
      obtain ⟨x0, x1⟩ := SK.out _ BF.out
      have y0 := HZ.out _ B3.out
      clear SK
      go_wp2
      go_ret3
      exact ⟨rfl, (by repeat (first | exact B3.out | refine Below.drew ?_))⟩
  rw [if_pos r] at EL2
  obtain rfl := EL2.out
  have r1 : (kindAt ws z != 2) = false := by rw [r]; rfl
  clear EL2 r
  generalize kindAt ws z = kz at *
  go_wp2_with fail
  go_region_held3 (fun w' => w'.cell? ⟨w.heap.size, 0, none⟩ = some (.slice (some ⟨bW, oW, none⟩) ws.length cW) ∧ w'.cell? ⟨w.heap.size, 1, none⟩ = some (.slice aP ps.length cP))
    (exact SK.out _ (by repeat (first | exact BF.out | exact Below.refl _ _ | refine Below.drew ?_)))
    (first
      | (go_at_call 89; refine (LW3.out _ (by repeat (first | exact Below.refl _ _ | refine Below.drew ?_))).mono ?_; rintro e w2 ⟨rfl, hb2⟩; have BF : Hid (Below w1.heap.size w1 w2) := (by first | exact hb2 | exact below_trans (by repeat (first | exact Below.refl _ _ | refine Below.drew ?_)) hb2 (Nat.le_refl _)); clear hb2))
  all_goals
    have B3 := hideIt (below_trans B1.out BF.out B1.out.size)
    clear x0 x1
    obtain ⟨x0, x1⟩ := SK.out _ BF.out
    have y0 := HZ.out _ B3.out
    have hx := HX.out _ BF.out
    clear SK
    go_wp2_with fail
    go_region_held3 (fun w' => w'.cell? ⟨b, o + n, none⟩ = some (.string x))
      (exact HX.out _ (by repeat (first | exact BF.out | refine Below.drew ?_)))
      (fail)
    all_goals
      go_wp2
      go_ret3
      exact ⟨rfl, (by repeat (first | exact B3.out | refine Below.drew ?_))⟩

end Go.Proofs.YtpgdpachomdfhaaGreatDoor
