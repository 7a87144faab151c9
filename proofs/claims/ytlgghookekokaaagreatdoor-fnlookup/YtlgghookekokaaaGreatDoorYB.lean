/- Several texts laid together: PcG. -/
import Derived.Test.YtlgghookekokaaaGreatDoorYA
namespace Go.Proofs.YtlgghookekokaaaGreatDoor
open Go.RowKit

set_option maxRecDepth 100000 in
set_option maxHeartbeats 8000000 in
theorem implParent_any (v : Value) (ws : List Ino) (ps : List Den) (s : ByteArray) (w : World) (h : RdIm w v ws ps) (hw : ws.length ≤ 1048576) (hp : ps.length ≤ 1048576) (hT : TS w) (hE : ED w) (hF : FD w) (hr : ∀ k (h : k < ws.length), ws[k].R) (hs : ∀ k (h : k < ps.length), ps[k].name.size ≤ maxLen) :
    Calls Tryz.prog 32 #[v, .string s] w fun e w' => e = .returned (.tuple #[.int .i64 (paR ws ps s).1, .string (paR ws ps s).2.1, .int .i64 (paR ws ps s).2.2]) ∧ Below w.heap.size w w' := by
  have HR := hideIt h
  have LS := hideIt (fun w1 (hb : Below w.heap.size w w1) => splitIn_any v ws ps s w1 (h.below hb) hw hp (hT.below hb) (hE.below hb) (hF.below hb) hr hs)
  have LG := hideIt (fun vL ns w1 h hL hi hn hs => goDown_any v vL ws ps ns w1 h hL hi hn hs)
  have LD := hideIt (fun (i : Nat) w1 h (hl : ws.length = 16) (hi16 : i < 16) => isDir_any v ws ps (i : Int) w1 h hl (by omega))
  have SS := hideIt (@spL_short s)
  have SL := hideIt (@spL_len s)
  obtain ⟨NO, YES⟩ := si_lk ws ps s
  have NO := hideIt NO
  have YES := hideIt YES
  obtain ⟨vW, vP, rfl, h1, h2⟩ := h
  obtain ⟨aW, cW, rfl, _, _⟩ := h1.shape
  obtain ⟨aP, cP, rfl, _, _⟩ := h2.shape
  clear h1 h2 hr hs hT hE hF
  have CA : Hid (∀ w', Below (w.alloc (.cells #[.slice aW ws.length cW, .slice aP ps.length cP] 26)).heap.size (w.alloc (.cells #[.slice aW ws.length cW, .slice aP ps.length cP] 26)) w' → w'.cell? ⟨w.heap.size, 0, none⟩ = some (.slice aW ws.length cW) ∧ w'.cell? ⟨w.heap.size, 1, none⟩ = some (.slice aP ps.length cP)) := fun w' hb => by
    have : w'.heap[w.heap.size]? = some (.cells #[.slice aW ws.length cW, .slice aP ps.length cP] 26 (0, 0)) := (hb.block _ (by simp)).trans (at_new rfl)
    exact ⟨(two_cells this).1, (two_cells this).2.1⟩
  have BW : Hid (Below w.heap.size w (w.alloc (.cells #[.slice aW ws.length cW, .slice aP ps.length cP] 26))) := (Below.refl _ _).alloc (Nat.le_refl _) _
  obtain ⟨x0, x1⟩ := CA.out _ (Below.refl _ _)
  generalize siC ws ps s = sc at *
  generalize siL ws ps s = sl at *
  generalize lkR ws ps s = res2 at *
  generalize paR ws ps s = res at *
  by_cases c : sc = 0
  case neg =>
    obtain ⟨_, rfl⟩ := NO.out c
    have q : (sc != 0) = true := by rw [bne_iff_ne]; exact c
    clear NO YES c
    go_enter Tryz.func32, Tryz.ntmps32
    go_wp2_with fail
    refine (LS.out _ BW.out).mono ?_
    rintro e w1 ⟨v1, rfl, hr1, hb1⟩
    have B1 := hideIt (below_trans BW.out hb1 BW.out.size)
    clear hr1 hb1 x0 x1
    go_wp2
    go_ret3
    exact ⟨rfl, B1.out⟩
  obtain ⟨c1, rfl, _, hres⟩ := YES.out c
  have C1 := hideIt c1
  have EL2 := hideIt hres
  have WR := hideIt (fun ns => wk_range c1 ns 0 (by omega))
  have L16 := hideIt (pimg_all c1).1
  subst c
  clear NO YES c1 hres
  generalize spL s = ns at *
  by_cases c2 : ns = []
  · subst c2
    obtain rfl := EL2.out
    clear EL2 LG
    go_enter Tryz.func32, Tryz.ntmps32
    go_wp2_with fail
    refine (LS.out _ BW.out).mono ?_
    rintro e w1 ⟨v1, rfl, hr1, hb1⟩
    have B1 := hideIt (below_trans BW.out hb1 BW.out.size)
    obtain ⟨aL, cL, rfl, _, _⟩ := hr1.shape
    clear hr1 hb1 x0 x1
    simp only [List.length_nil]
    go_wp2
    go_ret3
    exact ⟨rfl, B1.out⟩
  obtain ⟨xs, x, rfl⟩ := snoc_of c2
  rw [paL_snoc] at EL2
  clear c2
  have EP := hideIt (show paN ws ps xs x = if (wk ws ps 0 xs).2 = 0 then (if kindAt ws (wk ws ps 0 xs).1 = 2 then ((wk ws ps 0 xs).1, x, 0) else (0, ⟨#[]⟩, 10)) else (0, ⟨#[]⟩, (wk ws ps 0 xs).2) from rfl)
  rw [EP.out] at EL2
  clear EP
  have sl := SL.out
  rw [List.length_append, List.length_cons, List.length_nil, Nat.zero_add] at sl
  have S1 : Hid (∀ k (h : k < xs.length), 1 ≤ xs[k].size) := fun k hk => by
    have := SS.out k (by rw [List.length_append]; omega)
    rw [List.getElem_append_left hk] at this
    exact this
  have wr1 := WR.out xs
  have LW2 := hideIt (fun vL w1 h hL => LG.out vL xs w1 h hL C1.out (by omega) S1.out)
  obtain ⟨z, hz⟩ : ∃ z : Nat, (wk ws ps 0 xs).1 = (z : Int) := ⟨((wk ws ps 0 xs).1).toNat, by omega⟩
  have z16 : z < 16 := by omega
  rw [hz] at EL2 LW2
  clear LG WR SL SS S1 wr1 hz
  have LD2 := hideIt (fun w1 h => LD.out z w1 h L16.out z16)
  clear LD
  generalize (wk ws ps 0 xs).2 = wc at *
  go_enter Tryz.func32, Tryz.ntmps32
  go_wp2_with fail
  refine (LS.out _ BW.out).mono ?_
  rintro e w1 ⟨v1, rfl, hr1, hb1⟩
  have B1 := hideIt (below_trans BW.out hb1 BW.out.size)
  have BA := hideIt hb1
  have hbn : (w.alloc (.cells #[.slice aW ws.length cW, .slice aP ps.length cP] 26)).heap.size ≤ w1.heap.size := hb1.size
  clear x0 x1
  obtain ⟨x0, x1⟩ := CA.out _ hb1
  have R1 := hideIt hr1
  obtain ⟨aL, cL, rfl, hcap, hcL⟩ := hr1.shape
  obtain ⟨b, o, rfl, hbl, hcell⟩ := hcL (by rw [List.length_append]; simp)
  have hx : w1.cell? ⟨b, o + xs.length, none⟩ = some (.string x) := by
    have := hcell xs.length (by rw [List.length_append]; simp)
    simpa using this
  have RT : Hid (RdT w1 (.slice (some ⟨b, o, none⟩) xs.length cL) xs) := by
    have := rdt_take R1.out (m := xs.length) (by rw [List.length_append]; omega)
    rw [List.take_left] at this
    exact this
  rw [List.length_append, List.length_cons, List.length_nil, Nat.zero_add] at hcap
  simp only [List.length_append, List.length_cons, List.length_nil, Nat.zero_add]
  clear hr1 hb1 hcL hcell R1 LS
  generalize xs.length = n at *
  have n0 : (((n + 1 : Nat) : Int) == 0) = false := by rw [beq_eq_false_iff_ne]; omega
  have nw : IntKind.i64.wrap (((n + 1 : Nat) : Int) - 1) = (n : Int) := by
    rw [show (((n + 1 : Nat) : Int) - 1) = (n : Int) by omega, IntKind.wrap_i64]
    omega
  have ncap : (n : Int) ≤ (cL : Int) := by omega
  have nw2 : IntKind.i64.wrap ((n : Int) + 1 - 1) = (n : Int) := by rw [IntKind.wrap_i64]; omega
  have nw3 : IntKind.i64.wrap (n : Int) = (n : Int) := by rw [IntKind.wrap_i64]; omega
  have nn0 : (0 : Int) ≤ (n : Int) := by omega
  have nn1 : (n : Int) < ((n + 1 : Nat) : Int) := by omega
  have nn2 : (n : Int) < (n : Int) + 1 := by omega
  have SK : Hid (∀ w', Below w1.heap.size w1 w' → w'.cell? ⟨w.heap.size, 0, none⟩ = some (.slice aW ws.length cW) ∧ w'.cell? ⟨w.heap.size, 1, none⟩ = some (.slice aP ps.length cP)) := fun w' hb => CA.out w' (below_trans BA.out hb hbn)
  have HX : Hid (∀ w', Below w1.heap.size w1 w' → w'.cell? ⟨b, o + n, none⟩ = some (.string x)) := fun w' hb => (hb.cell (p := ⟨b, o + n, none⟩) hbl).trans hx
  have LW3 := hideIt (fun w2 (hb : Below w1.heap.size w1 w2) => LW2.out _ w2 (HR.out.below (below_trans B1.out hb B1.out.size)) (Rd.below RT.out hb))
  clear LW2 RT hx
  by_cases q : wc = 0
  case neg =>
    rw [if_neg q] at EL2
    obtain rfl := EL2.out
    have q1 : (wc != 0) = true := by rw [bne_iff_ne]; exact q
    clear EL2 q
    go_wp2_with fail
    go_region_held3 (fun w' => w'.cell? ⟨w.heap.size, 0, none⟩ = some (.slice aW ws.length cW) ∧ w'.cell? ⟨w.heap.size, 1, none⟩ = some (.slice aP ps.length cP))
      (exact SK.out _ (by repeat (first | exact BF.out | exact Below.refl _ _ | refine Below.drew ?_)))
      (first
        | (go_at_call 81; refine (LW3.out _ (by repeat (first | exact Below.refl _ _ | refine Below.drew ?_))).mono ?_; rintro e w2 ⟨rfl, hb2⟩; have BF : Hid (Below w1.heap.size w1 w2) := (by first | exact hb2 | exact below_trans (by repeat (first | exact Below.refl _ _ | refine Below.drew ?_)) hb2 (Nat.le_refl _)); clear hb2))
    all_goals
      have B3 := hideIt (below_trans B1.out BF.out B1.out.size)
      clear SK x0 x1
      go_wp2
      go_ret3
      exact ⟨rfl, (by repeat (first | exact B3.out | refine Below.drew ?_))⟩
  rw [if_pos q] at EL2
  subst q
  by_cases r : kindAt ws z = 2
  case neg =>
    rw [if_neg r] at EL2
    obtain rfl := EL2.out
    have r1 : (kindAt ws z == 2) = false := by rw [beq_eq_false_iff_ne]; exact r
    rw [r1] at LD2
    clear EL2 r r1
    go_wp2_with fail
    go_region_held3 (fun w' => w'.cell? ⟨w.heap.size, 0, none⟩ = some (.slice aW ws.length cW) ∧ w'.cell? ⟨w.heap.size, 1, none⟩ = some (.slice aP ps.length cP))
      (exact SK.out _ (by repeat (first | exact BF.out | exact Below.refl _ _ | refine Below.drew ?_)))
      (first
        | (go_at_call 81; refine (LW3.out _ (by repeat (first | exact Below.refl _ _ | refine Below.drew ?_))).mono ?_; rintro e w2 ⟨rfl, hb2⟩; have BF : Hid (Below w1.heap.size w1 w2) := (by first | exact hb2 | exact below_trans (by repeat (first | exact Below.refl _ _ | refine Below.drew ?_)) hb2 (Nat.le_refl _)); clear hb2))
    all_goals
      have B3 := hideIt (below_trans B1.out BF.out B1.out.size)
      clear x0 x1
      obtain ⟨x0, x1⟩ := SK.out _ BF.out
      clear SK
      go_wp2_with fail
      refine (LD2.out _ (HR.out.below (by repeat (first | exact B3.out | refine Below.drew ?_)))).mono ?_
      rintro e w3 ⟨rfl, hb3⟩
      have B4 : Hid (Below w.heap.size w w3) := below_trans (by repeat (first | exact B3.out | refine Below.drew ?_)) hb3 (by have := B3.out.size; simp <;> omega)
      clear hb3 x0 x1
      go_wp2
      go_ret3
      exact ⟨rfl, B4.out⟩
  rw [if_pos r] at EL2
  obtain rfl := EL2.out
  have r1 : (kindAt ws z == 2) = true := by rw [r]; rfl
  rw [r1] at LD2
  clear EL2 r r1
  go_wp2_with fail
  go_region_held3 (fun w' => w'.cell? ⟨w.heap.size, 0, none⟩ = some (.slice aW ws.length cW) ∧ w'.cell? ⟨w.heap.size, 1, none⟩ = some (.slice aP ps.length cP))
    (exact SK.out _ (by repeat (first | exact BF.out | exact Below.refl _ _ | refine Below.drew ?_)))
    (first
      | (go_at_call 81; refine (LW3.out _ (by repeat (first | exact Below.refl _ _ | refine Below.drew ?_))).mono ?_; rintro e w2 ⟨rfl, hb2⟩; have BF : Hid (Below w1.heap.size w1 w2) := (by first | exact hb2 | exact below_trans (by repeat (first | exact Below.refl _ _ | refine Below.drew ?_)) hb2 (Nat.le_refl _)); clear hb2))
  all_goals
    have B3 := hideIt (below_trans B1.out BF.out B1.out.size)
    clear x0 x1
    obtain ⟨x0, x1⟩ := SK.out _ BF.out
    clear SK
    go_wp2_with fail
    refine (LD2.out _ (HR.out.below (by repeat (first | exact B3.out | refine Below.drew ?_)))).mono ?_
    rintro e w3 ⟨rfl, hb3⟩
    have B4 : Hid (Below w.heap.size w w3) := below_trans (by repeat (first | exact B3.out | refine Below.drew ?_)) hb3 (by have := B3.out.size; simp <;> omega)
    have B5 : Hid (Below w1.heap.size w1 w3) := below_trans (by repeat (first | exact BF.out | refine Below.drew ?_)) hb3 (by have := BF.out.size; simp <;> omega)
    have hx := HX.out _ B5.out
    clear hb3 x0 x1
    go_wp2_with fail
    go_region_held3 (fun w' => w'.cell? ⟨b, o + n, none⟩ = some (.string x))
      (exact HX.out _ (by repeat (first | exact B5.out | refine Below.drew ?_)))
      (fail)
    all_goals
      go_wp2
      go_ret3
      exact ⟨rfl, (by repeat (first | exact B4.out | refine Below.drew ?_))⟩
end Go.Proofs.YtlgghookekokaaaGreatDoor

