/- Several texts laid together: PcD, PlM. -/
import Derived.Test.YtbbmljakfbhnpaaGreatDoorZAM
import Derived.Test.YtbbmljakfbhnpaaGreatDoorZAZ
namespace Go.Proofs.YtbbmljakfbhnpaaGreatDoor
open Go.RowKit

set_option maxRecDepth 100000 in
set_option maxHeartbeats 4000000 in
theorem zdh (v : Value) (ws : List Ino) (ps : List Den) (s : ByteArray) (w : World) (h : RdIm w v ws ps) (hi : zfm ws ps = true) (hs : s.size ≤ 65536) :
  Calls Tryz.prog 225 #[v, .string s] w fun e w' => e = .returned (.tuple #[.int .i64 (paI ws ps s).1, .string (paI ws ps s).2.1, .int .i64 (paI ws ps s).2.2]) ∧ Below w.heap.size w w' := by
 have HR := zaa h
 have LS := zaa (fun w1 => zkf s w1 hs)
 have LW := zaa (fun vL ns w1 h hL hn => zml v vL ws ps ns w1 h hL hi hn)
 have WR := zaa (fun ns => zll hi ns 0 (by omega))
 have SL := zaa (@spL_len s)
 have EL := zaa (show paI ws ps s = if spB s = true then paL ws ps (spL s) else (0, ⟨#[]⟩, 12) from rfl)
 have L16 := zaa (zax hi).1
 obtain ⟨vW, vP, rfl, h1, h2⟩ := h
 obtain ⟨aW, cW, rfl, _, hcW⟩ := h1.shape
 obtain ⟨aP, cP, rfl, _, _⟩ := h2.shape
 obtain ⟨bW, oW, rfl, hblW, hcellW⟩ := hcW (by have := L16.out; omega)
 have HW : Hid (∀ w', Below w.heap.size w w' → ∀ n : Nat, n < 16 → w'.cell? ⟨bW, oW + n * 11, none⟩ = some (.int .i64 (zak ws n))) := fun w' hb n hn => by
  have hnl : n < ws.length := by have := L16.out; omega
  rw [zcm hnl]
  exact (hb.cell (p := ⟨bW, oW + n * 11, none⟩) hblW).trans (hcellW n hnl).1
 clear h1 h2 hi hcW hcellW
 have CA : Hid (∀ w', Below (w.alloc (.cells #[.slice (some ⟨bW, oW, none⟩) ws.length cW, .slice aP ps.length cP] 26)).heap.size (w.alloc (.cells #[.slice (some ⟨bW, oW, none⟩) ws.length cW, .slice aP ps.length cP] 26)) w' → w'.cell? ⟨w.heap.size, 0, none⟩ = some (.slice (some ⟨bW, oW, none⟩) ws.length cW) ∧ w'.cell? ⟨w.heap.size, 1, none⟩ = some (.slice aP ps.length cP)) := fun w' hb => by
  have : w'.heap[w.heap.size]? = some (.cells #[.slice (some ⟨bW, oW, none⟩) ws.length cW, .slice aP ps.length cP] 26 (0, 0)) := (hb.block _ (by simp)).trans (zag rfl)
  exact ⟨(zad this).1, (zad this).2.1⟩
 have BW : Hid (Below w.heap.size w (w.alloc (.cells #[.slice (some ⟨bW, oW, none⟩) ws.length cW, .slice aP ps.length cP] 26))) := (Below.refl _ _).alloc (Nat.le_refl _) _
 generalize hres : paI ws ps s = res at *
 clear hres
 cases c : spB s with
 | false =>
  rw [c] at LS EL
  obtain rfl := EL.out
  clear EL LW
  go_enter Tryz.func225, Tryz.ntmps225
  go_wp2_with fail
  refine (LS.out _).mono ?_
  rintro e w1 ⟨v1, rfl, hr1, hb1⟩
  have B1 := zaa (zab BW.out hb1 BW.out.size)
  clear hr1 hb1
  go_wp2
  go_ret3
  exact ⟨rfl, B1.out⟩
 | true =>
 rw [c] at LS EL
 have EL2 : Hid (res = paL ws ps (spL s)) := EL
 clear EL c
 generalize spL s = ns at *
 by_cases c1 : ns = []
 ·subst c1
  obtain rfl := EL2.out
  clear EL2 LW
  go_enter Tryz.func225, Tryz.ntmps225
  go_wp2_with fail
  refine (LS.out _).mono ?_
  rintro e w1 ⟨v1, rfl, hr1, hb1⟩
  have B1 := zaa (zab BW.out hb1 BW.out.size)
  obtain ⟨aL, cL, rfl, _, _⟩ := hr1.shape
  clear hr1 hb1
  simp only [List.length_nil]
  go_wp2
  go_ret3
  exact ⟨rfl, B1.out⟩
 obtain ⟨xs, x, rfl⟩ := snoc_of c1
 rw [paL_snoc] at EL2
 clear c1
 have EP := zaa (show paN ws ps xs x = if (wk ws ps 0 xs).2 = 0 then (if zak ws (wk ws ps 0 xs).1 = 2 then ((wk ws ps 0 xs).1, x, 0) else (0, ⟨#[]⟩, 10)) else (0, ⟨#[]⟩, (wk ws ps 0 xs).2) from rfl)
 rw [EP.out] at EL2
 clear EP
 have sl := SL.out
 rw [List.length_append, List.length_cons, List.length_nil, Nat.zero_add] at sl
 have wr1 := WR.out xs
 have LW2 := zaa (fun vL w1 h hL => LW.out vL xs w1 h hL (by omega))
 obtain ⟨z, hz⟩ : ∃ z : Nat, (wk ws ps 0 xs).1 = (z : Int) := ⟨((wk ws ps 0 xs).1).toNat, by omega⟩
 have z16 : z < 16 := by omega
 rw [hz] at EL2 LW2
 clear LW WR SL wr1 hz
 generalize (wk ws ps 0 xs).2 = wc at *
 go_enter Tryz.func225, Tryz.ntmps225
 go_wp2_with fail
 refine (LS.out _).mono ?_
 rintro e w1 ⟨v1, rfl, hr1, hb1⟩
 have B1 := zaa (zab BW.out hb1 BW.out.size)
 have BA := zaa hb1
 have hbn : (w.alloc (.cells #[.slice (some ⟨bW, oW, none⟩) ws.length cW, .slice aP ps.length cP] 26)).heap.size ≤ w1.heap.size := hb1.size
 obtain ⟨x0, x1⟩ := CA.out _ hb1
 have R1 := zaa hr1
 obtain ⟨aL, cL, rfl, hcap, hcL⟩ := hr1.shape
 obtain ⟨b, o, rfl, hbl, hcell⟩ := hcL (by rw [List.length_append]; simp)
 have hx : w1.cell? ⟨b, o + xs.length, none⟩ = some (.string x) := by
  have := hcell xs.length (by rw [List.length_append]; simp)
  simpa using this
 have RT : Hid (RdT w1 (.slice (some ⟨b, o, none⟩) xs.length cL) xs) := by
  have := zrr R1.out (m := xs.length) (by rw [List.length_append]; omega)
  rw [List.take_left] at this
  exact this
 rw [List.length_append, List.length_cons, List.length_nil, Nat.zero_add] at hcap
 simp only [List.length_append, List.length_cons, List.length_nil, Nat.zero_add]
 clear hr1 hb1 hcL hcell R1 LS
 generalize xs.length = n at *
 have n0 : (((n + 1 : Nat) : Int) == 0) = false := by rw [beq_eq_false_iff_ne]; omega
 have nw : IntKind.i64.wrap (((n + 1 : Nat) : Int) - 1) = (n : Int) := by
  rw [show (((n + 1 : Nat) : Int) - 1) = (n : Int) by omega, IntKind.wrap_i64]
  omega
 have ncap : (n : Int) ≤ (cL : Int) := by omega
 have nw2 : IntKind.i64.wrap ((n : Int) + 1 - 1) = (n : Int) := by rw [IntKind.wrap_i64]; omega
 have nw3 : IntKind.i64.wrap (n : Int) = (n : Int) := by rw [IntKind.wrap_i64]; omega
 have nn0 : (0 : Int) ≤ (n : Int) := by omega
 have nn1 : (n : Int) < ((n + 1 : Nat) : Int) := by omega
 have nn2 : (n : Int) < (n : Int) + 1 := by omega
 have z0 : (0 : Int) ≤ (z : Int) := by omega
 have z1 : (z : Int) < (ws.length : Int) := by have := L16.out; omega
 have SK : Hid (∀ w', Below w1.heap.size w1 w' → w'.cell? ⟨w.heap.size, 0, none⟩ = some (.slice (some ⟨bW, oW, none⟩) ws.length cW) ∧ w'.cell? ⟨w.heap.size, 1, none⟩ = some (.slice aP ps.length cP)) := fun w' hb => CA.out w' (zab BA.out hb hbn)
 have HX : Hid (∀ w', Below w1.heap.size w1 w' → w'.cell? ⟨b, o + n, none⟩ = some (.string x)) := fun w' hb => (hb.cell (p := ⟨b, o + n, none⟩) hbl).trans hx
 have LW3 := zaa (fun w2 (hb : Below w1.heap.size w1 w2) => LW2.out _ w2 (HR.out.below (zab B1.out hb B1.out.size)) (Rd.below RT.out hb))
 clear LW2 RT hx
 by_cases q : wc = 0
 case neg =>
  rw [if_neg q] at EL2
  obtain rfl := EL2.out
  have q1 : (wc != 0) = true := by rw [bne_iff_ne]; exact q
  clear EL2 q
  go_wp2_with fail
  go_region_held3 (fun w' => w'.cell? ⟨w.heap.size, 0, none⟩ = some (.slice (some ⟨bW, oW, none⟩) ws.length cW) ∧ w'.cell? ⟨w.heap.size, 1, none⟩ = some (.slice aP ps.length cP))
   (exact SK.out _ (by repeat (first | exact BF.out | exact Below.refl _ _ | refine Below.drew ?_)))
   (first
    | (go_at_call 207; refine (LW3.out _ (by repeat (first | exact Below.refl _ _ | refine Below.drew ?_))).mono ?_; rintro e w2 ⟨rfl, hb2⟩; have BF : Hid (Below w1.heap.size w1 w2) := (by first | exact hb2 | exact zab (by repeat (first | exact Below.refl _ _ | refine Below.drew ?_)) hb2 (Nat.le_refl _)); clear hb2))
  all_goals
   have B3 := zaa (zab B1.out BF.out B1.out.size)
   clear SK x0 x1
   go_wp2
   go_ret3
   exact ⟨rfl, (by repeat (first | exact B3.out | refine Below.drew ?_))⟩
 rw [if_pos q] at EL2
 subst q
 have HZ := zaa (fun w' hb => HW.out w' hb z z16)
 by_cases r : zak ws z = 2
 case neg =>
  rw [if_neg r] at EL2
  obtain rfl := EL2.out
  have r1 : (zak ws z != 2) = true := by rw [bne_iff_ne]; exact r
  clear EL2 r
  generalize zak ws z = kz at *
  go_wp2_with fail
  go_region_held3 (fun w' => w'.cell? ⟨w.heap.size, 0, none⟩ = some (.slice (some ⟨bW, oW, none⟩) ws.length cW) ∧ w'.cell? ⟨w.heap.size, 1, none⟩ = some (.slice aP ps.length cP))
   (exact SK.out _ (by repeat (first | exact BF.out | exact Below.refl _ _ | refine Below.drew ?_)))
   (first
    | (go_at_call 207; refine (LW3.out _ (by repeat (first | exact Below.refl _ _ | refine Below.drew ?_))).mono ?_; rintro e w2 ⟨rfl, hb2⟩; have BF : Hid (Below w1.heap.size w1 w2) := (by first | exact hb2 | exact zab (by repeat (first | exact Below.refl _ _ | refine Below.drew ?_)) hb2 (Nat.le_refl _)); clear hb2))
  all_goals
   have B3 := zaa (zab B1.out BF.out B1.out.size)
   clear x0 x1
   obtain ⟨x0, x1⟩ := SK.out _ BF.out
   have y0 := HZ.out _ B3.out
   clear SK
   go_wp2
   go_ret3
   exact ⟨rfl, (by repeat (first | exact B3.out | refine Below.drew ?_))⟩
 rw [if_pos r] at EL2
 obtain rfl := EL2.out
 have r1 : (zak ws z != 2) = false := by rw [r]; rfl
 clear EL2 r
 generalize zak ws z = kz at *
 go_wp2_with fail
 go_region_held3 (fun w' => w'.cell? ⟨w.heap.size, 0, none⟩ = some (.slice (some ⟨bW, oW, none⟩) ws.length cW) ∧ w'.cell? ⟨w.heap.size, 1, none⟩ = some (.slice aP ps.length cP))
  (exact SK.out _ (by repeat (first | exact BF.out | exact Below.refl _ _ | refine Below.drew ?_)))
  (first
   | (go_at_call 207; refine (LW3.out _ (by repeat (first | exact Below.refl _ _ | refine Below.drew ?_))).mono ?_; rintro e w2 ⟨rfl, hb2⟩; have BF : Hid (Below w1.heap.size w1 w2) := (by first | exact hb2 | exact zab (by repeat (first | exact Below.refl _ _ | refine Below.drew ?_)) hb2 (Nat.le_refl _)); clear hb2))
 all_goals
  have B3 := zaa (zab B1.out BF.out B1.out.size)
  clear x0 x1
  obtain ⟨x0, x1⟩ := SK.out _ BF.out
  have y0 := HZ.out _ B3.out
  have hx := HX.out _ BF.out
  clear SK
  go_wp2_with fail
  go_region_held3 (fun w' => w'.cell? ⟨b, o + n, none⟩ = some (.string x))
   (exact HX.out _ (by repeat (first | exact BF.out | refine Below.drew ?_)))
   (fail)
  all_goals
   go_wp2
   go_ret3
   exact ⟨rfl, (by repeat (first | exact B3.out | refine Below.drew ?_))⟩

end Go.Proofs.YtbbmljakfbhnpaaGreatDoor

namespace Go.Proofs.YtbbmljakfbhnpaaGreatDoor
open Go.RowKit

/-- What a plan answers stands in a row of its own. -/
def zrd (w w' : World) (e : Ending) (r : List Se × Int) : Prop := ∃ v', e = .returned (.tuple #[v', .int .i64 r.2]) ∧ Row w' 47 2 w.heap.size w'.heap.size v' r.1.length (ses r.1) ∧ Below w.heap.size w w'
theorem upn {w w1 : World} (B : Below w.heap.size w w1) : Row (w1.alloc (.cells #[] 47)) 47 2 w.heap.size (w1.alloc (.cells #[] 47)).heap.size (.slice (some ⟨w1.heap.size, 0, none⟩) 0 0) 0 [] ∧ Below w.heap.size w (w1.alloc (.cells #[] 47)) :=
 ⟨(zhc w1 _ _).wide B.size (Nat.le_refl _), B.alloc B.size _⟩
theorem zcl {w w1 : World} {c : Int} (B : Below w.heap.size w w1) : zrd w (w1.alloc (.cells #[] 47)) (.returned (.tuple #[.slice (some ⟨w1.heap.size, 0, none⟩) 0 0, .int .i64 c])) ([], c) :=
 ⟨_, rfl, (upn B).1, (upn B).2⟩
theorem pl_row {w w1 : World} {v : Value} {L : List Se} (c : Int) (h : UpI w w1 v L) : zrd w w1 (.returned (.tuple #[v, .int .i64 c])) (L, c) :=
 ⟨_, rfl, zac h.l, h.b⟩
set_option maxRecDepth 100000 in
set_option maxHeartbeats 8000000 in
theorem zmw (v : Value) (ws : List Ino) (ps : List Den) (s : ByteArray) (kind : Int) (w : World) (h : RdIm w v ws ps) (hi : zfm ws ps = true) (hs : s.size ≤ 65536) :
  Calls Tryz.prog 218 #[v, .string s, .int .i64 kind] w fun e w' => zrd w w' e (mkI ws ps s kind) := by
 have HR := zaa h
 have LP := zaa (fun w1 (hb : Below w.heap.size w w1) => zdh v ws ps s w1 (h.below hb) hi hs)
 have LE := zaa (fun d nm w1 (hb : Below w.heap.size w w1) => zdx v ws ps d nm w1 (h.below hb) (by have := (zax hi).2.1; omega))
 have LI := zaa (fun w1 (hb : Below w.heap.size w w1) => zkv v ws ps w1 (h.below hb) (by have := (zax hi).1; omega))
 have LK := zaa (fun w1 (hb : Below w.heap.size w w1) => zfh v ws ps w1 (h.below hb) (by have := (zax hi).2.1; omega))
 have EL := zaa (show mkI ws ps s kind = if (paI ws ps s).2.2 = 0 then mkN ws ps kind (paI ws ps s).1 (paI ws ps s).2.1 else ([], (paI ws ps s).2.2) from rfl)
 have EN := zaa (fun d nm => show mkN ws ps kind d nm = if 0 ≤ zka ps d nm then ([], 8) else if fiI ws < 0 then ([], 7) else if feI ps < 0 then ([], 7) else (mkU (fiI ws) (feI ps) kind d nm, 0) from rfl)
 have PO := zaa (fun c => ziw (s := s) hi c)
 have f1 := fi_range hi
 have f2 := fe_range hi
 have FP := zaa (@fi_pos ws)
 rw [show zbv (fun i => decide (1 ≤ i) && zak ws (i : Int) == 0) ws.length = fiI ws from rfl] at LI
 obtain ⟨vW, vP, rfl, h1, h2⟩ := h
 obtain ⟨aW, cW, rfl, _, _⟩ := h1.shape
 obtain ⟨aP, cP, rfl, _, _⟩ := h2.shape
 clear h1 h2 hi hs
 have CA : Hid (∀ w', Below (w.alloc (.cells #[.slice aW ws.length cW, .slice aP ps.length cP] 26)).heap.size (w.alloc (.cells #[.slice aW ws.length cW, .slice aP ps.length cP] 26)) w' → w'.cell? ⟨w.heap.size, 0, none⟩ = some (.slice aW ws.length cW) ∧ w'.cell? ⟨w.heap.size, 1, none⟩ = some (.slice aP ps.length cP)) := fun w' hb => by
  have : w'.heap[w.heap.size]? = some (.cells #[.slice aW ws.length cW, .slice aP ps.length cP] 26 (0, 0)) := (hb.block _ (by simp)).trans (zag rfl)
  exact ⟨(zad this).1, (zad this).2.1⟩
 have BW : Hid (Below w.heap.size w (w.alloc (.cells #[.slice aW ws.length cW, .slice aP ps.length cP] 26))) := (Below.refl _ _).alloc (Nat.le_refl _) _
 have hz : w.heap.size < (w.alloc (.cells #[.slice aW ws.length cW, .slice aP ps.length cP] 26)).heap.size := by simp
 obtain ⟨x0, x1⟩ := CA.out _ (Below.refl _ _)
 generalize mkI ws ps s kind = res at *
 generalize paI ws ps s = pr at *
 generalize fiI ws = fi at *
 generalize feI ps = fe at *
 obtain ⟨pd, pn, pc⟩ := pr
 simp only at EL PO LP
 go_enter Tryz.func218, Tryz.ntmps218
 go_wp2_with fail
 refine (LP.out _ BW.out).mono ?_
 rintro e w1 ⟨rfl, hb1⟩
 have A1 := zaa hb1
 have B1 := zaa (zab BW.out hb1 BW.out.size)
 have z1 : (w.alloc (.cells #[.slice aW ws.length cW, .slice aP ps.length cP] 26)).heap.size ≤ w1.heap.size := hb1.size
 clear x0 x1
 obtain ⟨x0, x1⟩ := CA.out _ hb1
 clear hb1 LP
 by_cases c : pc = 0
 case neg =>
  rw [if_neg c] at EL
  obtain rfl := EL.out
  have q : (pc != 0) = true := by rw [bne_iff_ne]; exact c
  clear EL c x0 x1
  go_wp2
  go_ret2
  exact zcl B1.out
 rw [if_pos c] at EL
 subst c
 obtain ⟨p1, p2, p3⟩ := PO.out rfl
 have NM := zaa p3
 rw [EN.out] at EL
 clear PO p2 p3 EN
 have LE2 := zaa (fun w1 hb => LE.out pd pn w1 hb)
 generalize zka ps pd pn = ei at *
 clear LE
 go_wp2_with fail
 refine (LE2.out _ B1.out).mono ?_
 rintro e w2 ⟨rfl, hb2⟩
 have A2 := zaa (zab A1.out hb2 z1)
 have B2 := zaa (zab B1.out hb2 B1.out.size)
 have z2 : (w.alloc (.cells #[.slice aW ws.length cW, .slice aP ps.length cP] 26)).heap.size ≤ w2.heap.size := A2.out.size
 clear x0 x1
 obtain ⟨x0, x1⟩ := CA.out _ A2.out
 clear hb2 LE2 A1 B1
 by_cases c : 0 ≤ ei
 ·rw [if_pos c] at EL
  obtain rfl := EL.out
  have c1 : ei ≥ 0 := c
  clear EL x0 x1 c
  go_wp2
  go_ret2
  exact zcl B2.out
 rw [if_neg c] at EL
 have c1 : ¬ ei ≥ 0 := c
 clear c
 go_wp2_with fail
 refine (LI.out _ B2.out).mono ?_
 rintro e w3 ⟨rfl, hb3⟩
 have A3 := zaa (zab A2.out hb3 z2)
 have B3 := zaa (zab B2.out hb3 B2.out.size)
 have z3 : (w.alloc (.cells #[.slice aW ws.length cW, .slice aP ps.length cP] 26)).heap.size ≤ w3.heap.size := A3.out.size
 clear x0 x1
 obtain ⟨x0, x1⟩ := CA.out _ A3.out
 clear hb3 LI A2 B2 c1
 go_wp2_with fail
 refine (LK.out _ B3.out).mono ?_
 rintro e w4 ⟨rfl, hb4⟩
 have B4 := zaa (zab B3.out hb4 B3.out.size)
 clear hb4 LK A3 B3 x0 x1 CA
 by_cases c2 : fi < 0
 ·rw [if_pos c2] at EL
  obtain rfl := EL.out
  clear EL
  go_wp2
  go_ret2
  exact zcl B4.out
 rw [if_neg c2] at EL
 by_cases c3 : fe < 0
 ·rw [if_pos c3] at EL
  obtain rfl := EL.out
  clear EL
  go_wp2
  go_ret2
  exact zcl B4.out
 rw [if_neg c3] at EL
 have fp := FP.out (by omega)
 have LN := zaa (fun w1 => zdy fe ⟨pd, pn, fi⟩ w1 (by omega) (show -1 ≤ fi ∧ fi ≤ 15 by omega) (.inr NM.out))
 have EU := zaa (show mkU fi fe kind pd pn = [⟨48 + 12 * fi, kind⟩, ⟨48 + 12 * fi + 2, 1⟩] ++ enL fe ⟨pd, pn, fi⟩ from rfl)
 have LV := zaa (show (Den.mk pd pn fi).v = .agg #[.int .i64 pd, .string pn, .int .i64 fi] from rfl)
 rw [LV.out] at LN
 have l3 : (enL fe ⟨pd, pn, fi⟩).length ≤ 3 := Nat.le_refl _
 generalize enL fe ⟨pd, pn, fi⟩ = L at *
 have fr : 0 ≤ fi ∧ fi < 16 := by omega
 go_wp2_with (go_at_call 87; refine (zaz _ _ _ fr (by omega)).mono ?_; rintro e w' ⟨rfl, hw'⟩; subst w')
 have J5 : Hid (UpI w (w4.alloc (.cells #[.int .i64 (48 + 12 * fi), .int .i64 kind, .int .i64 (48 + 12 * fi + 2), .int .i64 1] 47)) (.slice (some ⟨w4.heap.size, 0, none⟩) 2 2) [⟨48 + 12 * fi, kind⟩, ⟨48 + 12 * fi + 2, 1⟩]) := ⟨World.ownsRow_lit w4 _ 2 B4.out.size (by simp [maxLen]) rfl, B4.out.alloc B4.out.size _⟩
 refine (LN.out _).mono ?_
 rintro e w6 ⟨v6, rfl, hr6, hb6⟩
 have J6 := zaa (J5.out.below hb6)
 have R6 := zaa hr6.rd
 obtain ⟨-, aL, cL, hvL, -⟩ := hr6.rd
 subst hvL
 have z6 : w.heap.size ≤ w6.heap.size := J6.out.z
 clear hr6 hb6 J5 LN
 go_wp2_with (at_builtin; refine zae _ rfl (.tmp 50) (.tmp 56) 39 rfl w.heap.size 47 (.agg #[.int .i64 0, .int .i64 0]) 2 16 Tryz.underlying39 zjg rfl (by decide) _ _ _ rfl J6.out.l _ _ _ rfl R6.out (zef _) (by simp [maxLen]; omega) (by simp; omega) z6 ?_)
 intro vN wN hownN hgrN
 have G := zaa (J6.out.grow L hownN hgrN)
 rw [← EU.out] at G
 obtain ⟨-, aN, cN, hvN, -⟩ := (zac hownN).rd
 subst hvN
 obtain rfl := EL.out
 clear hownN hgrN J6 R6 EL
 go_wp2
 go_ret2
 exact pl_row 0 G.out

end Go.Proofs.YtbbmljakfbhnpaaGreatDoor
