/- Several texts laid together: PcG, PlC. -/
import Derived.Test.YtcilodgoognmnaaGreatDoorZBG
namespace Go.Proofs.YtcilodgoognmnaaGreatDoor
open Go.RowKit

set_option maxRecDepth 100000 in
set_option maxHeartbeats 8000000 in
theorem implParent_any (v : Value) (ws : List Ino) (ps : List Den) (s : ByteArray) (w : World) (h : RdIm w v ws ps) (hw : ws.length ≤ 1048576) (hp : ps.length ≤ 1048576) (hT : TS w) (hE : ED w) (hF : FD w) (hr : ∀ k (h : k < ws.length), ws[k].R) (hs : ∀ k (h : k < ps.length), ps[k].name.size ≤ maxLen) :
    Calls Tryz.prog 258 #[v, .string s] w fun e w' => e = .returned (.tuple #[.int .i64 (paR ws ps s).1, .string (paR ws ps s).2.1, .int .i64 (paR ws ps s).2.2]) ∧ Below w.heap.size w w' := by
  have HR := hideIt h
  have LS := hideIt (fun w1 (hb : Below w.heap.size w w1) => splitIn_any v ws ps s w1 (h.below hb) hw hp (hT.below hb) (hE.below hb) (hF.below hb) hr hs)
  have LG := hideIt (fun vL ns w1 h hL hi hn hs => goDown_any v vL ws ps ns w1 h hL hi hn hs)
  have LD := hideIt (fun (i : Nat) w1 h (hl : ws.length = 16) (hi16 : i < 16) => isDir_any v ws ps (i : Int) w1 h hl (by omega))
  have SS := hideIt (@spL_short s)
  have SL := hideIt (@spL_len s)
  obtain ⟨NO, YES⟩ := si_lk ws ps s
  have NO := hideIt NO
  have YES := hideIt YES
  obtain ⟨vW, vP, rfl, h1, h2⟩ := h
  obtain ⟨aW, cW, rfl, _, _⟩ := h1.shape
  obtain ⟨aP, cP, rfl, _, _⟩ := h2.shape
  clear h1 h2 hr hs hT hE hF
  have CA : Hid (∀ w', Below (w.alloc (.cells #[.slice aW ws.length cW, .slice aP ps.length cP] 63)).heap.size (w.alloc (.cells #[.slice aW ws.length cW, .slice aP ps.length cP] 63)) w' → w'.cell? ⟨w.heap.size, 0, none⟩ = some (.slice aW ws.length cW) ∧ w'.cell? ⟨w.heap.size, 1, none⟩ = some (.slice aP ps.length cP)) := fun w' hb => by
    have : w'.heap[w.heap.size]? = some (.cells #[.slice aW ws.length cW, .slice aP ps.length cP] 63 (0, 0)) := (hb.block _ (by simp)).trans (at_new rfl)
    exact ⟨(two_cells this).1, (two_cells this).2.1⟩
  have BW : Hid (Below w.heap.size w (w.alloc (.cells #[.slice aW ws.length cW, .slice aP ps.length cP] 63))) := (Below.refl _ _).alloc (Nat.le_refl _) _
  obtain ⟨x0, x1⟩ := CA.out _ (Below.refl _ _)
  generalize siC ws ps s = sc at *
  generalize siL ws ps s = sl at *
  generalize lkR ws ps s = res2 at *
  generalize paR ws ps s = res at *
  by_cases c : sc = 0
  case neg =>
    obtain ⟨_, rfl⟩ := NO.out c
    have q : (sc != 0) = true := by rw [bne_iff_ne]; exact c
    clear NO YES c
    go_enter Tryz.func258, Tryz.ntmps258
    go_wp2_with fail
    refine (LS.out _ BW.out).mono ?_
    rintro e w1 ⟨v1, rfl, hr1, hb1⟩
    have B1 := hideIt (below_trans BW.out hb1 BW.out.size)
    clear hr1 hb1 x0 x1
    go_wp2
    go_ret3
    exact ⟨rfl, B1.out⟩
  obtain ⟨c1, rfl, _, hres⟩ := YES.out c
  have C1 := hideIt c1
  have EL2 := hideIt hres
  have WR := hideIt (fun ns => wk_range c1 ns 0 (by omega))
  have L16 := hideIt (pimg_all c1).1
  subst c
  clear NO YES c1 hres
  generalize spL s = ns at *
  by_cases c2 : ns = []
  · subst c2
    obtain rfl := EL2.out
    clear EL2 LG
    go_enter Tryz.func258, Tryz.ntmps258
    go_wp2_with fail
    refine (LS.out _ BW.out).mono ?_
    rintro e w1 ⟨v1, rfl, hr1, hb1⟩
    have B1 := hideIt (below_trans BW.out hb1 BW.out.size)
    obtain ⟨aL, cL, rfl, _, _⟩ := hr1.shape
    clear hr1 hb1 x0 x1
    simp only [List.length_nil]
    go_wp2
    go_ret3
    exact ⟨rfl, B1.out⟩
  obtain ⟨xs, x, rfl⟩ := snoc_of c2
  rw [paL_snoc] at EL2
  clear c2
  have EP := hideIt (show paN ws ps xs x = if (wk ws ps 0 xs).2 = 0 then (if kindAt ws (wk ws ps 0 xs).1 = 2 then ((wk ws ps 0 xs).1, x, 0) else (0, ⟨#[]⟩, 10)) else (0, ⟨#[]⟩, (wk ws ps 0 xs).2) from rfl)
  rw [EP.out] at EL2
  clear EP
  have sl := SL.out
  rw [List.length_append, List.length_cons, List.length_nil, Nat.zero_add] at sl
  have S1 : Hid (∀ k (h : k < xs.length), 1 ≤ xs[k].size) := fun k hk => by
    have := SS.out k (by rw [List.length_append]; omega)
    rw [List.getElem_append_left hk] at this
    exact this
  have wr1 := WR.out xs
  have LW2 := hideIt (fun vL w1 h hL => LG.out vL xs w1 h hL C1.out (by omega) S1.out)
  obtain ⟨z, hz⟩ : ∃ z : Nat, (wk ws ps 0 xs).1 = (z : Int) := ⟨((wk ws ps 0 xs).1).toNat, by omega⟩
  have z16 : z < 16 := by omega
  rw [hz] at EL2 LW2
  clear LG WR SL SS S1 wr1 hz
  have LD2 := hideIt (fun w1 h => LD.out z w1 h L16.out z16)
  clear LD
  generalize (wk ws ps 0 xs).2 = wc at *
  go_enter Tryz.func258, Tryz.ntmps258
  go_wp2_with fail
  refine (LS.out _ BW.out).mono ?_
  rintro e w1 ⟨v1, rfl, hr1, hb1⟩
  have B1 := hideIt (below_trans BW.out hb1 BW.out.size)
  have BA := hideIt hb1
  have hbn : (w.alloc (.cells #[.slice aW ws.length cW, .slice aP ps.length cP] 63)).heap.size ≤ w1.heap.size := hb1.size
  clear x0 x1
  obtain ⟨x0, x1⟩ := CA.out _ hb1
  have R1 := hideIt hr1
  obtain ⟨aL, cL, rfl, hcap, hcL⟩ := hr1.shape
  obtain ⟨b, o, rfl, hbl, hcell⟩ := hcL (by rw [List.length_append]; simp)
  have hx : w1.cell? ⟨b, o + xs.length, none⟩ = some (.string x) := by
    have := hcell xs.length (by rw [List.length_append]; simp)
    simpa using this
  have RT : Hid (RdT w1 (.slice (some ⟨b, o, none⟩) xs.length cL) xs) := by
    have := rdt_take R1.out (m := xs.length) (by rw [List.length_append]; omega)
    rw [List.take_left] at this
    exact this
  rw [List.length_append, List.length_cons, List.length_nil, Nat.zero_add] at hcap
  simp only [List.length_append, List.length_cons, List.length_nil, Nat.zero_add]
  clear hr1 hb1 hcL hcell R1 LS
  generalize xs.length = n at *
  have n0 : (((n + 1 : Nat) : Int) == 0) = false := by rw [beq_eq_false_iff_ne]; omega
  have nw : IntKind.i64.wrap (((n + 1 : Nat) : Int) - 1) = (n : Int) := by
    rw [show (((n + 1 : Nat) : Int) - 1) = (n : Int) by omega, IntKind.wrap_i64]
    omega
  have ncap : (n : Int) ≤ (cL : Int) := by omega
  have nw2 : IntKind.i64.wrap ((n : Int) + 1 - 1) = (n : Int) := by rw [IntKind.wrap_i64]; omega
  have nw3 : IntKind.i64.wrap (n : Int) = (n : Int) := by rw [IntKind.wrap_i64]; omega
  have nn0 : (0 : Int) ≤ (n : Int) := by omega
  have nn1 : (n : Int) < ((n + 1 : Nat) : Int) := by omega
  have nn2 : (n : Int) < (n : Int) + 1 := by omega
  have SK : Hid (∀ w', Below w1.heap.size w1 w' → w'.cell? ⟨w.heap.size, 0, none⟩ = some (.slice aW ws.length cW) ∧ w'.cell? ⟨w.heap.size, 1, none⟩ = some (.slice aP ps.length cP)) := fun w' hb => CA.out w' (below_trans BA.out hb hbn)
  have HX : Hid (∀ w', Below w1.heap.size w1 w' → w'.cell? ⟨b, o + n, none⟩ = some (.string x)) := fun w' hb => (hb.cell (p := ⟨b, o + n, none⟩) hbl).trans hx
  have LW3 := hideIt (fun w2 (hb : Below w1.heap.size w1 w2) => LW2.out _ w2 (HR.out.below (below_trans B1.out hb B1.out.size)) (Rd.below RT.out hb))
  clear LW2 RT hx
  by_cases q : wc = 0
  case neg =>
    rw [if_neg q] at EL2
    obtain rfl := EL2.out
    have q1 : (wc != 0) = true := by rw [bne_iff_ne]; exact q
    clear EL2 q
    go_wp2_with fail
    go_region_held3 (fun w' => w'.cell? ⟨w.heap.size, 0, none⟩ = some (.slice aW ws.length cW) ∧ w'.cell? ⟨w.heap.size, 1, none⟩ = some (.slice aP ps.length cP))
      (exact SK.out _ (by repeat (first | exact BF.out | exact Below.refl _ _ | refine Below.drew ?_)))
      (first
        | (go_at_call 157; refine (LW3.out _ (by repeat (first | exact Below.refl _ _ | refine Below.drew ?_))).mono ?_; rintro e w2 ⟨rfl, hb2⟩; have BF : Hid (Below w1.heap.size w1 w2) := (by first | exact hb2 | exact below_trans (by repeat (first | exact Below.refl _ _ | refine Below.drew ?_)) hb2 (Nat.le_refl _)); clear hb2))
    all_goals
      have B3 := hideIt (below_trans B1.out BF.out B1.out.size)
      clear SK x0 x1
      go_wp2
      go_ret3
      exact ⟨rfl, (by repeat (first | exact B3.out | refine Below.drew ?_))⟩
  rw [if_pos q] at EL2
  subst q
  by_cases r : kindAt ws z = 2
  case neg =>
    rw [if_neg r] at EL2
    obtain rfl := EL2.out
    have r1 : (kindAt ws z == 2) = false := by rw [beq_eq_false_iff_ne]; exact r
    rw [r1] at LD2
    clear EL2 r r1
    go_wp2_with fail
    go_region_held3 (fun w' => w'.cell? ⟨w.heap.size, 0, none⟩ = some (.slice aW ws.length cW) ∧ w'.cell? ⟨w.heap.size, 1, none⟩ = some (.slice aP ps.length cP))
      (exact SK.out _ (by repeat (first | exact BF.out | exact Below.refl _ _ | refine Below.drew ?_)))
      (first
        | (go_at_call 157; refine (LW3.out _ (by repeat (first | exact Below.refl _ _ | refine Below.drew ?_))).mono ?_; rintro e w2 ⟨rfl, hb2⟩; have BF : Hid (Below w1.heap.size w1 w2) := (by first | exact hb2 | exact below_trans (by repeat (first | exact Below.refl _ _ | refine Below.drew ?_)) hb2 (Nat.le_refl _)); clear hb2))
    all_goals
      have B3 := hideIt (below_trans B1.out BF.out B1.out.size)
      clear x0 x1
      obtain ⟨x0, x1⟩ := SK.out _ BF.out
      clear SK
      go_wp2_with fail
      refine (LD2.out _ (HR.out.below (by repeat (first | exact B3.out | refine Below.drew ?_)))).mono ?_
      rintro e w3 ⟨rfl, hb3⟩
      have B4 : Hid (Below w.heap.size w w3) := below_trans (by repeat (first | exact B3.out | refine Below.drew ?_)) hb3 (by have := B3.out.size; simp <;> omega)
      clear hb3 x0 x1
      go_wp2
      go_ret3
      exact ⟨rfl, B4.out⟩
  rw [if_pos r] at EL2
  obtain rfl := EL2.out
  have r1 : (kindAt ws z == 2) = true := by rw [r]; rfl
  rw [r1] at LD2
  clear EL2 r r1
  go_wp2_with fail
  go_region_held3 (fun w' => w'.cell? ⟨w.heap.size, 0, none⟩ = some (.slice aW ws.length cW) ∧ w'.cell? ⟨w.heap.size, 1, none⟩ = some (.slice aP ps.length cP))
    (exact SK.out _ (by repeat (first | exact BF.out | exact Below.refl _ _ | refine Below.drew ?_)))
    (first
      | (go_at_call 157; refine (LW3.out _ (by repeat (first | exact Below.refl _ _ | refine Below.drew ?_))).mono ?_; rintro e w2 ⟨rfl, hb2⟩; have BF : Hid (Below w1.heap.size w1 w2) := (by first | exact hb2 | exact below_trans (by repeat (first | exact Below.refl _ _ | refine Below.drew ?_)) hb2 (Nat.le_refl _)); clear hb2))
  all_goals
    have B3 := hideIt (below_trans B1.out BF.out B1.out.size)
    clear x0 x1
    obtain ⟨x0, x1⟩ := SK.out _ BF.out
    clear SK
    go_wp2_with fail
    refine (LD2.out _ (HR.out.below (by repeat (first | exact B3.out | refine Below.drew ?_)))).mono ?_
    rintro e w3 ⟨rfl, hb3⟩
    have B4 : Hid (Below w.heap.size w w3) := below_trans (by repeat (first | exact B3.out | refine Below.drew ?_)) hb3 (by have := B3.out.size; simp <;> omega)
    have B5 : Hid (Below w1.heap.size w1 w3) := below_trans (by repeat (first | exact BF.out | refine Below.drew ?_)) hb3 (by have := BF.out.size; simp <;> omega)
    have hx := HX.out _ B5.out
    clear hb3 x0 x1
    go_wp2_with fail
    go_region_held3 (fun w' => w'.cell? ⟨b, o + n, none⟩ = some (.string x))
      (exact HX.out _ (by repeat (first | exact B5.out | refine Below.drew ?_)))
      (fail)
    all_goals
      go_wp2
      go_ret3
      exact ⟨rfl, (by repeat (first | exact B4.out | refine Below.drew ?_))⟩
end Go.Proofs.YtcilodgoognmnaaGreatDoor

namespace Go.Proofs.YtcilodgoognmnaaGreatDoor
open Go.RowKit Go.Maps

theorem paR_ok {ws : List Ino} {ps : List Den} {s : ByteArray} (h : (paR ws ps s).2.2 = 0) : imgB ws ps = true ∧ paR ws ps s = paI ws ps s := by
  unfold paR at h ⊢
  split at h
  · cases h
  · rename_i c
    rw [if_neg c]
    split at h
    · rename_i c1
      exact ⟨c1, if_pos c1⟩
    · cases h
/-- What entryOf answers; what newName answers. -/
def zeroD : Den := ⟨0, ⟨#[]⟩, 0⟩
def erN (ps : List Den) (d : Int) (nm : ByteArray) : Int × Int := match entAt ps d nm with | none => (0, 5) | some k => ((k : Int), 0)
def erR (ws : List Ino) (ps : List Den) (s : ByteArray) : Int × Int := if (paR ws ps s).2.2 = 0 then erN ps (paR ws ps s).1 (paR ws ps s).2.1 else (0, (paR ws ps s).2.2)
def nnN (ps : List Den) (d : Int) (nm : ByteArray) : Den × Int := match entAt ps d nm with | none => (⟨d, nm, 0⟩, 0) | some _ => (zeroD, 8)
def nnR (ws : List Ino) (ps : List Den) (s : ByteArray) : Den × Int := if (paR ws ps s).2.2 = 0 then nnN ps (paR ws ps s).1 (paR ws ps s).2.1 else (zeroD, (paR ws ps s).2.2)
/-- The names of the map behind turnTo. -/
theorem mp_look {ws : List Ino} {ps : List Den} (h : imgB ws ps = true) (d : Int) (nm : ByteArray) :
    (entAt ps d nm = none ∧ Maps.has (mpD ps d ps.length) (keyB nm) = false) ∨ (∃ k : Nat, entAt ps d nm = some k ∧ Maps.has (mpD ps d ps.length) (keyB nm) = true ∧ (mpD ps d ps.length).atKey (keyB nm) (.lit (.int .i64 0)) = .lit (.int .i64 (k : Int))) := by
  obtain ⟨A, B⟩ := mp_find h d nm (.lit (.int .i64 0))
  cases e : entAt ps d nm with
  | none => exact .inl ⟨rfl, A e⟩
  | some k => exact .inr ⟨k, rfl, B k e⟩

theorem grown_set {w w' : World} {b : Nat} (h : w.grownBy w' (some b)) {a : Addr} (ha : w.heap.size ≤ a.block) (u : Value) : w.grownBy (w'.setCell a u) (some b) :=
  ⟨h.os, h.tape, h.output, by simpa [World.setCell] using h.size, fun k hk hn => (Below.heap_setCell _ _ _ _ (by omega)).trans (h.block k hk hn)⟩
theorem Mp.set {w : World} {b : Nat} {D : DataW Unit} (h : Mp w b D) {a : Addr} (ha : b ≠ a.block) (u : Value) : Mp (w.setCell a u) b D := World.ownsMap.setCell h ha u

set_option maxRecDepth 100000 in
set_option maxHeartbeats 4000000 in
theorem entryOf_any (v : Value) (ws : List Ino) (ps : List Den) (s : ByteArray) (b : Nat) (D : DataW Unit) (w : World) (h : RdIm w v ws ps) (hw : ws.length ≤ 1048576) (hp : ps.length ≤ 1048576) (hT : TS w) (hE : ED w) (hF : FD w) (hr : ∀ k (h : k < ws.length), ws[k].R) (hs : ∀ k (h : k < ps.length), ps[k].name.size ≤ maxLen) (hm : Mp w b D) :
    Calls Tryz.prog 234 #[.map (some b), v, .string s] w fun e w' => e = .returned (.tuple #[.int .i64 (erR ws ps s).1, .int .i64 (erR ws ps s).2]) ∧ (∃ D', Mp w' b D') ∧ w.grownBy w' (some b) := by
  have LP := hideIt (fun w1 (hb : Below w.heap.size w w1) => implParent_any v ws ps s w1 (h.below hb) hw hp (hT.below hb) (hE.below hb) (hF.below hb) hr hs)
  have LT := hideIt (fun d w1 (hb : Below w.heap.size w w1) (hi : imgB ws ps = true) => turnTo_any v ws ps d b D w1 (h.below hb) hi (hm.below hb) (hF.below hb))
  have EL := hideIt (show erR ws ps s = if (paR ws ps s).2.2 = 0 then erN ps (paR ws ps s).1 (paR ws ps s).2.1 else (0, (paR ws ps s).2.2) from rfl)
  have OKP := hideIt (fun q => paR_ok (ws := ws) (ps := ps) (s := s) q)
  have NMP := hideIt (fun (hi : imgB ws ps = true) (c : (paI ws ps s).2.2 = 0) => (paI_ok hi c).2.2)
  have M := hideIt hm
  obtain ⟨vW, vP, rfl, h1, h2⟩ := h
  obtain ⟨aW, cW, rfl, _, _⟩ := h1.shape
  obtain ⟨aP, cP, rfl, _, _⟩ := h2.shape
  clear h1 h2 hr hs hT hE hF hm
  have CA : Hid (∀ w', Below (w.alloc (.cells #[.slice aW ws.length cW, .slice aP ps.length cP] 63)).heap.size (w.alloc (.cells #[.slice aW ws.length cW, .slice aP ps.length cP] 63)) w' → w'.cell? ⟨w.heap.size, 0, none⟩ = some (.slice aW ws.length cW) ∧ w'.cell? ⟨w.heap.size, 1, none⟩ = some (.slice aP ps.length cP)) := fun w' hb => by
    have : w'.heap[w.heap.size]? = some (.cells #[.slice aW ws.length cW, .slice aP ps.length cP] 63 (0, 0)) := (hb.block _ (by simp)).trans (at_new rfl)
    exact ⟨(two_cells this).1, (two_cells this).2.1⟩
  have BW : Hid (Below w.heap.size w (w.alloc (.cells #[.slice aW ws.length cW, .slice aP ps.length cP] 63))) := (Below.refl _ _).alloc (Nat.le_refl _) _
  obtain ⟨x0, x1⟩ := CA.out _ (Below.refl _ _)
  generalize hpr : paR ws ps s = pr at *
  have HPR := hideIt hpr
  clear hpr
  generalize erR ws ps s = res at *
  obtain ⟨pd, pn, pc⟩ := pr
  simp only at EL OKP LP
  go_enter Tryz.func234, Tryz.ntmps234
  go_wp2_with fail
  refine (LP.out _ BW.out).mono ?_
  rintro e w1 ⟨rfl, hb1⟩
  have B1 := hideIt (below_trans BW.out hb1 BW.out.size)
  clear x0 x1
  obtain ⟨x0, x1⟩ := CA.out _ hb1
  clear hb1 LP CA
  by_cases c : pc = 0
  case neg =>
    rw [if_neg c] at EL
    obtain rfl := EL.out
    have q : (pc != 0) = true := by rw [bne_iff_ne]; exact c
    clear EL c OKP NMP LT x0 x1
    go_wp2
    go_ret2
    exact ⟨rfl, ⟨D, M.out.below B1.out⟩, grownB B1.out _⟩
  rw [if_pos c] at EL
  subst c
  obtain ⟨hi, hpp⟩ := OKP.out rfl
  have NM : Hid (nmB pn = true) := by
    have := NMP.out hi (by rw [← hpp])
    rw [← hpp] at this
    exact this
  have key : Hid (keyOf Tryz.prog 9 (.string pn) = some (keyB pn)) := WideMaps.keyOf_string_mk strU (by have := (nmB_true NM.out).2.1; unfold maxLen; omega)
  have LT2 := hideIt (fun w1 hb => LT.out pd w1 hb hi)
  have ML := mp_look hi pd pn
  have EN := hideIt (show erN ps pd pn = match entAt ps pd pn with | none => (0, 5) | some k => ((k : Int), 0) from rfl)
  rw [EN.out] at EL
  clear OKP NMP LT hpp HPR hi EN NM
  generalize mpD ps pd ps.length = D2 at *
  go_wp2_with fail
  refine (LT2.out _ B1.out).mono ?_
  rintro e w2 ⟨rfl, hm2, hg2⟩
  have M2 := hideIt hm2
  have G2 := hideIt ((grownB B1.out (some b)).trans hg2)
  clear hm2 hg2 LT2 x0 x1
  rcases ML with ⟨e1, e2⟩ | ⟨k, e1, e2, e3⟩
  · rw [e1] at EL
    obtain rfl := EL.out
    have E2 := hideIt e2
    clear EL e1 e2
    go_wp2_with (at_lookup; refine wpList_lookup_own_ok_int _ rfl _ _ 261 rfl 9 3 .i64 strK mapU intU (intZ _) b 4096 D2 rfl M2.out _ _ rfl key.out ?_)
    intro c hat hwc
    rw [E2.out]
    clear hat hwc
    go_wp2
    go_ret2
    exact ⟨rfl, ⟨D2, M2.out⟩, G2.out⟩
  · rw [e1] at EL
    obtain rfl := EL.out
    have E2 := hideIt e2
    have E3 := hideIt e3
    clear EL e1 e2 e3
    go_wp2_with (at_lookup; refine wpList_lookup_own_ok_int _ rfl _ _ 261 rfl 9 3 .i64 strK mapU intU (intZ _) b 4096 D2 rfl M2.out _ _ rfl key.out ?_)
    intro c hat hwc
    rw [E2.out]
    have ck : c = (k : Int) := by
      rw [E3.out] at hat
      injection hat with hat
      injection hat with _ hat
      exact hat.symm
    subst ck
    clear hat hwc E3
    go_wp2
    go_ret2
    exact ⟨rfl, ⟨D2, M2.out⟩, G2.out⟩

set_option maxRecDepth 100000 in
set_option maxHeartbeats 4000000 in
theorem newName_any (v : Value) (ws : List Ino) (ps : List Den) (s : ByteArray) (b : Nat) (D : DataW Unit) (w : World) (h : RdIm w v ws ps) (hw : ws.length ≤ 1048576) (hp : ps.length ≤ 1048576) (hT : TS w) (hE : ED w) (hF : FD w) (hr : ∀ k (h : k < ws.length), ws[k].R) (hs : ∀ k (h : k < ps.length), ps[k].name.size ≤ maxLen) (hm : Mp w b D) :
    Calls Tryz.prog 230 #[.map (some b), v, .string s] w fun e w' => e = .returned (.tuple #[.agg #[.int .i64 (nnR ws ps s).1.dir, .string (nnR ws ps s).1.name, .int .i64 (nnR ws ps s).1.child], .int .i64 (nnR ws ps s).2]) ∧ (∃ D', Mp w' b D') ∧ w.grownBy w' (some b) := by
  have LP := hideIt (fun w1 (hb : Below w.heap.size w w1) => implParent_any v ws ps s w1 (h.below hb) hw hp (hT.below hb) (hE.below hb) (hF.below hb) hr hs)
  have LT := hideIt (fun d w1 (hb : Below w.heap.size w w1) (hi : imgB ws ps = true) => turnTo_any v ws ps d b D w1 (h.below hb) hi (hm.below hb) (hF.below hb))
  have EL := hideIt (show nnR ws ps s = if (paR ws ps s).2.2 = 0 then nnN ps (paR ws ps s).1 (paR ws ps s).2.1 else (zeroD, (paR ws ps s).2.2) from rfl)
  have OKP := hideIt (fun q => paR_ok (ws := ws) (ps := ps) (s := s) q)
  have NMP := hideIt (fun (hi : imgB ws ps = true) (c : (paI ws ps s).2.2 = 0) => (paI_ok hi c).2.2)
  have M := hideIt hm
  have bl := hm.lt
  obtain ⟨vW, vP, rfl, h1, h2⟩ := h
  obtain ⟨aW, cW, rfl, _, _⟩ := h1.shape
  obtain ⟨aP, cP, rfl, _, _⟩ := h2.shape
  clear h1 h2 hr hs hT hE hF hm
  obtain ⟨W, hW⟩ : ∃ W, W = (w.alloc (.cells #[.slice aW ws.length cW, .slice aP ps.length cP] 63)).alloc (.cells #[.int .i64 0, .string ⟨#[]⟩, .int .i64 0] 180) := ⟨_, rfl⟩
  have CA : Hid (∀ w', Below W.heap.size W w' → w'.cell? ⟨w.heap.size, 0, none⟩ = some (.slice aW ws.length cW) ∧ w'.cell? ⟨w.heap.size, 1, none⟩ = some (.slice aP ps.length cP)) := fun w' hb => by
    have : w'.heap[w.heap.size]? = some (.cells #[.slice aW ws.length cW, .slice aP ps.length cP] 63 (0, 0)) := (hb.block _ (by rw [hW]; simp; omega)).trans (by rw [hW]; exact at_old (at_new rfl))
    exact ⟨(two_cells this).1, (two_cells this).2.1⟩
  have CB : Hid (W.heap[w.heap.size + 1]? = some (.cells #[.int .i64 0, .string ⟨#[]⟩, .int .i64 0] 180 (0, 0))) := by
    unfold Hid
    rw [hW]
    exact at_new (by simp)
  have BW : Hid (Below w.heap.size w W) := by rw [hW]; exact ((Below.refl _ _).alloc (Nat.le_refl _) _).alloc (by simp) _
  have hWz : W.heap.size = w.heap.size + 2 := by rw [hW]; simp
  have hWz2 : w.heap.size + 1 < W.heap.size := by omega
  obtain ⟨x0, x1⟩ := CA.out _ (Below.refl _ _)
  generalize hpr : paR ws ps s = pr at *
  have HPR := hideIt hpr
  clear hpr hWz
  generalize nnR ws ps s = res at *
  obtain ⟨pd, pn, pc⟩ := pr
  simp only at EL OKP LP
  go_enter Tryz.func230, Tryz.ntmps230
  go_wp2_with fail
  rw [← hW]
  clear hW
  refine (LP.out _ BW.out).mono ?_
  rintro e w1 ⟨rfl, hb1⟩
  have B1 := hideIt (below_trans BW.out hb1 BW.out.size)
  have V1 : Hid (w1.heap[w.heap.size + 1]? = some (.cells #[.int .i64 0, .string ⟨#[]⟩, .int .i64 0] 180 (0, 0))) := (hb1.block _ hWz2).trans CB.out
  clear x0 x1
  obtain ⟨x0, x1⟩ := CA.out _ hb1
  clear hb1 LP CA CB
  by_cases c : pc = 0
  case neg =>
    rw [if_neg c] at EL
    obtain rfl := EL.out
    have q : (pc != 0) = true := by rw [bne_iff_ne]; exact c
    clear EL c OKP NMP LT x0 x1
    obtain ⟨t0, t1, t2⟩ := three_cells V1.out
    have u0 := (eight_at (xs := [.int .i64 0, .string ⟨#[]⟩, .int .i64 0]) V1.out 0).2
    have u1 := (eight_at (xs := [.int .i64 0, .string ⟨#[]⟩, .int .i64 0]) V1.out 1).2
    have u2 := (eight_at (xs := [.int .i64 0, .string ⟨#[]⟩, .int .i64 0]) V1.out 2).2
    go_wp2
    refine bodyPost_ret (v := .tuple #[.agg #[.int .i64 0, .string ⟨#[]⟩, .int .i64 0], .int .i64 pc]) (by simp [results, Tryz.results230, go_sem, t0, t1, t2]) rfl ⟨rfl, ⟨D, ?_⟩, ?_⟩
    · repeat (first | exact M.out.below B1.out | refine Mp.set ?_ (by simp only; omega) _)
    · repeat (first | exact grownB B1.out _ | refine grown_set ?_ (by simp only; omega) _)
  rw [if_pos c] at EL
  subst c
  obtain ⟨hi, hpp⟩ := OKP.out rfl
  have NM : Hid (nmB pn = true) := by
    have := NMP.out hi (by rw [← hpp])
    rw [← hpp] at this
    exact this
  have key : Hid (keyOf Tryz.prog 9 (.string pn) = some (keyB pn)) := WideMaps.keyOf_string_mk strU (by have := (nmB_true NM.out).2.1; unfold maxLen; omega)
  have LT2 := hideIt (fun w1 hb => LT.out pd w1 hb hi)
  have ML := mp_look hi pd pn
  have EN := hideIt (show nnN ps pd pn = match entAt ps pd pn with | none => (⟨pd, pn, 0⟩, 0) | some _ => (zeroD, 8) from rfl)
  rw [EN.out] at EL
  clear OKP NMP LT hpp HPR hi EN NM
  generalize mpD ps pd ps.length = D2 at *
  go_wp2_with fail
  refine (LT2.out _ B1.out).mono ?_
  rintro e w2 ⟨rfl, hm2, hg2⟩
  have M2 := hideIt hm2
  have G2 := hideIt ((grownB B1.out (some b)).trans hg2)
  have V2 : Hid (w2.heap[w.heap.size + 1]? = some (.cells #[.int .i64 0, .string ⟨#[]⟩, .int .i64 0] 180 (0, 0))) := (hg2.block _ ((Array.getElem?_eq_some_iff.1 V1.out).1) (by intro e; injection e with e; omega)).trans V1.out
  obtain ⟨t0, t1, t2⟩ := three_cells V2.out
  have u0 := (eight_at (xs := [.int .i64 0, .string ⟨#[]⟩, .int .i64 0]) V2.out 0).2
  have u1 := (eight_at (xs := [.int .i64 0, .string ⟨#[]⟩, .int .i64 0]) V2.out 1).2
  have u2 := (eight_at (xs := [.int .i64 0, .string ⟨#[]⟩, .int .i64 0]) V2.out 2).2
  clear hm2 hg2 LT2 x0 x1
  rcases ML with ⟨e1, e2⟩ | ⟨k, e1, e2, e3⟩
  · rw [e1] at EL
    obtain rfl := EL.out
    have E2 := hideIt e2
    clear EL e1 e2
    go_wp2_with (at_lookup; refine wpList_lookup_own_ok_int _ rfl _ _ 261 rfl 9 3 .i64 strK mapU intU (intZ _) b 4096 D2 rfl M2.out _ _ rfl key.out ?_)
    intro c hat hwc
    rw [E2.out]
    clear hat hwc
    go_wp2
    refine bodyPost_ret (v := .tuple #[.agg #[.int .i64 pd, .string pn, .int .i64 0], .int .i64 0]) (by simp [results, Tryz.results230, go_sem, t0, t1, t2]) rfl ⟨rfl, ⟨D2, ?_⟩, ?_⟩
    · repeat (first | exact M2.out | refine Mp.set ?_ (by simp only; omega) _)
    · repeat (first | exact G2.out | refine grown_set ?_ (by simp only; omega) _)
  · rw [e1] at EL
    obtain rfl := EL.out
    have E2 := hideIt e2
    have E3 := hideIt e3
    clear EL e1 e2 e3
    go_wp2_with (at_lookup; refine wpList_lookup_own_ok_int _ rfl _ _ 261 rfl 9 3 .i64 strK mapU intU (intZ _) b 4096 D2 rfl M2.out _ _ rfl key.out ?_)
    intro c hat hwc
    rw [E2.out]
    clear hat hwc E3
    go_wp2
    refine bodyPost_ret (v := .tuple #[.agg #[.int .i64 0, .string ⟨#[]⟩, .int .i64 0], .int .i64 8]) (by simp [results, Tryz.results230, go_sem, t0, t1, t2]) rfl ⟨rfl, ⟨D2, ?_⟩, ?_⟩
    · repeat (first | exact M2.out | refine Mp.set ?_ (by simp only; omega) _)
    · repeat (first | exact G2.out | refine grown_set ?_ (by simp only; omega) _)
end Go.Proofs.YtcilodgoognmnaaGreatDoor
