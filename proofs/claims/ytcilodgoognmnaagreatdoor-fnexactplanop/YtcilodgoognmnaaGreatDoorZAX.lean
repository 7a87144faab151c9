/- Several texts laid together: PcG, PlC, PlN. -/
import Derived.Test.YtcilodgoognmnaaGreatDoorZAW
import Derived.Test.YtcilodgoognmnaaGreatDoorZAR
import Derived.Deep.RegionHeld3
namespace Go.Proofs.YtcilodgoognmnaaGreatDoor
open Go.RowKit
set_option maxRecDepth 100000 in
set_option maxHeartbeats 8000000 in
theorem ziy (v : Value) (ws : List Ino) (ps : List Den) (s : ByteArray) (w : World) (h : RdIm w v ws ps) (hw : ws.length ≤ 1048576) (hp : ps.length ≤ 1048576) (hT : TS w) (hE : ED w) (hF : FD w) (hr : ∀ k (h : k < ws.length), ws[k].R) (hs : ∀ k (h : k < ps.length), ps[k].name.size ≤ maxLen) :
  Calls Tryz.prog 258 #[v, .string s] w fun e w' => e = .returned (.tuple #[.int .i64 (paR ws ps s).1, .string (paR ws ps s).2.1, .int .i64 (paR ws ps s).2.2]) ∧ Below w.heap.size w w' := by
 have HR := zaa h
 have LS := zaa (fun w1 (hb : Below w.heap.size w w1) => zpk v ws ps s w1 (h.below hb) hw hp (hT.below hb) (hE.below hb) (hF.below hb) hr hs)
 have LG := zaa (fun vL ns w1 h hL hi hn hs => zro v vL ws ps ns w1 h hL hi hn hs)
 have LD := zaa (fun (i : Nat) w1 h (hl : ws.length = 16) (hi16 : i < 16) => zhu v ws ps (i : Int) w1 h hl (by omega))
 have SS := zaa (@zwa s)
 have SL := zaa (@ztc s)
 obtain ⟨NO, YES⟩ := si_lk ws ps s
 have NO := zaa NO
 have YES := zaa YES
 obtain ⟨vW, vP, rfl, h1, h2⟩ := h
 obtain ⟨aW, cW, rfl, _, _⟩ := h1.shape
 obtain ⟨aP, cP, rfl, _, _⟩ := h2.shape
 clear h1 h2 hr hs hT hE hF
 have CA : Hid (∀ w', Below (w.alloc (.cells #[.slice aW ws.length cW, .slice aP ps.length cP] 63)).heap.size (w.alloc (.cells #[.slice aW ws.length cW, .slice aP ps.length cP] 63)) w' → w'.cell? ⟨w.heap.size, 0, none⟩ = some (.slice aW ws.length cW) ∧ w'.cell? ⟨w.heap.size, 1, none⟩ = some (.slice aP ps.length cP)) := fun w' hb => by
  have : w'.heap[w.heap.size]? = some (.cells #[.slice aW ws.length cW, .slice aP ps.length cP] 63 (0, 0)) := (hb.block _ (by simp)).trans (zah rfl)
  exact ⟨(zac this).1, (zac this).2.1⟩
 have BW : Hid (Below w.heap.size w (w.alloc (.cells #[.slice aW ws.length cW, .slice aP ps.length cP] 63))) := (Below.refl _ _).alloc (Nat.le_refl _) _
 obtain ⟨x0, x1⟩ := CA.out _ (Below.refl _ _)
 generalize siC ws ps s = sc at *
 generalize siL ws ps s = sl at *
 generalize lkR ws ps s = res2 at *
 generalize paR ws ps s = res at *
 by_cases c : sc = 0
 case neg =>
  obtain ⟨_, rfl⟩ := NO.out c
  have q : (sc != 0) = true := by rw [bne_iff_ne]; exact c
  clear NO YES c
  go_enter Tryz.func258, Tryz.ntmps258
  go_wp2_with fail
  refine (LS.out _ BW.out).mono ?_
  rintro e w1 ⟨v1, rfl, hr1, hb1⟩
  have B1 := zaa (zab BW.out hb1 BW.out.size)
  clear hr1 hb1 x0 x1
  go_wp2
  go_ret3
  exact ⟨rfl, B1.out⟩
 obtain ⟨c1, rfl, _, hres⟩ := YES.out c
 have C1 := zaa c1
 have EL2 := zaa hres
 have WR := zaa (fun ns => zke c1 ns 0 (by omega))
 have L16 := zaa (zao c1).1
 subst c
 clear NO YES c1 hres
 generalize spL s = ns at *
 by_cases c2 : ns = []
 ·subst c2
  obtain rfl := EL2.out
  clear EL2 LG
  go_enter Tryz.func258, Tryz.ntmps258
  go_wp2_with fail
  refine (LS.out _ BW.out).mono ?_
  rintro e w1 ⟨v1, rfl, hr1, hb1⟩
  have B1 := zaa (zab BW.out hb1 BW.out.size)
  obtain ⟨aL, cL, rfl, _, _⟩ := hr1.shape
  clear hr1 hb1 x0 x1
  simp only [List.length_nil]
  go_wp2
  go_ret3
  exact ⟨rfl, B1.out⟩
 obtain ⟨xs, x, rfl⟩ := snoc_of c2
 rw [ztr] at EL2
 clear c2
 have EP := zaa (show paN ws ps xs x = if (wk ws ps 0 xs).2 = 0 then (if zai ws (wk ws ps 0 xs).1 = 2 then ((wk ws ps 0 xs).1, x, 0) else (0, ⟨#[]⟩, 10)) else (0, ⟨#[]⟩, (wk ws ps 0 xs).2) from rfl)
 rw [EP.out] at EL2
 clear EP
 have sl := SL.out
 rw [List.length_append, List.length_cons, List.length_nil, Nat.zero_add] at sl
 have S1 : Hid (∀ k (h : k < xs.length), 1 ≤ xs[k].size) := fun k hk => by
  have := SS.out k (by rw [List.length_append]; omega)
  rw [List.getElem_append_left hk] at this
  exact this
 have wr1 := WR.out xs
 have LW2 := zaa (fun vL w1 h hL => LG.out vL xs w1 h hL C1.out (by omega) S1.out)
 obtain ⟨z, hz⟩ : ∃ z : Nat, (wk ws ps 0 xs).1 = (z : Int) := ⟨((wk ws ps 0 xs).1).toNat, by omega⟩
 have z16 : z < 16 := by omega
 rw [hz] at EL2 LW2
 clear LG WR SL SS S1 wr1 hz
 have LD2 := zaa (fun w1 h => LD.out z w1 h L16.out z16)
 clear LD
 generalize (wk ws ps 0 xs).2 = wc at *
 go_enter Tryz.func258, Tryz.ntmps258
 go_wp2_with fail
 refine (LS.out _ BW.out).mono ?_
 rintro e w1 ⟨v1, rfl, hr1, hb1⟩
 have B1 := zaa (zab BW.out hb1 BW.out.size)
 have BA := zaa hb1
 have hbn : (w.alloc (.cells #[.slice aW ws.length cW, .slice aP ps.length cP] 63)).heap.size ≤ w1.heap.size := hb1.size
 clear x0 x1
 obtain ⟨x0, x1⟩ := CA.out _ hb1
 have R1 := zaa hr1
 obtain ⟨aL, cL, rfl, hcap, hcL⟩ := hr1.shape
 obtain ⟨b, o, rfl, hbl, hcell⟩ := hcL (by rw [List.length_append]; simp)
 have hx : w1.cell? ⟨b, o + xs.length, none⟩ = some (.string x) := by
  have := hcell xs.length (by rw [List.length_append]; simp)
  simpa using this
 have RT : Hid (RdT w1 (.slice (some ⟨b, o, none⟩) xs.length cL) xs) := by
  have := znf R1.out (m := xs.length) (by rw [List.length_append]; omega)
  rw [List.take_left] at this
  exact this
 rw [List.length_append, List.length_cons, List.length_nil, Nat.zero_add] at hcap
 simp only [List.length_append, List.length_cons, List.length_nil, Nat.zero_add]
 clear hr1 hb1 hcL hcell R1 LS
 generalize xs.length = n at *
 have n0 : (((n + 1 : Nat) : Int) == 0) = false := by rw [beq_eq_false_iff_ne]; omega
 have nw : IntKind.i64.wrap (((n + 1 : Nat) : Int) - 1) = (n : Int) := by
  rw [show (((n + 1 : Nat) : Int) - 1) = (n : Int) by omega, IntKind.wrap_i64]
  omega
 have ncap : (n : Int) ≤ (cL : Int) := by omega
 have nw2 : IntKind.i64.wrap ((n : Int) + 1 - 1) = (n : Int) := by rw [IntKind.wrap_i64]; omega
 have nw3 : IntKind.i64.wrap (n : Int) = (n : Int) := by rw [IntKind.wrap_i64]; omega
 have nn0 : (0 : Int) ≤ (n : Int) := by omega
 have nn1 : (n : Int) < ((n + 1 : Nat) : Int) := by omega
 have nn2 : (n : Int) < (n : Int) + 1 := by omega
 have SK : Hid (∀ w', Below w1.heap.size w1 w' → w'.cell? ⟨w.heap.size, 0, none⟩ = some (.slice aW ws.length cW) ∧ w'.cell? ⟨w.heap.size, 1, none⟩ = some (.slice aP ps.length cP)) := fun w' hb => CA.out w' (zab BA.out hb hbn)
 have HX : Hid (∀ w', Below w1.heap.size w1 w' → w'.cell? ⟨b, o + n, none⟩ = some (.string x)) := fun w' hb => (hb.cell (p := ⟨b, o + n, none⟩) hbl).trans hx
 have LW3 := zaa (fun w2 (hb : Below w1.heap.size w1 w2) => LW2.out _ w2 (HR.out.below (zab B1.out hb B1.out.size)) (Rd.below RT.out hb))
 clear LW2 RT hx
 by_cases q : wc = 0
 case neg =>
  rw [if_neg q] at EL2
  obtain rfl := EL2.out
  have q1 : (wc != 0) = true := by rw [bne_iff_ne]; exact q
  clear EL2 q
  go_wp2_with fail
  go_region_held3 (fun w' => w'.cell? ⟨w.heap.size, 0, none⟩ = some (.slice aW ws.length cW) ∧ w'.cell? ⟨w.heap.size, 1, none⟩ = some (.slice aP ps.length cP))
   (exact SK.out _ (by repeat (first | exact BF.out | exact Below.refl _ _ | refine Below.drew ?_)))
   (first
    | (go_at_call 157; refine (LW3.out _ (by repeat (first | exact Below.refl _ _ | refine Below.drew ?_))).mono ?_; rintro e w2 ⟨rfl, hb2⟩; have BF : Hid (Below w1.heap.size w1 w2) := (by first | exact hb2 | exact zab (by repeat (first | exact Below.refl _ _ | refine Below.drew ?_)) hb2 (Nat.le_refl _)); clear hb2))
  all_goals
   have B3 := zaa (zab B1.out BF.out B1.out.size)
   clear SK x0 x1
   go_wp2
   go_ret3
   exact ⟨rfl, (by repeat (first | exact B3.out | refine Below.drew ?_))⟩
 rw [if_pos q] at EL2
 subst q
 by_cases r : zai ws z = 2
 case neg =>
  rw [if_neg r] at EL2
  obtain rfl := EL2.out
  have r1 : (zai ws z == 2) = false := by rw [beq_eq_false_iff_ne]; exact r
  rw [r1] at LD2
  clear EL2 r r1
  go_wp2_with fail
  go_region_held3 (fun w' => w'.cell? ⟨w.heap.size, 0, none⟩ = some (.slice aW ws.length cW) ∧ w'.cell? ⟨w.heap.size, 1, none⟩ = some (.slice aP ps.length cP))
   (exact SK.out _ (by repeat (first | exact BF.out | exact Below.refl _ _ | refine Below.drew ?_)))
   (first
    | (go_at_call 157; refine (LW3.out _ (by repeat (first | exact Below.refl _ _ | refine Below.drew ?_))).mono ?_; rintro e w2 ⟨rfl, hb2⟩; have BF : Hid (Below w1.heap.size w1 w2) := (by first | exact hb2 | exact zab (by repeat (first | exact Below.refl _ _ | refine Below.drew ?_)) hb2 (Nat.le_refl _)); clear hb2))
  all_goals
   have B3 := zaa (zab B1.out BF.out B1.out.size)
   clear x0 x1
   obtain ⟨x0, x1⟩ := SK.out _ BF.out
   clear SK
   go_wp2_with fail
   refine (LD2.out _ (HR.out.below (by repeat (first | exact B3.out | refine Below.drew ?_)))).mono ?_
   rintro e w3 ⟨rfl, hb3⟩
   have B4 : Hid (Below w.heap.size w w3) := zab (by repeat (first | exact B3.out | refine Below.drew ?_)) hb3 (by have := B3.out.size; simp <;> omega)
   clear hb3 x0 x1
   go_wp2
   go_ret3
   exact ⟨rfl, B4.out⟩
 rw [if_pos r] at EL2
 obtain rfl := EL2.out
 have r1 : (zai ws z == 2) = true := by rw [r]; rfl
 rw [r1] at LD2
 clear EL2 r r1
 go_wp2_with fail
 go_region_held3 (fun w' => w'.cell? ⟨w.heap.size, 0, none⟩ = some (.slice aW ws.length cW) ∧ w'.cell? ⟨w.heap.size, 1, none⟩ = some (.slice aP ps.length cP))
  (exact SK.out _ (by repeat (first | exact BF.out | exact Below.refl _ _ | refine Below.drew ?_)))
  (first
   | (go_at_call 157; refine (LW3.out _ (by repeat (first | exact Below.refl _ _ | refine Below.drew ?_))).mono ?_; rintro e w2 ⟨rfl, hb2⟩; have BF : Hid (Below w1.heap.size w1 w2) := (by first | exact hb2 | exact zab (by repeat (first | exact Below.refl _ _ | refine Below.drew ?_)) hb2 (Nat.le_refl _)); clear hb2))
 all_goals
  have B3 := zaa (zab B1.out BF.out B1.out.size)
  clear x0 x1
  obtain ⟨x0, x1⟩ := SK.out _ BF.out
  clear SK
  go_wp2_with fail
  refine (LD2.out _ (HR.out.below (by repeat (first | exact B3.out | refine Below.drew ?_)))).mono ?_
  rintro e w3 ⟨rfl, hb3⟩
  have B4 : Hid (Below w.heap.size w w3) := zab (by repeat (first | exact B3.out | refine Below.drew ?_)) hb3 (by have := B3.out.size; simp <;> omega)
  have B5 : Hid (Below w1.heap.size w1 w3) := zab (by repeat (first | exact BF.out | refine Below.drew ?_)) hb3 (by have := BF.out.size; simp <;> omega)
  have hx := HX.out _ B5.out
  clear hb3 x0 x1
  go_wp2_with fail
  go_region_held3 (fun w' => w'.cell? ⟨b, o + n, none⟩ = some (.string x))
   (exact HX.out _ (by repeat (first | exact B5.out | refine Below.drew ?_)))
   (fail)
  all_goals
   go_wp2
   go_ret3
   exact ⟨rfl, (by repeat (first | exact B4.out | refine Below.drew ?_))⟩
end Go.Proofs.YtcilodgoognmnaaGreatDoor

namespace Go.Proofs.YtcilodgoognmnaaGreatDoor
open Go.RowKit Go.Maps
theorem paR_ok {ws : List Ino} {ps : List Den} {s : ByteArray} (h : (paR ws ps s).2.2 = 0) : zax ws ps = true ∧ paR ws ps s = paI ws ps s := by
 unfold paR at h ⊢
 split at h
 ·cases h
 ·rename_i c
  rw [if_neg c]
  split at h
  ·rename_i c1
   exact ⟨c1, if_pos c1⟩
  ·cases h
def zql : Den := ⟨0, ⟨#[]⟩, 0⟩
def erN (ps : List Den) (d : Int) (nm : ByteArray) : Int × Int := match zbb ps d nm with | none => (0, 5) | some k => ((k : Int), 0)
def erR (ws : List Ino) (ps : List Den) (s : ByteArray) : Int × Int := if (paR ws ps s).2.2 = 0 then erN ps (paR ws ps s).1 (paR ws ps s).2.1 else (0, (paR ws ps s).2.2)
def nnN (ps : List Den) (d : Int) (nm : ByteArray) : Den × Int := match zbb ps d nm with | none => (⟨d, nm, 0⟩, 0) | some _ => (zql, 8)
def nnR (ws : List Ino) (ps : List Den) (s : ByteArray) : Den × Int := if (paR ws ps s).2.2 = 0 then nnN ps (paR ws ps s).1 (paR ws ps s).2.1 else (zql, (paR ws ps s).2.2)
theorem mp_look {ws : List Ino} {ps : List Den} (h : zax ws ps = true) (d : Int) (nm : ByteArray) :
  (zbb ps d nm = none ∧ Maps.has (mpD ps d ps.length) (zqe nm) = false) ∨ (∃ k : Nat, zbb ps d nm = some k ∧ Maps.has (mpD ps d ps.length) (zqe nm) = true ∧ (mpD ps d ps.length).atKey (zqe nm) (.lit (.int .i64 0)) = .lit (.int .i64 (k : Int))) := by
 obtain ⟨A, B⟩ := mp_find h d nm (.lit (.int .i64 0))
 cases e : zbb ps d nm with
 | none => exact .inl ⟨rfl, A e⟩
 | some k => exact .inr ⟨k, rfl, B k e⟩
theorem zow {w w' : World} {b : Nat} (h : w.grownBy w' (some b)) {a : Addr} (ha : w.heap.size ≤ a.block) (u : Value) : w.grownBy (w'.setCell a u) (some b) :=
 ⟨h.os, h.tape, h.output, by simpa [World.setCell] using h.size, fun k hk hn => (Below.heap_setCell _ _ _ _ (by omega)).trans (h.block k hk hn)⟩
theorem Mp.set {w : World} {b : Nat} {D : DataW Unit} (h : Mp w b D) {a : Addr} (ha : b ≠ a.block) (u : Value) : Mp (w.setCell a u) b D := World.ownsMap.setCell h ha u
set_option maxRecDepth 100000 in
set_option maxHeartbeats 4000000 in
theorem zpo (v : Value) (ws : List Ino) (ps : List Den) (s : ByteArray) (b : Nat) (D : DataW Unit) (w : World) (h : RdIm w v ws ps) (hw : ws.length ≤ 1048576) (hp : ps.length ≤ 1048576) (hT : TS w) (hE : ED w) (hF : FD w) (hr : ∀ k (h : k < ws.length), ws[k].R) (hs : ∀ k (h : k < ps.length), ps[k].name.size ≤ maxLen) (hm : Mp w b D) :
  Calls Tryz.prog 234 #[.map (some b), v, .string s] w fun e w' => e = .returned (.tuple #[.int .i64 (erR ws ps s).1, .int .i64 (erR ws ps s).2]) ∧ (∃ D', Mp w' b D') ∧ w.grownBy w' (some b) := by
 have LP := zaa (fun w1 (hb : Below w.heap.size w w1) => ziy v ws ps s w1 (h.below hb) hw hp (hT.below hb) (hE.below hb) (hF.below hb) hr hs)
 have LT := zaa (fun d w1 (hb : Below w.heap.size w w1) (hi : zax ws ps = true) => zlz v ws ps d b D w1 (h.below hb) hi (hm.below hb) (hF.below hb))
 have EL := zaa (show erR ws ps s = if (paR ws ps s).2.2 = 0 then erN ps (paR ws ps s).1 (paR ws ps s).2.1 else (0, (paR ws ps s).2.2) from rfl)
 have OKP := zaa (fun q => paR_ok (ws := ws) (ps := ps) (s := s) q)
 have NMP := zaa (fun (hi : zax ws ps = true) (c : (paI ws ps s).2.2 = 0) => (zib hi c).2.2)
 have M := zaa hm
 obtain ⟨vW, vP, rfl, h1, h2⟩ := h
 obtain ⟨aW, cW, rfl, _, _⟩ := h1.shape
 obtain ⟨aP, cP, rfl, _, _⟩ := h2.shape
 clear h1 h2 hr hs hT hE hF hm
 have CA : Hid (∀ w', Below (w.alloc (.cells #[.slice aW ws.length cW, .slice aP ps.length cP] 63)).heap.size (w.alloc (.cells #[.slice aW ws.length cW, .slice aP ps.length cP] 63)) w' → w'.cell? ⟨w.heap.size, 0, none⟩ = some (.slice aW ws.length cW) ∧ w'.cell? ⟨w.heap.size, 1, none⟩ = some (.slice aP ps.length cP)) := fun w' hb => by
  have : w'.heap[w.heap.size]? = some (.cells #[.slice aW ws.length cW, .slice aP ps.length cP] 63 (0, 0)) := (hb.block _ (by simp)).trans (zah rfl)
  exact ⟨(zac this).1, (zac this).2.1⟩
 have BW : Hid (Below w.heap.size w (w.alloc (.cells #[.slice aW ws.length cW, .slice aP ps.length cP] 63))) := (Below.refl _ _).alloc (Nat.le_refl _) _
 obtain ⟨x0, x1⟩ := CA.out _ (Below.refl _ _)
 generalize hpr : paR ws ps s = pr at *
 have HPR := zaa hpr
 clear hpr
 generalize erR ws ps s = res at *
 obtain ⟨pd, pn, pc⟩ := pr
 simp only at EL OKP LP
 go_enter Tryz.func234, Tryz.ntmps234
 go_wp2_with fail
 refine (LP.out _ BW.out).mono ?_
 rintro e w1 ⟨rfl, hb1⟩
 have B1 := zaa (zab BW.out hb1 BW.out.size)
 clear x0 x1
 obtain ⟨x0, x1⟩ := CA.out _ hb1
 clear hb1 LP CA
 by_cases c : pc = 0
 case neg =>
  rw [if_neg c] at EL
  obtain rfl := EL.out
  have q : (pc != 0) = true := by rw [bne_iff_ne]; exact c
  clear EL c OKP NMP LT x0 x1
  go_wp2
  go_ret2
  exact ⟨rfl, ⟨D, M.out.below B1.out⟩, grownB B1.out _⟩
 rw [if_pos c] at EL
 subst c
 obtain ⟨hi, hpp⟩ := OKP.out rfl
 have NM : Hid (nmB pn = true) := by
  have := NMP.out hi (by rw [← hpp])
  rw [← hpp] at this
  exact this
 have key : Hid (keyOf Tryz.prog 9 (.string pn) = some (zqe pn)) := WideMaps.keyOf_string_mk strU (by have := (zcz NM.out).2.1; unfold maxLen; omega)
 have LT2 := zaa (fun w1 hb => LT.out pd w1 hb hi)
 have ML := mp_look hi pd pn
 have EN := zaa (show erN ps pd pn = match zbb ps pd pn with | none => (0, 5) | some k => ((k : Int), 0) from rfl)
 rw [EN.out] at EL
 clear OKP NMP LT hpp HPR hi EN NM
 generalize mpD ps pd ps.length = D2 at *
 go_wp2_with fail
 refine (LT2.out _ B1.out).mono ?_
 rintro e w2 ⟨rfl, hm2, hg2⟩
 have M2 := zaa hm2
 have G2 := zaa ((grownB B1.out (some b)).trans hg2)
 clear hm2 hg2 LT2 x0 x1
 rcases ML with ⟨e1, e2⟩ | ⟨k, e1, e2, e3⟩
 ·rw [e1] at EL
  obtain rfl := EL.out
  have E2 := zaa e2
  clear EL e1 e2
  go_wp2_with (at_lookup; refine wpList_lookup_own_ok_int _ rfl _ _ 261 rfl 9 3 .i64 strK mapU intU (intZ _) b 4096 D2 rfl M2.out _ _ rfl key.out ?_)
  intro c hat hwc
  rw [E2.out]
  clear hat hwc
  go_wp2
  go_ret2
  exact ⟨rfl, ⟨D2, M2.out⟩, G2.out⟩
 ·rw [e1] at EL
  obtain rfl := EL.out
  have E2 := zaa e2
  have E3 := zaa e3
  clear EL e1 e2 e3
  go_wp2_with (at_lookup; refine wpList_lookup_own_ok_int _ rfl _ _ 261 rfl 9 3 .i64 strK mapU intU (intZ _) b 4096 D2 rfl M2.out _ _ rfl key.out ?_)
  intro c hat hwc
  rw [E2.out]
  have ck : c = (k : Int) := by
   rw [E3.out] at hat
   injection hat with hat
   injection hat with _ hat
   exact hat.symm
  subst ck
  clear hat hwc E3
  go_wp2
  go_ret2
  exact ⟨rfl, ⟨D2, M2.out⟩, G2.out⟩
set_option maxRecDepth 100000 in
set_option maxHeartbeats 4000000 in
theorem zjj (v : Value) (ws : List Ino) (ps : List Den) (s : ByteArray) (b : Nat) (D : DataW Unit) (w : World) (h : RdIm w v ws ps) (hw : ws.length ≤ 1048576) (hp : ps.length ≤ 1048576) (hT : TS w) (hE : ED w) (hF : FD w) (hr : ∀ k (h : k < ws.length), ws[k].R) (hs : ∀ k (h : k < ps.length), ps[k].name.size ≤ maxLen) (hm : Mp w b D) :
  Calls Tryz.prog 230 #[.map (some b), v, .string s] w fun e w' => e = .returned (.tuple #[.agg #[.int .i64 (nnR ws ps s).1.dir, .string (nnR ws ps s).1.name, .int .i64 (nnR ws ps s).1.child], .int .i64 (nnR ws ps s).2]) ∧ (∃ D', Mp w' b D') ∧ w.grownBy w' (some b) := by
 have LP := zaa (fun w1 (hb : Below w.heap.size w w1) => ziy v ws ps s w1 (h.below hb) hw hp (hT.below hb) (hE.below hb) (hF.below hb) hr hs)
 have LT := zaa (fun d w1 (hb : Below w.heap.size w w1) (hi : zax ws ps = true) => zlz v ws ps d b D w1 (h.below hb) hi (hm.below hb) (hF.below hb))
 have EL := zaa (show nnR ws ps s = if (paR ws ps s).2.2 = 0 then nnN ps (paR ws ps s).1 (paR ws ps s).2.1 else (zql, (paR ws ps s).2.2) from rfl)
 have OKP := zaa (fun q => paR_ok (ws := ws) (ps := ps) (s := s) q)
 have NMP := zaa (fun (hi : zax ws ps = true) (c : (paI ws ps s).2.2 = 0) => (zib hi c).2.2)
 have M := zaa hm
 have bl := hm.lt
 obtain ⟨vW, vP, rfl, h1, h2⟩ := h
 obtain ⟨aW, cW, rfl, _, _⟩ := h1.shape
 obtain ⟨aP, cP, rfl, _, _⟩ := h2.shape
 clear h1 h2 hr hs hT hE hF hm
 obtain ⟨W, hW⟩ : ∃ W, W = (w.alloc (.cells #[.slice aW ws.length cW, .slice aP ps.length cP] 63)).alloc (.cells #[.int .i64 0, .string ⟨#[]⟩, .int .i64 0] 180) := ⟨_, rfl⟩
 have CA : Hid (∀ w', Below W.heap.size W w' → w'.cell? ⟨w.heap.size, 0, none⟩ = some (.slice aW ws.length cW) ∧ w'.cell? ⟨w.heap.size, 1, none⟩ = some (.slice aP ps.length cP)) := fun w' hb => by
  have : w'.heap[w.heap.size]? = some (.cells #[.slice aW ws.length cW, .slice aP ps.length cP] 63 (0, 0)) := (hb.block _ (by rw [hW]; simp; omega)).trans (by rw [hW]; exact zau (zah rfl))
  exact ⟨(zac this).1, (zac this).2.1⟩
 have CB : Hid (W.heap[w.heap.size + 1]? = some (.cells #[.int .i64 0, .string ⟨#[]⟩, .int .i64 0] 180 (0, 0))) := by
  unfold Hid
  rw [hW]
  exact zah (by simp)
 have BW : Hid (Below w.heap.size w W) := by rw [hW]; exact ((Below.refl _ _).alloc (Nat.le_refl _) _).alloc (by simp) _
 have hWz : W.heap.size = w.heap.size + 2 := by rw [hW]; simp
 have hWz2 : w.heap.size + 1 < W.heap.size := by omega
 obtain ⟨x0, x1⟩ := CA.out _ (Below.refl _ _)
 generalize hpr : paR ws ps s = pr at *
 have HPR := zaa hpr
 clear hpr hWz
 generalize nnR ws ps s = res at *
 obtain ⟨pd, pn, pc⟩ := pr
 simp only at EL OKP LP
 go_enter Tryz.func230, Tryz.ntmps230
 go_wp2_with fail
 rw [← hW]
 clear hW
 refine (LP.out _ BW.out).mono ?_
 rintro e w1 ⟨rfl, hb1⟩
 have B1 := zaa (zab BW.out hb1 BW.out.size)
 have V1 : Hid (w1.heap[w.heap.size + 1]? = some (.cells #[.int .i64 0, .string ⟨#[]⟩, .int .i64 0] 180 (0, 0))) := (hb1.block _ hWz2).trans CB.out
 clear x0 x1
 obtain ⟨x0, x1⟩ := CA.out _ hb1
 clear hb1 LP CA CB
 by_cases c : pc = 0
 case neg =>
  rw [if_neg c] at EL
  obtain rfl := EL.out
  have q : (pc != 0) = true := by rw [bne_iff_ne]; exact c
  clear EL c OKP NMP LT x0 x1
  obtain ⟨t0, t1, t2⟩ := zay V1.out
  have u0 := (zae (xs := [.int .i64 0, .string ⟨#[]⟩, .int .i64 0]) V1.out 0).2
  have u1 := (zae (xs := [.int .i64 0, .string ⟨#[]⟩, .int .i64 0]) V1.out 1).2
  have u2 := (zae (xs := [.int .i64 0, .string ⟨#[]⟩, .int .i64 0]) V1.out 2).2
  go_wp2
  refine bodyPost_ret (v := .tuple #[.agg #[.int .i64 0, .string ⟨#[]⟩, .int .i64 0], .int .i64 pc]) (by simp [results, Tryz.results230, go_sem, t0, t1, t2]) rfl ⟨rfl, ⟨D, ?_⟩, ?_⟩
  ·repeat (first | exact M.out.below B1.out | refine Mp.set ?_ (by simp only; omega) _)
  ·repeat (first | exact grownB B1.out _ | refine zow ?_ (by simp only; omega) _)
 rw [if_pos c] at EL
 subst c
 obtain ⟨hi, hpp⟩ := OKP.out rfl
 have NM : Hid (nmB pn = true) := by
  have := NMP.out hi (by rw [← hpp])
  rw [← hpp] at this
  exact this
 have key : Hid (keyOf Tryz.prog 9 (.string pn) = some (zqe pn)) := WideMaps.keyOf_string_mk strU (by have := (zcz NM.out).2.1; unfold maxLen; omega)
 have LT2 := zaa (fun w1 hb => LT.out pd w1 hb hi)
 have ML := mp_look hi pd pn
 have EN := zaa (show nnN ps pd pn = match zbb ps pd pn with | none => (⟨pd, pn, 0⟩, 0) | some _ => (zql, 8) from rfl)
 rw [EN.out] at EL
 clear OKP NMP LT hpp HPR hi EN NM
 generalize mpD ps pd ps.length = D2 at *
 go_wp2_with fail
 refine (LT2.out _ B1.out).mono ?_
 rintro e w2 ⟨rfl, hm2, hg2⟩
 have M2 := zaa hm2
 have G2 := zaa ((grownB B1.out (some b)).trans hg2)
 have V2 : Hid (w2.heap[w.heap.size + 1]? = some (.cells #[.int .i64 0, .string ⟨#[]⟩, .int .i64 0] 180 (0, 0))) := (hg2.block _ ((Array.getElem?_eq_some_iff.1 V1.out).1) (by intro e; injection e with e; omega)).trans V1.out
 obtain ⟨t0, t1, t2⟩ := zay V2.out
 have u0 := (zae (xs := [.int .i64 0, .string ⟨#[]⟩, .int .i64 0]) V2.out 0).2
 have u1 := (zae (xs := [.int .i64 0, .string ⟨#[]⟩, .int .i64 0]) V2.out 1).2
 have u2 := (zae (xs := [.int .i64 0, .string ⟨#[]⟩, .int .i64 0]) V2.out 2).2
 clear hm2 hg2 LT2 x0 x1
 rcases ML with ⟨e1, e2⟩ | ⟨k, e1, e2, e3⟩
 ·rw [e1] at EL
  obtain rfl := EL.out
  have E2 := zaa e2
  clear EL e1 e2
  go_wp2_with (at_lookup; refine wpList_lookup_own_ok_int _ rfl _ _ 261 rfl 9 3 .i64 strK mapU intU (intZ _) b 4096 D2 rfl M2.out _ _ rfl key.out ?_)
  intro c hat hwc
  rw [E2.out]
  clear hat hwc
  go_wp2
  refine bodyPost_ret (v := .tuple #[.agg #[.int .i64 pd, .string pn, .int .i64 0], .int .i64 0]) (by simp [results, Tryz.results230, go_sem, t0, t1, t2]) rfl ⟨rfl, ⟨D2, ?_⟩, ?_⟩
  ·repeat (first | exact M2.out | refine Mp.set ?_ (by simp only; omega) _)
  ·repeat (first | exact G2.out | refine zow ?_ (by simp only; omega) _)
 ·rw [e1] at EL
  obtain rfl := EL.out
  have E2 := zaa e2
  have E3 := zaa e3
  clear EL e1 e2 e3
  go_wp2_with (at_lookup; refine wpList_lookup_own_ok_int _ rfl _ _ 261 rfl 9 3 .i64 strK mapU intU (intZ _) b 4096 D2 rfl M2.out _ _ rfl key.out ?_)
  intro c hat hwc
  rw [E2.out]
  clear hat hwc E3
  go_wp2
  refine bodyPost_ret (v := .tuple #[.agg #[.int .i64 0, .string ⟨#[]⟩, .int .i64 0], .int .i64 8]) (by simp [results, Tryz.results230, go_sem, t0, t1, t2]) rfl ⟨rfl, ⟨D2, ?_⟩, ?_⟩
  ·repeat (first | exact M2.out | refine Mp.set ?_ (by simp only; omega) _)
  ·repeat (first | exact G2.out | refine zow ?_ (by simp only; omega) _)
end Go.Proofs.YtcilodgoognmnaaGreatDoor

namespace Go.Proofs.YtcilodgoognmnaaGreatDoor
open Go.RowKit Go.Maps
theorem pf_one {ws : List Ino} {ps : List Den} {s : ByteArray} : pfC ws ps [s] = if 65536 < s.size then 2 else if zax ws ps = true then 0 else 1 := by
 unfold pfC
 by_cases c : 65536 < s.size <;> simp [c]
theorem pf_two {ws : List Ino} {ps : List Den} {s t : ByteArray} : pfC ws ps [s, t] = if 65536 < s.size then 2 else if 65536 < t.size then 2 else if zax ws ps = true then 0 else 1 := by
 unfold pfC
 by_cases c : 65536 < s.size <;> by_cases c' : 65536 < t.size <;> simp [c, c']
theorem zjw {ws : List Ino} {ps : List Den} {s : ByteArray} (h : ¬ 65536 < s.size) (hi : zax ws ps = true) : paR ws ps s = paI ws ps s := by
 unfold paR
 rw [if_neg h, if_pos hi]
theorem du_ok {k : Int} {x : Den} (hk : 0 ≤ k ∧ k ≤ 23) (hx : x.okB = true) : duC k x = 0 ∧ duL k x = enL k x := by
 unfold duC duL
 exact ⟨by rw [if_pos hk, if_pos hx], by rw [if_pos hk, if_pos hx]⟩
theorem okB_new {d c : Int} {nm : ByteArray} (hd : 0 ≤ d ∧ d ≤ 15) (hn : nmB nm = true) (hc : 1 ≤ c ∧ c ≤ 15) : (Den.mk d nm c).okB = true := by
 unfold Den.okB
 rw [decide_eq_true hd, decide_eq_true hc, hn]
 simp
theorem okB_freeD : freeD.okB = true := by decide
theorem zrw {w : World} : Mp (w.alloc (.map #[] 0)) w.heap.size (.map []) := (World.ownsMap_made w _ _ _).mono (by omega)
theorem zdq {W a w' : World} {b : Nat} (h : Below W.heap.size W a) (hg : a.grownBy w' (some b)) (hb : W.heap.size ≤ b) : Below W.heap.size W w' := h.grown hg h.size (fun j hj => by cases hj; exact hb)
theorem zvq {w : World} {b : Nat} {x y z u : Value} (t0 : w.cell? ⟨b, 0, none⟩ = some x) (t1 : w.cell? ⟨b, 1, none⟩ = some y) (t2 : w.cell? ⟨b, 2, none⟩ = some z) : (w.setCell ⟨b, 2, none⟩ u).cell? ⟨b, 0, none⟩ = some x ∧ (w.setCell ⟨b, 2, none⟩ u).cell? ⟨b, 1, none⟩ = some y ∧ (w.setCell ⟨b, 2, none⟩ u).cell? ⟨b, 2, none⟩ = some u :=
 ⟨(World.cell?_setCell_other _ _ _ _ (by simp)).trans t0, (World.cell?_setCell_other _ _ _ _ (by simp)).trans t1, World.cell?_setCell_same _ _ _ t2⟩
set_option maxRecDepth 100000 in
set_option maxHeartbeats 16000000 in
theorem zgx (v : Value) (ws : List Ino) (ps : List Den) (s : ByteArray) (kind : Int) (w : World) (h : RdIm w v ws ps) (hw : ws.length ≤ 1048576) (hp : ps.length ≤ 1048576) (hT : TS w) (hE : ED w) (hF : FD w) (hr : ∀ k (h : k < ws.length), ws[k].R) (hs : ∀ k (h : k < ps.length), ps[k].name.size ≤ maxLen) :
  Calls Tryz.prog 201 #[v, .string s, .int .i64 kind] w fun e w' => zer w w' e (mkR ws ps s kind) := by
 have LF := zaa (fun vL w1 (hb : Below w.heap.size w w1) hL => zgw v vL ws ps [s] w1 (h.below hb) hL (by simp) hw hp (hT.below hb) (hE.below hb) (hF.below hb) hr hs)
 have LN := zaa (fun b D w1 (hb : Below w.heap.size w w1) hm => zjj v ws ps s b D w1 (h.below hb) hw hp (hT.below hb) (hE.below hb) (hF.below hb) hr hs hm)
 have LI := zaa (fun w1 (hb : Below w.heap.size w w1) => zlm v ws ps w1 (h.below hb) hw hp (hT.below hb) (hE.below hb) (hF.below hb) hr hs)
 have LK := zaa (fun w1 (hb : Below w.heap.size w w1) hi => zkd v ws ps w1 (h.below hb) hi (hF.below hb))
 have LD := zaa (fun k x w1 (hb : Below w.heap.size w w1) hs => zby k x w1 (hF.below hb) hs)
 rw [pf_one] at LF
 rw [show zas (fun i => decide (1 ≤ i) && zai ws (i : Int) == 0) ws.length = fiI ws from rfl] at LI
 have EL := zaa (show mkR ws ps s kind = if 65536 < s.size then ([], 2) else if zax ws ps = true then (if 1 ≤ kind ∧ kind ≤ 2 then mkI ws ps s kind else ([], 4)) else ([], 1) from rfl)
 have EI := zaa (show mkI ws ps s kind = if (paI ws ps s).2.2 = 0 then mkN ws ps kind (paI ws ps s).1 (paI ws ps s).2.1 else ([], (paI ws ps s).2.2) from rfl)
 have EN := zaa (fun d nm => show mkN ws ps kind d nm = if 0 ≤ zkl ps d nm then ([], 8) else if fiI ws < 0 then ([], 7) else if feI ps < 0 then ([], 7) else (mkU (fiI ws) (feI ps) kind d nm, 0) from rfl)
 have ER := zaa (show nnR ws ps s = if (paR ws ps s).2.2 = 0 then nnN ps (paR ws ps s).1 (paR ws ps s).2.1 else (zql, (paR ws ps s).2.2) from rfl)
 have EM := zaa (fun d nm => show nnN ps d nm = match zbb ps d nm with | none => (⟨d, nm, 0⟩, 0) | some _ => (zql, 8) from rfl)
 have PR := zaa (@zjw ws ps s)
 have PO := zaa (fun hi c => zib (ws := ws) (ps := ps) (s := s) hi c)
 have FR := zaa (fun hi => And.intro (fi_range (ws := ws) (ps := ps) hi) (znm (ws := ws) (ps := ps) hi))
 have FP := zaa (@fi_pos ws)
 have ENO := zaa (fun d nm => @zpx ps d nm)
 obtain ⟨vW, vP, rfl, h1, h2⟩ := h
 obtain ⟨aW, cW, rfl, _, _⟩ := h1.shape
 obtain ⟨aP, cP, rfl, _, _⟩ := h2.shape
 clear h1 h2 hr hs hT hE hF
 have CA : Hid (∀ w', Below (w.alloc (.cells #[.slice aW ws.length cW, .slice aP ps.length cP] 63)).heap.size (w.alloc (.cells #[.slice aW ws.length cW, .slice aP ps.length cP] 63)) w' → w'.cell? ⟨w.heap.size, 0, none⟩ = some (.slice aW ws.length cW) ∧ w'.cell? ⟨w.heap.size, 1, none⟩ = some (.slice aP ps.length cP)) := fun w' hb => by
  have : w'.heap[w.heap.size]? = some (.cells #[.slice aW ws.length cW, .slice aP ps.length cP] 63 (0, 0)) := (hb.block _ (by simp)).trans (zah rfl)
  exact ⟨(zac this).1, (zac this).2.1⟩
 have BW : Hid (Below w.heap.size w (w.alloc (.cells #[.slice aW ws.length cW, .slice aP ps.length cP] 63))) := (Below.refl _ _).alloc (Nat.le_refl _) _
 obtain ⟨x0, x1⟩ := CA.out _ (Below.refl _ _)
 generalize hmr : mkR ws ps s kind = res at *
 clear hmr
 obtain ⟨W, hW⟩ : ∃ W, W = w.alloc (.cells #[.slice aW ws.length cW, .slice aP ps.length cP] 63) := ⟨_, rfl⟩
 have RS : Hid (RdT (W.alloc (.cells #[.string s] 9)) (.slice (some ⟨W.heap.size, 0, none⟩) 1 1) [s]) := by
  refine ⟨rfl, _, _, rfl, ⟨Nat.le_refl _, fun e => by cases e⟩, fun _ => ⟨W.heap.size, 0, rfl, by simp, fun j hj => ?_⟩⟩
  have e0 := (zae (xs := [.string s]) (zah (w := W) (o := .cells #[.string s] 9) rfl) 0).1
  obtain rfl : j = 0 := by simp at hj; omega
  exact e0
 have hz : w.heap.size < W.heap.size := by rw [hW]; simp
 have BS : Hid (Below W.heap.size W (W.alloc (.cells #[.string s] 9))) := (Below.refl _ _).alloc (Nat.le_refl _) _
 have hWs : W.heap.size = w.heap.size + 1 := by rw [hW]; simp
 rw [hWs] at RS
 rw [← hW] at CA BW
 have hmm := @run_makeMap Tryz.prog
 go_enter Tryz.func201, Tryz.ntmps201
 go_wp2_with fail
 rw [← hW]
 clear hW x0 x1 hWs
 refine (LF.out _ _ (zab BW.out BS.out (by omega)) RS.out).mono ?_
 rintro e w1 ⟨rfl, hb1⟩
 have A1 := zaa (zab BS.out hb1 BS.out.size)
 have B1 := zaa (zab BW.out A1.out (by omega))
 clear hb1 BS RS LF
 by_cases c1 : 65536 < s.size
 ·rw [if_pos c1]
  rw [if_pos c1] at EL
  obtain rfl := EL.out
  go_wp2
  go_ret2
  exact zcb B1.out
 rw [if_neg c1]
 rw [if_neg c1] at EL
 cases hi : zax ws ps with
 | false =>
  rw [hi] at EL
  obtain rfl := EL.out
  go_wp2
  go_ret2
  exact zcb B1.out
 | true =>
 rw [if_pos rfl]
 rw [hi, if_pos rfl] at EL
 rw [hi] at LI
 have PE := PR.out c1 hi
 have PO2 := zaa (PO.out hi)
 obtain ⟨f1, f2⟩ := FR.out hi
 have LK2 := zaa (fun w1 hb => LK.out w1 hb hi)
 rw [PE] at ER
 clear PE PR PO FR LK hi c1
 by_cases c2 : 1 ≤ kind ∧ kind ≤ 2
 case neg =>
  rw [if_neg c2] at EL
  obtain rfl := EL.out
  have q1 : (kind != 1) = true := by rw [bne_iff_ne]; omega
  have q2 : (kind != 2) = true := by rw [bne_iff_ne]; omega
  clear c2 EL
  go_wp2
  go_ret2
  exact zcb B1.out
 rw [if_pos c2, EI.out] at EL
 clear EI
 have q : (kind != 1) = false ∨ (kind != 1) = true ∧ (kind != 2) = false := by
  rcases (show kind = 1 ∨ kind = 2 by omega) with rfl | rfl
  ·exact .inl rfl
  ·exact .inr ⟨rfl, rfl⟩
 clear c2
 have M1 : Hid (Mp (w1.alloc (.map #[] 0)) w1.heap.size (.map [])) := zrw
 have A1m := zaa (A1.out.alloc A1.out.size (.map #[] 0))
 have B1m := zaa (B1.out.alloc B1.out.size (.map #[] 0))
 have z1 : W.heap.size ≤ w1.heap.size := A1.out.size
 obtain ⟨x0, x1⟩ := CA.out _ A1m.out
 generalize hpr : paI ws ps s = pr at *
 clear hpr
 obtain ⟨pd, pn, pc⟩ := pr
 simp only at EL PO2 ER
 generalize nnR ws ps s = nn at *
 obtain ⟨⟨nd, nname, nch⟩, nc⟩ := nn
 simp only at LN
 generalize fiI ws = fi at *
 generalize feI ps = fe at *
 rw [show fpV true fi = zfy fi from rfl, show fpC true fi = zfi fi from rfl] at LI
 rcases q with q1 | ⟨q1, q2⟩
 all_goals
  go_wp2_with fail
  refine (LN.out _ _ _ B1m.out M1.out).mono ?_
  rintro e w2 ⟨rfl, -, hg2⟩
  have A2 := zaa (zdq A1m.out hg2 z1)
  have B2 := zaa (zab BW.out A2.out (by omega))
  have z2 : W.heap.size ≤ w2.heap.size := A2.out.size
  clear x0 x1
  clear hg2 LN M1 A1 B1 A1m B1m hmm
  have AX := zaa (A2.out.alloc A2.out.size (.cells #[.int .i64 nd, .string nname, .int .i64 nch] 180))
  have BX := zaa (B2.out.alloc B2.out.size (.cells #[.int .i64 nd, .string nname, .int .i64 nch] 180))
  obtain ⟨x0, x1⟩ := CA.out _ AX.out
  by_cases c : pc = 0
  case neg =>
   rw [if_neg c] at EL ER
   obtain rfl := EL.out
   have e2 := ER.out
   simp only [Prod.mk.injEq] at e2
   obtain ⟨-, rfl⟩ := e2
   have q : (nc != 0) = true := by rw [bne_iff_ne]; exact c
   clear c EL ER
   go_wp2
   go_ret2
   exact zcb BX.out
  rw [if_pos c] at EL ER
  subst c
  rw [EM.out] at ER
  rw [EN.out] at EL
  obtain ⟨p1, -, p3⟩ := PO2.out rfl
  have NM := zaa p3
  have EO := ENO.out pd pn
  clear PO2 p3 EM EN ENO
  cases he : zbb ps pd pn with
  | some k =>
   have e8 : 0 ≤ zkl ps pd pn := by rw [zht he]; omega
   rw [if_pos e8] at EL
   rw [he] at ER
   obtain rfl := EL.out
   have e2 := ER.out
   simp only [Prod.mk.injEq] at e2
   obtain ⟨-, rfl⟩ := e2
   clear e8 EL ER he EO
   go_wp2
   go_ret2
   exact zcb BX.out
  | none =>
  have e8 := EO.1 he
  rw [if_neg (by omega)] at EL
  rw [he] at ER
  have e2 := ER.out
  simp only [Prod.mk.injEq, Den.mk.injEq] at e2
  obtain ⟨⟨rfl, rfl, rfl⟩, rfl⟩ := e2
  clear e8 ER he EO
  go_wp2_with fail
  refine (LI.out _ BX.out).mono ?_
  rintro e w3 ⟨rfl, hb3⟩
  have V3 : Hid (w3.heap[w2.heap.size]? = some (.cells #[.int .i64 nd, .string nname, .int .i64 0] 180 (0, 0))) := (hb3.block _ (by simp)).trans (zah rfl)
  have A3 := zaa (zab AX.out hb3 AX.out.size)
  have B3 := zaa (zab BX.out hb3 BX.out.size)
  clear hb3 LI AX BX A2 B2 x0 x1
  obtain ⟨t0, t1, t2⟩ := zay V3.out
  have u2 := (zae (xs := [.int .i64 nd, .string nname, .int .i64 0]) V3.out 2).2
  have wz : w2.heap.size < w3.heap.size := (Array.getElem?_eq_some_iff.1 V3.out).1
  by_cases c2 : fi < 0
  ·rw [show zfy fi = 0 from if_pos c2, show zfi fi = 7 from if_pos c2]
   rw [if_pos c2] at EL
   obtain rfl := EL.out
   clear EL c2
   go_wp2
   go_ret2
   exact zcb (B3.out.setCell (by simp only; omega) _)
  rw [show zfy fi = fi from if_neg c2, show zfi fi = 0 from if_neg c2]
  rw [if_neg c2] at EL
  have fp := FP.out (by omega)
  have S := zaa (zvq (u := .int .i64 fi) t0 t1 t2)
  have A4 : Hid (Below W.heap.size W (w3.setCell ⟨w2.heap.size, 2, none⟩ (.int .i64 fi))) := A3.out.setCell (by simp only; omega) _
  have z4 : w3.heap.size ≤ (w3.setCell ⟨w2.heap.size, 2, none⟩ (.int .i64 fi)).heap.size := by simp [World.setCell]
  obtain ⟨x0, x1⟩ := CA.out _ A4.out
  go_wp2_with fail
  obtain ⟨w4, hw4⟩ : ∃ w4, w4 = w3.setCell ⟨w2.heap.size, 2, none⟩ (.int .i64 fi) := ⟨_, rfl⟩
  rw [← hw4]
  rw [← hw4] at S A4 z4 x0 x1
  clear hw4 t0 t1 t2 u2 A3 B3 V3
  have B4 := zaa (zab BW.out A4.out (by omega))
  refine (LK2.out _ B4.out).mono ?_
  rintro e w5 ⟨rfl, hb5⟩
  have S5 : Hid (∀ w', Below w5.heap.size w5 w' → w'.cell? ⟨w2.heap.size, 0, none⟩ = some (.int .i64 nd) ∧ w'.cell? ⟨w2.heap.size, 1, none⟩ = some (.string nname) ∧ w'.cell? ⟨w2.heap.size, 2, none⟩ = some (.int .i64 fi)) := fun w' hb => by
   have hb' := zab hb5 hb hb5.size
   exact ⟨(hb'.cell (p := ⟨w2.heap.size, 0, none⟩) (by simp only; omega)).trans S.out.1, (hb'.cell (p := ⟨w2.heap.size, 1, none⟩) (by simp only; omega)).trans S.out.2.1, (hb'.cell (p := ⟨w2.heap.size, 2, none⟩) (by simp only; omega)).trans S.out.2.2⟩
  have B5 := zaa (zab B4.out hb5 B4.out.size)
  clear hb5 LK2 x0 x1 S A4 B4 CA
  by_cases c3 : fe < 0
  ·rw [show zfy fe = 0 from if_pos c3, show zfi fe = 7 from if_pos c3]
   rw [if_pos c3] at EL
   obtain rfl := EL.out
   clear EL c3
   go_wp2
   go_ret2
   exact zcb B5.out
  rw [show zfy fe = fe from if_neg c3, show zfi fe = 0 from if_neg c3]
  rw [if_neg c3] at EL
  obtain ⟨d1, d2⟩ := du_ok (k := fe) (x := ⟨nd, nname, fi⟩) (by omega) (okB_new p1 NM.out (by omega))
  have LD2 := zaa (LD.out fe ⟨nd, nname, fi⟩ w5 B5.out (by show nname.size ≤ maxLen; have := (zcz NM.out).2.1; unfold maxLen; omega))
  rw [d1, d2, show (Den.mk nd nname fi).v = .agg #[.int .i64 nd, .string nname, .int .i64 fi] from rfl] at LD2
  have l3 : (enL fe ⟨nd, nname, fi⟩).length ≤ 3 := Nat.le_refl _
  have EU := zaa (show mkU fi fe kind nd nname = [⟨48 + 12 * fi, kind⟩, ⟨48 + 12 * fi + 2, 1⟩] ++ enL fe ⟨nd, nname, fi⟩ from rfl)
  generalize enL fe ⟨nd, nname, fi⟩ = L at *
  obtain ⟨s0, s1, s2⟩ := S5.out _ (Below.refl _ _)
  clear d1 d2 LD
  have LU := zaa (fun f x w1 hf => zcr fi f x w1 (by omega) hf)
  go_wp2_with fail
  refine LD2.out.mono ?_
  rintro e w6 ⟨v6, rfl, hr6, hb6⟩
  obtain ⟨-, aL, cL, hvL, -⟩ := hr6.rd
  subst hvL
  have R6 := zaa hr6.rd
  have B6 := zaa (zab B5.out hb6 B5.out.size)
  have S6 : Hid (∀ w', Below w6.heap.size w6 w' → w'.cell? ⟨w2.heap.size, 2, none⟩ = some (.int .i64 fi)) := fun w' hb => (S5.out _ (zab hb6 hb hb6.size)).2.2
  have y2 := S6.out _ (Below.refl _ _)
  clear hb6 hr6 LD2 s0 s1 s2 S5
  go_wp2_with fail
  go_region_held3 (fun w' => w'.cell? ⟨w2.heap.size, 2, none⟩ = some (.int .i64 fi))
   (exact S6.out _ (by repeat (first | with_reducible exact BF.out | with_reducible exact BE.out | with_reducible exact Below.refl _ _ | with_reducible refine Below.drew ?_ | with_reducible refine zsw ?_ _)))
   (first
    | (go_at_call 178; have BQ := BE; refine (LU.out _ _ _ (by omega)).mono ?_; rintro e wB ⟨rfl, hbB⟩; have BF : Hid (Below w6.heap.size w6 wB) := zab (by repeat (first | with_reducible exact BE.out | with_reducible refine Below.drew ?_)) hbB (by have := BE.out.size; simp <;> omega); clear hbB BQ)
    | (go_at_call 178; refine (LU.out _ _ _ (by omega)).mono ?_; rintro e wA ⟨rfl, hbA⟩; have BE : Hid (Below w6.heap.size w6 wA) := zab (by repeat (first | with_reducible exact Below.refl _ _ | with_reducible refine Below.drew ?_)) hbA (by simp); clear hbA))
  all_goals
   have B7 := zaa (zab B6.out BF.out B6.out.size)
   have R7 := zaa (Rd.below R6.out BF.out)
   have J7 : Hid (UpI w (wB.alloc (.cells #[.int .i64 (48 + 12 * fi), .int .i64 kind, .int .i64 (48 + 12 * fi + 2), .int .i64 1] 130)) (.slice (some ⟨wB.heap.size, 0, none⟩) 2 2) [⟨48 + 12 * fi, kind⟩, ⟨48 + 12 * fi + 2, 1⟩]) := ⟨World.ownsRow_lit wB _ 2 B7.out.size (by simp [maxLen]) rfl, B7.out.alloc B7.out.size _⟩
   have R8 : Hid (Rd (wB.alloc (.cells #[.int .i64 (48 + 12 * fi), .int .i64 kind, .int .i64 (48 + 12 * fi + 2), .int .i64 1] 130)) 2 (.slice aL L.length cL) L.length (ses L)) := Rd.below R7.out (zsw (Below.refl _ _) _)
   have z8 : w.heap.size ≤ (wB.alloc (.cells #[.int .i64 (48 + 12 * fi), .int .i64 kind, .int .i64 (48 + 12 * fi + 2), .int .i64 1] 130)).heap.size := J7.out.z
   clear R6 R7 B6 BF BE S6 y2 LU B7
   go_wp2_with (at_builtin; refine zag _ rfl (.tmp 71) (.tmp 72) 57 rfl w.heap.size 130 (.agg #[.int .i64 0, .int .i64 0]) 2 16 Tryz.underlying57 zff rfl (by decide) _ _ _ rfl J7.out.l _ _ _ rfl R8.out (zco _) (by simp [maxLen]; omega) (by simp; omega) z8 ?_)
   intro vN wN hownN hgrN
   have G := zaa (J7.out.grow L hownN hgrN)
   rw [← EU.out] at G
   obtain ⟨-, aN, cN, hvN, -⟩ := (zad hownN).rd
   subst hvN
   obtain rfl := EL.out
   clear hownN hgrN J7 R8 EL
   go_wp2
   go_ret2
   exact znq 0 G.out
end Go.Proofs.YtcilodgoognmnaaGreatDoor
