/- The entry of a path, and the name that a path asks for: by the program. -/
import Derived.Test.YtpgdpachomdfhaaGreatDoorPlB
import Derived.Test.YtpgdpachomdfhaaGreatDoorPcG
namespace Go.Proofs.YtpgdpachomdfhaaGreatDoor
open Go.RowKit Go.Maps

theorem paR_ok {ws : List Ino} {ps : List Den} {s : ByteArray} (h : (paR ws ps s).2.2 = 0) : imgB ws ps = true ∧ paR ws ps s = paI ws ps s := by
  unfold paR at h ⊢
  split at h
  · cases h
  · rename_i c
    rw [if_neg c]
    split at h
    · rename_i c1
      exact ⟨c1, if_pos c1⟩
    · cases h
/-- What entryOf answers; what newName answers. -/
def zeroD : Den := ⟨0, ⟨#[]⟩, 0⟩
def erN (ps : List Den) (d : Int) (nm : ByteArray) : Int × Int := match entAt ps d nm with | none => (0, 5) | some k => ((k : Int), 0)
def erR (ws : List Ino) (ps : List Den) (s : ByteArray) : Int × Int := if (paR ws ps s).2.2 = 0 then erN ps (paR ws ps s).1 (paR ws ps s).2.1 else (0, (paR ws ps s).2.2)
def nnN (ps : List Den) (d : Int) (nm : ByteArray) : Den × Int := match entAt ps d nm with | none => (⟨d, nm, 0⟩, 0) | some _ => (zeroD, 8)
def nnR (ws : List Ino) (ps : List Den) (s : ByteArray) : Den × Int := if (paR ws ps s).2.2 = 0 then nnN ps (paR ws ps s).1 (paR ws ps s).2.1 else (zeroD, (paR ws ps s).2.2)
/-- The names of the map behind turnTo. -/
theorem mp_look {ws : List Ino} {ps : List Den} (h : imgB ws ps = true) (d : Int) (nm : ByteArray) :
    (entAt ps d nm = none ∧ Maps.has (mpD ps d ps.length) (keyB nm) = false) ∨ (∃ k : Nat, entAt ps d nm = some k ∧ Maps.has (mpD ps d ps.length) (keyB nm) = true ∧ (mpD ps d ps.length).atKey (keyB nm) (.lit (.int .i64 0)) = .lit (.int .i64 (k : Int))) := by
  obtain ⟨A, B⟩ := mp_find h d nm (.lit (.int .i64 0))
  cases e : entAt ps d nm with
  | none => exact .inl ⟨rfl, A e⟩
  | some k => exact .inr ⟨k, rfl, B k e⟩

theorem grown_set {w w' : World} {b : Nat} (h : w.grownBy w' (some b)) {a : Addr} (ha : w.heap.size ≤ a.block) (u : Value) : w.grownBy (w'.setCell a u) (some b) :=
  ⟨h.os, h.tape, h.output, by simpa [World.setCell] using h.size, fun k hk hn => (Below.heap_setCell _ _ _ _ (by omega)).trans (h.block k hk hn)⟩
theorem Mp.set {w : World} {b : Nat} {D : DataW Unit} (h : Mp w b D) {a : Addr} (ha : b ≠ a.block) (u : Value) : Mp (w.setCell a u) b D := World.ownsMap.setCell h ha u

set_option maxRecDepth 100000 in
set_option maxHeartbeats 4000000 in
theorem entryOf_any (v : Value) (ws : List Ino) (ps : List Den) (s : ByteArray) (b : Nat) (D : DataW Unit) (w : World) (h : RdIm w v ws ps) (hw : ws.length ≤ 1048576) (hp : ps.length ≤ 1048576) (hT : TS w) (hE : ED w) (hF : FD w) (hr : ∀ k (h : k < ws.length), ws[k].R) (hs : ∀ k (h : k < ps.length), ps[k].name.size ≤ maxLen) (hm : Mp w b D) :
    Calls Tryz.prog 41 #[.map (some b), v, .string s] w fun e w' => e = .returned (.tuple #[.int .i64 (erR ws ps s).1, .int .i64 (erR ws ps s).2]) ∧ (∃ D', Mp w' b D') ∧ w.grownBy w' (some b) := by
  have LP := hideIt (fun w1 (hb : Below w.heap.size w w1) => implParent_any v ws ps s w1 (h.below hb) hw hp (hT.below hb) (hE.below hb) (hF.below hb) hr hs)
  have LT := hideIt (fun d w1 (hb : Below w.heap.size w w1) (hi : imgB ws ps = true) => turnTo_any v ws ps d b D w1 (h.below hb) hi (hm.below hb) (hF.below hb))
  have EL := hideIt (show erR ws ps s = if (paR ws ps s).2.2 = 0 then erN ps (paR ws ps s).1 (paR ws ps s).2.1 else (0, (paR ws ps s).2.2) from rfl)
  have OKP := hideIt (fun q => paR_ok (ws := ws) (ps := ps) (s := s) q)
  have NMP := hideIt (fun (hi : imgB ws ps = true) (c : (paI ws ps s).2.2 = 0) => (paI_ok hi c).2.2)
  have M := hideIt hm
  obtain ⟨vW, vP, rfl, h1, h2⟩ := h
  obtain ⟨aW, cW, rfl, _, _⟩ := h1.shape
  obtain ⟨aP, cP, rfl, _, _⟩ := h2.shape
  clear h1 h2 hr hs hT hE hF hm
  have CA : Hid (∀ w', Below (w.alloc (.cells #[.slice aW ws.length cW, .slice aP ps.length cP] 33)).heap.size (w.alloc (.cells #[.slice aW ws.length cW, .slice aP ps.length cP] 33)) w' → w'.cell? ⟨w.heap.size, 0, none⟩ = some (.slice aW ws.length cW) ∧ w'.cell? ⟨w.heap.size, 1, none⟩ = some (.slice aP ps.length cP)) := fun w' hb => by
    have : w'.heap[w.heap.size]? = some (.cells #[.slice aW ws.length cW, .slice aP ps.length cP] 33 (0, 0)) := (hb.block _ (by simp)).trans (at_new rfl)
    exact ⟨(two_cells this).1, (two_cells this).2.1⟩
  have BW : Hid (Below w.heap.size w (w.alloc (.cells #[.slice aW ws.length cW, .slice aP ps.length cP] 33))) := (Below.refl _ _).alloc (Nat.le_refl _) _
  obtain ⟨x0, x1⟩ := CA.out _ (Below.refl _ _)
  generalize hpr : paR ws ps s = pr at *
  have HPR := hideIt hpr
  clear hpr
  generalize erR ws ps s = res at *
  obtain ⟨pd, pn, pc⟩ := pr
  simp only at EL OKP LP
  go_enter Tryz.func41, Tryz.ntmps41
  go_wp2_with fail
  refine (LP.out _ BW.out).mono ?_
  rintro e w1 ⟨rfl, hb1⟩
  have B1 := hideIt (below_trans BW.out hb1 BW.out.size)
  clear x0 x1
  obtain ⟨x0, x1⟩ := CA.out _ hb1
  clear hb1 LP CA
  by_cases c : pc = 0
  case neg =>
    rw [if_neg c] at EL
    obtain rfl := EL.out
    have q : (pc != 0) = true := by rw [bne_iff_ne]; exact c
    clear EL c OKP NMP LT x0 x1
    go_wp2
    go_ret2
    exact ⟨rfl, ⟨D, M.out.below B1.out⟩, grownB B1.out _⟩
  rw [if_pos c] at EL
  subst c
  obtain ⟨hi, hpp⟩ := OKP.out rfl
  have NM : Hid (nmB pn = true) := by
    have := NMP.out hi (by rw [← hpp])
    rw [← hpp] at this
    exact this
  have key : Hid (keyOf Tryz.prog 9 (.string pn) = some (keyB pn)) := WideMaps.keyOf_string_mk strU (by have := (nmB_true NM.out).2.1; unfold maxLen; omega)
  have LT2 := hideIt (fun w1 hb => LT.out pd w1 hb hi)
  have ML := mp_look hi pd pn
  have EN := hideIt (show erN ps pd pn = match entAt ps pd pn with | none => (0, 5) | some k => ((k : Int), 0) from rfl)
  rw [EN.out] at EL
  clear OKP NMP LT hpp HPR hi EN NM
  generalize mpD ps pd ps.length = D2 at *
  go_wp2_with fail
  refine (LT2.out _ B1.out).mono ?_
  rintro e w2 ⟨rfl, hm2, hg2⟩
  have M2 := hideIt hm2
  have G2 := hideIt ((grownB B1.out (some b)).trans hg2)
  clear hm2 hg2 LT2 x0 x1
  rcases ML with ⟨e1, e2⟩ | ⟨k, e1, e2, e3⟩
  · rw [e1] at EL
    obtain rfl := EL.out
    have E2 := hideIt e2
    clear EL e1 e2
    go_wp2_with (at_lookup; refine wpList_lookup_own_ok_int _ rfl _ _ 52 rfl 9 3 .i64 strK mapU intU (intZ _) b 4096 D2 rfl M2.out _ _ rfl key.out ?_)
    intro c hat hwc
    rw [E2.out]
    clear hat hwc
    go_wp2
    go_ret2
    exact ⟨rfl, ⟨D2, M2.out⟩, G2.out⟩
  · rw [e1] at EL
    obtain rfl := EL.out
    have E2 := hideIt e2
    have E3 := hideIt e3
    clear EL e1 e2 e3
    go_wp2_with (at_lookup; refine wpList_lookup_own_ok_int _ rfl _ _ 52 rfl 9 3 .i64 strK mapU intU (intZ _) b 4096 D2 rfl M2.out _ _ rfl key.out ?_)
    intro c hat hwc
    rw [E2.out]
    have ck : c = (k : Int) := by
      rw [E3.out] at hat
      injection hat with hat
      injection hat with _ hat
      exact hat.symm
    subst ck
    clear hat hwc E3
    go_wp2
    go_ret2
    exact ⟨rfl, ⟨D2, M2.out⟩, G2.out⟩

set_option maxRecDepth 100000 in
set_option maxHeartbeats 4000000 in
theorem newName_any (v : Value) (ws : List Ino) (ps : List Den) (s : ByteArray) (b : Nat) (D : DataW Unit) (w : World) (h : RdIm w v ws ps) (hw : ws.length ≤ 1048576) (hp : ps.length ≤ 1048576) (hT : TS w) (hE : ED w) (hF : FD w) (hr : ∀ k (h : k < ws.length), ws[k].R) (hs : ∀ k (h : k < ps.length), ps[k].name.size ≤ maxLen) (hm : Mp w b D) :
    Calls Tryz.prog 30 #[.map (some b), v, .string s] w fun e w' => e = .returned (.tuple #[.agg #[.int .i64 (nnR ws ps s).1.dir, .string (nnR ws ps s).1.name, .int .i64 (nnR ws ps s).1.child], .int .i64 (nnR ws ps s).2]) ∧ (∃ D', Mp w' b D') ∧ w.grownBy w' (some b) := by
  have LP := hideIt (fun w1 (hb : Below w.heap.size w w1) => implParent_any v ws ps s w1 (h.below hb) hw hp (hT.below hb) (hE.below hb) (hF.below hb) hr hs)
  have LT := hideIt (fun d w1 (hb : Below w.heap.size w w1) (hi : imgB ws ps = true) => turnTo_any v ws ps d b D w1 (h.below hb) hi (hm.below hb) (hF.below hb))
  have EL := hideIt (show nnR ws ps s = if (paR ws ps s).2.2 = 0 then nnN ps (paR ws ps s).1 (paR ws ps s).2.1 else (zeroD, (paR ws ps s).2.2) from rfl)
  have OKP := hideIt (fun q => paR_ok (ws := ws) (ps := ps) (s := s) q)
  have NMP := hideIt (fun (hi : imgB ws ps = true) (c : (paI ws ps s).2.2 = 0) => (paI_ok hi c).2.2)
  have M := hideIt hm
  have bl := hm.lt
  obtain ⟨vW, vP, rfl, h1, h2⟩ := h
  obtain ⟨aW, cW, rfl, _, _⟩ := h1.shape
  obtain ⟨aP, cP, rfl, _, _⟩ := h2.shape
  clear h1 h2 hr hs hT hE hF hm
  obtain ⟨W, hW⟩ : ∃ W, W = (w.alloc (.cells #[.slice aW ws.length cW, .slice aP ps.length cP] 33)).alloc (.cells #[.int .i64 0, .string ⟨#[]⟩, .int .i64 0] 54) := ⟨_, rfl⟩
  have CA : Hid (∀ w', Below W.heap.size W w' → w'.cell? ⟨w.heap.size, 0, none⟩ = some (.slice aW ws.length cW) ∧ w'.cell? ⟨w.heap.size, 1, none⟩ = some (.slice aP ps.length cP)) := fun w' hb => by
    have : w'.heap[w.heap.size]? = some (.cells #[.slice aW ws.length cW, .slice aP ps.length cP] 33 (0, 0)) := (hb.block _ (by rw [hW]; simp; omega)).trans (by rw [hW]; exact at_old (at_new rfl))
    exact ⟨(two_cells this).1, (two_cells this).2.1⟩
  have CB : Hid (W.heap[w.heap.size + 1]? = some (.cells #[.int .i64 0, .string ⟨#[]⟩, .int .i64 0] 54 (0, 0))) := by
    unfold Hid
    rw [hW]
    exact at_new (by simp)
  have BW : Hid (Below w.heap.size w W) := by rw [hW]; exact ((Below.refl _ _).alloc (Nat.le_refl _) _).alloc (by simp) _
  have hWz : W.heap.size = w.heap.size + 2 := by rw [hW]; simp
  have hWz2 : w.heap.size + 1 < W.heap.size := by omega
  obtain ⟨x0, x1⟩ := CA.out _ (Below.refl _ _)
  generalize hpr : paR ws ps s = pr at *
  have HPR := hideIt hpr
  clear hpr hWz
  generalize nnR ws ps s = res at *
  obtain ⟨pd, pn, pc⟩ := pr
  simp only at EL OKP LP
  go_enter Tryz.func30, Tryz.ntmps30
  go_wp2_with fail
  rw [← hW]
  clear hW
  refine (LP.out _ BW.out).mono ?_
  rintro e w1 ⟨rfl, hb1⟩
  have B1 := hideIt (below_trans BW.out hb1 BW.out.size)
  have V1 : Hid (w1.heap[w.heap.size + 1]? = some (.cells #[.int .i64 0, .string ⟨#[]⟩, .int .i64 0] 54 (0, 0))) := (hb1.block _ hWz2).trans CB.out
  clear x0 x1
  obtain ⟨x0, x1⟩ := CA.out _ hb1
  clear hb1 LP CA CB
  by_cases c : pc = 0
  case neg =>
    rw [if_neg c] at EL
    obtain rfl := EL.out
    have q : (pc != 0) = true := by rw [bne_iff_ne]; exact c
    clear EL c OKP NMP LT x0 x1
    obtain ⟨t0, t1, t2⟩ := three_cells V1.out
    have u0 := (eight_at (xs := [.int .i64 0, .string ⟨#[]⟩, .int .i64 0]) V1.out 0).2
    have u1 := (eight_at (xs := [.int .i64 0, .string ⟨#[]⟩, .int .i64 0]) V1.out 1).2
    have u2 := (eight_at (xs := [.int .i64 0, .string ⟨#[]⟩, .int .i64 0]) V1.out 2).2
    go_wp2
    refine bodyPost_ret (v := .tuple #[.agg #[.int .i64 0, .string ⟨#[]⟩, .int .i64 0], .int .i64 pc]) (by simp [results, Tryz.results30, go_sem, t0, t1, t2]) rfl ⟨rfl, ⟨D, ?_⟩, ?_⟩
    · repeat (first | exact M.out.below B1.out | refine Mp.set ?_ (by simp only; omega) _)
    · repeat (first | exact grownB B1.out _ | refine grown_set ?_ (by simp only; omega) _)
  rw [if_pos c] at EL
  subst c
  obtain ⟨hi, hpp⟩ := OKP.out rfl
  have NM : Hid (nmB pn = true) := by
    have := NMP.out hi (by rw [← hpp])
    rw [← hpp] at this
    exact this
  have key : Hid (keyOf Tryz.prog 9 (.string pn) = some (keyB pn)) := WideMaps.keyOf_string_mk strU (by have := (nmB_true NM.out).2.1; unfold maxLen; omega)
  have LT2 := hideIt (fun w1 hb => LT.out pd w1 hb hi)
  have ML := mp_look hi pd pn
  have EN := hideIt (show nnN ps pd pn = match entAt ps pd pn with | none => (⟨pd, pn, 0⟩, 0) | some _ => (zeroD, 8) from rfl)
  rw [EN.out] at EL
  clear OKP NMP LT hpp HPR hi EN NM
  generalize mpD ps pd ps.length = D2 at *
  go_wp2_with fail
  refine (LT2.out _ B1.out).mono ?_
  rintro e w2 ⟨rfl, hm2, hg2⟩
  have M2 := hideIt hm2
  have G2 := hideIt ((grownB B1.out (some b)).trans hg2)
  have V2 : Hid (w2.heap[w.heap.size + 1]? = some (.cells #[.int .i64 0, .string ⟨#[]⟩, .int .i64 0] 54 (0, 0))) := (hg2.block _ ((Array.getElem?_eq_some_iff.1 V1.out).1) (by intro e; injection e with e; omega)).trans V1.out
  obtain ⟨t0, t1, t2⟩ := three_cells V2.out
  have u0 := (eight_at (xs := [.int .i64 0, .string ⟨#[]⟩, .int .i64 0]) V2.out 0).2
  have u1 := (eight_at (xs := [.int .i64 0, .string ⟨#[]⟩, .int .i64 0]) V2.out 1).2
  have u2 := (eight_at (xs := [.int .i64 0, .string ⟨#[]⟩, .int .i64 0]) V2.out 2).2
  clear hm2 hg2 LT2 x0 x1
  rcases ML with ⟨e1, e2⟩ | ⟨k, e1, e2, e3⟩
  · rw [e1] at EL
    obtain rfl := EL.out
    have E2 := hideIt e2
    clear EL e1 e2
    go_wp2_with (at_lookup; refine wpList_lookup_own_ok_int _ rfl _ _ 52 rfl 9 3 .i64 strK mapU intU (intZ _) b 4096 D2 rfl M2.out _ _ rfl key.out ?_)
    intro c hat hwc
    rw [E2.out]
    clear hat hwc
    go_wp2
    refine bodyPost_ret (v := .tuple #[.agg #[.int .i64 pd, .string pn, .int .i64 0], .int .i64 0]) (by simp [results, Tryz.results30, go_sem, t0, t1, t2]) rfl ⟨rfl, ⟨D2, ?_⟩, ?_⟩
    · repeat (first | exact M2.out | refine Mp.set ?_ (by simp only; omega) _)
    · repeat (first | exact G2.out | refine grown_set ?_ (by simp only; omega) _)
  · rw [e1] at EL
    obtain rfl := EL.out
    have E2 := hideIt e2
    have E3 := hideIt e3
    clear EL e1 e2 e3
    go_wp2_with (at_lookup; refine wpList_lookup_own_ok_int _ rfl _ _ 52 rfl 9 3 .i64 strK mapU intU (intZ _) b 4096 D2 rfl M2.out _ _ rfl key.out ?_)
    intro c hat hwc
    rw [E2.out]
    clear hat hwc E3
    go_wp2
    refine bodyPost_ret (v := .tuple #[.agg #[.int .i64 0, .string ⟨#[]⟩, .int .i64 0], .int .i64 8]) (by simp [results, Tryz.results30, go_sem, t0, t1, t2]) rfl ⟨rfl, ⟨D2, ?_⟩, ?_⟩
    · repeat (first | exact M2.out | refine Mp.set ?_ (by simp only; omega) _)
    · repeat (first | exact G2.out | refine grown_set ?_ (by simp only; omega) _)
end Go.Proofs.YtpgdpachomdfhaaGreatDoor
