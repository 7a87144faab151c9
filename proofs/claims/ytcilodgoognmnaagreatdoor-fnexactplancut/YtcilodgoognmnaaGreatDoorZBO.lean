/- Several texts laid together: PcF, PlB. -/
import Derived.Test.YtcilodgoognmnaaGreatDoorPcE
import Derived.Test.YtcilodgoognmnaaGreatDoorZBI
import Derived.Test.YtcilodgoognmnaaGreatDoorZAP
import Derived.Maps.OwnSet
import Derived.Deep.LoopGhost
namespace Go.Proofs.YtcilodgoognmnaaGreatDoor
open Go.RowKit

/-- What splitIn answers. -/
def siC (ws : List Ino) (ps : List Den) (s : ByteArray) : Int := if 65536 < s.size then 2 else if imgB ws ps = true then spC s else 1
def siL (ws : List Ino) (ps : List Den) (s : ByteArray) : List ByteArray := if imgB ws ps = true then spR s else []
theorem spL_short {s : ByteArray} : ∀ k (h : k < (spL s).length), 1 ≤ (spL s)[k].size := by
  intro k hk
  have hm : (spL s)[k] ∈ spL s := List.getElem_mem hk
  generalize (spL s)[k] = x at hm
  unfold spL at hm
  split at hm
  · cases hm
  · split at hm
    · rename_i h
      unfold spN at h
      simp only [Bool.and_eq_true, List.all_eq_true] at h
      exact (nmB_true (h.2.2 x hm)).1
    · cases hm
theorem si_lk (ws : List Ino) (ps : List Den) (s : ByteArray) : (¬ siC ws ps s = 0 → lkR ws ps s = (0, siC ws ps s) ∧ paR ws ps s = (0, ⟨#[]⟩, siC ws ps s)) ∧ (siC ws ps s = 0 → imgB ws ps = true ∧ siL ws ps s = spL s ∧ lkR ws ps s = wk ws ps 0 (spL s) ∧ paR ws ps s = paL ws ps (spL s)) := by
  unfold siC lkR paR siL
  by_cases c1 : 65536 < s.size
  · rw [if_pos c1, if_pos c1, if_pos c1]
    exact ⟨fun _ => ⟨rfl, rfl⟩, fun h => by cases h⟩
  · rw [if_neg c1, if_neg c1, if_neg c1]
    by_cases c2 : imgB ws ps = true
    · rw [if_pos c2, if_pos c2, if_pos c2, if_pos c2]
      obtain ⟨X1, X2⟩ := sp_short c1
      unfold lkI paI
      cases c3 : spB s with
      | false =>
        obtain ⟨e1, e2⟩ := X2 c3
        rw [e1, e2]
        exact ⟨fun _ => ⟨rfl, rfl⟩, fun h => by cases h⟩
      | true =>
        obtain ⟨e1, e2⟩ := X1 c3
        rw [e1, e2]
        exact ⟨fun h => absurd rfl h, fun _ => ⟨c2, rfl, rfl, rfl⟩⟩
    · rw [if_neg c2, if_neg c2, if_neg c2, if_neg c2]
      exact ⟨fun _ => ⟨rfl, rfl⟩, fun h => by cases h⟩

set_option maxRecDepth 100000 in
set_option maxHeartbeats 4000000 in
theorem splitIn_any (v : Value) (ws : List Ino) (ps : List Den) (s : ByteArray) (w : World) (h : RdIm w v ws ps) (hw : ws.length ≤ 1048576) (hp : ps.length ≤ 1048576) (hT : TS w) (hE : ED w) (hF : FD w) (hr : ∀ k (h : k < ws.length), ws[k].R) (hs : ∀ k (h : k < ps.length), ps[k].name.size ≤ maxLen) :
    Calls Tryz.prog 156 #[v, .string s] w fun e w' => ∃ v', e = .returned (.tuple #[v', .int .i64 (siC ws ps s)]) ∧ RdT w' v' (siL ws ps s) ∧ Below w.heap.size w w' := by
  have HR := hideIt h
  have LI := hideIt (fun w1 (hb : Below w.heap.size w w1) => implImageOK_any v ws ps w1 (h.below hb) hw hp (hT.below hb) (hE.below hb) (hF.below hb) hr hs)
  have LS := hideIt (fun w1 => implSplitPath_any s w1)
  have EC := hideIt (show siC ws ps s = if 65536 < s.size then 2 else if imgB ws ps = true then spC s else 1 from rfl)
  have EL := hideIt (show siL ws ps s = if imgB ws ps = true then spR s else [] from rfl)
  have XL := hideIt (fun h => sp_long (s := s) h)
  have X0 : Hid (¬ 65536 < s.size → ¬ spC s = 2) := fun h => by
    obtain ⟨X1, X2⟩ := sp_short h
    cases c : spB s
    · rw [(X2 c).1]; decide
    · rw [(X1 c).1]; decide
  obtain ⟨vW, vP, rfl, h1, h2⟩ := h
  obtain ⟨aW, cW, rfl, _, _⟩ := h1.shape
  obtain ⟨aP, cP, rfl, _, _⟩ := h2.shape
  clear h1 h2 hr hs hT hE hF
  have CA : Hid (∀ w', Below (w.alloc (.cells #[.slice aW ws.length cW, .slice aP ps.length cP] 63)).heap.size (w.alloc (.cells #[.slice aW ws.length cW, .slice aP ps.length cP] 63)) w' → w'.cell? ⟨w.heap.size, 0, none⟩ = some (.slice aW ws.length cW) ∧ w'.cell? ⟨w.heap.size, 1, none⟩ = some (.slice aP ps.length cP)) := fun w' hb => by
    have : w'.heap[w.heap.size]? = some (.cells #[.slice aW ws.length cW, .slice aP ps.length cP] 63 (0, 0)) := (hb.block _ (by simp)).trans (at_new rfl)
    exact ⟨(two_cells this).1, (two_cells this).2.1⟩
  have BW : Hid (Below w.heap.size w (w.alloc (.cells #[.slice aW ws.length cW, .slice aP ps.length cP] 63))) := (Below.refl _ _).alloc (Nat.le_refl _) _
  generalize siC ws ps s = sc at *
  generalize siL ws ps s = sl at *
  by_cases c1 : 65536 < s.size
  · obtain ⟨e1, e2⟩ := XL.out c1
    rw [if_pos c1] at EC
    have E2 : Hid (sl = []) := by unfold Hid; rw [EL.out, e2]; split <;> rfl
    rw [e1, e2] at LS
    obtain rfl := EC.out
    obtain rfl := E2.out
    clear EC EL E2 c1 e1 e2
    go_enter Tryz.func156, Tryz.ntmps156
    go_wp2_with fail
    refine (LS.out _).mono ?_
    rintro e w1 ⟨v1, rfl, hr1, hb1⟩
    have B1 := hideIt (below_trans BW.out hb1 BW.out.size)
    have R1 : Hid (RdT w1 v1 []) := hr1.rd
    clear hr1 hb1
    go_wp2
    go_ret2
    exact ⟨_, rfl, R1.out, B1.out⟩
  have q2 : Hid ((spC s != 2) = true) := by unfold Hid; rw [bne_iff_ne]; exact X0.out c1
  rw [if_neg c1] at EC
  clear XL X0 c1
  generalize spC s = cc at *
  generalize spR s = rr at *
  have q3 := q2.out
  cases c3 : imgB ws ps with
  | false =>
    rw [c3] at EC EL LI
    obtain rfl := EC.out
    obtain rfl := EL.out
    clear EC EL c3
    go_enter Tryz.func156, Tryz.ntmps156
    go_wp2_with fail
    refine (LS.out _).mono ?_
    rintro e w1 ⟨v1, rfl, hr1, hb1⟩
    have B1 := hideIt (below_trans BW.out hb1 BW.out.size)
    obtain ⟨x0, x1⟩ := CA.out _ hb1
    clear hr1 hb1
    go_wp2_with fail
    refine (LI.out _ B1.out).mono ?_
    rintro e w2 ⟨rfl, hb2⟩
    have B2 := hideIt (below_trans B1.out hb2 B1.out.size)
    clear hb2 x0 x1
    go_wp2
    go_ret2
    exact ⟨_, rfl, rdt_empty _, B2.out⟩
  | true =>
    rw [c3] at EC EL LI
    obtain rfl : sc = cc := EC.out
    obtain rfl : sl = rr := EL.out
    clear EC EL c3
    go_enter Tryz.func156, Tryz.ntmps156
    go_wp2_with fail
    refine (LS.out _).mono ?_
    rintro e w1 ⟨v1, rfl, hr1, hb1⟩
    have B1 := hideIt (below_trans BW.out hb1 BW.out.size)
    have R1 : Hid (RdT w1 v1 sl) := hr1.rd
    obtain ⟨x0, x1⟩ := CA.out _ hb1
    clear hr1 hb1
    go_wp2_with fail
    refine (LI.out _ B1.out).mono ?_
    rintro e w2 ⟨rfl, hb2⟩
    have B2 := hideIt (below_trans B1.out hb2 B1.out.size)
    have R2 : Hid (RdT w2 v1 sl) := Rd.below R1.out hb2
    clear hb2 x0 x1
    go_wp2
    go_ret2
    exact ⟨_, rfl, R2.out, B2.out⟩

set_option maxRecDepth 100000 in
set_option maxHeartbeats 4000000 in
theorem implLookup_any (v : Value) (ws : List Ino) (ps : List Den) (s : ByteArray) (w : World) (h : RdIm w v ws ps) (hw : ws.length ≤ 1048576) (hp : ps.length ≤ 1048576) (hT : TS w) (hE : ED w) (hF : FD w) (hr : ∀ k (h : k < ws.length), ws[k].R) (hs : ∀ k (h : k < ps.length), ps[k].name.size ≤ maxLen) :
    Calls Tryz.prog 96 #[v, .string s] w fun e w' => e = .returned (.tuple #[.int .i64 (lkR ws ps s).1, .int .i64 (lkR ws ps s).2]) ∧ Below w.heap.size w w' := by
  have HR := hideIt h
  have LS := hideIt (fun w1 (hb : Below w.heap.size w w1) => splitIn_any v ws ps s w1 (h.below hb) hw hp (hT.below hb) (hE.below hb) (hF.below hb) hr hs)
  have LG := hideIt (fun vL w1 h hL hi => goDown_any v vL ws ps (spL s) w1 h hL hi (by have := @spL_len s; omega) spL_short)
  obtain ⟨NO, YES⟩ := si_lk ws ps s
  have NO := hideIt NO
  have YES := hideIt YES
  obtain ⟨vW, vP, rfl, h1, h2⟩ := h
  obtain ⟨aW, cW, rfl, _, _⟩ := h1.shape
  obtain ⟨aP, cP, rfl, _, _⟩ := h2.shape
  clear h1 h2 hr hs hT hE hF
  have CA : Hid (∀ w', Below (w.alloc (.cells #[.slice aW ws.length cW, .slice aP ps.length cP] 63)).heap.size (w.alloc (.cells #[.slice aW ws.length cW, .slice aP ps.length cP] 63)) w' → w'.cell? ⟨w.heap.size, 0, none⟩ = some (.slice aW ws.length cW) ∧ w'.cell? ⟨w.heap.size, 1, none⟩ = some (.slice aP ps.length cP)) := fun w' hb => by
    have : w'.heap[w.heap.size]? = some (.cells #[.slice aW ws.length cW, .slice aP ps.length cP] 63 (0, 0)) := (hb.block _ (by simp)).trans (at_new rfl)
    exact ⟨(two_cells this).1, (two_cells this).2.1⟩
  have BW : Hid (Below w.heap.size w (w.alloc (.cells #[.slice aW ws.length cW, .slice aP ps.length cP] 63))) := (Below.refl _ _).alloc (Nat.le_refl _) _
  obtain ⟨x0, x1⟩ := CA.out _ (Below.refl _ _)
  generalize siC ws ps s = sc at *
  generalize siL ws ps s = sl at *
  generalize lkR ws ps s = res at *
  generalize paR ws ps s = res2 at *
  by_cases c : sc = 0
  · obtain ⟨c1, rfl, rfl, _⟩ := YES.out c
    have C1 := hideIt c1
    subst c
    clear NO YES c1
    generalize wk ws ps 0 (spL s) = r1 at *
    go_enter Tryz.func96, Tryz.ntmps96
    go_wp2_with fail
    refine (LS.out _ BW.out).mono ?_
    rintro e w1 ⟨v1, rfl, hr1, hb1⟩
    have B1 := hideIt (below_trans BW.out hb1 BW.out.size)
    have R1 := hideIt hr1
    clear x0 x1
    obtain ⟨x0, x1⟩ := CA.out _ hb1
    clear hr1 hb1
    go_wp2_with fail
    refine (LG.out _ _ (HR.out.below B1.out) R1.out C1.out).mono ?_
    rintro e w2 ⟨rfl, hb2⟩
    have B2 := hideIt (below_trans B1.out hb2 B1.out.size)
    clear hb2 x0 x1
    go_wp2
    go_ret2
    exact ⟨rfl, B2.out⟩
  · obtain ⟨rfl, _⟩ := NO.out c
    have q : (sc != 0) = true := by rw [bne_iff_ne]; exact c
    clear NO YES c
    go_enter Tryz.func96, Tryz.ntmps96
    go_wp2_with fail
    refine (LS.out _ BW.out).mono ?_
    rintro e w1 ⟨v1, rfl, hr1, hb1⟩
    have B1 := hideIt (below_trans BW.out hb1 BW.out.size)
    clear hr1 hb1 x0 x1
    go_wp2
    go_ret2
    exact ⟨rfl, B1.out⟩
end Go.Proofs.YtcilodgoognmnaaGreatDoor

namespace Go.Proofs.YtcilodgoognmnaaGreatDoor
open Go.RowKit Go.Maps Go.MapKept Go.ChangeMaps Go.WideShapes
open Go.WideElems (Fit rd rg pl rd_val elemAt)

/-- A block is the map that reads as D. -/
def Mp (w : World) (b : Nat) (D : DataW Unit) : Prop := w.ownsMap Tryz.prog 9 (plainElem Tryz.prog 3) b 4096 D
theorem Mp.lt {w : World} {b : Nat} {D : DataW Unit} (h : Mp w b D) : b < w.heap.size := World.ownsMap.lt h
theorem Mp.below {w w' : World} {b : Nat} {D : DataW Unit} (h : Mp w b D) (hb : Below w.heap.size w w') : Mp w' b D := by
  have hl := h.lt
  obtain ⟨es, cl, q, r⟩ := h
  exact ⟨es, cl, (hb.block b hl).trans q, r⟩
theorem Mp.neg {w : World} {b : Nat} {D : DataW Unit} (h : Mp w b D) {g : Nat} {cs : Array Value} {t : TypeId} {fr} (hc : w.heap[g]? = some (.cells cs t fr)) : some g ≠ some b := by
  obtain ⟨es, cl, q, _⟩ := h
  intro e
  injection e with e
  subst e
  rw [q] at hc
  cases hc
end Go.Proofs.YtcilodgoognmnaaGreatDoor
