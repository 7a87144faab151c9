/- Several texts laid together: TrL, PlB, LastW, BlkReadI. -/
import Derived.Test.YtipklbnfobckaaaGreatDoorZBO
import Derived.Test.YtipklbnfobckaaaGreatDoorZAY
import Derived.Test.YtipklbnfobckaaaGreatDoorZAL
import Derived.Maps.OwnSet
import Derived.Deep.LoopGhost
import Derived.Test.YtipklbnfobckaaaGreatDoorZAG
namespace Go.Proofs.YtipklbnfobckaaaGreatDoor
open Go.RowKit

theorem pc_ways (ns : List Ino) (ds : List Den) (hs : List Int) (t : Int) (hot : Bool) : (¬ hfI hs = 0 ∧ pcR ns ds hs t hot = (0, 0, hfI hs)) ∨ (hfI hs = 0 ∧ zdm ns ds = false ∧ pcR ns ds hs t hot = (0, 0, 1)) ∨ (hfI hs = 0 ∧ zdm ns ds = true ∧ zcn hs = true) := by
 rcases hf_ways hs with ⟨c1, e1⟩ | ⟨c1, c2, e1⟩ | ⟨c1, c2, e1⟩
 ·refine .inl ⟨by omega, ?_⟩
  unfold pcR
  rw [if_pos c1, e1]
 ·refine .inl ⟨by omega, ?_⟩
  unfold pcR pcI
  rw [if_neg c1, if_neg (fun q => by rw [c2] at q; cases q.2), e1]
 ·cases hi : zdm ns ds with
  | false =>
   refine .inr (.inl ⟨e1, rfl, ?_⟩)
   unfold pcR pcI
   rw [if_neg c1, hi, if_neg (fun q => by cases q.1)]
  | true => exact .inr (.inr ⟨e1, rfl, c2⟩)

set_option maxRecDepth 100000 in
set_option maxHeartbeats 8000000 in
theorem zsz (v vh : Value) (ns : List Ino) (ds : List Den) (hs : List Int) (w : World) (h : RdIm w v ns ds) (hw : ns.length ≤ 1048576) (hp : ds.length ≤ 1048576) (hr : ∀ k (h : k < ns.length), ns[k].R) (hsz : ∀ k (h : k < ds.length), ds[k].name.size ≤ maxLen) (hh : RdI w vh hs) (hn : hs.length ≤ 1048576) (hT : TS w) (hE : ED w) (hF : FD w) :
  Calls Tryz.prog 204 #[v, vh, .int .i64 1, .func (.func 205) #[] #[]] w fun e w' => e = .returned (.tuple #[.int .i64 (pcR ns ds hs 1 false).1, .int .i64 (pcR ns ds hs 1 false).2.1, .int .i64 (pcR ns ds hs 1 false).2.2]) ∧ Below w.heap.size w w' := by
 have LI := zaa (fun w1 (hb : Below w.heap.size w w1) => zbi v ns ds w1 (h.below hb) hw hp (hT.below hb) (hE.below hb) (hF.below hb) hr hsz)
 have LH := zaa (fun w1 (hb : Below w.heap.size w w1) => zhy vh hs w1 (Rd.below hh hb) hn)
 have LP := zaa (fun w1 (hb : Below w.heap.size w w1) (c1 : zdm ns ds = true) (c2 : zcn hs = true) => zfy v vh ns ds hs 1 w1 (h.below hb) c1 (Rd.below hh hb) c2 (.inl rfl) (hT.below hb))
 have LC := zaa (fun w1 v1 (hr : RdM w1 v1 (wpL ns hs 1 128)) => znd v1 (wpL ns hs 1 128) w1 hr (zvo ns hs 1 128))
 have WAYS := zaa (pc_ways ns ds hs 1 false)
 have TOLD := zaa (fun c1 c2 => ztv ns ds hs 1 false c1 c2)
 obtain ⟨vW, vP, rfl, h1, h2⟩ := h
 obtain ⟨aW, cW, rfl, _, _⟩ := h1.shape
 obtain ⟨aP, cP, rfl, _, _⟩ := h2.shape
 obtain ⟨aH, cH, rfl, _, _⟩ := hh.shape
 clear h1 h2 hh hr hsz hT hE hF
 obtain ⟨W, hW⟩ : ∃ W, W = w.alloc (.cells #[.slice aW ns.length cW, .slice aP ds.length cP] 83) := ⟨_, rfl⟩
 have CA : Hid (∀ w', Below W.heap.size W w' → w'.cell? ⟨w.heap.size, 0, none⟩ = some (.slice aW ns.length cW) ∧ w'.cell? ⟨w.heap.size, 1, none⟩ = some (.slice aP ds.length cP)) := fun w' hb => by
  have : w'.heap[w.heap.size]? = some (.cells #[.slice aW ns.length cW, .slice aP ds.length cP] 83 (0, 0)) := (hb.block _ (by rw [hW]; simp)).trans (by rw [hW]; exact zah rfl)
  exact ⟨(zad this).1, (zad this).2.1⟩
 have BW : Hid (Below w.heap.size w W) := by rw [hW]; exact (Below.refl _ _).alloc (Nat.le_refl _) _
 generalize pcR ns ds hs 1 false = res at *
 generalize wpL ns hs 1 128 = L at *
 generalize hfI hs = hf at *
 go_enter Tryz.func204, Tryz.ntmps204
 go_wp2_with fail
 rw [← hW]
 clear hW
 refine (LH.out _ BW.out).mono ?_
 rintro e w' ⟨rfl, hw'⟩
 subst w'
 clear LH
 rcases WAYS.out with ⟨c, e⟩ | ⟨c, c2, e⟩ | ⟨c, c2, c3⟩
 ·obtain rfl := e
  have q : (hf != 0) = true := by rw [bne_iff_ne]; exact c
  clear WAYS LI LP LC TOLD
  go_wp2
  go_ret3
  exact ⟨rfl, BW.out⟩
 ·obtain rfl := e
  subst c
  obtain ⟨x0, x1⟩ := CA.out _ (Below.refl _ _)
  rw [c2] at LI
  clear WAYS LP LC TOLD
  go_wp2_with fail
  refine (LI.out _ BW.out).mono ?_
  rintro e w1 ⟨rfl, hb1⟩
  have B1 := zaa (zab BW.out hb1 BW.out.size)
  clear hb1 x0 x1
  go_wp2
  go_ret3
  exact ⟨rfl, B1.out⟩
 subst c
 have E := zaa (TOLD.out c2 c3)
 have LP1 := zaa (fun w1 hb => LP.out w1 hb c2 c3)
 rw [c2] at LI
 obtain ⟨x0, x1⟩ := CA.out _ (Below.refl _ _)
 clear WAYS TOLD LP c2 c3
 go_wp2_with fail
 refine (LI.out _ BW.out).mono ?_
 rintro e w1 ⟨rfl, hb1⟩
 have A1 := zaa hb1
 have B1 := zaa (zab BW.out hb1 BW.out.size)
 clear hb1 x0 x1
 obtain ⟨x0, x1⟩ := CA.out _ A1.out
 go_wp2_with fail
 refine (LP1.out _ B1.out).mono ?_
 rintro e w2 ⟨v2, rfl, hr2, hb2⟩
 have B2 := zaa (zab B1.out hb2 B1.out.size)
 have R2 : Hid (RdM w2 v2 L) := hr2.rd
 obtain ⟨-, a2, k2, hv2, -⟩ := hr2.rd
 subst hv2
 clear hr2 hb2 LP1 x0 x1
 go_wp2_with fail
 refine (LC.out _ _ R2.out).mono ?_
 rintro e w3 ⟨rfl, hb3⟩
 have B3 := zaa (zab B2.out hb3 B2.out.size)
 clear hb3 LC R2
 by_cases cl : L = []
 ·rw [if_pos cl] at E
  obtain rfl := E.out
  subst cl
  have BX : Hid (Below w.heap.size w (w3.alloc (.cells #[.int .i64 (chO false ([] : List Mi)).kind, .int .i64 (chO false ([] : List Mi)).at_, .int .i64 (chO false ([] : List Mi)).val] 264))) := B3.out.alloc B3.out.size _
  clear E
  go_wp2
  go_ret3
  exact ⟨rfl, BX.out⟩
 ·rw [if_neg cl] at E
  obtain rfl := E.out
  have q : decide (0 < L.length) = true := decide_eq_true (List.length_pos_iff.2 cl)
  rw [q]
  generalize hc : chO false L = c at *
  clear E q cl
  obtain ⟨W4, hW4⟩ : ∃ W4, W4 = w3.alloc (.cells #[.int .i64 c.kind, .int .i64 c.at_, .int .i64 c.val] 264) := ⟨_, rfl⟩
  have BX : Hid (Below w.heap.size w W4) := by rw [hW4]; exact B3.out.alloc B3.out.size _
  obtain ⟨x0, x1, x2⟩ := zbw (show W4.heap[w3.heap.size]? = some (.cells #[.int .i64 c.kind, .int .i64 c.at_, .int .i64 c.val] 264 (0, 0)) by rw [hW4]; exact zah rfl)
  go_upto_region 7 with fail
  rw [← hW4]
  clear hW4
  go_wp2_with fail
  go_quiet (fail)
  go_wp2
  go_ret3
  exact ⟨by first | rfl | rw [hc], zbh BX.out _⟩

set_option maxRecDepth 100000 in
set_option maxHeartbeats 8000000 in
theorem zkd (v vh : Value) (ns : List Ino) (ds : List Den) (hs : List Int) (w : World) (h : RdIm w v ns ds) (hw : ns.length ≤ 1048576) (hp : ds.length ≤ 1048576) (hr : ∀ k (h : k < ns.length), ns[k].R) (hsz : ∀ k (h : k < ds.length), ds[k].name.size ≤ maxLen) (hh : RdI w vh hs) (hn : hs.length ≤ 1048576) (hT : TS w) (hE : ED w) (hF : FD w) :
  Calls Tryz.prog 135 #[v, vh] w fun e w' => e = .returned (.tuple #[.int .i64 (pcR ns ds hs 1 false).1, .int .i64 (pcR ns ds hs 1 false).2.1, .int .i64 (pcR ns ds hs 1 false).2.2]) ∧ Below w.heap.size w w' := by
 have LT := zaa (fun w1 (hb : Below w.heap.size w w1) => zsz v vh ns ds hs w1 (h.below hb) hw hp hr hsz (Rd.below hh hb) hn (hT.below hb) (hE.below hb) (hF.below hb))
 obtain ⟨vW, vP, rfl, h1, h2⟩ := h
 obtain ⟨aW, cW, rfl, _, _⟩ := h1.shape
 obtain ⟨aP, cP, rfl, _, _⟩ := h2.shape
 obtain ⟨aH, cH, rfl, _, _⟩ := hh.shape
 clear h1 h2 hh hr hsz hT hE hF
 obtain ⟨W, hW⟩ : ∃ W, W = w.alloc (.cells #[.slice aW ns.length cW, .slice aP ds.length cP] 83) := ⟨_, rfl⟩
 have BW : Hid (Below w.heap.size w W) := by rw [hW]; exact (Below.refl _ _).alloc (Nat.le_refl _) _
 obtain ⟨x0, x1, -, -⟩ := zad (zah (w := w) (o := .cells #[.slice aW ns.length cW, .slice aP ds.length cP] 83) rfl)
 generalize pcR ns ds hs 1 false = res at *
 go_enter Tryz.func135, Tryz.ntmps135
 go_wp2_with fail
 rw [← hW]
 clear hW x0 x1
 refine (LT.out _ BW.out).mono ?_
 rintro e w1 ⟨rfl, hb1⟩
 have B1 := zaa (zab BW.out hb1 BW.out.size)
 clear hb1
 go_wp2
 go_ret3
 exact ⟨rfl, B1.out⟩

set_option maxRecDepth 100000 in
set_option maxHeartbeats 8000000 in
theorem zvy (v vh : Value) (ns : List Ino) (ds : List Den) (hs : List Int) (w : World) (h : RdIm w v ns ds) (hw : ns.length ≤ 1048576) (hp : ds.length ≤ 1048576) (hr : ∀ k (h : k < ns.length), ns[k].R) (hsz : ∀ k (h : k < ds.length), ds[k].name.size ≤ maxLen) (hh : RdI w vh hs) (hn : hs.length ≤ 1048576) (hT : TS w) (hE : ED w) (hF : FD w) :
  Calls Tryz.prog 204 #[v, vh, .int .i64 2, .func (.func 207) #[] #[]] w fun e w' => e = .returned (.tuple #[.int .i64 (pcR ns ds hs 2 true).1, .int .i64 (pcR ns ds hs 2 true).2.1, .int .i64 (pcR ns ds hs 2 true).2.2]) ∧ Below w.heap.size w w' := by
 have LI := zaa (fun w1 (hb : Below w.heap.size w w1) => zbi v ns ds w1 (h.below hb) hw hp (hT.below hb) (hE.below hb) (hF.below hb) hr hsz)
 have LH := zaa (fun w1 (hb : Below w.heap.size w w1) => zhy vh hs w1 (Rd.below hh hb) hn)
 have LP := zaa (fun w1 (hb : Below w.heap.size w w1) (c1 : zdm ns ds = true) (c2 : zcn hs = true) => zfy v vh ns ds hs 2 w1 (h.below hb) c1 (Rd.below hh hb) c2 (.inr rfl) (hT.below hb))
 have LC := zaa (fun w1 v1 (hr : RdM w1 v1 (wpL ns hs 2 128)) => zpa v1 (wpL ns hs 2 128) w1 hr (zvo ns hs 2 128))
 have WAYS := zaa (pc_ways ns ds hs 2 true)
 have TOLD := zaa (fun c1 c2 => ztv ns ds hs 2 true c1 c2)
 obtain ⟨vW, vP, rfl, h1, h2⟩ := h
 obtain ⟨aW, cW, rfl, _, _⟩ := h1.shape
 obtain ⟨aP, cP, rfl, _, _⟩ := h2.shape
 obtain ⟨aH, cH, rfl, _, _⟩ := hh.shape
 clear h1 h2 hh hr hsz hT hE hF
 obtain ⟨W, hW⟩ : ∃ W, W = w.alloc (.cells #[.slice aW ns.length cW, .slice aP ds.length cP] 83) := ⟨_, rfl⟩
 have CA : Hid (∀ w', Below W.heap.size W w' → w'.cell? ⟨w.heap.size, 0, none⟩ = some (.slice aW ns.length cW) ∧ w'.cell? ⟨w.heap.size, 1, none⟩ = some (.slice aP ds.length cP)) := fun w' hb => by
  have : w'.heap[w.heap.size]? = some (.cells #[.slice aW ns.length cW, .slice aP ds.length cP] 83 (0, 0)) := (hb.block _ (by rw [hW]; simp)).trans (by rw [hW]; exact zah rfl)
  exact ⟨(zad this).1, (zad this).2.1⟩
 have BW : Hid (Below w.heap.size w W) := by rw [hW]; exact (Below.refl _ _).alloc (Nat.le_refl _) _
 generalize pcR ns ds hs 2 true = res at *
 generalize wpL ns hs 2 128 = L at *
 generalize hfI hs = hf at *
 go_enter Tryz.func204, Tryz.ntmps204
 go_wp2_with fail
 rw [← hW]
 clear hW
 refine (LH.out _ BW.out).mono ?_
 rintro e w' ⟨rfl, hw'⟩
 subst w'
 clear LH
 rcases WAYS.out with ⟨c, e⟩ | ⟨c, c2, e⟩ | ⟨c, c2, c3⟩
 ·obtain rfl := e
  have q : (hf != 0) = true := by rw [bne_iff_ne]; exact c
  clear WAYS LI LP LC TOLD
  go_wp2
  go_ret3
  exact ⟨rfl, BW.out⟩
 ·obtain rfl := e
  subst c
  obtain ⟨x0, x1⟩ := CA.out _ (Below.refl _ _)
  rw [c2] at LI
  clear WAYS LP LC TOLD
  go_wp2_with fail
  refine (LI.out _ BW.out).mono ?_
  rintro e w1 ⟨rfl, hb1⟩
  have B1 := zaa (zab BW.out hb1 BW.out.size)
  clear hb1 x0 x1
  go_wp2
  go_ret3
  exact ⟨rfl, B1.out⟩
 subst c
 have E := zaa (TOLD.out c2 c3)
 have LP1 := zaa (fun w1 hb => LP.out w1 hb c2 c3)
 rw [c2] at LI
 obtain ⟨x0, x1⟩ := CA.out _ (Below.refl _ _)
 clear WAYS TOLD LP c2 c3
 go_wp2_with fail
 refine (LI.out _ BW.out).mono ?_
 rintro e w1 ⟨rfl, hb1⟩
 have A1 := zaa hb1
 have B1 := zaa (zab BW.out hb1 BW.out.size)
 clear hb1 x0 x1
 obtain ⟨x0, x1⟩ := CA.out _ A1.out
 go_wp2_with fail
 refine (LP1.out _ B1.out).mono ?_
 rintro e w2 ⟨v2, rfl, hr2, hb2⟩
 have B2 := zaa (zab B1.out hb2 B1.out.size)
 have R2 : Hid (RdM w2 v2 L) := hr2.rd
 obtain ⟨-, a2, k2, hv2, -⟩ := hr2.rd
 subst hv2
 clear hr2 hb2 LP1 x0 x1
 go_wp2_with fail
 refine (LC.out _ _ R2.out).mono ?_
 rintro e w3 ⟨rfl, hb3⟩
 have B3 := zaa (zab B2.out hb3 B2.out.size)
 clear hb3 LC R2
 by_cases cl : L = []
 ·rw [if_pos cl] at E
  obtain rfl := E.out
  subst cl
  have BX : Hid (Below w.heap.size w (w3.alloc (.cells #[.int .i64 (chO true ([] : List Mi)).kind, .int .i64 (chO true ([] : List Mi)).at_, .int .i64 (chO true ([] : List Mi)).val] 264))) := B3.out.alloc B3.out.size _
  clear E
  go_wp2
  go_ret3
  exact ⟨rfl, BX.out⟩
 ·rw [if_neg cl] at E
  obtain rfl := E.out
  have q : decide (0 < L.length) = true := decide_eq_true (List.length_pos_iff.2 cl)
  rw [q]
  generalize hc : chO true L = c at *
  clear E q cl
  obtain ⟨W4, hW4⟩ : ∃ W4, W4 = w3.alloc (.cells #[.int .i64 c.kind, .int .i64 c.at_, .int .i64 c.val] 264) := ⟨_, rfl⟩
  have BX : Hid (Below w.heap.size w W4) := by rw [hW4]; exact B3.out.alloc B3.out.size _
  obtain ⟨x0, x1, x2⟩ := zbw (show W4.heap[w3.heap.size]? = some (.cells #[.int .i64 c.kind, .int .i64 c.at_, .int .i64 c.val] 264 (0, 0)) by rw [hW4]; exact zah rfl)
  go_upto_region 7 with fail
  rw [← hW4]
  clear hW4
  go_wp2_with fail
  go_quiet (fail)
  go_wp2
  go_ret3
  exact ⟨by first | rfl | rw [hc], zbh BX.out _⟩

set_option maxRecDepth 100000 in
set_option maxHeartbeats 8000000 in
theorem zmd (v vh : Value) (ns : List Ino) (ds : List Den) (hs : List Int) (w : World) (h : RdIm w v ns ds) (hw : ns.length ≤ 1048576) (hp : ds.length ≤ 1048576) (hr : ∀ k (h : k < ns.length), ns[k].R) (hsz : ∀ k (h : k < ds.length), ds[k].name.size ≤ maxLen) (hh : RdI w vh hs) (hn : hs.length ≤ 1048576) (hT : TS w) (hE : ED w) (hF : FD w) :
  Calls Tryz.prog 137 #[v, vh] w fun e w' => e = .returned (.tuple #[.int .i64 (pcR ns ds hs 2 true).1, .int .i64 (pcR ns ds hs 2 true).2.1, .int .i64 (pcR ns ds hs 2 true).2.2]) ∧ Below w.heap.size w w' := by
 have LT := zaa (fun w1 (hb : Below w.heap.size w w1) => zvy v vh ns ds hs w1 (h.below hb) hw hp hr hsz (Rd.below hh hb) hn (hT.below hb) (hE.below hb) (hF.below hb))
 obtain ⟨vW, vP, rfl, h1, h2⟩ := h
 obtain ⟨aW, cW, rfl, _, _⟩ := h1.shape
 obtain ⟨aP, cP, rfl, _, _⟩ := h2.shape
 obtain ⟨aH, cH, rfl, _, _⟩ := hh.shape
 clear h1 h2 hh hr hsz hT hE hF
 obtain ⟨W, hW⟩ : ∃ W, W = w.alloc (.cells #[.slice aW ns.length cW, .slice aP ds.length cP] 83) := ⟨_, rfl⟩
 have BW : Hid (Below w.heap.size w W) := by rw [hW]; exact (Below.refl _ _).alloc (Nat.le_refl _) _
 obtain ⟨x0, x1, -, -⟩ := zad (zah (w := w) (o := .cells #[.slice aW ns.length cW, .slice aP ds.length cP] 83) rfl)
 generalize pcR ns ds hs 2 true = res at *
 go_enter Tryz.func137, Tryz.ntmps137
 go_wp2_with fail
 rw [← hW]
 clear hW x0 x1
 refine (LT.out _ BW.out).mono ?_
 rintro e w1 ⟨rfl, hb1⟩
 have B1 := zaa (zab BW.out hb1 BW.out.size)
 clear hb1
 go_wp2
 go_ret3
 exact ⟨rfl, B1.out⟩
end Go.Proofs.YtipklbnfobckaaaGreatDoor

namespace Go.Proofs.YtipklbnfobckaaaGreatDoor
open Go.RowKit Go.Maps Go.MapKept Go.ChangeMaps Go.WideShapes
open Go.WideElems (Fit rd rg pl rd_val elemAt)

/-- A block is the map that reads as D. -/
def Mp (w : World) (b : Nat) (D : DataW Unit) : Prop := w.ownsMap Tryz.prog 9 (plainElem Tryz.prog 3) b 4096 D
theorem Mp.lt {w : World} {b : Nat} {D : DataW Unit} (h : Mp w b D) : b < w.heap.size := World.ownsMap.lt h
theorem Mp.below {w w' : World} {b : Nat} {D : DataW Unit} (h : Mp w b D) (hb : Below w.heap.size w w') : Mp w' b D := by
 have hl := h.lt
 obtain ⟨es, cl, q, r⟩ := h
 exact ⟨es, cl, (hb.block b hl).trans q, r⟩
theorem Mp.neg {w : World} {b : Nat} {D : DataW Unit} (h : Mp w b D) {g : Nat} {cs : Array Value} {t : TypeId} {fr} (hc : w.heap[g]? = some (.cells cs t fr)) : some g ≠ some b := by
 obtain ⟨es, cl, q, _⟩ := h
 intro e
 injection e with e
 subst e
 rw [q] at hc
 cases hc
theorem FD.grown {w w' : World} {b : Nat} {D : DataW Unit} (h : FD w) (m : Mp w b D) (hg : w.grownBy w' (some b)) : FD w' := by
 have hl := h.lt
 obtain ⟨t, fr, h⟩ := h
 exact ⟨t, fr, (hg.block _ hl (m.neg h)).trans h⟩
end Go.Proofs.YtipklbnfobckaaaGreatDoor

namespace Go.Proofs.YtipklbnfobckaaaGreatDoor
open Go.RowKit

/-- The variable that no write is like. -/
def NW (w : World) : Prop := ∃ t fr, w.heap[3]? = some (.cells #[.int .i64 (-1), .int .i64 0] t fr)
theorem NW.lt {w : World} (h : NW w) : 3 < w.heap.size := by
 obtain ⟨t, fr, h⟩ := h
 exact (Array.getElem?_eq_some_iff.1 h).1
theorem NW.later {w w' : World} {B : Nat} (h : NW w) (hB : 3 < B) (hb : Below B w w') : NW w' := by
 obtain ⟨t, fr, h⟩ := h
 exact ⟨t, fr, (hb.block 3 hB).trans h⟩
theorem NW.below {w w' : World} (h : NW w) (hb : Below w.heap.size w w') : NW w' := h.later h.lt hb
theorem NW.cells {w : World} (h : NW w) : w.cell? ⟨3, 0, none⟩ = some (.int .i64 (-1)) ∧ w.cell? ⟨3, 1, none⟩ = some (.int .i64 0) := by
 obtain ⟨t, fr, h⟩ := h
 simp [World.cell?, h]

def zhw (at_ : Int) (acc : Se × Int) (p : Se) : Se × Int := if p.at_ = at_ ∧ 0 < acc.2 then (p, acc.2 - 1) else acc
def lwR (at_ most : Int) (ps : List Se) : Se × Int := ps.foldl (zhw at_) (⟨-1, 0⟩, most)
def zrq (at_ most : Int) (ps : List Se) : Se := (lwR at_ most ps).1
theorem lwR_snoc (at_ most : Int) (ps : List Se) (p : Se) : lwR at_ most (ps ++ [p]) = zhw at_ (lwR at_ most ps) p := by simp [lwR]
theorem lwR_hit {at_ most : Int} {ps : List Se} {m : Nat} (hm : m < ps.length) (h : ps[m].at_ = at_) (h0 : 0 < (lwR at_ most (ps.take m)).2) : lwR at_ most (ps.take (m + 1)) = (ps[m], (lwR at_ most (ps.take m)).2 - 1) := by
 rw [zlt ps m hm, lwR_snoc]
 unfold zhw
 rw [if_pos ⟨h, h0⟩]
theorem lwR_miss {at_ most : Int} {ps : List Se} {m : Nat} (hm : m < ps.length) (h : ¬ (ps[m].at_ = at_ ∧ 0 < (lwR at_ most (ps.take m)).2)) : lwR at_ most (ps.take (m + 1)) = lwR at_ most (ps.take m) := by
 rw [zlt ps m hm, lwR_snoc]
 unfold zhw
 rw [if_neg h]

/-- In the midst of the loop: the last one so far, and the answer's variable. -/
structure LwInv (w wr : World) (s : Se) : Prop where
 last : wr.heap[w.heap.size + 1]? = some (.cells #[.int .i64 s.at_, .int .i64 s.val] 167 (0, 0))
 res : wr.heap[w.heap.size]? = some (.cells #[.int .i64 0, .int .i64 0] 167 (0, 0))
 below : Below w.heap.size w wr
theorem LwInv.alloc {w wr : World} {s : Se} (h : LwInv w wr s) (o : Obj) : LwInv w (wr.alloc o) s :=
 ⟨zap h.last, zap h.res, h.below.alloc h.below.size o⟩
theorem LwInv.set {w wr : World} {s : Se} (h : LwInv w wr s) (p : Se) : LwInv w ((wr.setCell ⟨w.heap.size + 1, 0, none⟩ (.int .i64 p.at_)).setCell ⟨w.heap.size + 1, 1, none⟩ (.int .i64 p.val)) p :=
 ⟨two_set1 (zig h.last _) _, by rw [Below.heap_setCell _ _ _ _ (by simp only; omega), Below.heap_setCell _ _ _ _ (by simp only; omega)]; exact h.res, (h.below.setCell (by simp only; omega) _).setCell (by simp only; omega) _⟩

set_option maxHeartbeats 4000000 in
theorem zpr (v : Value) (ps : List Se) (at_ most : Int) (w : World) (h : RdE w v ps) (hG : NW w) (hp : ps.length ≤ 1048576) (h0 : 0 ≤ most) (h1 : most ≤ 400) :
  Calls Tryz.prog 295 #[v, .int .i64 at_, .int .i64 most] w fun e w' => e = .returned (.agg #[.int .i64 (zrq at_ most ps).at_, .int .i64 (zrq at_ most ps).val]) ∧ Below w.heap.size w w' := by
 obtain ⟨aP, cP, rfl, _, hcP⟩ := h.shape
 have HP := zaa hcP
 have hw0 := hG.lt
 have hb0 : Below w.heap.size w (w.alloc (.cells #[.int .i64 0, .int .i64 0] 167)) := (Below.refl _ _).alloc (Nat.le_refl _) _
 obtain ⟨g0, g1⟩ := (hG.below hb0).cells
 have INV : Hid (LwInv w ((w.alloc (.cells #[.int .i64 0, .int .i64 0] 167)).alloc (.cells #[.int .i64 (-1), .int .i64 0] 167)) (lwR at_ most (ps.take 0)).1) :=
  ⟨zah (by simp), zap (zah rfl), hb0.alloc (by simp) _⟩
 clear h hcP hb0
 go_enter Tryz.func295, Tryz.ntmps295
 go_wp2
 go_loopw [2, 9, 13] (fun mo _ i wr => ∃ m : Nat, m ≤ ps.length ∧ i = .int .i64 m ∧ mo = .int .i64 (lwR at_ most (ps.take m)).2 ∧ (0 ≤ (lwR at_ most (ps.take m)).2 ∧ (lwR at_ most (ps.take m)).2 ≤ most) ∧ Hid (LwInv w wr (lwR at_ most (ps.take m)).1)) (fun _ _ i _ => ps.length - (intOf i).toNat)
 case atStart => exact ⟨0, by omega, rfl, rfl, ⟨h0, Int.le_refl _⟩, INV⟩
 case round =>
  obtain ⟨m, hm, rfl, rfl, ⟨hm0, hm1⟩, I⟩ := hrel
  by_cases hlt : m < ps.length
  ·obtain ⟨b, o, rfl, hbl, hcell⟩ := HP.out (by omega)
   obtain ⟨c0, c1⟩ := hcell m hlt
   have d0 := (I.out.below.cell (p := ⟨b, o + m * 2, none⟩) hbl).trans c0
   have d1 := (I.out.below.cell (p := ⟨b, o + m * 2 + 1, none⟩) hbl).trans c1
   have hzr : w.heap.size + 2 ≤ wr.heap.size := (Array.getElem?_eq_some_iff.1 I.out.last).1
   obtain ⟨y0, y1, y2, y3⟩ := zad (zap (o := .cells #[.int .i64 ps[m].at_, .int .i64 ps[m].val] 167) I.out.last)
   clear hcell c0 c1
   by_cases q : ps[m].at_ = at_
   ·have q' : (ps[m].at_ == at_) = true := by simpa using q
    by_cases q2 : 0 < (lwR at_ most (ps.take m)).2
    ·have E := zaa (lwR_hit hlt q q2)
     have I1 := zaa ((I.out.alloc (.cells #[.int .i64 ps[m].at_, .int .i64 ps[m].val] 167)).set ps[m])
     have I2 := zaa ((I.out.set ps[m]).alloc (.cells #[.int .i64 ps[m].at_, .int .i64 ps[m].val] 167))
     generalize (lwR at_ most (ps.take m)).2 = mo at *
     clear q
     go_wp2
     go_roundw
     case rel =>
      refine ⟨m + 1, by omega, by go_num, ?_, ?_, ?_⟩
      ·rw [E.out]
      ·rw [E.out]; exact ⟨by show 0 ≤ mo - 1; omega, by show mo - 1 ≤ most; omega⟩
      ·rw [E.out]
       first | exact I1 | exact I2
     case measure => simp [intOf]; omega
    ·have E := zaa (lwR_miss hlt (fun c => q2 c.2))
     have I1 := zaa (I.out.alloc (.cells #[.int .i64 ps[m].at_, .int .i64 ps[m].val] 167))
     have e0 : (lwR at_ most (ps.take m)).2 = 0 := by omega
     have E0 := zaa e0
     rw [e0]
     clear e0 q q2
     go_wp2
     go_roundw
     case rel =>
      refine ⟨m + 1, by omega, by go_num, ?_, ?_, ?_⟩
      ·rw [E.out, E0.out]
      ·rw [E.out]; exact ⟨hm0, hm1⟩
      ·rw [E.out]; exact I1
     case measure => simp [intOf]; omega
   ·have q' : (ps[m].at_ == at_) = false := by simpa using q
    have E := zaa (lwR_miss (most := most) hlt (fun c => q c.1))
    have I1 := zaa (I.out.alloc (.cells #[.int .i64 ps[m].at_, .int .i64 ps[m].val] 167))
    clear q
    go_wp2
    go_roundw
    case rel =>
     refine ⟨m + 1, by omega, by go_num, ?_, ?_, ?_⟩
     ·rw [E.out]
     ·rw [E.out]; exact ⟨hm0, hm1⟩
     ·rw [E.out]; exact I1
    case measure => simp [intOf]; omega
  ·have e : m = ps.length := by omega
   subst e
   rw [List.take_length] at I
   obtain ⟨y0, y1, y2, y3⟩ := zad I.out.last
   obtain ⟨t0, t1, t2, t3⟩ := zad I.out.res
   go_wp2
   refine bodyPost_ret (v := .agg #[.int .i64 (lwR at_ most ps).1.at_, .int .i64 (lwR at_ most ps).1.val]) (by simp [results, Tryz.results295, go_sem, t0, t1]) rfl ?_
   exact ⟨rfl, (I.out.below.setCell (by simp only; omega) _).setCell (by simp only; omega) _⟩
end Go.Proofs.YtipklbnfobckaaaGreatDoor

namespace Go.Proofs.YtipklbnfobckaaaGreatDoor
open Go.RowKit

theorem zgz (at_ : Int) : ∀ (ps : List Se) (s : Se) (mo : Int), (ps.length : Int) ≤ mo → ((∀ p ∈ ps, ¬ p.at_ = at_) ∧ (ps.foldl (zhw at_) (s, mo)).1 = s) ∨ ((ps.foldl (zhw at_) (s, mo)).1.at_ = at_ ∧ ∀ d, zer at_ d ps = (ps.foldl (zhw at_) (s, mo)).1.val)
 | [], s, mo, _ => .inl ⟨by simp, rfl⟩
 | p :: ps, s, mo, h => by
  have h' : (ps.length : Int) + 1 ≤ mo := by simpa using h
  by_cases c : p.at_ = at_
  ·have e : zhw at_ (s, mo) p = (p, mo - 1) := if_pos ⟨c, by show 0 < mo; omega⟩
   rw [List.foldl_cons, e]
   rcases zgz at_ ps p (mo - 1) (by omega) with ⟨h1, h2⟩ | ⟨h1, h2⟩
   ·right
    rw [h2]
    refine ⟨c, fun d => ?_⟩
    show zer at_ (if p.at_ = at_ then p.val else d) ps = p.val
    rw [if_pos c]
    exact zev h1
   ·exact .inr ⟨h1, fun d => h2 _⟩
  ·have e : zhw at_ (s, mo) p = (s, mo) := if_neg (fun x => c x.1)
   rw [List.foldl_cons, e]
   rcases zgz at_ ps s mo (by omega) with ⟨h1, h2⟩ | ⟨h1, h2⟩
   ·left
    refine ⟨fun q hq => ?_, h2⟩
    rcases List.mem_cons.1 hq with rfl | hq
    ·exact c
    ·exact h1 q hq
   ·exact .inr ⟨h1, fun d => h2 _⟩
theorem lastM_full {at_ : Int} {ps : List Se} (h : ps.length ≤ 400) : ((∀ p ∈ ps, ¬ p.at_ = at_) ∧ zrq at_ 400 ps = ⟨-1, 0⟩) ∨ ((zrq at_ 400 ps).at_ = at_ ∧ ∀ d, zer at_ d ps = (zrq at_ 400 ps).val) :=
 zgz at_ ps ⟨-1, 0⟩ 400 (by omega)

set_option maxHeartbeats 4000000 in
theorem zlf (v : Value) (ws : List Int) (ps : List Se) (at_ : Int) (w : World) (h : RdBlk w v ws ps) (hG : NW w) (hw : ws.length ≤ 1048576) (hp : ps.length ≤ 1048576) :
  Calls Tryz.prog 249 #[v, .int .i64 at_] w fun e w' => e = .returned (.tuple #[.int .i64 (zwi ws ps at_), .int .i64 (zqy ws ps at_)]) ∧ Below w.heap.size w w' := by
 have HR := zaa h
 obtain ⟨vW, vP, rfl, h1, h2⟩ := h
 have H2 := zaa h2
 obtain ⟨aW, cW, rfl, _, hcW⟩ := h1.shape
 obtain ⟨aP, cP, rfl, _⟩ := h2.shape
 clear h1 h2
 have hb0 : Below w.heap.size w (w.alloc (.cells #[.slice aW ws.length cW, .slice aP ps.length cP] 44)) := (Below.refl _ _).alloc (Nat.le_refl _) _
 rcases askE_cases ws ps at_ with hc | ⟨hc, hok, k, rfl, hk, hkl⟩
 ·have hne : (zqy ws ps at_ != 0) = true := by rcases hc with hc | hc <;> simp [hc]
  have E := zaa (readV_not (ws := ws) (ps := ps) (at_ := at_) (by rcases hc with hc | hc <;> simp [hc]))
  clear hc hcW
  go_enter Tryz.func249, Tryz.ntmps249
  go_wp2_with (go_at_call 294; refine (zfp _ ws ps _ _ (HR.out.below hb0) hw hp).mono ?_; rintro e w1 ⟨rfl, hb1⟩)
  go_ret2
  exact ⟨zbq E.out.symm rfl, zab hb0 hb1 (by simp)⟩
 ·have E := zaa (readV_ok hc hkl)
  have C := zaa hc
  obtain ⟨bW, oW, rfl, hbW, hcellW⟩ := hcW (by omega)
  have hcw := zaa (hcellW k hkl)
  have LF := zaa (lastM_full (at_ := (k : Int)) (ps := ps) (zff hok).2)
  clear hc hcW hcellW
  go_enter Tryz.func249, Tryz.ntmps249
  go_wp2_with fail
  refine (zfp _ ws ps _ _ (HR.out.below hb0) hw hp).mono ?_
  rw [C.out]
  rintro e w1 ⟨rfl, hb1⟩
  have V1 := (hb1.block w.heap.size (by simp)).trans (zah rfl)
  obtain ⟨x1, x2, _, _⟩ := zad V1
  have B1 := zaa (zab hb0 hb1 (by simp))
  have hz1 : w.heap.size + 1 ≤ w1.heap.size := by have := hb1.size; simp at this; omega
  have VH := zaa V1
  have G1 := zaa (hG.below B1.out)
  clear V1 hb1 hb0
  go_wp2_with fail
  refine (zpr _ ps _ _ _ (Rd.below H2.out B1.out) G1.out hp (by omega) (by omega)).mono ?_
  rcases LF.out with ⟨hn, hl⟩ | ⟨ha, hl⟩
  ·rw [hl]
   rintro e w2 ⟨rfl, hb2⟩
   have hz2 := hb2.size
   have B2 := zaa (zab B1.out hb2 (by omega))
   have hb3 := zab B1.out hb2 (by omega) |>.alloc (by omega) (.cells #[.int .i64 (-1), .int .i64 0] 167)
   obtain ⟨g0, g1⟩ := ((G1.out.below hb2).below ((Below.refl _ _).alloc (Nat.le_refl _) (.cells #[.int .i64 (-1), .int .i64 0] 167))).cells
   obtain ⟨x1', x2', _, _⟩ := zad (zap (o := .cells #[.int .i64 (-1), .int .i64 0] 167) ((hb2.block w.heap.size (by omega)).trans VH.out))
   have hcw1 := (hb3.cell (p := ⟨bW, oW + k, none⟩) hbW).trans hcw.out
   have B3 := zaa hb3
   have E2 := zaa (zev (d := ws[k]) hn)
   clear hb2 hb3 hn hl x1 x2
   go_wp2
   go_ret2
   exact ⟨zbq (E.out.trans E2.out).symm C.out.symm, B3.out⟩
  ·rw [ha]
   rintro e w2 ⟨rfl, hb2⟩
   have hz2 := hb2.size
   have hb3 := zab B1.out hb2 (by omega) |>.alloc (by omega) (.cells #[.int .i64 (k : Int), .int .i64 (zrq (k : Int) 400 ps).val] 167)
   obtain ⟨g0, g1⟩ := ((G1.out.below hb2).below ((Below.refl _ _).alloc (Nat.le_refl _) (.cells #[.int .i64 (k : Int), .int .i64 (zrq (k : Int) 400 ps).val] 167))).cells
   have B3 := zaa hb3
   have E2 := zaa (hl ws[k])
   have kn : ((k : Int) == -1) = false := by first | (simp; done) | (simp; omega)
   clear hb2 hb3 ha hl x1 x2
   generalize (zrq (k : Int) 400 ps).val = y at *
   go_wp2
   go_ret2
   exact ⟨zbq (E.out.trans E2.out).symm C.out.symm, B3.out⟩
end Go.Proofs.YtipklbnfobckaaaGreatDoor
