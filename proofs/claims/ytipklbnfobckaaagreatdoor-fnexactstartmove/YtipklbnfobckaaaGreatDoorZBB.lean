/- Several texts laid together: JrQ, IgI, JrC, DtA, PlD, PlO, DtB, RdB. -/
import Derived.Test.YtipklbnfobckaaaGreatDoorZBA
import Derived.Test.YtipklbnfobckaaaGreatDoorZAF
import Derived.Test.YtipklbnfobckaaaGreatDoorZAG
import Derived.Test.YtipklbnfobckaaaGreatDoorZAY
import Derived.Test.YtipklbnfobckaaaGreatDoorZAK
import Derived.Test.YtipklbnfobckaaaGreatDoorZAL
import Derived.Test.YtipklbnfobckaaaGreatDoorZAS
import Derived.Deep.RegionLaw
import Derived.Test.YtipklbnfobckaaaGreatDoorZAX
import Derived.Deep.RegionHeld3
import Derived.Test.YtipklbnfobckaaaGreatDoorZAE
import Derived.Test.YtipklbnfobckaaaGreatDoorZAZ
import Derived.Test.YtipklbnfobckaaaGreatDoorZAJ
import Derived.Deep.LoopGhost
import Derived.Deep.DeepCutAuto
namespace Go.Proofs.YtipklbnfobckaaaGreatDoor
open Go.RowKit

/-- Updates as stores. -/
def upsL (us : List Se) : List St := us.map (fun s => up s.at_ s.val)
theorem upsL_at (us : List Se) (k : Nat) (h : k < us.length) : (upsL us)[k]? = some (up us[k].at_ us[k].val) := by simp [upsL, h]
def apM (us : List Se) (m : Nat) : List Mi := ((upsL us).take m).map stM
theorem apM_len (us : List Se) (m : Nat) : (apM us m).length ≤ m := by simp [apM]; omega
theorem take_next {α : Type} (l : List α) (m : Nat) (x : α) (h : l[m]? = some x) : l.take (m + 1) = l.take m ++ [x] := by
 rw [List.take_add_one, h]; rfl
theorem apM_succ (us : List Se) (m : Nat) (h : m < us.length) : apM us (m + 1) = apM us m ++ [⟨1, us[m].at_, us[m].val⟩] := by
 unfold apM; rw [take_next _ _ _ (upsL_at us m h), List.map_append]; rfl
/-- Steps and places that are under way. -/
structure PlI (w0 w : World) (vL vP : Value) (ls : List Mi) (ps : List Int) : Prop where
 l : w.ownsRow w0.heap.size 79 3 vL ls.length (mis ls)
 p : w.ownsRow w0.heap.size 3 1 vP ps.length (zca ps)
 b : Below w0.heap.size w0 w
 z : w0.heap.size ≤ w.heap.size

theorem ty_ne : (3 : Nat) ≠ 79 := by decide
theorem PlI.below {w0 w w' : World} {vL vP : Value} {ls : List Mi} {ps : List Int} (h : PlI w0 w vL vP ls ps) (hb : Below w.heap.size w w') : PlI w0 w' vL vP ls ps :=
 ⟨((zaf h.l).below hb (Nat.le_refl _)).1, ((zaf h.p).below hb (Nat.le_refl _)).1, zab h.b hb h.z, Nat.le_trans h.z hb.size⟩
theorem PlI.growL {w0 w w' : World} {vL vP v' : Value} {ls : List Mi} {ps : List Int} (h : PlI w0 w vL vP ls ps) (ms : List Mi) (ho : w'.ownsRow w0.heap.size 79 3 v' (ls.length + ms.length) (mis ls ++ mis ms)) (hg : w.grownBy w' vL.ownBlock) : PlI w0 w' v' vP (ls ++ ms) ps :=
 ⟨by rw [zjd, List.length_append]; exact ho, (Row.apart (zaf h.p) (zaf h.l) ty_ne hg).1, h.b.grown hg h.z (fun q hq => (h.l.lt q hq).1), Nat.le_trans h.z hg.size⟩
theorem PlI.growP {w0 w w' : World} {vL vP v' : Value} {ls : List Mi} {ps : List Int} (h : PlI w0 w vL vP ls ps) (ks : List Int) (ho : w'.ownsRow w0.heap.size 3 1 v' (ps.length + ks.length) (zca ps ++ zca ks)) (hg : w.grownBy w' vP.ownBlock) : PlI w0 w' vL v' ls (ps ++ ks) :=
 ⟨(Row.apart (zaf h.l) (zaf h.p) (Ne.symm ty_ne) hg).1, by rw [List.length_append, show zca (ps ++ ks) = zca ps ++ zca ks by simp [zca]]; exact ho, h.b.grown hg h.z (fun q hq => (h.p.lt q hq).1), Nat.le_trans h.z hg.size⟩
theorem zvs (w1 : World) (x : Int) : RdI (w1.alloc (.cells #[.int .i64 x] 3)) (.slice (some ⟨w1.heap.size, 0, none⟩) 1 1) [x] := by
 refine ⟨rfl, _, _, rfl, ⟨Nat.le_refl _, fun e => by cases e⟩, fun _ => ⟨w1.heap.size, 0, rfl, by simp, fun j hj => ?_⟩⟩
 obtain rfl : j = 0 := by simp at hj; omega
 have e := zah (w := w1) (o := .cells #[.int .i64 x] 3) rfl
 unfold World.cell?
 simp only [e]
 rfl
theorem mis_one_ (m : Mi) : mis [m] = m.cells := by simp [mis]

end Go.Proofs.YtipklbnfobckaaaGreatDoor

namespace Go.Proofs.YtipklbnfobckaaaGreatDoor
open Go.RowKit

/-- The words that an image is read off. -/
theorem wi_agree {ls ls' : List Int} {ws : List Ino} {ps : List Den} (h : Wi ls ws ps) (hl : ls'.length = 336) (ag : ∀ z : Int, z = 0 ∨ (48 ≤ z ∧ z < 312) → wdI ls' z = wdI ls z) : Wi ls' ws ps := by
 refine ⟨hl, ?_, ?_, ?_, ?_, h.img⟩
 ·rw [ag 0 (.inl rfl)]; exact h.mark
 ·have g := h.good
  unfold zbx at g ⊢
  rw [List.all_eq_true] at g ⊢
  intro k hk
  have q := g k hk
  have := List.mem_range.1 hk
  unfold zbo at q ⊢
  rw [ag _ (.inr (by omega)), ag _ (.inr (by omega)), ag _ (.inr (by omega))]
  exact q
 ·rw [← h.inos]
  unfold zau
  apply List.map_congr_left
  intro i hi
  have := List.mem_range.1 hi
  unfold zec
  rw [ag _ (.inr (by omega)), ag _ (.inr (by omega)), ag _ (.inr (by omega)), ag _ (.inr (by omega)), ag _ (.inr (by omega)), ag _ (.inr (by omega)), ag _ (.inr (by omega)), ag _ (.inr (by omega)), ag _ (.inr (by omega)), ag _ (.inr (by omega)), ag _ (.inr (by omega))]
 ·rw [← h.dens]
  unfold zav
  apply List.map_congr_left
  intro i hi
  have := List.mem_range.1 hi
  unfold zew
  rw [ag _ (.inr (by omega)), ag _ (.inr (by omega)), ag _ (.inr (by omega))]
end Go.Proofs.YtipklbnfobckaaaGreatDoor

namespace Go.Proofs.YtipklbnfobckaaaGreatDoor
open Go.RowKit

/-- A word as it is loaded. -/
def ldW (ws : List Int) (ps : List St) (k : Nat) : Int := zgn (k : Int) (ws[k]?.getD 0) ps
theorem ldW_at {ws : List Int} {ps : List St} {k : Nat} (h : k < ws.length) : ldW ws ps k = zgn (k : Int) ws[k] ps := by unfold ldW; simp [h]
theorem pm_len {ws : List Int} {ps : List St} (h : pmB ws ps = true) : ws.length = 336 := (zee h).1

set_option maxRecDepth 100000 in
set_option maxHeartbeats 2000000 in
theorem zsy (v : Value) (ws : List Int) (ps : List St) (w : World) (h : RdPm w v ws ps) (hw : ws.length ≤ 1048576) (hp : ps.length ≤ 1048576) (ha : 8 < ws.length) :
  Calls Tryz.prog 45 #[v] w fun e w' => e = .returned (.int .i64 (ldW ws ps 8)) ∧ Below w.heap.size w w' := by
 have HR := zaa h
 obtain ⟨vW, vP, rfl, h1, h2⟩ := h
 obtain ⟨aW, cW, rfl, _⟩ := h1.shape
 obtain ⟨aP, cP, rfl, _⟩ := h2.shape
 clear h1 h2
 have hb0 : Below w.heap.size w (w.alloc (.cells #[.slice aW ws.length cW, .slice aP ps.length cP] 41)) := (Below.refl _ _).alloc (Nat.le_refl _) _
 rw [ldW_at ha]
 go_enter Tryz.func45, Tryz.ntmps45
 go_wp2_with fail
 refine (zhb _ ws ps 8 _ (HR.out.below hb0) hw hp ha).mono ?_
 rintro e w2 ⟨rfl, hb2⟩
 go_wp2
 go_ret
 exact ⟨rfl, zab hb0 hb2 (by simp)⟩

end Go.Proofs.YtipklbnfobckaaaGreatDoor

namespace Go.Proofs.YtipklbnfobckaaaGreatDoor
open Go.RowKit

/-- What a page has; one that is nowhere has 0. -/
def pgV (ws : List Int) (ps : List St) (es : List Int) (qs : List Se) (e : Int) : Int := if e % 4 = 1 then ldW ws ps (312 + e / 4).toNat else if e % 4 = 2 then zer (e / 4) (es[(e / 4).toNat]?.getD 0) qs else 0
/-- Devices whose image is right. -/
def dvB (ws : List Int) (ps : List St) (es : List Int) (qs : List Se) : Bool := (pmB ws ps && zeh es qs) && riB (zbn ws ps)
/-- The first free page, the first free sector; -1 without one. -/
def fpI (ns : List Ino) : Int := zcg (fun i => !zep (zas (zak ns) 1) (i : Int)) 24
def fsI (ns : List Ino) : Int := zcg (fun i => !zep (zas (zak ns) 2) (i : Int)) 32
def wrU (i page size e : Int) : List Se := ⟨48 + 12 * i + (3 + page), e⟩ :: (if size ≤ page then [⟨48 + 12 * i + 1, page + 1⟩] else [])
end Go.Proofs.YtipklbnfobckaaaGreatDoor

namespace Go.Proofs.YtipklbnfobckaaaGreatDoor
open Go.RowKit

set_option maxRecDepth 100000 in
set_option maxHeartbeats 2000000 in
theorem zfz (i f x : Int) (w : World) (hi : 0 ≤ i ∧ i < 16) (hf : 0 ≤ f ∧ f < 11) :
  Calls Tryz.prog 271 #[.int .i64 i, .int .i64 f, .int .i64 x] w fun e w' => e = .returned (.agg #[.int .i64 (48 + 12 * i + f), .int .i64 x]) ∧ Below w.heap.size w w' := by
 obtain ⟨k1, k2⟩ := ino_in hi hf
 have K1 := zaa k1
 have K2 := zaa k2
 clear k1 k2
 generalize 48 + 12 * i + f = at_ at *
 have BW := zaa ((Below.refl w.heap.size w).alloc (Nat.le_refl _) (.cells #[.int .i64 0, .int .i64 0] 244))
 go_enter Tryz.func271, Tryz.ntmps271
 go_wp2_with fail
 refine (zox _ _ _).mono ?_
 rw [K1.out, K2.out]
 rintro e w' ⟨rfl, hw'⟩
 subst w'
 go_wp2
 refine bodyPost_ret (v := .agg #[.int .i64 at_, .int .i64 x]) (by simp [results, Tryz.results271, go_sem]) rfl ⟨rfl, ?_⟩
 repeat (first | exact BW.out | exact Below.refl _ _ | refine Below.setCell ?_ (by exact Nat.le_refl _) _ | refine Below.alloc ?_ (by simp) _)

end Go.Proofs.YtipklbnfobckaaaGreatDoor

namespace Go.Proofs.YtipklbnfobckaaaGreatDoor
open Go.RowKit

theorem UpI.wide {w w3 w1 : World} {v : Value} {L : List Se} (h : UpI w3 w1 v L) (B : Below w.heap.size w w3) : UpI w w1 v L := ⟨((zaf h.l).wide B.size (Nat.le_refl _)).1, zab B h.b B.size⟩
end Go.Proofs.YtipklbnfobckaaaGreatDoor

namespace Go.Proofs.YtipklbnfobckaaaGreatDoor
open Go.RowKit

set_option maxRecDepth 100000 in
set_option maxHeartbeats 4000000 in
theorem zjq (v : Value) (ws : List Int) (ps : List St) (es : List Int) (qs : List Se) (e : Int) (w : World) (h : RdDev w v ws ps es qs) (hP : pmB ws ps = true) (hB : zeh es qs = true) (te : zdl e = true) :
  Calls Tryz.prog 200 #[v, .int .i64 e] w fun r w' => r = .returned (.int .i64 (pgV ws ps es qs e)) ∧ Below w.heap.size w w' := by
 obtain ⟨aW, cW, aP, cP, aS, cS, aQ, cQ, rfl, h1, h2⟩ := h.form
 have te' : 0 ≤ e ∧ ((e % 4 = 0 ∧ e / 4 = 0) ∨ (e % 4 = 1 ∧ 0 ≤ e / 4 ∧ e / 4 < 24) ∨ (e % 4 = 2 ∧ 0 ≤ e / 4 ∧ e / 4 < 32)) := by
  unfold zdl zdx at te
  rw [Bool.and_eq_true, decide_eq_true_eq, decide_eq_true_eq] at te
  exact te
 have wl := zee hP
 have el := zff hB
 have BW : Hid (Below w.heap.size w (w.alloc (.cells #[.slice aW ws.length cW, .slice aP ps.length cP, .slice aS es.length cS, .slice aQ qs.length cQ] 46))) := (Below.refl _ _).alloc (Nat.le_refl _) _
 have LT := zaa (fun w1 => zda e w1 te'.1 (by omega))
 have EV := zaa (show pgV ws ps es qs e = if e % 4 = 1 then ldW ws ps (312 + e / 4).toNat else if e % 4 = 2 then zer (e / 4) (es[(e / 4).toNat]?.getD 0) qs else 0 from rfl)
 have L1 : Hid (∀ (k : Nat), k < 24 → ∀ w1, Below w.heap.size w w1 → Calls Tryz.prog 97 #[.agg #[.slice aW ws.length cW, .slice aP ps.length cP], .int .i64 (312 + (k : Int))] w1 fun r w' => r = .returned (.int .i64 (ldW ws ps (312 + k))) ∧ Below w1.heap.size w1 w') := fun k hk w1 hb => by
  have := zhb _ ws ps (312 + k) w1 (h1.below hb) (by omega) (by omega) (by omega)
  rw [← ldW_at, show ((312 + k : Nat) : Int) = 312 + (k : Int) by omega] at this
  exact this
 have L2 : Hid (∀ (k : Nat), k < 32 → ∀ w1, Below w.heap.size w w1 → Calls Tryz.prog 266 #[.agg #[.slice aS es.length cS, .slice aQ qs.length cQ], .int .i64 (k : Int)] w1 fun r w' => r = .returned (.int .i64 (zer (k : Int) (es[k]?.getD 0) qs)) ∧ Below w1.heap.size w1 w') := fun k hk w1 hb => by
  have := zvt _ es qs k w1 (h2.below hb) (by omega) (by omega) (by omega)
  rw [show (es[k]?.getD 0) = es[k]'(by omega) by simp [show k < es.length by omega]]
  exact this
 clear h h1 h2 te hP hB wl el
 generalize pgV ws ps es qs e = r at *
 generalize e % 4 = t at *
 generalize e / 4 = a at *
 rcases te'.2 with ⟨rfl, rfl⟩ | ⟨rfl, a0, a1⟩ | ⟨rfl, a0, a1⟩
 ·rw [if_neg (by omega), if_neg (by omega)] at EV
  obtain rfl := EV.out
  clear te' L1 L2 EV
  go_enter Tryz.func200, Tryz.ntmps200
  go_wp2_with fail
  refine (LT.out _).mono ?_
  rintro r w1 ⟨rfl, rfl⟩
  go_wp2
  go_ret
  exact ⟨rfl, BW.out⟩
 ·obtain ⟨k, rfl⟩ : ∃ k : Nat, a = (k : Int) := ⟨a.toNat, by omega⟩
  rw [if_pos rfl, show (312 + (k : Int)).toNat = 312 + k by omega] at EV
  obtain rfl := EV.out
  have k24 : k < 24 := by omega
  have Q := zaa (L1.out k k24)
  clear te' L1 L2 EV a0 a1
  go_enter Tryz.func200, Tryz.ntmps200
  go_wp2_with fail
  refine (LT.out _).mono ?_
  rintro r w1 ⟨rfl, rfl⟩
  go_wp2_with fail
  refine (Q.out _ BW.out).mono ?_
  rintro r w2 ⟨rfl, hb2⟩
  have B2 := zaa (zab BW.out hb2 BW.out.size)
  clear hb2
  go_wp2
  go_ret
  exact ⟨rfl, B2.out⟩
 ·obtain ⟨k, rfl⟩ : ∃ k : Nat, a = (k : Int) := ⟨a.toNat, by omega⟩
  rw [if_neg (by omega), if_pos rfl, Int.toNat_natCast] at EV
  obtain rfl := EV.out
  have k32 : k < 32 := by omega
  have Q := zaa (L2.out k k32)
  clear te' L1 L2 EV a0 a1
  go_enter Tryz.func200, Tryz.ntmps200
  go_wp2_with fail
  refine (LT.out _).mono ?_
  rintro r w1 ⟨rfl, rfl⟩
  go_wp2_with fail
  refine (Q.out _ BW.out).mono ?_
  rintro r w2 ⟨rfl, hb2⟩
  have B2 := zaa (zab BW.out hb2 BW.out.size)
  clear hb2
  go_wp2
  go_ret
  exact ⟨rfl, B2.out⟩

end Go.Proofs.YtipklbnfobckaaaGreatDoor

namespace Go.Proofs.YtipklbnfobckaaaGreatDoor
open Go.RowKit

theorem zhm {a b c : World} (h1 : Below a.heap.size a b) (h2 : Below b.heap.size b c) : Below a.heap.size a c := zab h1 h2 h1.size
/-- An image under way. -/
structure RimI (W w : World) (bM : Nat) (vI vD : Value) (xs : List Ino) (ds : List Den) : Prop where
 m : w.heap[bM]? = some (.cells #[vI, vD] 83 (0, 0))
 i : w.ownsRow W.heap.size 171 11 vI xs.length (inos xs)
 d : w.ownsRow W.heap.size 173 3 vD ds.length (dens ds)
 b : Below W.heap.size W w
 hb : W.heap.size ≤ bM
theorem RimI.lt {W w : World} {bM : Nat} {vI vD : Value} {xs : List Ino} {ds : List Den} (h : RimI W w bM vI vD xs ds) : bM < w.heap.size := (Array.getElem?_eq_some_iff.1 h.m).1
theorem RimI.z {W w : World} {bM : Nat} {vI vD : Value} {xs : List Ino} {ds : List Den} (h : RimI W w bM vI vD xs ds) : W.heap.size ≤ w.heap.size := h.b.size
theorem RimI.below {W w w' : World} {bM : Nat} {vI vD : Value} {xs : List Ino} {ds : List Den} (h : RimI W w bM vI vD xs ds) (hb : Below w.heap.size w w') : RimI W w' bM vI vD xs ds :=
 ⟨(hb.block _ h.lt).trans h.m, ((zaf h.i).below hb (Nat.le_refl _)).1, ((zaf h.d).below hb (Nat.le_refl _)).1, zab h.b hb h.z, h.hb⟩
/-- A row's block is no box of another type. -/
theorem zbz {w : World} {base : Nat} {e t : TypeId} {size : Nat} {v : Value} {n : Nat} {xs : List Value} {b : Nat} {cs : Array Value} {fr : Nat × Nat} (h : w.ownsRow base e size v n xs) (hb : w.heap[b]? = some (.cells cs t fr)) (hne : e ≠ t) : v.ownBlock ≠ some b := by
 intro hv
 obtain ⟨_, h1 | ⟨g, cap, cur, e1, _, hg, _⟩⟩ := h
 ·rw [h1.1] at hv; cases hv
 ·rw [e1] at hv
  have : g = b := by simpa [Value.ownBlock] using hv
  subst this
  rw [hg] at hb
  injection hb with hb
  injection hb with _ ht _
  exact hne ht
theorem zjb : (171 : Nat) ≠ 83 := by decide
theorem zjc : (173 : Nat) ≠ 83 := by decide
theorem ino_den : (171 : Nat) ≠ 173 := by decide
theorem inos_app (l l' : List Ino) : inos (l ++ l') = inos l ++ inos l' := by simp [inos]
theorem zsj (l : List Ino) : ∀ u ∈ inos l, u.oneCell' = true := by
 intro u hu
 simp only [inos, List.mem_flatMap] at hu
 obtain ⟨m, _, hm⟩ := hu
 simp [Ino.cs] at hm
 rcases hm with rfl | rfl | rfl | rfl | rfl | rfl | rfl | rfl | rfl | rfl | rfl <;> rfl
theorem RimI.growI {W w w' : World} {bM : Nat} {vI vD v' : Value} {xs : List Ino} {ds : List Den} (h : RimI W w bM vI vD xs ds) (x : Ino) (ho : w'.ownsRow W.heap.size 171 11 v' (xs.length + 1) (inos xs ++ inos [x])) (hg : w.grownBy w' vI.ownBlock) :
  w'.heap[bM]? = some (.cells #[vI, vD] 83 (0, 0)) ∧ RimI W (w'.setCell ⟨bM, 0, none⟩ v') bM v' vD (xs ++ [x]) ds := by
 have hm : w'.heap[bM]? = some (.cells #[vI, vD] 83 (0, 0)) := (hg.block _ h.lt (zbz h.i h.m zjb).symm).trans h.m
 have hd := (Row.apart (zaf h.d) (zaf h.i) (Ne.symm ino_den) hg).1
 have hbw := h.b.grown hg h.z (fun q hq => (h.i.lt q hq).1)
 have hm2 : (w'.setCell ⟨bM, 0, none⟩ v').heap[bM]? = some (.cells #[v', vD] 83 (0, 0)) := zge (xs := [vI, vD]) hm 0 v'
 refine ⟨hm, hm2, ?_, ?_, hbw.setCell h.hb _, h.hb⟩
 ·rw [inos_app, List.length_append]
  exact ownsRow_setCell_other ho (zbz ho hm zjb) _
 ·exact ownsRow_setCell_other hd (zbz hd hm zjc) _
theorem RimI.growD {W w w' : World} {bM : Nat} {vI vD v' : Value} {xs : List Ino} {ds : List Den} (h : RimI W w bM vI vD xs ds) (x : Den) (ho : w'.ownsRow W.heap.size 173 3 v' (ds.length + 1) (dens ds ++ dens [x])) (hg : w.grownBy w' vD.ownBlock) :
  w'.heap[bM]? = some (.cells #[vI, vD] 83 (0, 0)) ∧ RimI W (w'.setCell ⟨bM, 1, none⟩ v') bM vI v' xs (ds ++ [x]) := by
 have hm : w'.heap[bM]? = some (.cells #[vI, vD] 83 (0, 0)) := (hg.block _ h.lt (zbz h.d h.m zjc).symm).trans h.m
 have hd := (Row.apart (zaf h.i) (zaf h.d) ino_den hg).1
 have hbw := h.b.grown hg h.z (fun q hq => (h.d.lt q hq).1)
 have hm2 : (w'.setCell ⟨bM, 1, none⟩ v').heap[bM]? = some (.cells #[vI, v'] 83 (0, 0)) := zge (xs := [vI, vD]) hm 1 v'
 refine ⟨hm, hm2, ?_, ?_, hbw.setCell h.hb _, h.hb⟩
 ·exact ownsRow_setCell_other hd (zbz hd hm zjb) _
 ·rw [zia, List.length_append]
  exact ownsRow_setCell_other ho (zbz ho hm zjc) _

theorem zam {a w : World} (h : Below a.heap.size a w) (o : Obj) : Below a.heap.size a (w.alloc o) := h.alloc h.size o
/-- A box that was made since. -/
structure BoxZ (t : TypeId) (wr w : World) (b : Nat) (cs : List Value) : Prop where
 ge : wr.heap.size ≤ b
 at_ : w.heap[b]? = some (.cells cs.toArray t (0, 0))
theorem BoxZ.new {t : TypeId} {wr Y : World} {cs : List Value} (h : Below wr.heap.size wr Y) : BoxZ t wr (Y.alloc (.cells cs.toArray t)) Y.heap.size cs := ⟨h.size, zah rfl⟩
theorem BoxZ.drew {t : TypeId} {wr w : World} {b : Nat} {cs : List Value} (h : BoxZ t wr w b cs) : BoxZ t wr w.drew b cs := ⟨h.ge, h.at_⟩
theorem BoxZ.lt {t : TypeId} {wr w : World} {b : Nat} {cs : List Value} (h : BoxZ t wr w b cs) : b < w.heap.size := (Array.getElem?_eq_some_iff.1 h.at_).1
theorem BoxZ.below {t : TypeId} {wr X w : World} {b : Nat} {cs : List Value} (h : BoxZ t wr X b cs) (hb : Below X.heap.size X w) : BoxZ t wr w b cs := ⟨h.ge, (hb.block _ h.lt).trans h.at_⟩
theorem BoxZ.put {t : TypeId} {wr w : World} {b : Nat} {cs : List Value} (h : BoxZ t wr w b cs) (j : Nat) (u : Value) : BoxZ t wr (w.setCell ⟨b, j, none⟩ u) b (cs.set j u) := ⟨h.ge, zge h.at_ j u⟩
theorem BoxZ.cell {t : TypeId} {wr w : World} {b : Nat} {cs : List Value} (h : BoxZ t wr w b cs) (j : Nat) : w.cell? ⟨b, j, none⟩ = cs[j]? ∧ w.frozen? ⟨b, j, none⟩ = false := zay h.at_ j
end Go.Proofs.YtipklbnfobckaaaGreatDoor
