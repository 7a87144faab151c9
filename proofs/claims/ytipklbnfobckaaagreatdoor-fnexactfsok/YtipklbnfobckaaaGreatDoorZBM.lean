/- Several texts laid together: Open, SeenM, MemM, JrF, JrQ, JrC, DtA, RdB. -/
import Derived.Test.YtipklbnfobckaaaGreatDoorZAC
import Derived.Test.YtipklbnfobckaaaGreatDoorZBL
import Derived.Test.YtipklbnfobckaaaGreatDoorZBJ
import Derived.Test.YtipklbnfobckaaaGreatDoorZAI
import Derived.Test.YtipklbnfobckaaaGreatDoorZAB
import Derived.Test.YtipklbnfobckaaaGreatDoorZAH
import Derived.Test.YtipklbnfobckaaaGreatDoorZAT
import Derived.BigRegion
import Derived.BigQuiet
import Derived.Deep.QuietTactic
import Derived.Deep.DeepCutAuto
import Derived.Test.YtipklbnfobckaaaGreatDoorZAD
import Derived.Deep.RegionHeld3
import Derived.Test.YtipklbnfobckaaaGreatDoorZAS
import Derived.Test.YtipklbnfobckaaaGreatDoorZAL
import Derived.Test.YtipklbnfobckaaaGreatDoorImX
import Derived.Test.YtipklbnfobckaaaGreatDoorZAJ
import Derived.Maps.Views
import Derived.Deep.LoopGhost
import Derived.Laws.OwnMore
import Derived.Lib.SplitLaws
import Derived.Lib.IndexBytes
import Derived.Sort.Walk0
import Derived.Laws.Cover1
import Derived.Test.YtipklbnfobckaaaGreatDoorZAR
import Derived.Test.YtipklbnfobckaaaGreatDoorZAO
namespace Go.Proofs.YtipklbnfobckaaaGreatDoor
open Go.ChangeShapes Go.WideShapes Go.ChangeAt Go.RowKit Go.Joins

theorem cellsStore : Tryz.prog.cellsOf 230 = 3 := by kernel_rfl
theorem cellsPm : Tryz.prog.cellsOf 25 = 2 := by kernel_rfl

section

variable {H : Type} {enc : TypeId × Value → H} {W : World} {sp : Nat → Bool} {held : Bool} {fuel : Nat} {v : Value} {y : DataW H × List MemPlace}

set_option maxRecDepth 100000 in
theorem open_RdS (h : DataW.trod enc Tryz.prog W 0 sp held fuel 23 [v] = some y) : ∃ ps : List St, RdS W v ps ∧ ps.length ≤ maxLen ∧ ∀ p ∈ ps, (Lit.int .i64 p.at_).wf = true ∧ (Lit.int .i64 p.val).wf = true := by
  rcases Deep.open_slice Tryz.underlying23 h with ⟨hcs, _⟩ | ⟨a, len, cap, m, n, D, Pl, hcs, _, hl, hm, hmm, _, hel⟩
  · simp only [List.cons.injEq, and_true] at hcs
    subst hcs
    exact ⟨[], ⟨rfl, none, 0, rfl, ⟨Nat.le_refl _, fun _ => rfl⟩, fun h => absurd h (by simp)⟩, by simp, fun p hp => by simp at hp⟩
  · simp only [List.cons.injEq, and_true] at hcs
    subst hcs
    have hlm : len ≤ m := by rw [hmm]; split <;> omega
    have one : ∀ i, i < len → ∃ s : St, (W.cell? ((a.add (i * 3)).add 0) = some (.int .i64 s.at_) ∧ W.cell? ((a.add (i * 3)).add 1) = some (.int .i64 s.val) ∧ W.cell? ((a.add (i * 3)).add 2) = some (.bool s.fl)) ∧ (Lit.int .i64 s.at_).wf = true ∧ (Lit.int .i64 s.val).wf = true := by
      intro i hi
      obtain ⟨cs, hcs, ht⟩ := hel i (by omega)
      rw [cellsStore] at hcs
      obtain ⟨_, hlen, hc⟩ := World.cells?_some hcs
      obtain ⟨y0, y1, y2, n', _, _, t0, t1, t2⟩ := Deep.trod_struct3 Tryz.underlying230 ht
      obtain ⟨z0, e0, _, w0⟩ := DataW.trod_int Tryz.underlying3 t0
      obtain ⟨z1, e1, _, w1⟩ := DataW.trod_int Tryz.underlying3 t1
      obtain ⟨z2, e2, _⟩ := DataW.trod_bool Tryz.underlying4 t2
      simp only [cells3, cells4] at e0 e1 e2
      match cs, hlen with
      | [c0, c1, c2], _ =>
        simp at e0 e1 e2
        subst e0 e1 e2
        exact ⟨⟨z0, z1, z2⟩, ⟨by simpa using hc 0 (by omega), by simpa using hc 1 (by omega), by simpa using hc 2 (by omega)⟩, w0, w1⟩
    obtain ⟨ps, hpl, hps⟩ := exists_list len one
    refine ⟨ps, ⟨sts_len ps, some a, cap, by rw [hpl], ⟨by rw [hpl]; exact hl, fun e => by cases e⟩, fun hn => ?_⟩, by rw [hpl]; omega, fun p hp => ?_⟩
    · obtain ⟨b, off, spot⟩ := a
      have hc := (hps 0 hn).1.1
      have hspot : spot = none := by simpa [Addr.add] using World.cell?_spot hc
      subst hspot
      refine ⟨b, off, rfl, World.block_lt_of_cell? W _ (by simpa [Addr.add] using hc), fun j hj => ?_⟩
      have hk : j / 3 < ps.length := by omega
      obtain ⟨⟨q0, q1, q2⟩, _⟩ := hps (j / 3) hk
      simp only [Addr.add_lit, Nat.add_zero] at q0 q1 q2
      have hj3 : j = j / 3 * 3 + j % 3 := by omega
      rcases (show j % 3 = 0 ∨ j % 3 = 1 ∨ j % 3 = 2 from by omega) with r | r | r
      · rw [hj3, r, Nat.add_zero, q0, sts_at0 ps _ hk]
      · rw [hj3, r, ← Nat.add_assoc, q1, sts_at1 ps _ hk]
      · rw [hj3, r, ← Nat.add_assoc, q2, sts_at2 ps _ hk]
    · obtain ⟨i, hi, rfl⟩ := List.getElem_of_mem hp
      exact (hps i hi).2

end

end Go.Proofs.YtipklbnfobckaaaGreatDoor

namespace Go.Proofs.YtipklbnfobckaaaGreatDoor
open Go.RowKit

/-- Behind the region that draws a place and flushes there. -/
structure CutF (w3 wx : World) (ws : List Int) (ps : List St) (k : Int) (aW aP : Option Addr) (cW cP bx : Nat) : Prop where
  k0 : 0 ≤ k
  k1 : k < 336
  lo : w3.heap.size ≤ bx
  hi : bx < wx.heap.size
  box : wx.heap[bx]? = some (.cells #[.slice aW 336 cW, .slice aP ps.length cP] 41 (0, 0))
  rd : RdPm wx (.agg #[.slice aW 336 cW, .slice aP ps.length cP]) ws (ps.map (fl1 k))
  below : Below w3.heap.size w3 wx
theorem CutF.drew {w3 wx : World} {ws : List Int} {ps : List St} {k : Int} {aW aP : Option Addr} {cW cP bx : Nat} (h : CutF w3 wx ws ps k aW aP cW cP bx) : CutF w3 wx.drew ws ps k aW aP cW cP bx :=
  ⟨h.k0, h.k1, h.lo, h.hi, h.box, h.rd.below ((Below.refl _ _).drew), h.below.drew⟩
end Go.Proofs.YtipklbnfobckaaaGreatDoor

namespace Go.Proofs.YtipklbnfobckaaaGreatDoor
open Go.RowKit

/-- Behind a region that draws what is kept, and crashes. -/
structure CutC (w0 wx : World) (X : List Int) (aW aP : Option Addr) (cW cP bx : Nat) : Prop where
  lo : w0.heap.size ≤ bx
  hi : bx < wx.heap.size
  box : wx.heap[bx]? = some (.cells #[.slice aW 336 cW, .slice aP 0 cP] 41 (0, 0))
  rd : RdPm wx (.agg #[.slice aW 336 cW, .slice aP 0 cP]) X []
  below : Below w0.heap.size w0 wx
theorem CutC.drew {w0 wx : World} {X : List Int} {aW aP : Option Addr} {cW cP bx : Nat} (h : CutC w0 wx X aW aP cW cP bx) : CutC w0 wx.drew X aW aP cW cP bx :=
  ⟨h.lo, h.hi, h.box, h.rd.below ((Below.refl _ _).drew), h.below.drew⟩
end Go.Proofs.YtipklbnfobckaaaGreatDoor

namespace Go.Proofs.YtipklbnfobckaaaGreatDoor
open Go.RowKit

theorem RdM.form {w : World} {v : Value} {ps : List Mi} (h : RdM w v ps) {n : Nat} (hn : ps.length = n) : ∃ ao cap, v = .slice ao n cap := by
  obtain ⟨ao, cap, e, _⟩ := h.shape
  exact ⟨ao, cap, hn ▸ e⟩
end Go.Proofs.YtipklbnfobckaaaGreatDoor

namespace Go.Proofs.YtipklbnfobckaaaGreatDoor
open Go.RowKit

/-- Steps and places that are under way. -/
structure PlI (w0 w : World) (vL vP : Value) (ls : List Mi) (ps : List Int) : Prop where
  l : w.ownsRow w0.heap.size 79 3 vL ls.length (mis ls)
  p : w.ownsRow w0.heap.size 3 1 vP ps.length (ints ps)
  b : Below w0.heap.size w0 w
  z : w0.heap.size ≤ w.heap.size

theorem PlI.below {w0 w w' : World} {vL vP : Value} {ls : List Mi} {ps : List Int} (h : PlI w0 w vL vP ls ps) (hb : Below w.heap.size w w') : PlI w0 w' vL vP ls ps :=
  ⟨((own_block h.l).below hb (Nat.le_refl _)).1, ((own_block h.p).below hb (Nat.le_refl _)).1, below_trans h.b hb h.z, Nat.le_trans h.z hb.size⟩
end Go.Proofs.YtipklbnfobckaaaGreatDoor

namespace Go.Proofs.YtipklbnfobckaaaGreatDoor
open Go.RowKit

/-- A word as it is loaded. -/
def ldW (ws : List Int) (ps : List St) (k : Nat) : Int := lastW (k : Int) (ws[k]?.getD 0) ps
theorem ldW_at {ws : List Int} {ps : List St} {k : Nat} (h : k < ws.length) : ldW ws ps k = lastW (k : Int) ws[k] ps := by unfold ldW; simp [h]
theorem pm_len {ws : List Int} {ps : List St} (h : pmB ws ps = true) : ws.length = 336 := (pmB_len h).1

set_option maxRecDepth 100000 in
set_option maxHeartbeats 2000000 in
theorem l04Count_any (v : Value) (ws : List Int) (ps : List St) (w : World) (h : RdPm w v ws ps) (hw : ws.length ≤ 1048576) (hp : ps.length ≤ 1048576) (ha : 8 < ws.length) :
    Calls Tryz.prog 45 #[v] w fun e w' => e = .returned (.int .i64 (ldW ws ps 8)) ∧ Below w.heap.size w w' := by
  have HR := hideIt h
  obtain ⟨vW, vP, rfl, h1, h2⟩ := h
  obtain ⟨aW, cW, rfl, _⟩ := h1.shape
  obtain ⟨aP, cP, rfl, _⟩ := h2.shape
  clear h1 h2
  have hb0 : Below w.heap.size w (w.alloc (.cells #[.slice aW ws.length cW, .slice aP ps.length cP] 41)) := (Below.refl _ _).alloc (Nat.le_refl _) _
  rw [ldW_at ha]
  go_enter Tryz.func45, Tryz.ntmps45
  go_wp2_with fail
  refine (l01Load_any _ ws ps 8 _ (HR.out.below hb0) hw hp ha).mono ?_
  rintro e w2 ⟨rfl, hb2⟩
  go_wp2
  go_ret
  exact ⟨rfl, below_trans hb0 hb2 (by simp)⟩

end Go.Proofs.YtipklbnfobckaaaGreatDoor

namespace Go.Proofs.YtipklbnfobckaaaGreatDoor
open Go.RowKit

/-- Devices whose image is right. -/
def dvB (ws : List Int) (ps : List St) (es : List Int) (qs : List Se) : Bool := (pmB ws ps && blkB es qs) && riB (layW ws ps)
end Go.Proofs.YtipklbnfobckaaaGreatDoor

namespace Go.Proofs.YtipklbnfobckaaaGreatDoor
open Go.RowKit

theorem bel2 {a b c : World} (h1 : Below a.heap.size a b) (h2 : Below b.heap.size b c) : Below a.heap.size a c := below_trans h1 h2 h1.size
/-- An image under way. -/
structure RimI (W w : World) (bM : Nat) (vI vD : Value) (xs : List Ino) (ds : List Den) : Prop where
  m : w.heap[bM]? = some (.cells #[vI, vD] 83 (0, 0))
  i : w.ownsRow W.heap.size 171 11 vI xs.length (inos xs)
  d : w.ownsRow W.heap.size 173 3 vD ds.length (dens ds)
  b : Below W.heap.size W w
  hb : W.heap.size ≤ bM
theorem RimI.lt {W w : World} {bM : Nat} {vI vD : Value} {xs : List Ino} {ds : List Den} (h : RimI W w bM vI vD xs ds) : bM < w.heap.size := (Array.getElem?_eq_some_iff.1 h.m).1
theorem RimI.z {W w : World} {bM : Nat} {vI vD : Value} {xs : List Ino} {ds : List Den} (h : RimI W w bM vI vD xs ds) : W.heap.size ≤ w.heap.size := h.b.size
theorem RimI.below {W w w' : World} {bM : Nat} {vI vD : Value} {xs : List Ino} {ds : List Den} (h : RimI W w bM vI vD xs ds) (hb : Below w.heap.size w w') : RimI W w' bM vI vD xs ds :=
  ⟨(hb.block _ h.lt).trans h.m, ((own_block h.i).below hb (Nat.le_refl _)).1, ((own_block h.d).below hb (Nat.le_refl _)).1, below_trans h.b hb h.z, h.hb⟩
/-- A row's block is no box of another type. -/
theorem own_type {w : World} {base : Nat} {e t : TypeId} {size : Nat} {v : Value} {n : Nat} {xs : List Value} {b : Nat} {cs : Array Value} {fr : Nat × Nat} (h : w.ownsRow base e size v n xs) (hb : w.heap[b]? = some (.cells cs t fr)) (hne : e ≠ t) : v.ownBlock ≠ some b := by
  intro hv
  obtain ⟨_, h1 | ⟨g, cap, cur, e1, _, hg, _⟩⟩ := h
  · rw [h1.1] at hv; cases hv
  · rw [e1] at hv
    have : g = b := by simpa [Value.ownBlock] using hv
    subst this
    rw [hg] at hb
    injection hb with hb
    injection hb with _ ht _
    exact hne ht
theorem img_ino : (171 : Nat) ≠ 83 := by decide
theorem img_den : (173 : Nat) ≠ 83 := by decide
theorem ino_den : (171 : Nat) ≠ 173 := by decide
theorem inos_app (l l' : List Ino) : inos (l ++ l') = inos l ++ inos l' := by simp [inos]
theorem inos_ones (l : List Ino) : ∀ u ∈ inos l, u.oneCell' = true := by
  intro u hu
  simp only [inos, List.mem_flatMap] at hu
  obtain ⟨m, _, hm⟩ := hu
  simp [Ino.cs] at hm
  rcases hm with rfl | rfl | rfl | rfl | rfl | rfl | rfl | rfl | rfl | rfl | rfl <;> rfl
theorem RimI.growI {W w w' : World} {bM : Nat} {vI vD v' : Value} {xs : List Ino} {ds : List Den} (h : RimI W w bM vI vD xs ds) (x : Ino) (ho : w'.ownsRow W.heap.size 171 11 v' (xs.length + 1) (inos xs ++ inos [x])) (hg : w.grownBy w' vI.ownBlock) :
    w'.heap[bM]? = some (.cells #[vI, vD] 83 (0, 0)) ∧ RimI W (w'.setCell ⟨bM, 0, none⟩ v') bM v' vD (xs ++ [x]) ds := by
  have hm : w'.heap[bM]? = some (.cells #[vI, vD] 83 (0, 0)) := (hg.block _ h.lt (own_type h.i h.m img_ino).symm).trans h.m
  have hd := (Row.apart (own_block h.d) (own_block h.i) (Ne.symm ino_den) hg).1
  have hbw := h.b.grown hg h.z (fun q hq => (h.i.lt q hq).1)
  have hm2 : (w'.setCell ⟨bM, 0, none⟩ v').heap[bM]? = some (.cells #[v', vD] 83 (0, 0)) := eight_set (xs := [vI, vD]) hm 0 v'
  refine ⟨hm, hm2, ?_, ?_, hbw.setCell h.hb _, h.hb⟩
  · rw [inos_app, List.length_append]
    exact ownsRow_setCell_other ho (own_type ho hm img_ino) _
  · exact ownsRow_setCell_other hd (own_type hd hm img_den) _
theorem RimI.growD {W w w' : World} {bM : Nat} {vI vD v' : Value} {xs : List Ino} {ds : List Den} (h : RimI W w bM vI vD xs ds) (x : Den) (ho : w'.ownsRow W.heap.size 173 3 v' (ds.length + 1) (dens ds ++ dens [x])) (hg : w.grownBy w' vD.ownBlock) :
    w'.heap[bM]? = some (.cells #[vI, vD] 83 (0, 0)) ∧ RimI W (w'.setCell ⟨bM, 1, none⟩ v') bM vI v' xs (ds ++ [x]) := by
  have hm : w'.heap[bM]? = some (.cells #[vI, vD] 83 (0, 0)) := (hg.block _ h.lt (own_type h.d h.m img_den).symm).trans h.m
  have hd := (Row.apart (own_block h.i) (own_block h.d) ino_den hg).1
  have hbw := h.b.grown hg h.z (fun q hq => (h.d.lt q hq).1)
  have hm2 : (w'.setCell ⟨bM, 1, none⟩ v').heap[bM]? = some (.cells #[vI, v'] 83 (0, 0)) := eight_set (xs := [vI, vD]) hm 1 v'
  refine ⟨hm, hm2, ?_, ?_, hbw.setCell h.hb _, h.hb⟩
  · exact ownsRow_setCell_other hd (own_type hd hm img_ino) _
  · rw [dens_app, List.length_append]
    exact ownsRow_setCell_other ho (own_type ho hm img_den) _

theorem below_allocB {a w : World} (h : Below a.heap.size a w) (o : Obj) : Below a.heap.size a (w.alloc o) := h.alloc h.size o
/-- A box that was made since. -/
structure BoxZ (t : TypeId) (wr w : World) (b : Nat) (cs : List Value) : Prop where
  ge : wr.heap.size ≤ b
  at_ : w.heap[b]? = some (.cells cs.toArray t (0, 0))
theorem BoxZ.new {t : TypeId} {wr Y : World} {cs : List Value} (h : Below wr.heap.size wr Y) : BoxZ t wr (Y.alloc (.cells cs.toArray t)) Y.heap.size cs := ⟨h.size, at_new rfl⟩
theorem BoxZ.drew {t : TypeId} {wr w : World} {b : Nat} {cs : List Value} (h : BoxZ t wr w b cs) : BoxZ t wr w.drew b cs := ⟨h.ge, h.at_⟩
theorem BoxZ.lt {t : TypeId} {wr w : World} {b : Nat} {cs : List Value} (h : BoxZ t wr w b cs) : b < w.heap.size := (Array.getElem?_eq_some_iff.1 h.at_).1
theorem BoxZ.below {t : TypeId} {wr X w : World} {b : Nat} {cs : List Value} (h : BoxZ t wr X b cs) (hb : Below X.heap.size X w) : BoxZ t wr w b cs := ⟨h.ge, (hb.block _ h.lt).trans h.at_⟩
theorem BoxZ.put {t : TypeId} {wr w : World} {b : Nat} {cs : List Value} (h : BoxZ t wr w b cs) (j : Nat) (u : Value) : BoxZ t wr (w.setCell ⟨b, j, none⟩ u) b (cs.set j u) := ⟨h.ge, eight_set h.at_ j u⟩
theorem BoxZ.cell {t : TypeId} {wr w : World} {b : Nat} {cs : List Value} (h : BoxZ t wr w b cs) (j : Nat) : w.cell? ⟨b, j, none⟩ = cs[j]? ∧ w.frozen? ⟨b, j, none⟩ = false := eight_at h.at_ j
end Go.Proofs.YtipklbnfobckaaaGreatDoor
