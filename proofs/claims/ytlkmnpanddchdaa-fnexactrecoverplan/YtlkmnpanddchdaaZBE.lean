/- Several texts laid together: DtH, FqG, NdA. -/
import Derived.Test.YtlkmnpanddchdaaZAU
import Derived.Test.YtlkmnpanddchdaaZAZ
import Derived.Test.YtlkmnpanddchdaaZAT
import Derived.Test.YtlkmnpanddchdaaZAO
import Derived.Test.YtlkmnpanddchdaaWord
import Derived.Test.YtlkmnpanddchdaaMem
import Derived.Test.YtlkmnpanddchdaaZAQ
import Derived.Test.YtlkmnpanddchdaaZBA
import Derived.Test.YtlkmnpanddchdaaZAX
import Derived.Test.YtlkmnpanddchdaaJrQ
import Derived.Test.YtlkmnpanddchdaaZBD
import Derived.Test.YtlkmnpanddchdaaBlkOKI
import Derived.Test.YtlkmnpanddchdaaDev
import Derived.Maps.Views
import Derived.Deep.LoopGhost
import Derived.Deep.RegionHeld3
import Derived.Deep.RegionLaw
import Derived.Laws.CopyRow
import Derived.Laws.CopyOwn
import Derived.Laws.Cover3
import Derived.Laws.OwnMore
import Derived.Lib.SplitLaws
import Derived.Lib.IndexBytes
import Derived.Laws.IdiomStrings
import Derived.Laws.BytesArg
import Derived.Deep.OwnRows
import Derived.WalkKit
import Derived.BigQuiet
import Derived.Sort.Walk0
import Derived.Laws.Cover1
import Derived.Test.YtlkmnpanddchdaaZAS
import Derived.Test.YtlkmnpanddchdaaJrF
import Derived.Deep.RegionWith
import Derived.Deep.DeepCutAuto
import Derived.KernelRfl
import Derived.BigRegion
namespace Go.Proofs.Ytlkmnpanddchdaa
open Go.RowKit

/-- A plan of steps that is told. -/
def MiOut (w w' : World) (e : Ending) (r : List Mi × Int) : Prop := ∃ v', e = .returned (.tuple #[v', .int .i64 r.2]) ∧ Row w' 58 3 w.heap.size w'.heap.size v' r.1.length (mis r.1) ∧ Below w.heap.size w w'
/-- Steps under way. -/
structure MiI (W w : World) (vL : Value) (ls : List Mi) : Prop where
  l : w.ownsRow W.heap.size 58 3 vL ls.length (mis ls)
  b : Below W.heap.size W w
theorem MiI.z {W w : World} {vL : Value} {ls : List Mi} (h : MiI W w vL ls) : W.heap.size ≤ w.heap.size := h.b.size
theorem MiI.below {W w w' : World} {vL : Value} {ls : List Mi} (h : MiI W w vL ls) (hb : Below w.heap.size w w') : MiI W w' vL ls :=
  ⟨((own_block h.l).below hb (Nat.le_refl _)).1, below_trans h.b hb h.z⟩
/-- Steps and updates under way. -/
structure WrI (W w : World) (vL vU : Value) (ls : List Mi) (us : List Se) : Prop where
  l : w.ownsRow W.heap.size 58 3 vL ls.length (mis ls)
  u : w.ownsRow W.heap.size 80 2 vU us.length (ses us)
  b : Below W.heap.size W w
theorem WrI.z {W w : World} {vL vU : Value} {ls : List Mi} {us : List Se} (h : WrI W w vL vU ls us) : W.heap.size ≤ w.heap.size := h.b.size
theorem WrI.below {W w w' : World} {vL vU : Value} {ls : List Mi} {us : List Se} (h : WrI W w vL vU ls us) (hb : Below w.heap.size w w') : WrI W w' vL vU ls us :=
  ⟨((own_block h.l).below hb (Nat.le_refl _)).1, ((own_block h.u).below hb (Nat.le_refl _)).1, below_trans h.b hb h.z⟩
end Go.Proofs.Ytlkmnpanddchdaa

namespace Go.Proofs.Ytlkmnpanddchdaa
open Go.RowKit

theorem Rd.none {w w' : World} {size : Nat} {v : Value} {xs : List Value} (h : Rd w size v 0 xs) (_hz : w.heap.size ≤ w'.heap.size) : Rd w' size v 0 xs := by
  obtain ⟨h1, ao, cap, rfl, h2, h3⟩ := h
  exact ⟨h1, ao, cap, rfl, h2, fun h => absurd h (Nat.lt_irrefl 0)⟩
end Go.Proofs.Ytlkmnpanddchdaa

namespace Go.Proofs.Ytlkmnpanddchdaa
open Go.RowKit

def zs336 : List Int := List.replicate 336 0
def zs32 : List Int := List.replicate 32 0
def n336 : Array Value := (ints zs336).toArray
def n32 : Array Value := (ints zs32).toArray
/-- The blocks of new devices: words, sectors, and the box. -/
structure NDc (w0 wx : World) (bw bs bx : Nat) (vP vQ : Value) (W : List Int) : Prop where
  hw : wx.heap[bw]? = some (.cells (ints W).toArray 3 (0, 0))
  hs : wx.heap[bs]? = some (.cells n32 3 (0, 0))
  hx : wx.heap[bx]? = some (.cells #[.slice (some ⟨bw, 0, none⟩) 336 336, vP, .slice (some ⟨bs, 0, none⟩) 32 32, vQ] 42 (0, 0))
  d1 : ¬ bw = bs
  d2 : ¬ bw = bx
  d3 : ¬ bs = bx
  l1 : w0.heap.size ≤ bw
  l2 : w0.heap.size ≤ bs
  l3 : w0.heap.size ≤ bx
  b : Below w0.heap.size w0 wx
theorem NDc.drew {w0 wx : World} {bw bs bx : Nat} {vP vQ : Value} {W : List Int} (h : NDc w0 wx bw bs bx vP vQ W) : NDc w0 wx.drew bw bs bx vP vQ W :=
  ⟨h.hw, h.hs, h.hx, h.d1, h.d2, h.d3, h.l1, h.l2, h.l3, h.b.drew⟩
theorem NDc.below {w0 wx wy : World} {bw bs bx : Nat} {vP vQ : Value} {W : List Int} (h : NDc w0 wx bw bs bx vP vQ W) (hb : Below wx.heap.size wx wy) : NDc w0 wy bw bs bx vP vQ W :=
  ⟨(hb.block _ (Array.getElem?_eq_some_iff.1 h.hw).1).trans h.hw, (hb.block _ (Array.getElem?_eq_some_iff.1 h.hs).1).trans h.hs, (hb.block _ (Array.getElem?_eq_some_iff.1 h.hx).1).trans h.hx, h.d1, h.d2, h.d3, h.l1, h.l2, h.l3, below_trans h.b hb h.b.size⟩
theorem NDc.at {w0 wx : World} {bw bs bx : Nat} {vP vQ : Value} {W : List Int} (h : NDc w0 wx bw bs bx vP vQ W) (j : Nat) (hj : j < W.length) : wx.cell? ⟨bw, j, none⟩ = some (.int .i64 W[j]) ∧ wx.frozen? ⟨bw, j, none⟩ = false := by
  obtain ⟨a, b⟩ := eight_at h.hw j
  exact ⟨a.trans (ints_at W j hj), b⟩
end Go.Proofs.Ytlkmnpanddchdaa
