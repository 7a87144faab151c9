/- Several texts laid together: RdB, PeH. -/
import Derived.Test.YtpgdpachomdfhaaDoorZBR
import Derived.Test.YtpgdpachomdfhaaDoorPiI
import Derived.Test.YtpgdpachomdfhaaDoorImH
import Derived.Deep.LoopGhost
import Derived.Deep.RegionHeld3
import Derived.Deep.DeepCutAuto
import Derived.Test.YtpgdpachomdfhaaDoorZBQ
namespace Go.Proofs.YtpgdpachomdfhaaDoor
open Go.RowKit

theorem bel2 {a b c : World} (h1 : Below a.heap.size a b) (h2 : Below b.heap.size b c) : Below a.heap.size a c := below_trans h1 h2 h1.size
/-- An image under way. -/
structure RimI (W w : World) (bM : Nat) (vI vD : Value) (xs : List Ino) (ds : List Den) : Prop where
  m : w.heap[bM]? = some (.cells #[vI, vD] 33 (0, 0))
  i : w.ownsRow W.heap.size 62 11 vI xs.length (inos xs)
  d : w.ownsRow W.heap.size 49 3 vD ds.length (dens ds)
  b : Below W.heap.size W w
  hb : W.heap.size ≤ bM
theorem RimI.lt {W w : World} {bM : Nat} {vI vD : Value} {xs : List Ino} {ds : List Den} (h : RimI W w bM vI vD xs ds) : bM < w.heap.size := (Array.getElem?_eq_some_iff.1 h.m).1
theorem RimI.z {W w : World} {bM : Nat} {vI vD : Value} {xs : List Ino} {ds : List Den} (h : RimI W w bM vI vD xs ds) : W.heap.size ≤ w.heap.size := h.b.size
theorem RimI.below {W w w' : World} {bM : Nat} {vI vD : Value} {xs : List Ino} {ds : List Den} (h : RimI W w bM vI vD xs ds) (hb : Below w.heap.size w w') : RimI W w' bM vI vD xs ds :=
  ⟨(hb.block _ h.lt).trans h.m, ((own_block h.i).below hb (Nat.le_refl _)).1, ((own_block h.d).below hb (Nat.le_refl _)).1, below_trans h.b hb h.z, h.hb⟩
/-- A row's block is no box of another type. -/
theorem own_type {w : World} {base : Nat} {e t : TypeId} {size : Nat} {v : Value} {n : Nat} {xs : List Value} {b : Nat} {cs : Array Value} {fr : Nat × Nat} (h : w.ownsRow base e size v n xs) (hb : w.heap[b]? = some (.cells cs t fr)) (hne : e ≠ t) : v.ownBlock ≠ some b := by
  intro hv
  obtain ⟨_, h1 | ⟨g, cap, cur, e1, _, hg, _⟩⟩ := h
  · rw [h1.1] at hv; cases hv
  · rw [e1] at hv
    have : g = b := by simpa [Value.ownBlock] using hv
    subst this
    rw [hg] at hb
    injection hb with hb
    injection hb with _ ht _
    exact hne ht
theorem img_ino : (62 : Nat) ≠ 33 := by decide
theorem img_den : (49 : Nat) ≠ 33 := by decide
theorem ino_den : (62 : Nat) ≠ 49 := by decide
theorem inos_app (l l' : List Ino) : inos (l ++ l') = inos l ++ inos l' := by simp [inos]
theorem inos_ones (l : List Ino) : ∀ u ∈ inos l, u.oneCell' = true := by
  intro u hu
  simp only [inos, List.mem_flatMap] at hu
  obtain ⟨m, _, hm⟩ := hu
  simp [Ino.cs] at hm
  rcases hm with rfl | rfl | rfl | rfl | rfl | rfl | rfl | rfl | rfl | rfl | rfl <;> rfl
/-- The box of an image behind a row's growing. -/
structure RimG (W w : World) (bM : Nat) (vI vD : Value) (vN : Value) : Prop where
  m : w.heap[bM]? = some (.cells #[vI, vD] 33 (0, 0))
  b : Below W.heap.size W w
theorem RimI.growI {W w w' : World} {bM : Nat} {vI vD v' : Value} {xs : List Ino} {ds : List Den} (h : RimI W w bM vI vD xs ds) (x : Ino) (ho : w'.ownsRow W.heap.size 62 11 v' (xs.length + 1) (inos xs ++ inos [x])) (hg : w.grownBy w' vI.ownBlock) :
    w'.heap[bM]? = some (.cells #[vI, vD] 33 (0, 0)) ∧ RimI W (w'.setCell ⟨bM, 0, none⟩ v') bM v' vD (xs ++ [x]) ds := by
  have hm : w'.heap[bM]? = some (.cells #[vI, vD] 33 (0, 0)) := (hg.block _ h.lt (own_type h.i h.m img_ino).symm).trans h.m
  have hd := (Row.apart (own_block h.d) (own_block h.i) (Ne.symm ino_den) hg).1
  have hbw := h.b.grown hg h.z (fun q hq => (h.i.lt q hq).1)
  have hm2 : (w'.setCell ⟨bM, 0, none⟩ v').heap[bM]? = some (.cells #[v', vD] 33 (0, 0)) := eight_set (xs := [vI, vD]) hm 0 v'
  refine ⟨hm, hm2, ?_, ?_, hbw.setCell h.hb _, h.hb⟩
  · rw [inos_app, List.length_append]
    exact ownsRow_setCell_other ho (own_type ho hm img_ino) _
  · exact ownsRow_setCell_other hd (own_type hd hm img_den) _
theorem RimI.growD {W w w' : World} {bM : Nat} {vI vD v' : Value} {xs : List Ino} {ds : List Den} (h : RimI W w bM vI vD xs ds) (x : Den) (ho : w'.ownsRow W.heap.size 49 3 v' (ds.length + 1) (dens ds ++ dens [x])) (hg : w.grownBy w' vD.ownBlock) :
    w'.heap[bM]? = some (.cells #[vI, vD] 33 (0, 0)) ∧ RimI W (w'.setCell ⟨bM, 1, none⟩ v') bM vI v' xs (ds ++ [x]) := by
  have hm : w'.heap[bM]? = some (.cells #[vI, vD] 33 (0, 0)) := (hg.block _ h.lt (own_type h.d h.m img_den).symm).trans h.m
  have hd := (Row.apart (own_block h.i) (own_block h.d) ino_den hg).1
  have hbw := h.b.grown hg h.z (fun q hq => (h.d.lt q hq).1)
  have hm2 : (w'.setCell ⟨bM, 1, none⟩ v').heap[bM]? = some (.cells #[vI, v'] 33 (0, 0)) := eight_set (xs := [vI, vD]) hm 1 v'
  refine ⟨hm, hm2, ?_, ?_, hbw.setCell h.hb _, h.hb⟩
  · exact ownsRow_setCell_other hd (own_type hd hm img_ino) _
  · rw [dens_app, List.length_append]
    exact ownsRow_setCell_other ho (own_type ho hm img_den) _

theorem below_allocB {a w : World} (h : Below a.heap.size a w) (o : Obj) : Below a.heap.size a (w.alloc o) := h.alloc h.size o
/-- A box that was made since. -/
structure BoxZ (t : TypeId) (wr w : World) (b : Nat) (cs : List Value) : Prop where
  ge : wr.heap.size ≤ b
  at_ : w.heap[b]? = some (.cells cs.toArray t (0, 0))
theorem BoxZ.new {t : TypeId} {wr Y : World} {cs : List Value} (h : Below wr.heap.size wr Y) : BoxZ t wr (Y.alloc (.cells cs.toArray t)) Y.heap.size cs := ⟨h.size, at_new rfl⟩
theorem BoxZ.drew {t : TypeId} {wr w : World} {b : Nat} {cs : List Value} (h : BoxZ t wr w b cs) : BoxZ t wr w.drew b cs := ⟨h.ge, h.at_⟩
theorem BoxZ.lt {t : TypeId} {wr w : World} {b : Nat} {cs : List Value} (h : BoxZ t wr w b cs) : b < w.heap.size := (Array.getElem?_eq_some_iff.1 h.at_).1
theorem BoxZ.below {t : TypeId} {wr X w : World} {b : Nat} {cs : List Value} (h : BoxZ t wr X b cs) (hb : Below X.heap.size X w) : BoxZ t wr w b cs := ⟨h.ge, (hb.block _ h.lt).trans h.at_⟩
theorem BoxZ.put {t : TypeId} {wr w : World} {b : Nat} {cs : List Value} (h : BoxZ t wr w b cs) (j : Nat) (u : Value) : BoxZ t wr (w.setCell ⟨b, j, none⟩ u) b (cs.set j u) := ⟨h.ge, eight_set h.at_ j u⟩
theorem BoxZ.cell {t : TypeId} {wr w : World} {b : Nat} {cs : List Value} (h : BoxZ t wr w b cs) (j : Nat) : w.cell? ⟨b, j, none⟩ = cs[j]? ∧ w.frozen? ⟨b, j, none⟩ = false := eight_at h.at_ j
theorem BoxZ.putB {t : TypeId} {wr w : World} {b : Nat} {cs : List Value} (h : BoxZ t wr w b cs) (hb : Below wr.heap.size wr w) (j : Nat) (u : Value) : Below wr.heap.size wr (w.setCell ⟨b, j, none⟩ u) := hb.setCell h.ge _
end Go.Proofs.YtpgdpachomdfhaaDoor

namespace Go.Proofs.YtpgdpachomdfhaaDoor
open Go.RowKit

/-- The function value of the walk. -/
def wkF (bR bS bF : Nat) : Value := .func (.func 24) #[] #[.pointer (some ⟨bR, 0, none⟩), .pointer (some ⟨bS, 0, none⟩), .pointer (some ⟨bF, 0, none⟩)]
/-- The walk under way: the box of paths, the box of the function, the row of paths. -/
structure WkI (tF : TypeId) (W w : World) (bR bS bF : Nat) (vS : Value) (ss : List ByteArray) : Prop where
  s : w.heap[bS]? = some (.cells #[vS] 27 (0, 0))
  f : w.heap[bF]? = some (.cells #[wkF bR bS bF] tF (0, 0))
  i : SnI W w vS ss
  hs : W.heap.size ≤ bS
  ne : ¬ bF = bS
theorem WkI.below {tF : TypeId} {W w w' : World} {bR bS bF : Nat} {vS : Value} {ss : List ByteArray} (h : WkI tF W w bR bS bF vS ss) (hb : Below w.heap.size w w') : WkI tF W w' bR bS bF vS ss :=
  ⟨(hb.block _ (Array.getElem?_eq_some_iff.1 h.s).1).trans h.s, (hb.block _ (Array.getElem?_eq_some_iff.1 h.f).1).trans h.f, h.i.below hb, h.hs, h.ne⟩
theorem WkI.grow {tF : TypeId} {W w w' : World} {bR bS bF : Nat} {vS v' : Value} {ss : List ByteArray} (h : WkI tF W w bR bS bF vS ss) (hF : (9 : Nat) ≠ tF) (l : List ByteArray) {m : Nat} (hm : m = l.length) (ho : w'.ownsRow W.heap.size 9 1 v' (ss.length + m) (strs ss ++ strs l)) (hg : w.grownBy w' vS.ownBlock) :
    w'.heap[bS]? = some (.cells #[vS] 27 (0, 0)) ∧ WkI tF W (w'.setCell ⟨bS, 0, none⟩ v') bR bS bF v' (ss ++ l) := by
  have hs : w'.heap[bS]? = some (.cells #[vS] 27 (0, 0)) := (hg.block _ (Array.getElem?_eq_some_iff.1 h.s).1 (own_type h.i.l h.s (by decide)).symm).trans h.s
  have hf : w'.heap[bF]? = some (.cells #[wkF bR bS bF] tF (0, 0)) := (hg.block _ (Array.getElem?_eq_some_iff.1 h.f).1 (own_type h.i.l h.f hF).symm).trans h.f
  have g := h.i.grow l hm ho hg
  refine ⟨hs, eight_set (xs := [vS]) hs 0 v', ?_, ⟨?_, g.b.setCell h.hs _⟩, h.hs, h.ne⟩
  · rw [Below.heap_setCell _ _ _ _ (by exact h.ne)]; exact hf
  · exact ownsRow_setCell_other g.l (own_type g.l hs (by decide)) _
theorem one_cells {w : World} {b : Nat} {t : TypeId} {x : Value} (h : w.heap[b]? = some (.cells #[x] t (0, 0))) : w.cell? ⟨b, 0, none⟩ = some x ∧ w.frozen? ⟨b, 0, none⟩ = false := eight_at (xs := [x]) h 0
/-- The paths of the first entries. -/
def wkK (rs : List Den) (m : Nat) (d : Int) (hd : ByteArray) (l : List Den) : List ByteArray := (l.filter fun x => x.dir == d).flatMap fun x => (hd ++ ⟨#[47]⟩ ++ x.name) :: pthR rs m x.child (hd ++ ⟨#[47]⟩ ++ x.name)
theorem wkK_succ (rs : List Den) (m : Nat) (d : Int) (hd : ByteArray) {l : List Den} {k : Nat} (hk : k < l.length) : wkK rs m d hd (l.take (k + 1)) = if l[k].dir = d then (wkK rs m d hd (l.take k) ++ [hd ++ ⟨#[47]⟩ ++ l[k].name]) ++ pthR rs m l[k].child (hd ++ ⟨#[47]⟩ ++ l[k].name) else wkK rs m d hd (l.take k) := by
  unfold wkK
  rw [List.take_succ_eq_append_getElem hk, List.filter_append, List.flatMap_append]
  by_cases c : l[k].dir = d
  · rw [if_pos c]; simp [c]
  · rw [if_neg c]; simp [c]
theorem wkK_none {rs l : List Den} {d : Int} (h : ∀ x ∈ l, ¬ x.dir = d) (m : Nat) (hd : ByteArray) : wkK rs m d hd l = [] := by
  unfold wkK
  rw [List.filter_eq_nil_iff.2 (fun x hx => by simp [h x hx])]
  rfl
theorem wkK_take (rs : List Den) (m : Nat) (d : Int) (hd : ByteArray) (l : List Den) (j : Nat) : (wkK rs m d hd (l.take j)).length ≤ (wkK rs m d hd l).length := by
  have e : wkK rs m d hd l = wkK rs m d hd (l.take j) ++ wkK rs m d hd (l.drop j) := by
    unfold wkK
    rw [← List.flatMap_append, ← List.filter_append, List.take_append_drop]
  rw [e, List.length_append]
  omega
end Go.Proofs.YtpgdpachomdfhaaDoor
