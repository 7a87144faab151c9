/- One step: by the model. -/
import Derived.Test.YtenadnlgjobmdabDoorDev
import Derived.Test.YtenadnlgjobmdabDoorMiS
import Derived.Test.YtenadnlgjobmdabDoorPmStore
import Derived.Test.YtenadnlgjobmdabDoorPmFlush
import Derived.Test.YtenadnlgjobmdabDoorPmFence
import Derived.Test.YtenadnlgjobmdabDoorPmOwn
import Derived.Test.YtenadnlgjobmdabDoorBlkWrite
import Derived.Test.YtenadnlgjobmdabDoorBlkBar
import Derived.Test.YtenadnlgjobmdabDoorBlkOwn
import Derived.Deep.RegionWith
import Derived.Deep.DeepCutAuto
namespace Go.Proofs.YtenadnlgjobmdabDoor
open Go.RowKit

/-- What a step leaves of the memory and of the block device. -/
def doW (m : Mi) (ws : List Int) (ps : List St) : List Int := if m.kind = 3 then fenW ws ps else ws
def doP (m : Mi) (ps : List St) : List St := if m.kind = 1 then ps ++ [⟨m.at_, m.val, false⟩] else if m.kind = 2 then ps.map (fl1 m.at_) else if m.kind = 3 then fenP ps else ps
def doE (m : Mi) (es : List Int) (qs : List Se) : List Int := if m.kind = 5 then layE es qs else es
def doQ (m : Mi) (qs : List Se) : List Se := if m.kind = 4 then qs ++ [⟨m.at_, m.val⟩] else if m.kind = 5 then [] else qs

/-- A block of slices alone holds no number: what is read as numbers does not lie there. -/
theorem Rd.boxless {w w' : World} {size : Nat} {v : Value} {n : Nat} {xs : List Value} {b : Nat} {cs : Array Value} {t : TypeId} {fr : Nat × Nat} (h : Rd w size v n xs) (h0 : 0 < n * size → ∃ z, xs[0]? = some (.int .i64 z)) (hb : w.heap[b]? = some (.cells cs t fr)) (hcs : ∀ (o : Nat) (z : Int), ¬ cs[o]? = some (.int .i64 z)) (hz : w.heap.size ≤ w'.heap.size) (ho : ∀ j, j < w.heap.size → ¬ j = b → w'.heap[j]? = w.heap[j]?) : Rd w' size v n xs := by
  by_cases hn : 0 < n * size
  · refine h.same hz (fun j hj he => ho j hj (fun e => ?_))
    subst e
    obtain ⟨hl, ao, cap, rfl, _, hc⟩ := h
    have hn' : 0 < n := by
      rcases Nat.eq_zero_or_pos n with e | e
      · subst e; simp at hn
      · exact e
    obtain ⟨b', o, rfl, _, hc⟩ := hc hn'
    simp only [Value.ownBlock, Option.some.injEq] at he
    subst he
    obtain ⟨z, e⟩ := h0 hn
    have := hc 0 hn
    rw [e] at this
    simp only [World.cell?, hb] at this
    exact hcs o z (by simpa using this)
  · obtain ⟨h3, ao, cap, rfl, h4, h5⟩ := h
    refine ⟨h3, ao, cap, rfl, h4, fun hp => ?_⟩
    obtain ⟨b', o, e, hlt, hc⟩ := h5 hp
    exact ⟨b', o, e, by omega, fun j hj => absurd (Nat.lt_of_le_of_lt (Nat.zero_le _) hj) hn⟩
theorem RdI.boxless {w w' : World} {v : Value} {zs : List Int} {b : Nat} {cs : Array Value} {t : TypeId} {fr : Nat × Nat} (h : RdI w v zs) (hb : w.heap[b]? = some (.cells cs t fr)) (hcs : ∀ (o : Nat) (z : Int), ¬ cs[o]? = some (.int .i64 z)) (hz : w.heap.size ≤ w'.heap.size) (ho : ∀ j, j < w.heap.size → ¬ j = b → w'.heap[j]? = w.heap[j]?) : RdI w' v zs :=
  Rd.boxless h (fun hn => ⟨zs[0]'(by simpa using hn), ints_at zs 0 (by simpa using hn)⟩) hb hcs hz ho
theorem RdPm.boxless {w w' : World} {v : Value} {ws : List Int} {ps : List St} {b : Nat} {cs : Array Value} {t : TypeId} {fr : Nat × Nat} (h : RdPm w v ws ps) (hb : w.heap[b]? = some (.cells cs t fr)) (hcs : ∀ (o : Nat) (z : Int), ¬ cs[o]? = some (.int .i64 z)) (hz : w.heap.size ≤ w'.heap.size) (ho : ∀ j, j < w.heap.size → ¬ j = b → w'.heap[j]? = w.heap[j]?) : RdPm w' v ws ps := by
  obtain ⟨vW, vP, rfl, h1, h2⟩ := h
  refine ⟨vW, vP, rfl, RdI.boxless h1 hb hcs hz ho, Rd.boxless h2 (fun hn => ?_) hb hcs hz ho⟩
  have hl : 0 < ps.length := by omega
  have := sts_at0 ps 0 hl
  rw [Nat.zero_mul] at this
  exact ⟨_, this⟩
theorem RdBlk.boxless {w w' : World} {v : Value} {ws : List Int} {ps : List Se} {b : Nat} {cs : Array Value} {t : TypeId} {fr : Nat × Nat} (h : RdBlk w v ws ps) (hb : w.heap[b]? = some (.cells cs t fr)) (hcs : ∀ (o : Nat) (z : Int), ¬ cs[o]? = some (.int .i64 z)) (hz : w.heap.size ≤ w'.heap.size) (ho : ∀ j, j < w.heap.size → ¬ j = b → w'.heap[j]? = w.heap[j]?) : RdBlk w' v ws ps := by
  obtain ⟨vW, vP, rfl, h1, h2⟩ := h
  refine ⟨vW, vP, rfl, RdI.boxless h1 hb hcs hz ho, Rd.boxless h2 (fun hn => ?_) hb hcs hz ho⟩
  have hl : 0 < ps.length := by omega
  have := ses_at0 ps 0 hl
  rw [Nat.zero_mul] at this
  exact ⟨_, this⟩
theorem noints {a b c d : Value} (ha : ∀ z, ¬ a = .int .i64 z) (hb : ∀ z, ¬ b = .int .i64 z) (hc : ∀ z, ¬ c = .int .i64 z) (hd : ∀ z, ¬ d = .int .i64 z) : ∀ (o : Nat) (z : Int), ¬ (#[a, b, c, d] : Array Value)[o]? = some (.int .i64 z) := fun o z e => by
  match o with
  | 0 => simp at e; exact ha z e
  | 1 => simp at e; exact hb z e
  | 2 => simp at e; exact hc z e
  | 3 => simp at e; exact hd z e
  | o + 4 => simp at e
theorem slice_noint (a : Option Addr) (n c : Nat) (z : Int) : ¬ Value.slice a n c = .int .i64 z := fun e => by cases e

/-- The world behind a step: one device put into the box, and the box into the answer. -/
def putD (w : World) (bD bR i j : Nat) (x y a b c d : Value) : World := (((((w.setCell ⟨bD, i, none⟩ x).setCell ⟨bD, j, none⟩ y).setCell ⟨bR, 0, none⟩ a).setCell ⟨bR, 1, none⟩ b).setCell ⟨bR, 2, none⟩ c).setCell ⟨bR, 3, none⟩ d
theorem putD_size (w : World) (bD bR i j : Nat) (x y a b c d : Value) : (putD w bD bR i j x y a b c d).heap.size = w.heap.size := by simp [putD, World.setCell]
theorem putD_other (w : World) (bD bR i j : Nat) (x y a b c d : Value) (k : Nat) (h1 : ¬ k = bD) (h2 : ¬ k = bR) : (putD w bD bR i j x y a b c d).heap[k]? = w.heap[k]? := by
  unfold putD
  rw [Below.heap_setCell _ _ _ _ h2, Below.heap_setCell _ _ _ _ h2, Below.heap_setCell _ _ _ _ h2, Below.heap_setCell _ _ _ _ h2, Below.heap_setCell _ _ _ _ h1, Below.heap_setCell _ _ _ _ h1]
theorem Rd.put {w : World} {size : Nat} {v : Value} {n : Nat} {xs : List Value} {bD bR i j : Nat} {x y a b c d : Value} {cs cs' : Array Value} {t t' : TypeId} {fr fr' : Nat × Nat} (h : Rd w size v n xs) (h0 : 0 < n * size → ∃ z, xs[0]? = some (.int .i64 z)) (hD : w.heap[bD]? = some (.cells cs t fr)) (hcs : ∀ (o : Nat) (z : Int), ¬ cs[o]? = some (.int .i64 z)) (hR : w.heap[bR]? = some (.cells cs' t' fr')) (hcs' : ∀ (o : Nat) (z : Int), ¬ cs'[o]? = some (.int .i64 z)) : Rd (putD w bD bR i j x y a b c d) size v n xs := by
  by_cases e : v.ownBlock = some bD ∨ v.ownBlock = some bR
  · obtain ⟨h3, ao, cap, rfl, h4, h5⟩ := h
    refine ⟨h3, ao, cap, rfl, h4, fun hp => ?_⟩
    obtain ⟨b', o, rfl, hlt, hc⟩ := h5 hp
    refine ⟨b', o, rfl, by rw [putD_size]; exact hlt, fun k hk => ?_⟩
    exfalso
    obtain ⟨z, ez⟩ := h0 (Nat.lt_of_le_of_lt (Nat.zero_le _) hk)
    have := hc 0 (Nat.lt_of_le_of_lt (Nat.zero_le _) hk)
    rw [ez] at this
    simp only [Value.ownBlock, Option.some.injEq] at e
    rcases e with rfl | rfl
    · simp only [World.cell?, hD] at this
      exact hcs o z (by simpa using this)
    · simp only [World.cell?, hR] at this
      exact hcs' o z (by simpa using this)
  · refine h.same (Nat.le_of_eq (putD_size ..).symm) (fun k _ he => putD_other _ _ _ _ _ _ _ _ _ _ _ k (fun x => ?_) (fun x => ?_))
    · subst x; exact e (.inl he)
    · subst x; exact e (.inr he)
theorem RdI.put {w : World} {v : Value} {zs : List Int} {bD bR i j : Nat} {x y a b c d : Value} {cs cs' : Array Value} {t t' : TypeId} {fr fr' : Nat × Nat} (h : RdI w v zs) (hD : w.heap[bD]? = some (.cells cs t fr)) (hcs : ∀ (o : Nat) (z : Int), ¬ cs[o]? = some (.int .i64 z)) (hR : w.heap[bR]? = some (.cells cs' t' fr')) (hcs' : ∀ (o : Nat) (z : Int), ¬ cs'[o]? = some (.int .i64 z)) : RdI (putD w bD bR i j x y a b c d) v zs :=
  Rd.put h (fun hn => ⟨zs[0]'(by simpa using hn), ints_at zs 0 (by simpa using hn)⟩) hD hcs hR hcs'
theorem RdPm.put {w : World} {v : Value} {ws : List Int} {ps : List St} {bD bR i j : Nat} {x y a b c d : Value} {cs cs' : Array Value} {t t' : TypeId} {fr fr' : Nat × Nat} (h : RdPm w v ws ps) (hD : w.heap[bD]? = some (.cells cs t fr)) (hcs : ∀ (o : Nat) (z : Int), ¬ cs[o]? = some (.int .i64 z)) (hR : w.heap[bR]? = some (.cells cs' t' fr')) (hcs' : ∀ (o : Nat) (z : Int), ¬ cs'[o]? = some (.int .i64 z)) : RdPm (putD w bD bR i j x y a b c d) v ws ps := by
  obtain ⟨vW, vP, rfl, h1, h2⟩ := h
  refine ⟨vW, vP, rfl, RdI.put h1 hD hcs hR hcs', Rd.put h2 (fun hn => ?_) hD hcs hR hcs'⟩
  have := sts_at0 ps 0 (by omega)
  rw [Nat.zero_mul] at this
  exact ⟨_, this⟩
theorem RdBlk.put {w : World} {v : Value} {ws : List Int} {ps : List Se} {bD bR i j : Nat} {x y a b c d : Value} {cs cs' : Array Value} {t t' : TypeId} {fr fr' : Nat × Nat} (h : RdBlk w v ws ps) (hD : w.heap[bD]? = some (.cells cs t fr)) (hcs : ∀ (o : Nat) (z : Int), ¬ cs[o]? = some (.int .i64 z)) (hR : w.heap[bR]? = some (.cells cs' t' fr')) (hcs' : ∀ (o : Nat) (z : Int), ¬ cs'[o]? = some (.int .i64 z)) : RdBlk (putD w bD bR i j x y a b c d) v ws ps := by
  obtain ⟨vW, vP, rfl, h1, h2⟩ := h
  refine ⟨vW, vP, rfl, RdI.put h1 hD hcs hR hcs', Rd.put h2 (fun hn => ?_) hD hcs hR hcs'⟩
  have := ses_at0 ps 0 (by omega)
  rw [Nat.zero_mul] at this
  exact ⟨_, this⟩
theorem putD_below {B : Nat} {a0 w : World} (h : Below B a0 w) {bD bR : Nat} (h1 : B ≤ bD) (h2 : B ≤ bR) (i j : Nat) (x y a b c d : Value) : Below B a0 (putD w bD bR i j x y a b c d) := by
  unfold putD
  repeat (refine Below.setCell ?_ (by simp only; omega) _)
  exact h
end Go.Proofs.YtenadnlgjobmdabDoor
