/- Several texts laid together: ImJ, StA, FsC, FsE. -/
import Derived.Test.YtlkmnpanddchdaaZAT
import Derived.Deep.RegionWith
import Derived.Test.YtlkmnpanddchdaaZAS
import Derived.Test.YtlkmnpanddchdaaZAO
import Derived.Test.YtlkmnpanddchdaaWord
import Derived.Deep.DeepCutAuto
import Derived.Deep.RegionHeld3
import Derived.Lib.Strings
import Derived.Deep.RegionLaw
import Derived.Laws.CopyRow
import Derived.Laws.CopyOwn
import Derived.Test.YtlkmnpanddchdaaDev
import Derived.Test.YtlkmnpanddchdaaZAQ
namespace Go.Proofs.Ytlkmnpanddchdaa
open Go.RowKit

/-- An image that can be read: its words, and its stores. -/
def RdIm (w : World) (v : Value) (ws : List Ino) (ps : List Den) : Prop := ∃ vW vP, v = .agg #[vW, vP] ∧ RdN w vW ws ∧ RdD w vP ps
theorem RdIm.below {w w' : World} {v : Value} {ws : List Ino} {ps : List Den} (h : RdIm w v ws ps) (hb : Below w.heap.size w w') : RdIm w' v ws ps := by
  obtain ⟨vW, vP, rfl, h1, h2⟩ := h
  exact ⟨vW, vP, rfl, Rd.below h1 hb, Rd.below h2 hb⟩
end Go.Proofs.Ytlkmnpanddchdaa

namespace Go.Proofs.Ytlkmnpanddchdaa
open Go.RowKit

def strs (ss : List ByteArray) : List Value := ss.map Value.string
theorem strs_at (ss : List ByteArray) (k : Nat) (h : k < ss.length) : (strs ss)[k]? = some (.string ss[k]) := by simp [strs, h]
def RdT (w : World) (v : Value) (ss : List ByteArray) : Prop := Rd w 1 v ss.length (strs ss)
theorem RdT.shape {w : World} {v : Value} {ss : List ByteArray} (h : RdT w v ss) : ∃ ao cap, v = .slice ao ss.length cap ∧ ss.length ≤ cap ∧ (0 < ss.length → ∃ b o, ao = some ⟨b, o, none⟩ ∧ b < w.heap.size ∧ ∀ k (h : k < ss.length), w.cell? ⟨b, o + k, none⟩ = some (.string ss[k])) := by
  obtain ⟨_, ao, cap, rfl, h2, h3⟩ := h
  refine ⟨ao, cap, rfl, h2.1, fun hn => ?_⟩
  obtain ⟨b, o, e, hb, hc⟩ := h3 hn
  exact ⟨b, o, e, hb, fun k hk => (hc k (by omega)).trans (strs_at ss k hk)⟩
/-- Marked texts. -/
def marksT (k : Int) (n : Nat) : List ByteArray := (List.range n).map fun i : Nat => mtx (k + (i : Int)).toNat
end Go.Proofs.Ytlkmnpanddchdaa

namespace Go.Proofs.Ytlkmnpanddchdaa
open Go.RowKit

/-- A row of texts that grows. -/
structure SnI (W w : World) (vL : Value) (ss : List ByteArray) : Prop where
  l : w.ownsRow W.heap.size 9 1 vL ss.length (strs ss)
  b : Below W.heap.size W w
theorem SnI.z {W w : World} {vL : Value} {ss : List ByteArray} (h : SnI W w vL ss) : W.heap.size ≤ w.heap.size := h.b.size
theorem SnI.below {W w w' : World} {vL : Value} {ss : List ByteArray} (h : SnI W w vL ss) (hb : Below w.heap.size w w') : SnI W w' vL ss :=
  ⟨((own_block h.l).below hb (Nat.le_refl _)).1, below_trans h.b hb h.z⟩
theorem SnI.rd {W w : World} {vL : Value} {ss : List ByteArray} (h : SnI W w vL ss) : RdT w vL ss := (own_block h.l).rd
theorem SnI.form {W w : World} {vL : Value} {ss : List ByteArray} (h : SnI W w vL ss) (hn : vL ≠ .slice none 0 0) : ∃ b c, vL = .slice (some ⟨b, 0, none⟩) ss.length c ∧ ss.length ≤ c ∧ W.heap.size ≤ b ∧ b < w.heap.size := by
  rcases (own_block h.l).shape with ⟨e, _⟩ | ⟨b, c, rfl, hc, _⟩
  · exact absurd e hn
  · obtain ⟨_, h1, _, h2, _⟩ := (own_block h.l).at
    exact ⟨b, c, rfl, hc, h1, h2⟩
end Go.Proofs.Ytlkmnpanddchdaa

namespace Go.Proofs.Ytlkmnpanddchdaa
open Go.RowKit

def isIB : Value → Bool
  | .int _ _ => true
  | _ => false
def isSB : Value → Bool
  | .string _ => true
  | _ => false
/-- Cells that hold no text, and no three numbers one behind the other. -/
def softL : List Value → Bool
  | [] => true
  | [a] => !isSB a
  | [a, b] => !isSB a && !isSB b
  | a :: b :: c :: t => !isSB a && !(isIB a && isIB b && isIB c) && softL (b :: c :: t)
/-- Boxes alone are turned. -/
structure Soft (w w' : World) : Prop where
  size : w.heap.size ≤ w'.heap.size
  blk : ∀ j, j < w.heap.size → w'.heap[j]? = w.heap[j]? ∨ ∃ cs t fr, w.heap[j]? = some (.cells cs t fr) ∧ softL cs.toList = true
theorem Soft.refl (w : World) : Soft w w := ⟨Nat.le_refl _, fun _ _ => .inl rfl⟩
theorem Soft.trans {a b c : World} (h : Soft a b) (k : Soft b c) : Soft a c :=
  ⟨Nat.le_trans h.size k.size, fun j hj => by
    rcases h.blk j hj with e | e
    · rcases k.blk j (Nat.lt_of_lt_of_le hj h.size) with f | f
      · exact .inl (f.trans e)
      · rw [e] at f
        exact .inr f
    · exact .inr e⟩
theorem Soft.of_below {w w' : World} (h : Below w.heap.size w w') : Soft w w' := ⟨h.size, fun j hj => .inl (h.block j hj)⟩
theorem Soft.alloc {a w : World} (h : Soft a w) (o : Obj) : Soft a (w.alloc o) := h.trans (.of_below ((Below.refl _ _).alloc (Nat.le_refl _) _))
theorem Soft.drew {a w : World} (h : Soft a w) : Soft a w.drew := h.trans (.of_below (Below.refl _ _).drew)
theorem Soft.outside {w w' : World} {b : Nat} {cs : Array Value} {t : TypeId} {fr : Nat × Nat} (h : Outside b (b + 1) w w') (hb : w.heap[b]? = some (.cells cs t fr)) (hs : softL cs.toList = true) : Soft w w' :=
  ⟨h.size, fun k hk => by
    by_cases e : k = b
    · subst e
      exact .inr ⟨cs, t, fr, hb, hs⟩
    · exact .inl (h.block k hk (by omega))⟩
end Go.Proofs.Ytlkmnpanddchdaa

namespace Go.Proofs.Ytlkmnpanddchdaa
open Go.RowKit

/-- A file system that can be read: words, sectors, heat, steps, the answer, whether it waits. -/
def RdFs (w : World) (v : Value) (ws es hs : List Int) (td : List Mi) (cd vl : Int) (nm : List ByteArray) (fr : Bool) : Prop :=
  ∃ aW cW aP cP aS cS aQ cQ aH cH aT cT aN cN, v = .agg #[.slice aW ws.length cW, .slice aP 0 cP, .slice aS es.length cS, .slice aQ 0 cQ, .slice aH hs.length cH, .slice aT td.length cT, .int .i64 cd, .int .i64 vl, .slice aN nm.length cN, .bool fr] ∧ RdDev w (.agg #[.slice aW ws.length cW, .slice aP 0 cP, .slice aS es.length cS, .slice aQ 0 cQ]) ws [] es [] ∧ RdI w (.slice aH hs.length cH) hs ∧ RdM w (.slice aT td.length cT) td ∧ RdT w (.slice aN nm.length cN) nm
theorem RdFs.below {w w' : World} {v : Value} {ws es hs : List Int} {td : List Mi} {cd vl : Int} {nm : List ByteArray} {fr : Bool} (h : RdFs w v ws es hs td cd vl nm fr) (s : Below w.heap.size w w') : RdFs w' v ws es hs td cd vl nm fr := by
  obtain ⟨aW, cW, aP, cP, aS, cS, aQ, cQ, aH, cH, aT, cT, aN, cN, rfl, a, b, c, d⟩ := h
  exact ⟨aW, cW, aP, cP, aS, cS, aQ, cQ, aH, cH, aT, cT, aN, cN, rfl, a.below s, Rd.below b s, Rd.below c s, Rd.below d s⟩
end Go.Proofs.Ytlkmnpanddchdaa
