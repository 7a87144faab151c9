/- Several texts laid together: PaA, StA, PbA, PcA, PiQ, PlA. -/
import Derived.Test.YtfcjhhiekjbbiaaDoorImP
import Derived.Test.YtfcjhhiekjbbiaaDoorNm
import Derived.Test.YtfcjhhiekjbbiaaDoorImJ
import Derived.Test.YtfcjhhiekjbbiaaDoorPiI
import Derived.Deep.DeepCutAuto
import Derived.Deep.RegionWith
import Derived.Deep.RegionHeld3
import Derived.Lib.Strings
import Derived.Lib.SplitLaws
import Derived.Lib.IndexBytes
import Derived.Deep.LoopGhost
import Derived.Laws.OwnMore
import Derived.Test.YtfcjhhiekjbbiaaDoorImX
import Derived.Maps.Views
import Derived.BigQuiet
import Derived.Sort.Walk0
import Derived.Laws.Cover1
namespace Go.Proofs.YtfcjhhiekjbbiaaDoor
open Go.RowKit

theorem pimg_all {ws : List Ino} {ps : List Den} (h : imgB ws ps = true) : ws.length = 16 ∧ ps.length = 24 ∧ kindAt ws 0 = 2 ∧ okNs ws = true ∧ entsB ws ps = true ∧ linksB ws ps = true ∧ singB ws = true := by
  unfold imgB at h
  simp only [Bool.and_eq_true, decide_eq_true_eq, beq_iff_eq] at h
  exact h
theorem pimg_ent {ws : List Ino} {ps : List Den} (h : imgB ws ps = true) (i : Nat) (hi : i < ps.length) : (ps[i].child = -1 ∧ ps[i].name.size = 0) ∨ ((1 ≤ ps[i].child ∧ ps[i].child ≤ 15) ∧ (0 ≤ ps[i].dir ∧ ps[i].dir ≤ 15) ∧ nmB ps[i].name = true ∧ ¬ kindAt ws ps[i].child = 0 ∧ kindAt ws ps[i].dir = 2) := by
  obtain ⟨_, _, _, _, he, _, _⟩ := pimg_all h
  have e := (of_decide_eq_true he : ∀ i (h : i < ps.length), entOne ws ps i ps[i] = true) i hi
  unfold entOne at e
  split at e
  · rename_i c
    left
    refine ⟨c, ?_⟩
    unfold Den.freeB at e
    simp only [Bool.and_eq_true, beq_iff_eq] at e
    have := e.2.1
    first
      | exact this
      | simpa using this
      | (simp at this; rw [this]; rfl)
  · right
    simp only [Bool.and_eq_true, decide_eq_true_eq, Bool.not_eq_true', beq_eq_false_iff_ne, beq_iff_eq] at e
    exact ⟨e.1, e.2.1, e.2.2.1, e.2.2.2.1, e.2.2.2.2.1⟩
end Go.Proofs.YtfcjhhiekjbbiaaDoor

namespace Go.Proofs.YtfcjhhiekjbbiaaDoor
open Go.RowKit

def strs (ss : List ByteArray) : List Value := ss.map Value.string
theorem strs_at (ss : List ByteArray) (k : Nat) (h : k < ss.length) : (strs ss)[k]? = some (.string ss[k]) := by simp [strs, h]
def RdT (w : World) (v : Value) (ss : List ByteArray) : Prop := Rd w 1 v ss.length (strs ss)
theorem RdT.shape {w : World} {v : Value} {ss : List ByteArray} (h : RdT w v ss) : ∃ ao cap, v = .slice ao ss.length cap ∧ ss.length ≤ cap ∧ (0 < ss.length → ∃ b o, ao = some ⟨b, o, none⟩ ∧ b < w.heap.size ∧ ∀ k (h : k < ss.length), w.cell? ⟨b, o + k, none⟩ = some (.string ss[k])) := by
  obtain ⟨_, ao, cap, rfl, h2, h3⟩ := h
  refine ⟨ao, cap, rfl, h2.1, fun hn => ?_⟩
  obtain ⟨b, o, e, hb, hc⟩ := h3 hn
  exact ⟨b, o, e, hb, fun k hk => (hc k (by omega)).trans (strs_at ss k hk)⟩
end Go.Proofs.YtfcjhhiekjbbiaaDoor

namespace Go.Proofs.YtfcjhhiekjbbiaaDoor
open Go.RowKit

/-- A row of texts that grows. -/
structure SnI (W w : World) (vL : Value) (ss : List ByteArray) : Prop where
  l : w.ownsRow W.heap.size 9 1 vL ss.length (strs ss)
  b : Below W.heap.size W w
theorem SnI.z {W w : World} {vL : Value} {ss : List ByteArray} (h : SnI W w vL ss) : W.heap.size ≤ w.heap.size := h.b.size
theorem SnI.below {W w w' : World} {vL : Value} {ss : List ByteArray} (h : SnI W w vL ss) (hb : Below w.heap.size w w') : SnI W w' vL ss :=
  ⟨((own_block h.l).below hb (Nat.le_refl _)).1, below_trans h.b hb h.z⟩
theorem strs_app (l l' : List ByteArray) : strs (l ++ l') = strs l ++ strs l' := by simp [strs]
theorem SnI.grow {W w w' : World} {vL v' : Value} {ss : List ByteArray} (h : SnI W w vL ss) (l : List ByteArray) {m : Nat} (hm : m = l.length) (ho : w'.ownsRow W.heap.size 9 1 v' (ss.length + m) (strs ss ++ strs l)) (hg : w.grownBy w' vL.ownBlock) : SnI W w' v' (ss ++ l) :=
  ⟨by rw [strs_app, List.length_append, ← hm]; exact ho, h.b.grown hg h.z (fun q hq => (h.l.lt q hq).1)⟩
theorem SnI.rd {W w : World} {vL : Value} {ss : List ByteArray} (h : SnI W w vL ss) : RdT w vL ss := (own_block h.l).rd
theorem SnI.form {W w : World} {vL : Value} {ss : List ByteArray} (h : SnI W w vL ss) (hn : vL ≠ .slice none 0 0) : ∃ b c, vL = .slice (some ⟨b, 0, none⟩) ss.length c ∧ ss.length ≤ c ∧ W.heap.size ≤ b ∧ b < w.heap.size := by
  rcases (own_block h.l).shape with ⟨e, _⟩ | ⟨b, c, rfl, hc, _⟩
  · exact absurd e hn
  · obtain ⟨_, h1, _, h2, _⟩ := (own_block h.l).at
    exact ⟨b, c, rfl, hc, h1, h2⟩
end Go.Proofs.YtfcjhhiekjbbiaaDoor

namespace Go.Proofs.YtfcjhhiekjbbiaaDoor
open Go.RowKit

/-- The bytes as a text. -/
def mkB (l : List UInt8) : ByteArray := ⟨l.toArray⟩
theorem mkB_of (s : ByteArray) : mkB s.data.toList = s := by
  obtain ⟨⟨l⟩⟩ := s
  rfl
theorem bytes_ext {a b : ByteArray} (h : a.data.toList = b.data.toList) : a = b := by rw [← mkB_of a, ← mkB_of b, h]
end Go.Proofs.YtfcjhhiekjbbiaaDoor

namespace Go.Proofs.YtfcjhhiekjbbiaaDoor
open Go.RowKit

/-- An entry has this name in this directory. -/
def entHit (d : Int) (nm : ByteArray) (x : Den) : Bool := decide (0 ≤ x.child) && (x.dir == d && x.name.toList == nm.toList)
end Go.Proofs.YtfcjhhiekjbbiaaDoor

namespace Go.Proofs.YtfcjhhiekjbbiaaDoor
open Go.RowKit

/-- The inode that has none. -/
def zeroN : Ino := ⟨0, 0, 0, 0, 0, 0, 0, 0, 0, 0, 0⟩

end Go.Proofs.YtfcjhhiekjbbiaaDoor

namespace Go.Proofs.YtfcjhhiekjbbiaaDoor
open Go.RowKit

/-- The entry of no name. -/
def freeD : Den := ⟨0, ⟨#[]⟩, -1⟩
theorem toList_same {s t : ByteArray} : (s.toList == t.toList) = true ↔ s = t := by
  rw [beq_iff_eq, ByteArray.toList_eq, ByteArray.toList_eq]
  exact ⟨bytes_ext, fun h => by rw [h]⟩
theorem hit_iff {d : Int} {nm : ByteArray} {x : Den} : entHit d nm x = true ↔ 0 ≤ x.child ∧ x.dir = d ∧ x.name = nm := by
  unfold entHit
  rw [Bool.and_eq_true, Bool.and_eq_true, decide_eq_true_eq, beq_iff_eq, toList_same]
/-- No two entries have one name in one directory. -/
theorem ent_once {ws : List Ino} {ps : List Den} (h : imgB ws ps = true) {d : Int} {nm : ByteArray} {i j : Nat} (hi : i < ps.length) (hj : j < ps.length) (ei : entHit d nm ps[i] = true) (ej : entHit d nm ps[j] = true) : i = j := by
  obtain ⟨_, _, _, _, he, _, _⟩ := pimg_all h
  have he := (of_decide_eq_true he : ∀ i (h : i < ps.length), entOne ws ps i ps[i] = true)
  have one : ∀ {i j : Nat} (hi : i < ps.length) (hj : j < ps.length), entHit d nm ps[i] = true → entHit d nm ps[j] = true → ¬ i < j := by
    intro i j hi hj ei ej lt
    obtain ⟨a1, a2, a3⟩ := hit_iff.1 ei
    obtain ⟨b1, b2, b3⟩ := hit_iff.1 ej
    have e := he j hj
    unfold entOne at e
    rw [if_neg (by omega)] at e
    simp only [Bool.and_eq_true, List.all_eq_true] at e
    have q := e.2.2.2.2.2 ps[i] (by
      rw [List.mem_take_iff_getElem]
      exact ⟨i, by omega, rfl⟩)
    unfold clashB at q
    rw [a2, a3, b2, b3, decide_eq_true a1] at q
    simp at q
  have q1 := one hi hj ei ej
  have q2 := one hj hi ej ei
  omega
end Go.Proofs.YtfcjhhiekjbbiaaDoor
