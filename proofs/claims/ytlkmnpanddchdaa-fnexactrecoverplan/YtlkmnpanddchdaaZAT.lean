/- Several texts laid together: ImB, UpL, ImC, ImD, ImH, ImE, ImF. -/
import Derived.Test.YtlkmnpanddchdaaZAS
import Derived.Test.YtlkmnpanddchdaaZAO
import Derived.Test.YtlkmnpanddchdaaSecT
import Derived.Deep.RegionHeld3
import Derived.Laws.OwnMore
import Derived.Test.YtlkmnpanddchdaaMem
import Derived.Laws.IdiomStrings
import Derived.Laws.BytesArg
import Derived.Deep.OwnRows
import Derived.WalkKit
import Derived.Deep.RegionWith
import Derived.Test.YtlkmnpanddchdaaStoreS
namespace Go.Proofs.Ytlkmnpanddchdaa
open Go.RowKit

/-- Its numbers are of the machine. -/
def Ino.R (x : Ino) : Prop := ∀ z ∈ x.map, -9223372036854775808 ≤ z ∧ z ≤ 9223372036854775807
theorem Ino.len (x : Ino) : x.map.length = 8 := rfl
theorem Ino.at (x : Ino) (k : Nat) (hk : k < 8) : x.cs[3 + k]? = some (.int .i64 (x.map.getD k 0)) := by
  rcases (show k = 0 ∨ k = 1 ∨ k = 2 ∨ k = 3 ∨ k = 4 ∨ k = 5 ∨ k = 6 ∨ k = 7 by omega) with rfl | rfl | rfl | rfl | rfl | rfl | rfl | rfl <;> rfl
theorem Ino.R.at {x : Ino} (h : x.R) (k : Nat) (hk : k < 8) : -9223372036854775808 ≤ x.map.getD k 0 ∧ x.map.getD k 0 ≤ 9223372036854775807 := by
  have e : x.map.getD k 0 = x.map[k]'(by rw [x.len]; exact hk) := by rw [List.getD_eq_getElem?_getD, List.getElem?_eq_getElem (by rw [x.len]; exact hk)]; rfl
  rw [e]
  exact h _ (List.getElem_mem _)

end Go.Proofs.Ytlkmnpanddchdaa

namespace Go.Proofs.Ytlkmnpanddchdaa
open Go.RowKit

theorem infoUp : (Try.prog.info? 80).map (fun i => (i.zero, i.size, i.bytes)) = some (some (.agg #[.int .i64 0, .int .i64 0]), 2, 16) := by kernel_rfl

end Go.Proofs.Ytlkmnpanddchdaa

namespace Go.Proofs.Ytlkmnpanddchdaa
open Go.RowKit

/-- A row of updates that grows. -/
structure UpI (W w : World) (vL : Value) (ls : List Se) : Prop where
  l : w.ownsRow W.heap.size 80 2 vL ls.length (ses ls)
  b : Below W.heap.size W w
theorem UpI.z {W w : World} {vL : Value} {ls : List Se} (h : UpI W w vL ls) : W.heap.size ≤ w.heap.size := h.b.size
theorem UpI.below {W w w' : World} {vL : Value} {ls : List Se} (h : UpI W w vL ls) (hb : Below w.heap.size w w') : UpI W w' vL ls :=
  ⟨((own_block h.l).below hb (Nat.le_refl _)).1, below_trans h.b hb h.z⟩
end Go.Proofs.Ytlkmnpanddchdaa

namespace Go.Proofs.Ytlkmnpanddchdaa
open Go.RowKit

theorem row_none (w : World) (t : TypeId) (size : Nat) : Row (w.alloc (.cells #[] t)) t size w.heap.size (w.alloc (.cells #[] t)).heap.size (.slice (some ⟨w.heap.size, 0, none⟩) 0 0) 0 [] :=
  own_block (World.ownsRow_lit w #[] 0 (Nat.le_refl _) (by simp [maxLen]) (by simp))
end Go.Proofs.Ytlkmnpanddchdaa

namespace Go.Proofs.Ytlkmnpanddchdaa
open Go.RowKit

/-- The cells of inodes. -/
def inos (ps : List Ino) : List Value := ps.flatMap Ino.cs
theorem Ino.cs_len (x : Ino) : x.cs.length = 11 := rfl
theorem inos_at (ps : List Ino) (k i : Nat) (h : k < ps.length) (hi : i < 11) : (inos ps)[k * 11 + i]? = ps[k].cs[i]? := (flatMap_at _ 11 Ino.cs_len ps k i h hi).trans (by rw [List.getElem?_eq_getElem (show i < ps[k].cs.length by rw [Ino.cs_len]; exact hi)])
/-- A slice of inodes that can be read. -/
def RdN (w : World) (v : Value) (ps : List Ino) : Prop := Rd w 11 v ps.length (inos ps)
theorem RdN.shape {w : World} {v : Value} {ps : List Ino} (h : RdN w v ps) : ∃ ao cap, v = .slice ao ps.length cap ∧ ps.length ≤ cap ∧ (0 < ps.length → ∃ b o, ao = some ⟨b, o, none⟩ ∧ b < w.heap.size ∧
    ∀ k (h : k < ps.length), w.cell? ⟨b, o + k * 11, none⟩ = some (.int .i64 ps[k].kind) ∧ w.cell? ⟨b, o + k * 11 + 1, none⟩ = some (.int .i64 ps[k].size) ∧ w.cell? ⟨b, o + k * 11 + 2, none⟩ = some (.int .i64 ps[k].links) ∧ w.cell? ⟨b, o + k * 11 + 3, none⟩ = some (.int .i64 ps[k].m0) ∧ w.cell? ⟨b, o + k * 11 + 4, none⟩ = some (.int .i64 ps[k].m1) ∧ w.cell? ⟨b, o + k * 11 + 5, none⟩ = some (.int .i64 ps[k].m2) ∧ w.cell? ⟨b, o + k * 11 + 6, none⟩ = some (.int .i64 ps[k].m3) ∧ w.cell? ⟨b, o + k * 11 + 7, none⟩ = some (.int .i64 ps[k].m4) ∧ w.cell? ⟨b, o + k * 11 + 8, none⟩ = some (.int .i64 ps[k].m5) ∧ w.cell? ⟨b, o + k * 11 + 9, none⟩ = some (.int .i64 ps[k].m6) ∧ w.cell? ⟨b, o + k * 11 + 10, none⟩ = some (.int .i64 ps[k].m7)) := by
  obtain ⟨_, ao, cap, rfl, h2, h3⟩ := h
  refine ⟨ao, cap, rfl, h2.1, fun hn => ?_⟩
  obtain ⟨b, o, rfl, hb, hc⟩ := h3 hn
  exact ⟨b, o, rfl, hb, fun k hk => ⟨(hc (k * 11) (by omega)).trans (inos_at ps k 0 hk (by omega)), (hc (k * 11 + 1) (by omega)).trans (inos_at ps k 1 hk (by omega)), (hc (k * 11 + 2) (by omega)).trans (inos_at ps k 2 hk (by omega)), (hc (k * 11 + 3) (by omega)).trans (inos_at ps k 3 hk (by omega)), (hc (k * 11 + 4) (by omega)).trans (inos_at ps k 4 hk (by omega)), (hc (k * 11 + 5) (by omega)).trans (inos_at ps k 5 hk (by omega)), (hc (k * 11 + 6) (by omega)).trans (inos_at ps k 6 hk (by omega)), (hc (k * 11 + 7) (by omega)).trans (inos_at ps k 7 hk (by omega)), (hc (k * 11 + 8) (by omega)).trans (inos_at ps k 8 hk (by omega)), (hc (k * 11 + 9) (by omega)).trans (inos_at ps k 9 hk (by omega)), (hc (k * 11 + 10) (by omega)).trans (inos_at ps k 10 hk (by omega))⟩⟩

end Go.Proofs.Ytlkmnpanddchdaa

namespace Go.Proofs.Ytlkmnpanddchdaa
open Go.RowKit

/-- An entry. -/
structure Den where
  dir : Int
  name : ByteArray
  child : Int
/-- An entry as a value. -/
def Den.v (x : Den) : Value := .agg #[.int .i64 x.dir, .string x.name, .int .i64 x.child]

end Go.Proofs.Ytlkmnpanddchdaa

namespace Go.Proofs.Ytlkmnpanddchdaa
open Go.RowKit

def Den.cells (s : Den) : List Value := [.int .i64 s.dir, .string s.name, .int .i64 s.child]
def dens (ps : List Den) : List Value := ps.flatMap Den.cells

theorem Den.cells_len (s : Den) : s.cells.length = 3 := rfl
theorem dens_at0 (ps : List Den) (k : Nat) (h : k < ps.length) : (dens ps)[k * 3]? = some (.int .i64 ps[k].dir) := flatMap_at _ 3 Den.cells_len ps k 0 h (by omega)
theorem dens_at1 (ps : List Den) (k : Nat) (h : k < ps.length) : (dens ps)[k * 3 + 1]? = some (.string ps[k].name) := flatMap_at _ 3 Den.cells_len ps k 1 h (by omega)
theorem dens_at2 (ps : List Den) (k : Nat) (h : k < ps.length) : (dens ps)[k * 3 + 2]? = some (.int .i64 ps[k].child) := flatMap_at _ 3 Den.cells_len ps k 2 h (by omega)

/-- A slice of steps that can be read. -/
def RdD (w : World) (v : Value) (ps : List Den) : Prop := Rd w 3 v ps.length (dens ps)
theorem RdD.shape {w : World} {v : Value} {ps : List Den} (h : RdD w v ps) : ∃ ao cap, v = .slice ao ps.length cap ∧ ps.length ≤ cap ∧ (0 < ps.length → ∃ b o, ao = some ⟨b, o, none⟩ ∧ b < w.heap.size ∧
    ∀ k (h : k < ps.length), w.cell? ⟨b, o + k * 3, none⟩ = some (.int .i64 ps[k].dir) ∧ w.cell? ⟨b, o + k * 3 + 1, none⟩ = some (.string ps[k].name) ∧ w.cell? ⟨b, o + k * 3 + 2, none⟩ = some (.int .i64 ps[k].child)) := by
  obtain ⟨_, ao, cap, rfl, h2, h3⟩ := h
  refine ⟨ao, cap, rfl, h2.1, fun hn => ?_⟩
  obtain ⟨b, o, rfl, hb, hc⟩ := h3 hn
  exact ⟨b, o, rfl, hb, fun k hk => ⟨(hc (k * 3) (by omega)).trans (dens_at0 ps k hk), (hc (k * 3 + 1) (by omega)).trans (dens_at1 ps k hk), (hc (k * 3 + 2) (by omega)).trans (dens_at2 ps k hk)⟩⟩

end Go.Proofs.Ytlkmnpanddchdaa
