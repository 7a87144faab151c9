/- Several texts laid together: ImD, ImH, ImE, ImF, ImJ. -/
import Derived.Test.YtipklbnfobckaaaDoorZAO
import Derived.Test.YtipklbnfobckaaaDoorMem
import Derived.Test.YtipklbnfobckaaaDoorZAL
import Derived.Laws.IdiomStrings
import Derived.Laws.BytesArg
import Derived.Deep.OwnRows
import Derived.Deep.RegionWith
import Derived.Test.YtipklbnfobckaaaDoorStoreS
namespace Go.Proofs.YtipklbnfobckaaaDoor
open Go.RowKit

/-- The updates of an inode: the code, and the list. -/
def iuC (i : Int) (x : Ino) : Int := if 0 ≤ i ∧ i ≤ 15 then (if inoB x = true then 0 else 1) else 4
def iuL (i : Int) (x : Ino) : List Se := if 0 ≤ i ∧ i ≤ 15 then (if inoB x = true then wrL i x 8 else []) else []
theorem iu_cases (i : Int) (x : Ino) : (¬ (0 ≤ i ∧ i ≤ 15) ∧ iuC i x = 4 ∧ iuL i x = []) ∨ ((0 ≤ i ∧ i ≤ 15) ∧ inoB x = false ∧ iuC i x = 1 ∧ iuL i x = []) ∨ ((0 ≤ i ∧ i ≤ 15) ∧ inoB x = true ∧ iuC i x = 0 ∧ iuL i x = wrL i x 8) := by
  unfold iuC iuL
  by_cases h : 0 ≤ i ∧ i ≤ 15
  · cases q : inoB x
    · exact .inr (.inl ⟨h, rfl, by rw [if_pos h, if_neg (by decide)], by rw [if_pos h, if_neg (by decide)]⟩)
    · exact .inr (.inr ⟨h, rfl, by rw [if_pos h, if_pos rfl], by rw [if_pos h, if_pos rfl]⟩)
  · exact .inl ⟨h, by rw [if_neg h], by rw [if_neg h]⟩
theorem Ino.all {x : Ino} {w' : World} {b : Nat} (h : ∀ j, w'.cell? ⟨b, j, none⟩ = x.cs[j]?) : w'.cell? ⟨b, 0, none⟩ = some (.int .i64 x.kind) ∧ w'.cell? ⟨b, 1, none⟩ = some (.int .i64 x.size) ∧ w'.cell? ⟨b, 2, none⟩ = some (.int .i64 x.links) ∧ w'.cell? ⟨b, 3, none⟩ = some (.int .i64 x.m0) ∧ w'.cell? ⟨b, 4, none⟩ = some (.int .i64 x.m1) ∧ w'.cell? ⟨b, 5, none⟩ = some (.int .i64 x.m2) ∧ w'.cell? ⟨b, 6, none⟩ = some (.int .i64 x.m3) ∧ w'.cell? ⟨b, 7, none⟩ = some (.int .i64 x.m4) ∧ w'.cell? ⟨b, 8, none⟩ = some (.int .i64 x.m5) ∧ w'.cell? ⟨b, 9, none⟩ = some (.int .i64 x.m6) ∧ w'.cell? ⟨b, 10, none⟩ = some (.int .i64 x.m7) := ⟨h 0, h 1, h 2, h 3, h 4, h 5, h 6, h 7, h 8, h 9, h 10⟩

end Go.Proofs.YtipklbnfobckaaaDoor

namespace Go.Proofs.YtipklbnfobckaaaDoor
open Go.RowKit

/-- The cells of inodes. -/
def inos (ps : List Ino) : List Value := ps.flatMap Ino.cs
theorem Ino.cs_len (x : Ino) : x.cs.length = 11 := rfl
theorem inos_at (ps : List Ino) (k i : Nat) (h : k < ps.length) (hi : i < 11) : (inos ps)[k * 11 + i]? = ps[k].cs[i]? := (flatMap_at _ 11 Ino.cs_len ps k i h hi).trans (by rw [List.getElem?_eq_getElem (show i < ps[k].cs.length by rw [Ino.cs_len]; exact hi)])
/-- A slice of inodes that can be read. -/
def RdN (w : World) (v : Value) (ps : List Ino) : Prop := Rd w 11 v ps.length (inos ps)
theorem RdN.shape {w : World} {v : Value} {ps : List Ino} (h : RdN w v ps) : ∃ ao cap, v = .slice ao ps.length cap ∧ ps.length ≤ cap ∧ (0 < ps.length → ∃ b o, ao = some ⟨b, o, none⟩ ∧ b < w.heap.size ∧
    ∀ k (h : k < ps.length), w.cell? ⟨b, o + k * 11, none⟩ = some (.int .i64 ps[k].kind) ∧ w.cell? ⟨b, o + k * 11 + 1, none⟩ = some (.int .i64 ps[k].size) ∧ w.cell? ⟨b, o + k * 11 + 2, none⟩ = some (.int .i64 ps[k].links) ∧ w.cell? ⟨b, o + k * 11 + 3, none⟩ = some (.int .i64 ps[k].m0) ∧ w.cell? ⟨b, o + k * 11 + 4, none⟩ = some (.int .i64 ps[k].m1) ∧ w.cell? ⟨b, o + k * 11 + 5, none⟩ = some (.int .i64 ps[k].m2) ∧ w.cell? ⟨b, o + k * 11 + 6, none⟩ = some (.int .i64 ps[k].m3) ∧ w.cell? ⟨b, o + k * 11 + 7, none⟩ = some (.int .i64 ps[k].m4) ∧ w.cell? ⟨b, o + k * 11 + 8, none⟩ = some (.int .i64 ps[k].m5) ∧ w.cell? ⟨b, o + k * 11 + 9, none⟩ = some (.int .i64 ps[k].m6) ∧ w.cell? ⟨b, o + k * 11 + 10, none⟩ = some (.int .i64 ps[k].m7)) := by
  obtain ⟨_, ao, cap, rfl, h2, h3⟩ := h
  refine ⟨ao, cap, rfl, h2.1, fun hn => ?_⟩
  obtain ⟨b, o, rfl, hb, hc⟩ := h3 hn
  exact ⟨b, o, rfl, hb, fun k hk => ⟨(hc (k * 11) (by omega)).trans (inos_at ps k 0 hk (by omega)), (hc (k * 11 + 1) (by omega)).trans (inos_at ps k 1 hk (by omega)), (hc (k * 11 + 2) (by omega)).trans (inos_at ps k 2 hk (by omega)), (hc (k * 11 + 3) (by omega)).trans (inos_at ps k 3 hk (by omega)), (hc (k * 11 + 4) (by omega)).trans (inos_at ps k 4 hk (by omega)), (hc (k * 11 + 5) (by omega)).trans (inos_at ps k 5 hk (by omega)), (hc (k * 11 + 6) (by omega)).trans (inos_at ps k 6 hk (by omega)), (hc (k * 11 + 7) (by omega)).trans (inos_at ps k 7 hk (by omega)), (hc (k * 11 + 8) (by omega)).trans (inos_at ps k 8 hk (by omega)), (hc (k * 11 + 9) (by omega)).trans (inos_at ps k 9 hk (by omega)), (hc (k * 11 + 10) (by omega)).trans (inos_at ps k 10 hk (by omega))⟩⟩

end Go.Proofs.YtipklbnfobckaaaDoor

namespace Go.Proofs.YtipklbnfobckaaaDoor
open Go.RowKit

/-- An entry. -/
structure Den where
  dir : Int
  name : ByteArray
  child : Int
/-- An entry as a value. -/
def Den.v (x : Den) : Value := .agg #[.int .i64 x.dir, .string x.name, .int .i64 x.child]

end Go.Proofs.YtipklbnfobckaaaDoor

namespace Go.Proofs.YtipklbnfobckaaaDoor
open Go.RowKit

def Den.cells (s : Den) : List Value := [.int .i64 s.dir, .string s.name, .int .i64 s.child]
def dens (ps : List Den) : List Value := ps.flatMap Den.cells

theorem Den.cells_len (s : Den) : s.cells.length = 3 := rfl
theorem dens_at0 (ps : List Den) (k : Nat) (h : k < ps.length) : (dens ps)[k * 3]? = some (.int .i64 ps[k].dir) := flatMap_at _ 3 Den.cells_len ps k 0 h (by omega)
theorem dens_at1 (ps : List Den) (k : Nat) (h : k < ps.length) : (dens ps)[k * 3 + 1]? = some (.string ps[k].name) := flatMap_at _ 3 Den.cells_len ps k 1 h (by omega)
theorem dens_at2 (ps : List Den) (k : Nat) (h : k < ps.length) : (dens ps)[k * 3 + 2]? = some (.int .i64 ps[k].child) := flatMap_at _ 3 Den.cells_len ps k 2 h (by omega)

/-- A slice of steps that can be read. -/
def RdD (w : World) (v : Value) (ps : List Den) : Prop := Rd w 3 v ps.length (dens ps)
theorem RdD.shape {w : World} {v : Value} {ps : List Den} (h : RdD w v ps) : ∃ ao cap, v = .slice ao ps.length cap ∧ ps.length ≤ cap ∧ (0 < ps.length → ∃ b o, ao = some ⟨b, o, none⟩ ∧ b < w.heap.size ∧
    ∀ k (h : k < ps.length), w.cell? ⟨b, o + k * 3, none⟩ = some (.int .i64 ps[k].dir) ∧ w.cell? ⟨b, o + k * 3 + 1, none⟩ = some (.string ps[k].name) ∧ w.cell? ⟨b, o + k * 3 + 2, none⟩ = some (.int .i64 ps[k].child)) := by
  obtain ⟨_, ao, cap, rfl, h2, h3⟩ := h
  refine ⟨ao, cap, rfl, h2.1, fun hn => ?_⟩
  obtain ⟨b, o, rfl, hb, hc⟩ := h3 hn
  exact ⟨b, o, rfl, hb, fun k hk => ⟨(hc (k * 3) (by omega)).trans (dens_at0 ps k hk), (hc (k * 3 + 1) (by omega)).trans (dens_at1 ps k hk), (hc (k * 3 + 2) (by omega)).trans (dens_at2 ps k hk)⟩⟩

end Go.Proofs.YtipklbnfobckaaaDoor

namespace Go.Proofs.YtipklbnfobckaaaDoor
open Go.RowKit

/-- An image that can be read: its words, and its stores. -/
def RdIm (w : World) (v : Value) (ws : List Ino) (ps : List Den) : Prop := ∃ vW vP, v = .agg #[vW, vP] ∧ RdN w vW ws ∧ RdD w vP ps
theorem RdIm.below {w w' : World} {v : Value} {ws : List Ino} {ps : List Den} (h : RdIm w v ws ps) (hb : Below w.heap.size w w') : RdIm w' v ws ps := by
  obtain ⟨vW, vP, rfl, h1, h2⟩ := h
  exact ⟨vW, vP, rfl, Rd.below h1 hb, Rd.below h2 hb⟩
end Go.Proofs.YtipklbnfobckaaaDoor
