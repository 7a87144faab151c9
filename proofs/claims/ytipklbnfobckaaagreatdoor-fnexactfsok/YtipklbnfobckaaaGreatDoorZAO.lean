/- Several texts laid together: ImH, ImE, ImF, ImJ. -/
import Derived.Test.YtipklbnfobckaaaGreatDoorZAN
import Derived.Deep.RegionWith
import Derived.Test.YtipklbnfobckaaaGreatDoorZAB
namespace Go.Proofs.YtipklbnfobckaaaGreatDoor
open Go.RowKit

/-- The cells of inodes. -/
def inos (ps : List Ino) : List Value := ps.flatMap Ino.cs
theorem Ino.cs_len (x : Ino) : x.cs.length = 11 := rfl
theorem inos_at (ps : List Ino) (k i : Nat) (h : k < ps.length) (hi : i < 11) : (inos ps)[k * 11 + i]? = ps[k].cs[i]? := (flatMap_at _ 11 Ino.cs_len ps k i h hi).trans (by rw [List.getElem?_eq_getElem (show i < ps[k].cs.length by rw [Ino.cs_len]; exact hi)])
/-- A slice of inodes that can be read. -/
def RdN (w : World) (v : Value) (ps : List Ino) : Prop := Rd w 11 v ps.length (inos ps)
theorem RdN.shape {w : World} {v : Value} {ps : List Ino} (h : RdN w v ps) : ∃ ao cap, v = .slice ao ps.length cap ∧ ps.length ≤ cap ∧ (0 < ps.length → ∃ b o, ao = some ⟨b, o, none⟩ ∧ b < w.heap.size ∧
    ∀ k (h : k < ps.length), w.cell? ⟨b, o + k * 11, none⟩ = some (.int .i64 ps[k].kind) ∧ w.cell? ⟨b, o + k * 11 + 1, none⟩ = some (.int .i64 ps[k].size) ∧ w.cell? ⟨b, o + k * 11 + 2, none⟩ = some (.int .i64 ps[k].links) ∧ w.cell? ⟨b, o + k * 11 + 3, none⟩ = some (.int .i64 ps[k].m0) ∧ w.cell? ⟨b, o + k * 11 + 4, none⟩ = some (.int .i64 ps[k].m1) ∧ w.cell? ⟨b, o + k * 11 + 5, none⟩ = some (.int .i64 ps[k].m2) ∧ w.cell? ⟨b, o + k * 11 + 6, none⟩ = some (.int .i64 ps[k].m3) ∧ w.cell? ⟨b, o + k * 11 + 7, none⟩ = some (.int .i64 ps[k].m4) ∧ w.cell? ⟨b, o + k * 11 + 8, none⟩ = some (.int .i64 ps[k].m5) ∧ w.cell? ⟨b, o + k * 11 + 9, none⟩ = some (.int .i64 ps[k].m6) ∧ w.cell? ⟨b, o + k * 11 + 10, none⟩ = some (.int .i64 ps[k].m7)) := by
  obtain ⟨_, ao, cap, rfl, h2, h3⟩ := h
  refine ⟨ao, cap, rfl, h2.1, fun hn => ?_⟩
  obtain ⟨b, o, rfl, hb, hc⟩ := h3 hn
  exact ⟨b, o, rfl, hb, fun k hk => ⟨(hc (k * 11) (by omega)).trans (inos_at ps k 0 hk (by omega)), (hc (k * 11 + 1) (by omega)).trans (inos_at ps k 1 hk (by omega)), (hc (k * 11 + 2) (by omega)).trans (inos_at ps k 2 hk (by omega)), (hc (k * 11 + 3) (by omega)).trans (inos_at ps k 3 hk (by omega)), (hc (k * 11 + 4) (by omega)).trans (inos_at ps k 4 hk (by omega)), (hc (k * 11 + 5) (by omega)).trans (inos_at ps k 5 hk (by omega)), (hc (k * 11 + 6) (by omega)).trans (inos_at ps k 6 hk (by omega)), (hc (k * 11 + 7) (by omega)).trans (inos_at ps k 7 hk (by omega)), (hc (k * 11 + 8) (by omega)).trans (inos_at ps k 8 hk (by omega)), (hc (k * 11 + 9) (by omega)).trans (inos_at ps k 9 hk (by omega)), (hc (k * 11 + 10) (by omega)).trans (inos_at ps k 10 hk (by omega))⟩⟩

theorem infoIno : (Tryz.prog.info? 171).map (fun i => (i.zero, i.size, i.bytes)) = some (some (.agg #[.int .i64 0, .int .i64 0, .int .i64 0, .int .i64 0, .int .i64 0, .int .i64 0, .int .i64 0, .int .i64 0, .int .i64 0, .int .i64 0, .int .i64 0]), 11, 88) := by kernel_rfl

end Go.Proofs.YtipklbnfobckaaaGreatDoor

namespace Go.Proofs.YtipklbnfobckaaaGreatDoor
open Go.RowKit

/-- An entry. -/
structure Den where
  dir : Int
  name : ByteArray
  child : Int
/-- An entry as a value. -/
def Den.v (x : Den) : Value := .agg #[.int .i64 x.dir, .string x.name, .int .i64 x.child]

/-- A free entry. -/
def Den.freeB (x : Den) : Bool := x.dir == 0 && (x.name.size == 0 && x.child == -1)
/-- An entry that can be written. -/
def Den.okB (x : Den) : Bool := x.freeB || (decide (1 ≤ x.child ∧ x.child ≤ 15) && (decide (0 ≤ x.dir ∧ x.dir ≤ 15) && nmB x.name))
theorem noBytes (s : ByteArray) : s.toList = [] ↔ s.size = 0 := by
  rw [ByteArray.toList_eq]
  obtain ⟨⟨x⟩⟩ := s
  show x = [] ↔ x.length = 0
  exact List.length_eq_zero_iff.symm
end Go.Proofs.YtipklbnfobckaaaGreatDoor

namespace Go.Proofs.YtipklbnfobckaaaGreatDoor
open Go.RowKit

def Den.cells (s : Den) : List Value := [.int .i64 s.dir, .string s.name, .int .i64 s.child]
def dens (ps : List Den) : List Value := ps.flatMap Den.cells

theorem Den.cells_len (s : Den) : s.cells.length = 3 := rfl
theorem dens_len (ps : List Den) : (dens ps).length = ps.length * 3 := flatMap_len _ 3 Den.cells_len ps
theorem dens_at0 (ps : List Den) (k : Nat) (h : k < ps.length) : (dens ps)[k * 3]? = some (.int .i64 ps[k].dir) := flatMap_at _ 3 Den.cells_len ps k 0 h (by omega)
theorem dens_at1 (ps : List Den) (k : Nat) (h : k < ps.length) : (dens ps)[k * 3 + 1]? = some (.string ps[k].name) := flatMap_at _ 3 Den.cells_len ps k 1 h (by omega)
theorem dens_at2 (ps : List Den) (k : Nat) (h : k < ps.length) : (dens ps)[k * 3 + 2]? = some (.int .i64 ps[k].child) := flatMap_at _ 3 Den.cells_len ps k 2 h (by omega)

/-- A slice of steps that can be read. -/
def RdD (w : World) (v : Value) (ps : List Den) : Prop := Rd w 3 v ps.length (dens ps)
theorem RdD.shape {w : World} {v : Value} {ps : List Den} (h : RdD w v ps) : ∃ ao cap, v = .slice ao ps.length cap ∧ ps.length ≤ cap ∧ (0 < ps.length → ∃ b o, ao = some ⟨b, o, none⟩ ∧ b < w.heap.size ∧
    ∀ k (h : k < ps.length), w.cell? ⟨b, o + k * 3, none⟩ = some (.int .i64 ps[k].dir) ∧ w.cell? ⟨b, o + k * 3 + 1, none⟩ = some (.string ps[k].name) ∧ w.cell? ⟨b, o + k * 3 + 2, none⟩ = some (.int .i64 ps[k].child)) := by
  obtain ⟨_, ao, cap, rfl, h2, h3⟩ := h
  refine ⟨ao, cap, rfl, h2.1, fun hn => ?_⟩
  obtain ⟨b, o, rfl, hb, hc⟩ := h3 hn
  exact ⟨b, o, rfl, hb, fun k hk => ⟨(hc (k * 3) (by omega)).trans (dens_at0 ps k hk), (hc (k * 3 + 1) (by omega)).trans (dens_at1 ps k hk), (hc (k * 3 + 2) (by omega)).trans (dens_at2 ps k hk)⟩⟩

theorem infoDen : (Tryz.prog.info? 173).map (fun i => (i.zero, i.size, i.bytes)) = some (some (.agg #[.int .i64 0, .string ⟨#[]⟩, .int .i64 0]), 3, 32) := by kernel_rfl

end Go.Proofs.YtipklbnfobckaaaGreatDoor

namespace Go.Proofs.YtipklbnfobckaaaGreatDoor
open Go.RowKit

/-- An image that can be read: its words, and its stores. -/
def RdIm (w : World) (v : Value) (ws : List Ino) (ps : List Den) : Prop := ∃ vW vP, v = .agg #[vW, vP] ∧ RdN w vW ws ∧ RdD w vP ps
/-- An image of a call's own. -/
def RowIm (w : World) (lo hi : Nat) (v : Value) (ws : List Ino) (ps : List Den) : Prop := ∃ vW vP, v = .agg #[vW, vP] ∧ Row w 171 11 lo hi vW ws.length (inos ws) ∧ Row w 173 3 lo hi vP ps.length (dens ps)

theorem RowIm.rd {w : World} {lo hi : Nat} {v : Value} {ws : List Ino} {ps : List Den} (h : RowIm w lo hi v ws ps) : RdIm w v ws ps := by
  obtain ⟨vW, vP, rfl, h1, h2⟩ := h
  exact ⟨vW, vP, rfl, h1.rd, h2.rd⟩
theorem RdIm.below {w w' : World} {v : Value} {ws : List Ino} {ps : List Den} (h : RdIm w v ws ps) (hb : Below w.heap.size w w') : RdIm w' v ws ps := by
  obtain ⟨vW, vP, rfl, h1, h2⟩ := h
  exact ⟨vW, vP, rfl, Rd.below h1 hb, Rd.below h2 hb⟩
theorem RowIm.below {w w' : World} {lo hi : Nat} {v : Value} {ws : List Ino} {ps : List Den} (h : RowIm w lo hi v ws ps) {B : Nat} (hb : Below B w w') (hB : hi ≤ B) : RowIm w' lo hi v ws ps := by
  obtain ⟨vW, vP, rfl, h1, h2⟩ := h
  exact ⟨vW, vP, rfl, h1.below hb hB, h2.below hb hB⟩
theorem RowIm.outside {w w' : World} {lo hi : Nat} {v : Value} {ws : List Ino} {ps : List Den} (h : RowIm w lo hi v ws ps) {lo' hi' : Nat} (ho : Outside lo' hi' w w') (hd : hi ≤ lo' ∨ hi' ≤ lo) (hz : hi ≤ w.heap.size) : RowIm w' lo hi v ws ps := by
  obtain ⟨vW, vP, rfl, h1, h2⟩ := h
  exact ⟨vW, vP, rfl, h1.outside ho hd hz, h2.outside ho hd hz⟩
theorem RowIm.wide {w : World} {lo hi : Nat} {v : Value} {ws : List Ino} {ps : List Den} (h : RowIm w lo hi v ws ps) {lo' hi' : Nat} (h1 : lo' ≤ lo) (h2 : hi ≤ hi') : RowIm w lo' hi' v ws ps := by
  obtain ⟨vW, vP, rfl, a, b⟩ := h
  exact ⟨vW, vP, rfl, a.wide h1 h2, b.wide h1 h2⟩

end Go.Proofs.YtipklbnfobckaaaGreatDoor
