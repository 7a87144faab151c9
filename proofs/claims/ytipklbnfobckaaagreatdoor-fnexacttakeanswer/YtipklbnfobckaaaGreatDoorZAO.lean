/- Several texts laid together: ImC, ImD, ImH, ImE, ImF, ImJ, PiA. -/
import Derived.Test.YtipklbnfobckaaaGreatDoorZAN
import Derived.Test.YtipklbnfobckaaaGreatDoorZAC
import Derived.Deep.RegionHeld3
import Derived.Laws.OwnMore
import Derived.Test.YtipklbnfobckaaaGreatDoorZAM
import Derived.Deep.RegionWith
import Derived.Test.YtipklbnfobckaaaGreatDoorZAB
import Derived.Test.YtipklbnfobckaaaGreatDoorZAD
namespace Go.Proofs.YtipklbnfobckaaaGreatDoor
open Go.RowKit

theorem ses_app (l l' : List Se) : ses (l ++ l') = ses l ++ ses l' := by simp [ses]
/-- A row of updates that grows. -/
structure UpI (W w : World) (vL : Value) (ls : List Se) : Prop where
  l : w.ownsRow W.heap.size 244 2 vL ls.length (ses ls)
  b : Below W.heap.size W w
theorem UpI.z {W w : World} {vL : Value} {ls : List Se} (h : UpI W w vL ls) : W.heap.size ≤ w.heap.size := h.b.size
theorem UpI.below {W w w' : World} {vL : Value} {ls : List Se} (h : UpI W w vL ls) (hb : Below w.heap.size w w') : UpI W w' vL ls :=
  ⟨((own_block h.l).below hb (Nat.le_refl _)).1, below_trans h.b hb h.z⟩
theorem UpI.grow {W w w' : World} {vL v' : Value} {ls : List Se} (h : UpI W w vL ls) (ms : List Se) (ho : w'.ownsRow W.heap.size 244 2 v' (ls.length + ms.length) (ses ls ++ ses ms)) (hg : w.grownBy w' vL.ownBlock) : UpI W w' v' (ls ++ ms) :=
  ⟨by rw [ses_app, List.length_append]; exact ho, h.b.grown hg h.z (fun q hq => (h.l.lt q hq).1)⟩
end Go.Proofs.YtipklbnfobckaaaGreatDoor

namespace Go.Proofs.YtipklbnfobckaaaGreatDoor
open Go.RowKit

theorem Ino.all {x : Ino} {w' : World} {b : Nat} (h : ∀ j, w'.cell? ⟨b, j, none⟩ = x.cs[j]?) : w'.cell? ⟨b, 0, none⟩ = some (.int .i64 x.kind) ∧ w'.cell? ⟨b, 1, none⟩ = some (.int .i64 x.size) ∧ w'.cell? ⟨b, 2, none⟩ = some (.int .i64 x.links) ∧ w'.cell? ⟨b, 3, none⟩ = some (.int .i64 x.m0) ∧ w'.cell? ⟨b, 4, none⟩ = some (.int .i64 x.m1) ∧ w'.cell? ⟨b, 5, none⟩ = some (.int .i64 x.m2) ∧ w'.cell? ⟨b, 6, none⟩ = some (.int .i64 x.m3) ∧ w'.cell? ⟨b, 7, none⟩ = some (.int .i64 x.m4) ∧ w'.cell? ⟨b, 8, none⟩ = some (.int .i64 x.m5) ∧ w'.cell? ⟨b, 9, none⟩ = some (.int .i64 x.m6) ∧ w'.cell? ⟨b, 10, none⟩ = some (.int .i64 x.m7) := ⟨h 0, h 1, h 2, h 3, h 4, h 5, h 6, h 7, h 8, h 9, h 10⟩

end Go.Proofs.YtipklbnfobckaaaGreatDoor

namespace Go.Proofs.YtipklbnfobckaaaGreatDoor
open Go.RowKit

/-- The cells of inodes. -/
def inos (ps : List Ino) : List Value := ps.flatMap Ino.cs
theorem Ino.cs_len (x : Ino) : x.cs.length = 11 := rfl
theorem inos_at (ps : List Ino) (k i : Nat) (h : k < ps.length) (hi : i < 11) : (inos ps)[k * 11 + i]? = ps[k].cs[i]? := (flatMap_at _ 11 Ino.cs_len ps k i h hi).trans (by rw [List.getElem?_eq_getElem (show i < ps[k].cs.length by rw [Ino.cs_len]; exact hi)])
/-- A slice of inodes that can be read. -/
def RdN (w : World) (v : Value) (ps : List Ino) : Prop := Rd w 11 v ps.length (inos ps)
theorem RdN.shape {w : World} {v : Value} {ps : List Ino} (h : RdN w v ps) : ∃ ao cap, v = .slice ao ps.length cap ∧ ps.length ≤ cap ∧ (0 < ps.length → ∃ b o, ao = some ⟨b, o, none⟩ ∧ b < w.heap.size ∧
    ∀ k (h : k < ps.length), w.cell? ⟨b, o + k * 11, none⟩ = some (.int .i64 ps[k].kind) ∧ w.cell? ⟨b, o + k * 11 + 1, none⟩ = some (.int .i64 ps[k].size) ∧ w.cell? ⟨b, o + k * 11 + 2, none⟩ = some (.int .i64 ps[k].links) ∧ w.cell? ⟨b, o + k * 11 + 3, none⟩ = some (.int .i64 ps[k].m0) ∧ w.cell? ⟨b, o + k * 11 + 4, none⟩ = some (.int .i64 ps[k].m1) ∧ w.cell? ⟨b, o + k * 11 + 5, none⟩ = some (.int .i64 ps[k].m2) ∧ w.cell? ⟨b, o + k * 11 + 6, none⟩ = some (.int .i64 ps[k].m3) ∧ w.cell? ⟨b, o + k * 11 + 7, none⟩ = some (.int .i64 ps[k].m4) ∧ w.cell? ⟨b, o + k * 11 + 8, none⟩ = some (.int .i64 ps[k].m5) ∧ w.cell? ⟨b, o + k * 11 + 9, none⟩ = some (.int .i64 ps[k].m6) ∧ w.cell? ⟨b, o + k * 11 + 10, none⟩ = some (.int .i64 ps[k].m7)) := by
  obtain ⟨_, ao, cap, rfl, h2, h3⟩ := h
  refine ⟨ao, cap, rfl, h2.1, fun hn => ?_⟩
  obtain ⟨b, o, rfl, hb, hc⟩ := h3 hn
  exact ⟨b, o, rfl, hb, fun k hk => ⟨(hc (k * 11) (by omega)).trans (inos_at ps k 0 hk (by omega)), (hc (k * 11 + 1) (by omega)).trans (inos_at ps k 1 hk (by omega)), (hc (k * 11 + 2) (by omega)).trans (inos_at ps k 2 hk (by omega)), (hc (k * 11 + 3) (by omega)).trans (inos_at ps k 3 hk (by omega)), (hc (k * 11 + 4) (by omega)).trans (inos_at ps k 4 hk (by omega)), (hc (k * 11 + 5) (by omega)).trans (inos_at ps k 5 hk (by omega)), (hc (k * 11 + 6) (by omega)).trans (inos_at ps k 6 hk (by omega)), (hc (k * 11 + 7) (by omega)).trans (inos_at ps k 7 hk (by omega)), (hc (k * 11 + 8) (by omega)).trans (inos_at ps k 8 hk (by omega)), (hc (k * 11 + 9) (by omega)).trans (inos_at ps k 9 hk (by omega)), (hc (k * 11 + 10) (by omega)).trans (inos_at ps k 10 hk (by omega))⟩⟩

theorem infoIno : (Tryz.prog.info? 171).map (fun i => (i.zero, i.size, i.bytes)) = some (some (.agg #[.int .i64 0, .int .i64 0, .int .i64 0, .int .i64 0, .int .i64 0, .int .i64 0, .int .i64 0, .int .i64 0, .int .i64 0, .int .i64 0, .int .i64 0]), 11, 88) := by kernel_rfl

end Go.Proofs.YtipklbnfobckaaaGreatDoor

namespace Go.Proofs.YtipklbnfobckaaaGreatDoor
open Go.RowKit

/-- An entry. -/
structure Den where
  dir : Int
  name : ByteArray
  child : Int
/-- An entry as a value. -/
def Den.v (x : Den) : Value := .agg #[.int .i64 x.dir, .string x.name, .int .i64 x.child]

/-- A free entry. -/
def Den.freeB (x : Den) : Bool := x.dir == 0 && (x.name.size == 0 && x.child == -1)
/-- An entry that can be written. -/
def Den.okB (x : Den) : Bool := x.freeB || (decide (1 ≤ x.child ∧ x.child ≤ 15) && (decide (0 ≤ x.dir ∧ x.dir ≤ 15) && nmB x.name))
theorem noBytes (s : ByteArray) : s.toList = [] ↔ s.size = 0 := by
  rw [ByteArray.toList_eq]
  obtain ⟨⟨x⟩⟩ := s
  show x = [] ↔ x.length = 0
  exact List.length_eq_zero_iff.symm
end Go.Proofs.YtipklbnfobckaaaGreatDoor

namespace Go.Proofs.YtipklbnfobckaaaGreatDoor
open Go.RowKit

def Den.cells (s : Den) : List Value := [.int .i64 s.dir, .string s.name, .int .i64 s.child]
def dens (ps : List Den) : List Value := ps.flatMap Den.cells

theorem Den.cells_len (s : Den) : s.cells.length = 3 := rfl
theorem dens_len (ps : List Den) : (dens ps).length = ps.length * 3 := flatMap_len _ 3 Den.cells_len ps
theorem dens_at0 (ps : List Den) (k : Nat) (h : k < ps.length) : (dens ps)[k * 3]? = some (.int .i64 ps[k].dir) := flatMap_at _ 3 Den.cells_len ps k 0 h (by omega)
theorem dens_at1 (ps : List Den) (k : Nat) (h : k < ps.length) : (dens ps)[k * 3 + 1]? = some (.string ps[k].name) := flatMap_at _ 3 Den.cells_len ps k 1 h (by omega)
theorem dens_at2 (ps : List Den) (k : Nat) (h : k < ps.length) : (dens ps)[k * 3 + 2]? = some (.int .i64 ps[k].child) := flatMap_at _ 3 Den.cells_len ps k 2 h (by omega)

/-- A slice of steps that can be read. -/
def RdD (w : World) (v : Value) (ps : List Den) : Prop := Rd w 3 v ps.length (dens ps)
theorem RdD.shape {w : World} {v : Value} {ps : List Den} (h : RdD w v ps) : ∃ ao cap, v = .slice ao ps.length cap ∧ ps.length ≤ cap ∧ (0 < ps.length → ∃ b o, ao = some ⟨b, o, none⟩ ∧ b < w.heap.size ∧
    ∀ k (h : k < ps.length), w.cell? ⟨b, o + k * 3, none⟩ = some (.int .i64 ps[k].dir) ∧ w.cell? ⟨b, o + k * 3 + 1, none⟩ = some (.string ps[k].name) ∧ w.cell? ⟨b, o + k * 3 + 2, none⟩ = some (.int .i64 ps[k].child)) := by
  obtain ⟨_, ao, cap, rfl, h2, h3⟩ := h
  refine ⟨ao, cap, rfl, h2.1, fun hn => ?_⟩
  obtain ⟨b, o, rfl, hb, hc⟩ := h3 hn
  exact ⟨b, o, rfl, hb, fun k hk => ⟨(hc (k * 3) (by omega)).trans (dens_at0 ps k hk), (hc (k * 3 + 1) (by omega)).trans (dens_at1 ps k hk), (hc (k * 3 + 2) (by omega)).trans (dens_at2 ps k hk)⟩⟩

theorem infoDen : (Tryz.prog.info? 173).map (fun i => (i.zero, i.size, i.bytes)) = some (some (.agg #[.int .i64 0, .string ⟨#[]⟩, .int .i64 0]), 3, 32) := by kernel_rfl

end Go.Proofs.YtipklbnfobckaaaGreatDoor

namespace Go.Proofs.YtipklbnfobckaaaGreatDoor
open Go.RowKit

/-- An image that can be read: its words, and its stores. -/
def RdIm (w : World) (v : Value) (ws : List Ino) (ps : List Den) : Prop := ∃ vW vP, v = .agg #[vW, vP] ∧ RdN w vW ws ∧ RdD w vP ps
/-- An image of a call's own. -/
def RowIm (w : World) (lo hi : Nat) (v : Value) (ws : List Ino) (ps : List Den) : Prop := ∃ vW vP, v = .agg #[vW, vP] ∧ Row w 171 11 lo hi vW ws.length (inos ws) ∧ Row w 173 3 lo hi vP ps.length (dens ps)

theorem RowIm.rd {w : World} {lo hi : Nat} {v : Value} {ws : List Ino} {ps : List Den} (h : RowIm w lo hi v ws ps) : RdIm w v ws ps := by
  obtain ⟨vW, vP, rfl, h1, h2⟩ := h
  exact ⟨vW, vP, rfl, h1.rd, h2.rd⟩
theorem RdIm.below {w w' : World} {v : Value} {ws : List Ino} {ps : List Den} (h : RdIm w v ws ps) (hb : Below w.heap.size w w') : RdIm w' v ws ps := by
  obtain ⟨vW, vP, rfl, h1, h2⟩ := h
  exact ⟨vW, vP, rfl, Rd.below h1 hb, Rd.below h2 hb⟩
theorem RowIm.below {w w' : World} {lo hi : Nat} {v : Value} {ws : List Ino} {ps : List Den} (h : RowIm w lo hi v ws ps) {B : Nat} (hb : Below B w w') (hB : hi ≤ B) : RowIm w' lo hi v ws ps := by
  obtain ⟨vW, vP, rfl, h1, h2⟩ := h
  exact ⟨vW, vP, rfl, h1.below hb hB, h2.below hb hB⟩
theorem RowIm.outside {w w' : World} {lo hi : Nat} {v : Value} {ws : List Ino} {ps : List Den} (h : RowIm w lo hi v ws ps) {lo' hi' : Nat} (ho : Outside lo' hi' w w') (hd : hi ≤ lo' ∨ hi' ≤ lo) (hz : hi ≤ w.heap.size) : RowIm w' lo hi v ws ps := by
  obtain ⟨vW, vP, rfl, h1, h2⟩ := h
  exact ⟨vW, vP, rfl, h1.outside ho hd hz, h2.outside ho hd hz⟩
theorem RowIm.wide {w : World} {lo hi : Nat} {v : Value} {ws : List Ino} {ps : List Den} (h : RowIm w lo hi v ws ps) {lo' hi' : Nat} (h1 : lo' ≤ lo) (h2 : hi ≤ hi') : RowIm w lo' hi' v ws ps := by
  obtain ⟨vW, vP, rfl, a, b⟩ := h
  exact ⟨vW, vP, rfl, a.wide h1 h2, b.wide h1 h2⟩

end Go.Proofs.YtipklbnfobckaaaGreatDoor

namespace Go.Proofs.YtipklbnfobckaaaGreatDoor
open Go.RowKit

/-- An inode's eleven numbers. -/
def Ino.ns (x : Ino) : List Int := [x.kind, x.size, x.links, x.m0, x.m1, x.m2, x.m3, x.m4, x.m5, x.m6, x.m7]
/-- All numbers are entries; all are nought. -/
def tiesB (zs : List Int) : Bool := decide (∀ k (h : k < zs.length), tieB zs[k] = true)
def nowsB (zs : List Int) : Bool := decide (∀ k (h : k < zs.length), (zs[k] == 0) = true)
/-- A file's inode, as the program asks it. -/
def fileB (x : Ino) : Bool := decide (x.kind = 1) && (decide (1 ≤ x.links ∧ x.links ≤ 24) && (decide (0 ≤ x.size ∧ x.size < 9) && (tiesB (x.map.take x.size.toNat) && nowsB (x.map.drop x.size.toNat))))
theorem tieB_zero : tieB 0 = true := by decide
theorem ino_empty {x : Ino} (h : x.ns = [0, 0, 0, 0, 0, 0, 0, 0, 0, 0, 0]) : inoB x = true := by
  obtain ⟨k, s, l, m0, m1, m2, m3, m4, m5, m6, m7⟩ := x
  simp only [Ino.ns, List.cons.injEq, and_true] at h
  obtain ⟨rfl, rfl, rfl, rfl, rfl, rfl, rfl, rfl, rfl, rfl, rfl⟩ := h
  decide
theorem ino_dir {x : Ino} (h : x.ns = [2, 0, 1, 0, 0, 0, 0, 0, 0, 0, 0]) : inoB x = true := by
  obtain ⟨k, s, l, m0, m1, m2, m3, m4, m5, m6, m7⟩ := x
  simp only [Ino.ns, List.cons.injEq, and_true] at h
  obtain ⟨rfl, rfl, rfl, rfl, rfl, rfl, rfl, rfl, rfl, rfl, rfl⟩ := h
  decide
theorem map_parts {x : Ino} (h0 : 0 ≤ x.size) (h8 : x.size ≤ 8) : mapB x.map x.size = (tiesB (x.map.take x.size.toNat) && nowsB (x.map.drop x.size.toNat)) := by
  rw [Bool.eq_iff_iff, Bool.and_eq_true]
  have hl : x.map.length = 8 := rfl
  have hg : ∀ i (h : i < 8), x.map.getD i 0 = x.map[i]'(by rw [hl]; exact h) := fun i h => by
    rw [List.getD_eq_getElem?_getD, List.getElem?_eq_getElem (by rw [hl]; exact h)]; rfl
  constructor
  · intro h
    have h := mapB_to h
    refine ⟨decide_eq_true fun k hk => ?_, decide_eq_true fun k hk => ?_⟩
    · rw [List.length_take, hl] at hk
      have := h k (by omega)
      rw [hg k (by omega)] at this
      rw [List.getElem_take]
      unfold entB at this
      exact (Bool.and_eq_true _ _ ▸ this : _ ∧ _).1
    · rw [List.length_drop, hl] at hk
      have := h (x.size.toNat + k) (by omega)
      rw [hg _ (by omega)] at this
      rw [List.getElem_drop]
      unfold entB at this
      have := (Bool.and_eq_true _ _ ▸ this : _ ∧ _).2
      rw [Bool.or_eq_true] at this
      rcases this with h1 | h1
      · exact h1
      · have := of_decide_eq_true h1
        omega
  · rintro ⟨h1, h2⟩
    have h1 := of_decide_eq_true h1
    have h2 := of_decide_eq_true h2
    refine mapB_of fun i hi => ?_
    rw [hg i hi]
    unfold entB
    rw [Bool.and_eq_true, Bool.or_eq_true]
    by_cases hs : i < x.size.toNat
    · have := h1 i (by rw [List.length_take, hl]; omega)
      rw [List.getElem_take] at this
      exact ⟨this, .inr (decide_eq_true (by omega))⟩
    · have := h2 (i - x.size.toNat) (by rw [List.length_drop, hl]; omega)
      rw [List.getElem_drop] at this
      have e : x.size.toNat + (i - x.size.toNat) = i := by omega
      simp only [e] at this
      exact ⟨by rw [eq_of_beq this]; exact tieB_zero, .inl this⟩
theorem map_nought {x : Ino} (h0 : x.size = 0) (h : mapB x.map x.size = true) : x.map = [0, 0, 0, 0, 0, 0, 0, 0] := by
  have h := mapB_to h
  have g : ∀ i, i < 8 → x.map.getD i 0 = 0 := fun i hi => by
    have := h i hi
    unfold entB at this
    have := (Bool.and_eq_true _ _ ▸ this : _ ∧ _).2
    rw [Bool.or_eq_true] at this
    rcases this with h1 | h1
    · exact eq_of_beq h1
    · have := of_decide_eq_true h1; omega
  have a0 := g 0 (by omega); have a1 := g 1 (by omega); have a2 := g 2 (by omega); have a3 := g 3 (by omega); have a4 := g 4 (by omega); have a5 := g 5 (by omega); have a6 := g 6 (by omega); have a7 := g 7 (by omega)
  simp [Ino.map] at *
  exact ⟨a0, a1, a2, a3, a4, a5, a6, a7⟩
theorem ino_file {x : Ino} (h0 : ¬ x.ns = [0, 0, 0, 0, 0, 0, 0, 0, 0, 0, 0]) (h1 : ¬ x.ns = [2, 0, 1, 0, 0, 0, 0, 0, 0, 0, 0]) : fileB x = inoB x := by
  by_cases hk : x.kind = 1
  · unfold fileB inoB
    rw [decide_eq_true hk, decide_eq_true (show 0 ≤ x.kind ∧ x.kind ≤ 2 by omega)]
    simp only [Bool.true_and]
    by_cases hs : 0 ≤ x.size ∧ x.size ≤ 8
    · rw [decide_eq_true hs, decide_eq_true (show 0 ≤ x.size ∧ x.size < 9 by omega), ← map_parts hs.1 hs.2]
      have e : kindB x = decide (0 < x.links) := by unfold kindB; rw [if_neg (by omega), if_neg (by omega)]
      rw [e]
      by_cases hl : 1 ≤ x.links ∧ x.links ≤ 24
      · rw [decide_eq_true hl, decide_eq_true (show 0 ≤ x.links ∧ x.links ≤ 24 by omega), decide_eq_true (show 0 < x.links by omega)]; simp
      · rw [decide_eq_false hl]
        by_cases h3 : 0 < x.links
        · rw [decide_eq_false (show ¬ (0 ≤ x.links ∧ x.links ≤ 24) by omega)]; simp
        · rw [decide_eq_false h3]; simp
    · rw [decide_eq_false hs, decide_eq_false (show ¬ (0 ≤ x.size ∧ x.size < 9) by omega)]; simp
  · have e1 : fileB x = false := by unfold fileB; rw [decide_eq_false hk]; rfl
    rw [e1, eq_comm, Bool.eq_false_iff]
    intro e
    unfold inoB at e
    simp only [Bool.and_eq_true, decide_eq_true_eq] at e
    obtain ⟨a, b, c, d, f⟩ := e
    unfold kindB at f
    by_cases k0 : x.kind = 0
    · rw [if_pos k0] at f
      obtain ⟨f1, f2, f3⟩ := of_decide_eq_true f
      apply h0
      simp only [Ino.map, List.cons.injEq, and_true] at f3
      simp [Ino.ns, k0, f1, f2, f3]
    · rw [if_neg k0, if_pos (by omega)] at f
      simp only [Bool.and_eq_true, beq_iff_eq] at f
      have f3 := map_nought f.1 d
      apply h1
      simp only [Ino.map, List.cons.injEq, and_true] at f3
      have k2 : x.kind = 2 := by omega
      simp [Ino.ns, k2, f.1, f.2, f3]

/-- The variable of an empty directory lies as the program's start has laid it. -/
def ED (w : World) : Prop := ∃ t fr, w.heap[2]? = some (.cells #[.int .i64 2, .int .i64 0, .int .i64 1, .int .i64 0, .int .i64 0, .int .i64 0, .int .i64 0, .int .i64 0, .int .i64 0, .int .i64 0, .int .i64 0] t fr)
theorem ED.lt {w : World} (h : ED w) : 2 < w.heap.size := by
  obtain ⟨t, fr, h⟩ := h
  exact (Array.getElem?_eq_some_iff.1 h).1
theorem ED.below {w w' : World} (h : ED w) (hb : Below w.heap.size w w') : ED w' := by
  have hl := h.lt
  obtain ⟨t, fr, h⟩ := h
  exact ⟨t, fr, (hb.block _ hl).trans h⟩
theorem ED.cells {w : World} (h : ED w) : w.cell? ⟨2, 0, none⟩ = some (.int .i64 2) ∧ w.cell? ⟨2, 1, none⟩ = some (.int .i64 0) ∧ w.cell? ⟨2, 2, none⟩ = some (.int .i64 1) ∧ w.cell? ⟨2, 3, none⟩ = some (.int .i64 0) ∧ w.cell? ⟨2, 4, none⟩ = some (.int .i64 0) ∧ w.cell? ⟨2, 5, none⟩ = some (.int .i64 0) ∧ w.cell? ⟨2, 6, none⟩ = some (.int .i64 0) ∧ w.cell? ⟨2, 7, none⟩ = some (.int .i64 0) ∧ w.cell? ⟨2, 8, none⟩ = some (.int .i64 0) ∧ w.cell? ⟨2, 9, none⟩ = some (.int .i64 0) ∧ w.cell? ⟨2, 10, none⟩ = some (.int .i64 0) := by
  obtain ⟨t, fr, h⟩ := h
  simp [World.cell?, h]

theorem isEntry_any (n : Int) (w : World) (hT : TS w) (h0 : -9223372036854775808 ≤ n) (h1 : n ≤ 9223372036854775807) : Calls Tryz.prog 320 #[.int .i64 n] w fun e w' => e = .returned (.bool (tieB n)) ∧ w' = w := by
  have T := hideIt hT
  clear hT
  cases c : tieB n with
  | true =>
    have E := hideIt (tie_in c).2.2
    clear c
    go_enter Tryz.func320, Tryz.ntmps320
    go_wp2_with (go_at_call 247; refine (implTierOf_any _ _ T.out h0 h1).mono ?_; rw [E.out]; rintro e w' ⟨rfl, rfl⟩)
    go_ret
    exact ⟨rfl, rfl⟩
  | false =>
    have E := hideIt (tie_out c).2.2
    clear c
    go_enter Tryz.func320, Tryz.ntmps320
    go_wp2_with (go_at_call 247; refine (implTierOf_any _ _ T.out h0 h1).mono ?_; rw [E.out]; rintro e w' ⟨rfl, rfl⟩)
    go_ret
    exact ⟨rfl, rfl⟩

theorem isNowhere_any (n : Int) (w : World) : Calls Tryz.prog 321 #[.int .i64 n] w fun e w' => e = .returned (.bool (n == 0)) ∧ w' = w := by
  go_enter Tryz.func321, Tryz.ntmps321
  go_wp2
  go_ret
  exact ⟨rfl, rfl⟩

theorem tiesB_mk {zs : List Int} (h : ∀ k (h : k < zs.length), tieB zs[k] = true) : tiesB zs = true := decide_eq_true h
theorem tiesB_not {zs : List Int} {k : Nat} (hk : k < zs.length) (h : tieB zs[k] = false) : tiesB zs = false := decide_eq_false (fun x => by have := x k hk; rw [h] at this; cases this)
theorem nowsB_mk {zs : List Int} (h : ∀ k (h : k < zs.length), (zs[k] == 0) = true) : nowsB zs = true := decide_eq_true h
theorem nowsB_not {zs : List Int} {k : Nat} (hk : k < zs.length) (h : (zs[k] == 0) = false) : nowsB zs = false := decide_eq_false (fun x => by have := x k hk; rw [h] at this; cases this)

set_option maxHeartbeats 2000000 in
theorem everyEntry_any (v : Value) (zs : List Int) (w : World) (h : RdI w v zs) (hn : zs.length ≤ 2147483648) (hT : TS w) (hr : ∀ k (h : k < zs.length), -9223372036854775808 ≤ zs[k] ∧ zs[k] ≤ 9223372036854775807) :
    Calls Tryz.prog 105 #[v, .func (.func 320) #[] #[]] w fun e w' => e = .returned (.bool (tiesB zs)) ∧ w' = w := by
  have T := hideIt hT
  have HR := hideIt hr
  clear hT hr
  obtain ⟨ao, cap, rfl, _, hc⟩ := h.shape
  clear h
  go_enter Tryz.func105, Tryz.ntmps105
  go_wp2
  go_loop [6, 9] (fun _ i => ∃ k : Nat, k ≤ zs.length ∧ i = .int .i64 k ∧ Hid (∀ j (h : j < zs.length), j < k → tieB zs[j] = true)) (fun _ i => zs.length - (intOf i).toNat)
  case atStart => exact ⟨0, by omega, rfl, fun j h a => absurd a (by omega)⟩
  case round =>
    obtain ⟨k, hk, rfl, H⟩ := hrel
    by_cases hlt : k < zs.length
    · obtain ⟨b, o, rfl, hbl, hcell⟩ := hc (by omega)
      have hck := hcell k hlt
      obtain ⟨r0, r1⟩ := HR.out k hlt
      clear hcell hc
      by_cases q : tieB zs[k] = true
      · go_wp2_with (go_at_call 320; refine (isEntry_any _ _ T.out r0 r1).mono ?_; rintro e w' ⟨rfl, rfl⟩)
        go_round
        case rel =>
          refine ⟨k + 1, by omega, by go_num, fun j h a => ?_⟩
          by_cases e : j = k
          · subst e; exact q
          · exact H.out j h (by omega)
        case measure => simp [intOf]; omega
      · have q' : tieB zs[k] = false := by simpa using q
        have E := hideIt (tiesB_not hlt q')
        go_wp2_with (go_at_call 320; refine (isEntry_any _ _ T.out r0 r1).mono ?_; rintro e w' ⟨rfl, rfl⟩)
        go_ret
        exact ⟨ret_bool E.out.symm, rfl⟩
    · have E := hideIt (tiesB_mk (fun j h => H.out j h (by omega)))
      clear H
      go_wp2
      go_ret
      exact ⟨ret_bool E.out.symm, rfl⟩

set_option maxHeartbeats 2000000 in
theorem everyNowhere_any (v : Value) (zs : List Int) (w : World) (h : RdI w v zs) (hn : zs.length ≤ 2147483648) :
    Calls Tryz.prog 105 #[v, .func (.func 321) #[] #[]] w fun e w' => e = .returned (.bool (nowsB zs)) ∧ w' = w := by
  obtain ⟨ao, cap, rfl, _, hc⟩ := h.shape
  clear h
  go_enter Tryz.func105, Tryz.ntmps105
  go_wp2
  go_loop [6, 9] (fun _ i => ∃ k : Nat, k ≤ zs.length ∧ i = .int .i64 k ∧ Hid (∀ j (h : j < zs.length), j < k → (zs[j] == 0) = true)) (fun _ i => zs.length - (intOf i).toNat)
  case atStart => exact ⟨0, by omega, rfl, fun j h a => absurd a (by omega)⟩
  case round =>
    obtain ⟨k, hk, rfl, H⟩ := hrel
    by_cases hlt : k < zs.length
    · obtain ⟨b, o, rfl, hbl, hcell⟩ := hc (by omega)
      have hck := hcell k hlt
      clear hcell hc
      by_cases q : (zs[k] == 0) = true
      · go_wp2_with (go_at_call 321; refine (isNowhere_any _ _).mono ?_; rintro e w' ⟨rfl, rfl⟩)
        go_round
        case rel =>
          refine ⟨k + 1, by omega, by go_num, fun j h a => ?_⟩
          by_cases e : j = k
          · subst e; exact q
          · exact H.out j h (by omega)
        case measure => simp [intOf]; omega
      · have q' : (zs[k] == 0) = false := by simpa using q
        have E := hideIt (nowsB_not hlt q')
        go_wp2_with (go_at_call 321; refine (isNowhere_any _ _).mono ?_; rintro e w' ⟨rfl, rfl⟩)
        go_ret
        exact ⟨ret_bool E.out.symm, rfl⟩
    · have E := hideIt (nowsB_mk (fun j h => H.out j h (by omega)))
      clear H
      go_wp2
      go_ret
      exact ⟨ret_bool E.out.symm, rfl⟩
end Go.Proofs.YtipklbnfobckaaaGreatDoor
