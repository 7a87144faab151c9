/- Several texts laid together: MicD, MicO, MiL. -/
import Derived.Test.YtbjalmiheipjjaaDoorZAE
import Derived.Test.YtbjalmiheipjjaaDoorZAI
import Derived.Test.YtbjalmiheipjjaaDoorZAK
import Derived.Test.YtbjalmiheipjjaaDoorZAH
import Derived.Test.YtbjalmiheipjjaaDoorZAM
import Derived.Deep.RegionWith
import Derived.Deep.DeepCutAuto
import Derived.Deep.RegionLaw
import Derived.Test.YtbjalmiheipjjaaDoorZAB
namespace Go.Proofs.YtbjalmiheipjjaaDoor
open Go.RowKit
def doW (m : Mi) (ws : List Int) (ps : List St) : List Int := if m.kind = 3 then fenW ws ps else ws
def doP (m : Mi) (ps : List St) : List St := if m.kind = 1 then ps ++ [⟨m.at_, m.val, false⟩] else if m.kind = 2 then ps.map (fl1 m.at_) else if m.kind = 3 then fenP ps else ps
def doE (m : Mi) (es : List Int) (qs : List Se) : List Int := if m.kind = 5 then layE es qs else es
def doQ (m : Mi) (qs : List Se) : List Se := if m.kind = 4 then qs ++ [⟨m.at_, m.val⟩] else if m.kind = 5 then [] else qs
def putD (w : World) (bD bR i j : Nat) (x y a b c d : Value) : World := (((((w.setCell ⟨bD, i, none⟩ x).setCell ⟨bD, j, none⟩ y).setCell ⟨bR, 0, none⟩ a).setCell ⟨bR, 1, none⟩ b).setCell ⟨bR, 2, none⟩ c).setCell ⟨bR, 3, none⟩ d
theorem putD_size (w : World) (bD bR i j : Nat) (x y a b c d : Value) : (putD w bD bR i j x y a b c d).heap.size = w.heap.size := by simp [putD, World.setCell]
end Go.Proofs.YtbjalmiheipjjaaDoor

namespace Go.Proofs.YtbjalmiheipjjaaDoor
open Go.RowKit
def putR (w : World) (bR : Nat) (a b c d : Value) : World := (((w.setCell ⟨bR, 0, none⟩ a).setCell ⟨bR, 1, none⟩ b).setCell ⟨bR, 2, none⟩ c).setCell ⟨bR, 3, none⟩ d
theorem putR_out (w : World) (bR : Nat) (a b c d : Value) : Outside bR (bR + 1) w (putR w bR a b c d) := by
  unfold putR
  repeat (refine Outside.setCell ?_ (by simp only; omega) (by simp only; omega) _)
  exact Outside.refl _ _ _
theorem putR_size (w : World) (bR : Nat) (a b c d : Value) : (putR w bR a b c d).heap.size = w.heap.size := by simp [putR, World.setCell]
def fullB (m : Mi) (ps : List St) (qs : List Se) : Bool := decide ((m.kind = 1 ∧ ps.length = 400) ∨ (m.kind = 4 ∧ qs.length = 400))
def mdC (m : Mi) (ws : List Int) (ps : List St) (es : List Int) (qs : List Se) : Int := if (pmB ws ps && blkB es qs && miB m) = true then if fullB m ps qs = true then 7 else 0 else 1
def mdW (m : Mi) (ws : List Int) (ps : List St) (es : List Int) (qs : List Se) : List Int := if mdC m ws ps es qs = 0 then doW m ws ps else if mdC m ws ps es qs = 7 then ws else []
def mdP (m : Mi) (ws : List Int) (ps : List St) (es : List Int) (qs : List Se) : List St := if mdC m ws ps es qs = 0 then doP m ps else if mdC m ws ps es qs = 7 then ps else []
def mdE (m : Mi) (ws : List Int) (ps : List St) (es : List Int) (qs : List Se) : List Int := if mdC m ws ps es qs = 0 then doE m es qs else if mdC m ws ps es qs = 7 then es else []
def mdQ (m : Mi) (ws : List Int) (ps : List St) (es : List Int) (qs : List Se) : List Se := if mdC m ws ps es qs = 0 then doQ m qs else if mdC m ws ps es qs = 7 then qs else []
theorem md_cases (m : Mi) (ws : List Int) (ps : List St) (es : List Int) (qs : List Se) :
    ((pmB ws ps && blkB es qs) = false ∧ mdC m ws ps es qs = 1 ∧ mdW m ws ps es qs = [] ∧ mdP m ws ps es qs = [] ∧ mdE m ws ps es qs = [] ∧ mdQ m ws ps es qs = []) ∨
    ((pmB ws ps && blkB es qs) = true ∧ miB m = false ∧ mdC m ws ps es qs = 1 ∧ mdW m ws ps es qs = [] ∧ mdP m ws ps es qs = [] ∧ mdE m ws ps es qs = [] ∧ mdQ m ws ps es qs = []) ∨
    ((pmB ws ps && blkB es qs) = true ∧ miB m = true ∧ fullB m ps qs = true ∧ mdC m ws ps es qs = 7 ∧ mdW m ws ps es qs = ws ∧ mdP m ws ps es qs = ps ∧ mdE m ws ps es qs = es ∧ mdQ m ws ps es qs = qs) ∨
    ((pmB ws ps && blkB es qs) = true ∧ miB m = true ∧ fullB m ps qs = false ∧ mdC m ws ps es qs = 0 ∧ mdW m ws ps es qs = doW m ws ps ∧ mdP m ws ps es qs = doP m ps ∧ mdE m ws ps es qs = doE m es qs ∧ mdQ m ws ps es qs = doQ m qs) := by
  by_cases c1 : (pmB ws ps && blkB es qs) = true
  · by_cases c2 : miB m = true
    · by_cases c3 : fullB m ps qs = true
      · have e : mdC m ws ps es qs = 7 := by unfold mdC; rw [c1, c2, c3]; rfl
        refine .inr (.inr (.inl ⟨c1, c2, c3, e, ?_, ?_, ?_, ?_⟩))
        · unfold mdW; rw [e]; rfl
        · unfold mdP; rw [e]; rfl
        · unfold mdE; rw [e]; rfl
        · unfold mdQ; rw [e]; rfl
      · have c3' : fullB m ps qs = false := by simpa using c3
        have e : mdC m ws ps es qs = 0 := by unfold mdC; rw [c1, c2, c3']; rfl
        refine .inr (.inr (.inr ⟨c1, c2, c3', e, ?_, ?_, ?_, ?_⟩))
        · unfold mdW; rw [e]; rfl
        · unfold mdP; rw [e]; rfl
        · unfold mdE; rw [e]; rfl
        · unfold mdQ; rw [e]; rfl
    · have c2' : miB m = false := by simpa using c2
      have e : mdC m ws ps es qs = 1 := by unfold mdC; rw [c1, c2']; rfl
      refine .inr (.inl ⟨c1, c2', e, ?_, ?_, ?_, ?_⟩)
      · unfold mdW; rw [e]; rfl
      · unfold mdP; rw [e]; rfl
      · unfold mdE; rw [e]; rfl
      · unfold mdQ; rw [e]; rfl
  · have c1' : (pmB ws ps && blkB es qs) = false := by simpa using c1
    have e : mdC m ws ps es qs = 1 := by unfold mdC; rw [c1']; rfl
    refine .inl ⟨c1', e, ?_, ?_, ?_, ?_⟩
    · unfold mdW; rw [e]; rfl
    · unfold mdP; rw [e]; rfl
    · unfold mdE; rw [e]; rfl
    · unfold mdQ; rw [e]; rfl
theorem RowDev.zero (w : World) (lo hi : Nat) (h : lo ≤ hi) : RowDev w lo hi (.agg #[.slice none 0 0, .slice none 0 0, .slice none 0 0, .slice none 0 0]) [] [] [] [] :=
  ⟨_, _, _, _, lo, lo, lo, hi, rfl, RowPm.zero w lo lo, RowBlk.zero w lo hi, Nat.le_refl _, h, Nat.le_refl _, Nat.le_refl _, .inl (Nat.le_refl _)⟩
end Go.Proofs.YtbjalmiheipjjaaDoor

namespace Go.Proofs.YtbjalmiheipjjaaDoor
open Go.RowKit
def Mi.cells (s : Mi) : List Value := [.int .i64 s.kind, .int .i64 s.at_, .int .i64 s.val]
def mis (ps : List Mi) : List Value := ps.flatMap Mi.cells
theorem Mi.cells_len (s : Mi) : s.cells.length = 3 := rfl
theorem mis_len (ps : List Mi) : (mis ps).length = ps.length * 3 := flatMap_len _ 3 Mi.cells_len ps
theorem mis_at0 (ps : List Mi) (k : Nat) (h : k < ps.length) : (mis ps)[k * 3]? = some (.int .i64 ps[k].kind) := flatMap_at _ 3 Mi.cells_len ps k 0 h (by omega)
theorem mis_at1 (ps : List Mi) (k : Nat) (h : k < ps.length) : (mis ps)[k * 3 + 1]? = some (.int .i64 ps[k].at_) := flatMap_at _ 3 Mi.cells_len ps k 1 h (by omega)
theorem mis_at2 (ps : List Mi) (k : Nat) (h : k < ps.length) : (mis ps)[k * 3 + 2]? = some (.int .i64 ps[k].val) := flatMap_at _ 3 Mi.cells_len ps k 2 h (by omega)
def RdM (w : World) (v : Value) (ps : List Mi) : Prop := Rd w 3 v ps.length (mis ps)
theorem RdM.shape {w : World} {v : Value} {ps : List Mi} (h : RdM w v ps) : ∃ ao cap, v = .slice ao ps.length cap ∧ ps.length ≤ cap ∧ (0 < ps.length → ∃ b o, ao = some ⟨b, o, none⟩ ∧ b < w.heap.size ∧
    ∀ k (h : k < ps.length), w.cell? ⟨b, o + k * 3, none⟩ = some (.int .i64 ps[k].kind) ∧ w.cell? ⟨b, o + k * 3 + 1, none⟩ = some (.int .i64 ps[k].at_) ∧ w.cell? ⟨b, o + k * 3 + 2, none⟩ = some (.int .i64 ps[k].val)) := by
  obtain ⟨_, ao, cap, rfl, h2, h3⟩ := h
  refine ⟨ao, cap, rfl, h2.1, fun hn => ?_⟩
  obtain ⟨b, o, rfl, hb, hc⟩ := h3 hn
  exact ⟨b, o, rfl, hb, fun k hk => ⟨(hc (k * 3) (by omega)).trans (mis_at0 ps k hk), (hc (k * 3 + 1) (by omega)).trans (mis_at1 ps k hk), (hc (k * 3 + 2) (by omega)).trans (mis_at2 ps k hk)⟩⟩
theorem infoMic : (Tryd.prog.info? 61).map (fun i => (i.zero, i.size, i.bytes)) = some (some (.agg #[.int .i64 0, .int .i64 0, .int .i64 0]), 3, 24) := by kernel_rfl
end Go.Proofs.YtbjalmiheipjjaaDoor
