/- Several texts laid together: BlkWrite, BlkBar, MicD. -/
import Derived.Test.YtbjalmiheipjjaaDoorZAO
import Derived.Test.YtbjalmiheipjjaaDoorZAE
import Derived.Test.YtbjalmiheipjjaaDoorPmStore
import Derived.Test.YtbjalmiheipjjaaDoorZAM
import Derived.Test.YtbjalmiheipjjaaDoorZAI
import Derived.Deep.RegionWith
import Derived.Deep.DeepCutAuto
import Derived.Deep.RegionLaw
namespace Go.Proofs.YtbjalmiheipjjaaDoor
open Go.RowKit
def writeC (ws : List Int) (ps : List Se) (at_ v : Int) : Int := if askE ws ps at_ = 0 then if wordB v = false then 4 else if ps.length = 400 then 7 else 0 else askE ws ps at_
def writeWs (ws : List Int) (ps : List Se) (at_ v : Int) : List Int := if writeC ws ps at_ v = 0 ∨ writeC ws ps at_ v = 7 then ws else []
def writePs (ws : List Int) (ps : List Se) (at_ v : Int) : List Se := if writeC ws ps at_ v = 0 then ps ++ [⟨at_, v⟩] else if writeC ws ps at_ v = 7 then ps else []
theorem write_cases (ws : List Int) (ps : List Se) (at_ v : Int) :
    ((askE ws ps at_ = 1 ∨ askE ws ps at_ = 14) ∧ writeC ws ps at_ v = askE ws ps at_ ∧ writeWs ws ps at_ v = [] ∧ writePs ws ps at_ v = []) ∨
    (askE ws ps at_ = 0 ∧ wordB v = false ∧ writeC ws ps at_ v = 4 ∧ writeWs ws ps at_ v = [] ∧ writePs ws ps at_ v = []) ∨
    (askE ws ps at_ = 0 ∧ wordB v = true ∧ ps.length = 400 ∧ writeC ws ps at_ v = 7 ∧ writeWs ws ps at_ v = ws ∧ writePs ws ps at_ v = ps) ∨
    (askE ws ps at_ = 0 ∧ wordB v = true ∧ ¬ ps.length = 400 ∧ writeC ws ps at_ v = 0 ∧ writeWs ws ps at_ v = ws ∧ writePs ws ps at_ v = ps ++ [⟨at_, v⟩]) := by
  rcases askE_cases ws ps at_ with hc | ⟨hc, _⟩
  · left
    have e : writeC ws ps at_ v = askE ws ps at_ := by unfold writeC; rw [if_neg (by omega)]
    refine ⟨hc, e, ?_, ?_⟩
    · unfold writeWs; rw [e, if_neg (by omega)]
    · unfold writePs; rw [e, if_neg (by omega), if_neg (by omega)]
  · right
    by_cases c1 : wordB v = true
    · right
      by_cases c2 : ps.length = 400
      · have e : writeC ws ps at_ v = 7 := by unfold writeC; rw [if_pos hc, if_neg (by rw [c1]; simp), if_pos c2]
        refine .inl ⟨hc, c1, c2, e, ?_, ?_⟩
        · unfold writeWs; rw [e, if_pos (.inr rfl)]
        · unfold writePs; rw [e, if_neg (by decide), if_pos rfl]
      · have e : writeC ws ps at_ v = 0 := by unfold writeC; rw [if_pos hc, if_neg (by rw [c1]; simp), if_neg c2]
        refine .inr ⟨hc, c1, c2, e, ?_, ?_⟩
        · unfold writeWs; rw [e, if_pos (.inl rfl)]
        · unfold writePs; rw [e, if_pos rfl]
    · have c1' : wordB v = false := by simpa using c1
      have e : writeC ws ps at_ v = 4 := by unfold writeC; rw [if_pos hc, if_pos c1']
      refine .inl ⟨hc, c1', e, ?_, ?_⟩
      · unfold writeWs; rw [e, if_neg (by decide)]
      · unfold writePs; rw [e, if_neg (by decide), if_neg (by decide)]
end Go.Proofs.YtbjalmiheipjjaaDoor

namespace Go.Proofs.YtbjalmiheipjjaaDoor
open Go.RowKit
def layE (ws : List Int) (ps : List Se) : List Int := ps.foldl (fun acc p => acc.set p.at_.toNat p.val) ws
theorem layE_snoc (ws : List Int) (ps : List Se) (p : Se) : layE ws (ps ++ [p]) = (layE ws ps).set p.at_.toNat p.val := by simp [layE]
theorem layE_len (ws : List Int) : ∀ ps : List Se, (layE ws ps).length = ws.length := by
  intro ps
  unfold layE
  induction ps generalizing ws with
  | nil => rfl
  | cons p ps ih => rw [List.foldl_cons, ih]; simp
def barC (ws : List Int) (ps : List Se) : Int := if blkB ws ps = true then 0 else 1
def barWs (ws : List Int) (ps : List Se) : List Int := if blkB ws ps = true then layE ws ps else []
theorem bar_not {ws : List Int} {ps : List Se} (h : blkB ws ps = false) : barC ws ps = 1 ∧ barWs ws ps = [] := by
  unfold barC barWs
  rw [h]
  exact ⟨rfl, rfl⟩
theorem bar_ok {ws : List Int} {ps : List Se} (h : blkB ws ps = true) : barC ws ps = 0 ∧ barWs ws ps = layE ws ps := by
  unfold barC barWs
  rw [h]
  exact ⟨rfl, rfl⟩
end Go.Proofs.YtbjalmiheipjjaaDoor

namespace Go.Proofs.YtbjalmiheipjjaaDoor
open Go.RowKit
def doW (m : Mi) (ws : List Int) (ps : List St) : List Int := if m.kind = 3 then fenW ws ps else ws
def doP (m : Mi) (ps : List St) : List St := if m.kind = 1 then ps ++ [⟨m.at_, m.val, false⟩] else if m.kind = 2 then ps.map (fl1 m.at_) else if m.kind = 3 then fenP ps else ps
def doE (m : Mi) (es : List Int) (qs : List Se) : List Int := if m.kind = 5 then layE es qs else es
def doQ (m : Mi) (qs : List Se) : List Se := if m.kind = 4 then qs ++ [⟨m.at_, m.val⟩] else if m.kind = 5 then [] else qs
def putD (w : World) (bD bR i j : Nat) (x y a b c d : Value) : World := (((((w.setCell ⟨bD, i, none⟩ x).setCell ⟨bD, j, none⟩ y).setCell ⟨bR, 0, none⟩ a).setCell ⟨bR, 1, none⟩ b).setCell ⟨bR, 2, none⟩ c).setCell ⟨bR, 3, none⟩ d
theorem putD_size (w : World) (bD bR i j : Nat) (x y a b c d : Value) : (putD w bD bR i j x y a b c d).heap.size = w.heap.size := by simp [putD, World.setCell]
end Go.Proofs.YtbjalmiheipjjaaDoor
