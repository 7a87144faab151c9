/- Several texts laid together: PmOK, BlkOK, PmFlush, PmFence, BlkSm, BlkBar, MicD, MicO, JiM. -/
import Derived.Test.YtjkdmhdehihcbaaGreatDoorZAD
import Derived.Deep.RegionWith
import Derived.Test.YtjkdmhdehihcbaaGreatDoorZAS
import Derived.Deep.RegionLaw
import Derived.Test.YtjkdmhdehihcbaaGreatDoorMiS
import Derived.Deep.DeepCutAuto
namespace Go.Proofs.YtjkdmhdehihcbaaGreatDoor
open Go.RowKit
def pmB (ws : List Int) (ps : List St) : Bool := decide (ws.length = 336 ∧ ps.length ≤ 400 ∧ (∀ k (h : k < ws.length), wordB ws[k] = true) ∧ ∀ k (h : k < ps.length), placeB ps[k].at_ = true ∧ wordB ps[k].val = true)
end Go.Proofs.YtjkdmhdehihcbaaGreatDoor

namespace Go.Proofs.YtjkdmhdehihcbaaGreatDoor
open Go.RowKit
def blkB (ws : List Int) (ps : List Se) : Bool := decide (ws.length = 32 ∧ ps.length ≤ 400 ∧ (∀ k (h : k < ws.length), wordB ws[k] = true) ∧ ∀ k (h : k < ps.length), secB ps[k].at_ = true ∧ wordB ps[k].val = true)
end Go.Proofs.YtjkdmhdehihcbaaGreatDoor

namespace Go.Proofs.YtjkdmhdehihcbaaGreatDoor
open Go.RowKit
def fl1 (k : Int) (p : St) : St := if p.at_ / 8 = k / 8 then ⟨p.at_, p.val, true⟩ else p
end Go.Proofs.YtjkdmhdehihcbaaGreatDoor

namespace Go.Proofs.YtjkdmhdehihcbaaGreatDoor
open Go.RowKit
def fenW (ws : List Int) (ps : List St) : List Int := ps.foldl (fun acc p => if p.fl then acc.set p.at_.toNat p.val else acc) ws
def fenP (ps : List St) : List St := ps.filter (fun p => !p.fl)
end Go.Proofs.YtjkdmhdehihcbaaGreatDoor

namespace Go.Proofs.YtjkdmhdehihcbaaGreatDoor
open Go.RowKit
theorem RdE.form {w : World} {v : Value} {ps : List Se} (h : RdE w v ps) {n : Nat} (hn : ps.length = n) : ∃ ao cap, v = .slice ao n cap := by
  obtain ⟨ao, cap, e, _⟩ := h.shape
  exact ⟨ao, cap, by rw [← hn]; exact e⟩
end Go.Proofs.YtjkdmhdehihcbaaGreatDoor

namespace Go.Proofs.YtjkdmhdehihcbaaGreatDoor
open Go.RowKit
def layE (ws : List Int) (ps : List Se) : List Int := ps.foldl (fun acc p => acc.set p.at_.toNat p.val) ws
end Go.Proofs.YtjkdmhdehihcbaaGreatDoor

namespace Go.Proofs.YtjkdmhdehihcbaaGreatDoor
open Go.RowKit
def doW (m : Mi) (ws : List Int) (ps : List St) : List Int := if m.kind = 3 then fenW ws ps else ws
def doP (m : Mi) (ps : List St) : List St := if m.kind = 1 then ps ++ [⟨m.at_, m.val, false⟩] else if m.kind = 2 then ps.map (fl1 m.at_) else if m.kind = 3 then fenP ps else ps
def doE (m : Mi) (es : List Int) (qs : List Se) : List Int := if m.kind = 5 then layE es qs else es
def doQ (m : Mi) (qs : List Se) : List Se := if m.kind = 4 then qs ++ [⟨m.at_, m.val⟩] else if m.kind = 5 then [] else qs
end Go.Proofs.YtjkdmhdehihcbaaGreatDoor

namespace Go.Proofs.YtjkdmhdehihcbaaGreatDoor
open Go.RowKit
def fullB (m : Mi) (ps : List St) (qs : List Se) : Bool := decide ((m.kind = 1 ∧ ps.length = 400) ∨ (m.kind = 4 ∧ qs.length = 400))
end Go.Proofs.YtjkdmhdehihcbaaGreatDoor

namespace Go.Proofs.YtjkdmhdehihcbaaGreatDoor
open Go.RowKit
structure MR where
  c : Int
  W : List Int
  P : List St
  E : List Int
  Q : List Se
def mr : List Mi → List Int → List St → List Int → List Se → MR
  | [], ws, ps, es, qs => ⟨0, ws, ps, es, qs⟩
  | m :: l, ws, ps, es, qs => if fullB m ps qs = true then ⟨7, ws, ps, es, qs⟩ else mr l (doW m ws ps) (doP m ps) (doE m es qs) (doQ m qs)
def misB' (l : List Mi) : Bool := decide (∀ k (h : k < l.length), miB l[k] = true)
def ms (l : List Mi) (ws : List Int) (ps : List St) (es : List Int) (qs : List Se) : MR := if 4096 < l.length then ⟨2, [], [], [], []⟩ else if (pmB ws ps && blkB es qs && misB' l) = true then mr l ws ps es qs else ⟨1, [], [], [], []⟩
end Go.Proofs.YtjkdmhdehihcbaaGreatDoor
