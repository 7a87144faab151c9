/- Several texts laid together: StoreS, Pm. -/
import Derived.Test.YtbjcoeimcdodjaaIntS
import Derived.Deep.RegionWith
namespace Go.Proofs.Ytbjcoeimcdodjaa
open Go.RowKit
structure St where
  at_ : Int
  val : Int
  fl : Bool
deriving DecidableEq
def St.cells (s : St) : List Value := [.int .i64 s.at_, .int .i64 s.val, .bool s.fl]
def sts (ps : List St) : List Value := ps.flatMap St.cells
theorem St.cells_len (s : St) : s.cells.length = 3 := rfl
theorem sts_len (ps : List St) : (sts ps).length = ps.length * 3 := flatMap_len _ 3 St.cells_len ps
theorem sts_at0 (ps : List St) (k : Nat) (h : k < ps.length) : (sts ps)[k * 3]? = some (.int .i64 ps[k].at_) := flatMap_at _ 3 St.cells_len ps k 0 h (by omega)
theorem sts_at1 (ps : List St) (k : Nat) (h : k < ps.length) : (sts ps)[k * 3 + 1]? = some (.int .i64 ps[k].val) := flatMap_at _ 3 St.cells_len ps k 1 h (by omega)
theorem sts_at2 (ps : List St) (k : Nat) (h : k < ps.length) : (sts ps)[k * 3 + 2]? = some (.bool ps[k].fl) := flatMap_at _ 3 St.cells_len ps k 2 h (by omega)
def RdS (w : World) (v : Value) (ps : List St) : Prop := Rd w 3 v ps.length (sts ps)
theorem RdS.shape {w : World} {v : Value} {ps : List St} (h : RdS w v ps) : ∃ ao cap, v = .slice ao ps.length cap ∧ ps.length ≤ cap ∧ (0 < ps.length → ∃ b o, ao = some ⟨b, o, none⟩ ∧ b < w.heap.size ∧
    ∀ k (h : k < ps.length), w.cell? ⟨b, o + k * 3, none⟩ = some (.int .i64 ps[k].at_) ∧ w.cell? ⟨b, o + k * 3 + 1, none⟩ = some (.int .i64 ps[k].val) ∧ w.cell? ⟨b, o + k * 3 + 2, none⟩ = some (.bool ps[k].fl)) := by
  obtain ⟨_, ao, cap, rfl, h2, h3⟩ := h
  refine ⟨ao, cap, rfl, h2.1, fun hn => ?_⟩
  obtain ⟨b, o, rfl, hb, hc⟩ := h3 hn
  exact ⟨b, o, rfl, hb, fun k hk => ⟨(hc (k * 3) (by omega)).trans (sts_at0 ps k hk), (hc (k * 3 + 1) (by omega)).trans (sts_at1 ps k hk), (hc (k * 3 + 2) (by omega)).trans (sts_at2 ps k hk)⟩⟩
theorem info52 : (Try.prog.info? 45).map (fun i => (i.zero, i.size, i.bytes)) = some (some (.agg #[.int .i64 0, .int .i64 0, .bool false]), 3, 24) := by kernel_rfl
end Go.Proofs.Ytbjcoeimcdodjaa

namespace Go.Proofs.Ytbjcoeimcdodjaa
open Go.RowKit
def RdPm (w : World) (v : Value) (ws : List Int) (ps : List St) : Prop := ∃ vW vP, v = .agg #[vW, vP] ∧ RdI w vW ws ∧ RdS w vP ps
def RowPm (w : World) (lo hi : Nat) (v : Value) (ws : List Int) (ps : List St) : Prop := ∃ vW vP, v = .agg #[vW, vP] ∧ Row w 3 1 lo hi vW ws.length (ints ws) ∧ Row w 45 3 lo hi vP ps.length (sts ps)
theorem RowPm.rd {w : World} {lo hi : Nat} {v : Value} {ws : List Int} {ps : List St} (h : RowPm w lo hi v ws ps) : RdPm w v ws ps := by
  obtain ⟨vW, vP, rfl, h1, h2⟩ := h
  exact ⟨vW, vP, rfl, h1.rd, h2.rd⟩
theorem RdPm.below {w w' : World} {v : Value} {ws : List Int} {ps : List St} (h : RdPm w v ws ps) (hb : Below w.heap.size w w') : RdPm w' v ws ps := by
  obtain ⟨vW, vP, rfl, h1, h2⟩ := h
  exact ⟨vW, vP, rfl, Rd.below h1 hb, Rd.below h2 hb⟩
theorem RowPm.below {w w' : World} {lo hi : Nat} {v : Value} {ws : List Int} {ps : List St} (h : RowPm w lo hi v ws ps) {B : Nat} (hb : Below B w w') (hB : hi ≤ B) : RowPm w' lo hi v ws ps := by
  obtain ⟨vW, vP, rfl, h1, h2⟩ := h
  exact ⟨vW, vP, rfl, h1.below hb hB, h2.below hb hB⟩
theorem RowPm.wide {w : World} {lo hi : Nat} {v : Value} {ws : List Int} {ps : List St} (h : RowPm w lo hi v ws ps) {lo' hi' : Nat} (h1 : lo' ≤ lo) (h2 : hi ≤ hi') : RowPm w lo' hi' v ws ps := by
  obtain ⟨vW, vP, rfl, a, b⟩ := h
  exact ⟨vW, vP, rfl, a.wide h1 h2, b.wide h1 h2⟩
end Go.Proofs.Ytbjcoeimcdodjaa
