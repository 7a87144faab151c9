/- Several texts laid together: MemM, JrD. -/
import Derived.Test.YtbjalmiheipjjaaDoorZAV
import Derived.Test.YtbjalmiheipjjaaDoorCrashP
import Derived.Test.YtbjalmiheipjjaaDoorZAB
import Derived.Test.YtbjalmiheipjjaaDoorZAE
namespace Go.Proofs.YtbjalmiheipjjaaDoor
open Go.RowKit
theorem keptS_of {a : Nat} : ∀ (ps : List St) (s : Int × Int), (keptS a s ps).1 = s.1 ∨ ∃ p ∈ ps, p.at_ = (a : Int) ∧ (keptS a s ps).1 = p.val
  | [], _ => .inl rfl
  | p :: ps, s => by
    show (keptS a (kept1 a s p) ps).1 = s.1 ∨ _
    by_cases c : p.at_ = (a : Int) ∧ 0 < s.2
    · have e : kept1 a s p = (p.val, s.2 - 1) := if_pos c
      have e2 : keptS a s (p :: ps) = keptS a (p.val, s.2 - 1) ps := by show keptS a (kept1 a s p) ps = _; rw [e]
      rw [e2, e]
      rcases keptS_of ps (p.val, s.2 - 1) with h | ⟨q, hq, h1, h2⟩
      · exact .inr ⟨p, by simp, c.1, h⟩
      · exact .inr ⟨q, by simp [hq], h1, h2⟩
    · have e : kept1 a s p = s := if_neg c
      have e2 : keptS a s (p :: ps) = keptS a s ps := by show keptS a (kept1 a s p) ps = _; rw [e]
      rw [e2, e]
      rcases keptS_of ps s with h | ⟨q, hq, h1, h2⟩
      · exact .inl h
      · exact .inr ⟨q, by simp [hq], h1, h2⟩
def crW (ws : List Int) (ps : List St) (zs : List Int) : List Int := spW (unsN ps 336) zs ps ws (unsN ps 336).length
theorem crW_len {ws : List Int} {ps : List St} {zs : List Int} : (crW ws ps zs).length = ws.length := spW_len _ _ _ _ _
theorem crW_at {ws : List Int} {ps : List St} {zs : List Int} {a : Nat} (ha : a < ws.length) : ∃ m, (crW ws ps zs)[a]?.getD 0 = (keptS a (ws[a]?.getD 0, m) ps).1 :=
  ⟨_, spW_at (unsN ps 336) zs ps ws (unsN_apart ps 336) _ (Nat.le_refl _) a ha⟩
theorem crash_ok {ws : List Int} {ps : List St} {zs : List Int} (h : pmB ws ps = true) (hz : keepsB zs = true) (hl : zs.length ≤ 4096) : crashC ws ps zs = 0 ∧ crashWs ws ps zs = crW ws ps zs := by
  rcases crash_cases ws ps zs with ⟨c, _⟩ | ⟨_, c, _⟩ | ⟨_, _, c, _⟩ | ⟨_, _, _, e1, e2⟩
  · omega
  · rw [h] at c; cases c
  · rw [hz] at c; cases c
  · exact ⟨e1, e2⟩
theorem keepZ_B (bs : List Int) : keepsB (keepZ bs) = true := keepsB_mk (fun k hk => by have := keepZ_ok bs _ (List.getElem_mem hk); omega)
structure CutC (w0 wx : World) (X : List Int) (aW aP : Option Addr) (cW cP bx : Nat) : Prop where
  lo : w0.heap.size ≤ bx
  hi : bx < wx.heap.size
  box : wx.heap[bx]? = some (.cells #[.slice aW 336 cW, .slice aP 0 cP] 31 (0, 0))
  rd : RdPm wx (.agg #[.slice aW 336 cW, .slice aP 0 cP]) X []
  below : Below w0.heap.size w0 wx
theorem CutC.new {w0 wf : World} {X : List Int} {aW aP : Option Addr} {cW cP : Nat} (hr : RdPm wf (.agg #[.slice aW 336 cW, .slice aP 0 cP]) X []) (hb : Below w0.heap.size w0 wf) : CutC w0 (wf.alloc (.cells #[.slice aW 336 cW, .slice aP 0 cP] 31)) X aW aP cW cP wf.heap.size :=
  ⟨hb.size, by simp, at_new rfl, hr.below ((Below.refl _ _).alloc (Nat.le_refl _) _), below_allocS hb _⟩
theorem CutC.old {w0 wf : World} {X : List Int} {aW aP : Option Addr} {cW cP bx : Nat} (hl : X.length = 336) (hr : RdPm wf (.agg #[.slice aW 336 cW, .slice aP 0 cP]) X []) (hb : Below w0.heap.size w0 wf) (hx : w0.heap.size ≤ bx) (hv : wf.heap[bx]? = some (.cells #[.slice none 0 0, .slice none 0 0] 31 (0, 0))) : CutC w0 ((wf.setCell ⟨bx, 0, none⟩ (.slice aW 336 cW)).setCell ⟨bx, 1, none⟩ (.slice aP 0 cP)) X aW aP cW cP bx :=
  ⟨hx, by have := (Array.getElem?_eq_some_iff.1 hv).1; simpa [World.setCell] using this, by simp [World.setCell, Array.getElem?_modify, hv],
    hr.boxed hl hv (by simp [World.setCell]) (fun j _ hne => by rw [Below.heap_setCell _ _ _ _ (by simp only; omega), Below.heap_setCell _ _ _ _ (by simp only; omega)]),
    (hb.setCell (by simp only; omega) _).setCell (by simp only; omega) _⟩
end Go.Proofs.YtbjalmiheipjjaaDoor

namespace Go.Proofs.YtbjalmiheipjjaaDoor
def up (a v : Int) : St := ⟨a, v, false⟩
def stM (p : St) : Mi := ⟨1, p.at_, p.val⟩
def knownL (ks : List Int) (i : Nat) : Bool := (List.range i).any (fun k => ks[k]?.getD 0 / 8 == ks[i]?.getD 0 / 8)
def nl (ks : List Int) : Nat → List Mi
  | 0 => []
  | i + 1 => if knownL ks i = true then nl ks i else nl ks i ++ [⟨2, ks[i]?.getD 0, 0⟩]
def flushL (ks : List Int) : List Mi := nl ks ks.length ++ [⟨3, 0, 0⟩]
def seg (S : List St) : List Mi := S.map stM ++ flushL (S.map (·.at_))
def jrn : Nat → List St → List St
  | _, [] => []
  | i, u :: us => ⟨9 + 2 * (i : Int), u.at_, false⟩ :: ⟨9 + 2 * (i : Int) + 1, u.val, false⟩ :: jrn (i + 1) us
def cnt (n : Int) : List St := [⟨8, n, false⟩]
def applyL (us : List St) : List Mi := seg us ++ seg (cnt 0)
def planL (us : List St) : List Mi := if us.length = 0 then [] else seg (jrn 0 us) ++ seg (cnt (us.length : Int)) ++ applyL us
end Go.Proofs.YtbjalmiheipjjaaDoor
