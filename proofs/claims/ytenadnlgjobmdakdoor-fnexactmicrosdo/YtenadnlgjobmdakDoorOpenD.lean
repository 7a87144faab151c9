/- From what the arguments read as to the words of the walks: two devices in one. -/
import Derived.Test.YtenadnlgjobmdakDoorDev
import Derived.Test.YtenadnlgjobmdakDoorOpen
import Derived.Test.YtenadnlgjobmdakDoorOpenB
namespace Go.Proofs.YtenadnlgjobmdakDoor
open Go.ChangeShapes Go.WideShapes Go.ChangeAt Go.RowKit Go.Joins

theorem cellsDev : Tryd.prog.cellsOf 30 = 4 := by kernel_rfl
theorem array4 {cs : Array Value} (h : cs.size = 4) : ∃ a b c d, cs = #[a, b, c, d] := by
  obtain ⟨l⟩ := cs
  match l, h with
  | [a, b, c, d], _ => exact ⟨a, b, c, d, rfl⟩
set_option maxRecDepth 100000 in
theorem open_dev {H : Type} {enc : TypeId × Value → H} {W : World} {sp : Nat → Bool} {held : Bool} {r : Reach} {b0 : Nat} {v : Value} {d : DataW H} {p : List MemPlace}
    (hv : Value.okWide Tryd.prog W r b0 30 v) (h : DataW.Trod enc Tryd.prog W 0 sp held 30 v d p) :
    ∃ (ws : List Int) (ps : List St) (es : List Int) (qs : List Se), RdDev W v ws ps es qs ∧ ws.length ≤ maxLen ∧ ps.length ≤ maxLen ∧ es.length ≤ maxLen ∧ qs.length ≤ maxLen := by
  obtain ⟨cs, rfl, hsz⟩ := okWide_struct Tryd.underlying30 hv
  obtain ⟨c0, c1, c2, c3, rfl⟩ := array4 (hsz.trans cellsDev)
  obtain ⟨fuel, hf⟩ := h
  obtain ⟨y0, y1, n, hx, _, h0, h1⟩ := trod_struct2 Tryd.underlying30 hf
  simp only [cellsPm, cellsBlk] at h0 h1
  obtain ⟨y00, y01, n0, _, _, h00, h01⟩ := trod_struct2 Tryd.underlying25 h0
  obtain ⟨y10, y11, n1, _, _, h10, h11⟩ := trod_struct2 Tryd.underlying28 h1
  have k0 : Tryd.prog.cellsOf 22 = 1 := by kernel_rfl
  have k1 : Tryd.prog.cellsOf 23 = 1 := by kernel_rfl
  have k2 : Tryd.prog.cellsOf 26 = 1 := by kernel_rfl
  simp only [k0, k1, k2] at h00 h01 h10 h11
  obtain ⟨ws, hI0, hwl0, _⟩ := open_RdI (v := c0) (by simpa [Value.cells] using h00)
  obtain ⟨ps, hS0, hpl0, _⟩ := open_RdS (v := c1) (by simpa [Value.cells] using h01)
  obtain ⟨es, hI1, hwl1, _⟩ := open_RdI (v := c2) (by simpa [Value.cells] using h10)
  obtain ⟨qs, hS1, hpl1, _⟩ := open_RdE (v := c3) (by simpa [Value.cells] using h11)
  exact ⟨ws, ps, es, qs, ⟨_, _, _, _, rfl, ⟨_, _, rfl, hI0, hS0⟩, ⟨_, _, rfl, hI1, hS1⟩⟩, hwl0, hpl0, hwl1, hpl1⟩
end Go.Proofs.YtenadnlgjobmdakDoor
