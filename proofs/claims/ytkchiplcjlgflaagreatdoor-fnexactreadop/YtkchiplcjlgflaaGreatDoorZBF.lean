/- Several texts laid together: ShG, RoL. -/
import Derived.Test.YtkchiplcjlgflaaGreatDoorRows
import Derived.Shelf.SlicesQ.IndexFunc
import Derived.Test.YtkchiplcjlgflaaGreatDoorRoK
import Derived.Test.YtkchiplcjlgflaaGreatDoorOrdT
namespace Go.Proofs.YtkchiplcjlgflaaGreatDoor
open Go.Shelf Go.RowKit
def lays6H_ren : Go.Shelf.Ren := ⟨fun | 6 => 17 | n => n, fun | 22 => 39 | 23 => 44 | 25 => 45 | 3 => 3 | 0 => 0 | 4 => 4 | n => n, fun | n => n⟩
theorem lays6H : Go.Proofs.SlLaysH0.n6 Tryz.prog lays6H_ren := {
  mixed := by kernel_rfl
  f6 := ⟨Tryz.f17.name, by decide, Tryz.func17.trans (congrArg some (by kernel_rfl))⟩
  t0 := Tryz.underlying0
  a0 := Tryz.isAgg0
  z0 := Tryz.sizeOf0
  v0 := Tryz.zeroValue0
  t3 := Tryz.underlying3
  a3 := Tryz.isAgg3
  z3 := Tryz.sizeOf3
  v3 := Tryz.zeroValue3
  t4 := Tryz.underlying4
  a4 := Tryz.isAgg4
  z4 := Tryz.sizeOf4
  v4 := Tryz.zeroValue4
  t22 := Tryz.underlying39
  a22 := Tryz.isAgg39
  z22 := Tryz.sizeOf39
  v22 := Tryz.zeroValue39
  t25 := Tryz.underlying45
  a25 := Tryz.isAgg45
  z25 := Tryz.sizeOf45
  v25 := Tryz.zeroValue45 }
end Go.Proofs.YtkchiplcjlgflaaGreatDoor

namespace Go.Proofs.YtkchiplcjlgflaaGreatDoor
open Go.RowKit
abbrev FmV : Type := ByteArray × Value
def fmE (f : FmV) : List Value := [.string f.1, f.2]
def WdB (w : World) (bw : Nat) (bs os cs : Nat) (ws : List ByteArray) : Prop := w.heap[bw]? = some (.cells #[.slice (some ⟨bs, os, none⟩) ws.length cs] 31 (0, 0)) ∧ bs < w.heap.size ∧ ws.length ≤ cs ∧ ∀ k (h : k < ws.length), w.cell? ⟨bs, os + k, none⟩ = some (.string ws[k])
theorem WdB.below {w w' : World} {bw bs os cs : Nat} {ws : List ByteArray} (h : WdB w bw bs os cs ws) {B : Nat} (hb : Below B w w') (h1 : bw < B) (h2 : bs < B) : WdB w' bw bs os cs ws := by
  obtain ⟨a, b, c, d⟩ := h
  exact ⟨(hb.block _ h1).trans a, by have := hb.size; omega, c, fun k hk => (hb.cell (p := ⟨bs, os + k, none⟩) h2).trans (d k hk)⟩
set_option maxRecDepth 100000 in
set_option maxHeartbeats 4000000 in
theorem isForm_any (bw bs os cs : Nat) (ws : List ByteArray) (h0 : 0 < ws.length) (f : FmV) (w : World) (h : WdB w bw bs os cs ws) :
    Calls Tryz.prog 18 #[.agg #[.string f.1, f.2], .pointer (some ⟨bw, 0, none⟩)] w fun e w' => e = .returned (.bool (f.1.toList == (wa ws 0).toList)) ∧ Below w.heap.size w w' := by
  obtain ⟨s0, fv⟩ := f
  have e0 : wa ws 0 = ws[0] := by simp [wa, List.getD, h0]
  rw [e0]
  obtain ⟨V, hV⟩ : ∃ V, V = w.alloc (.cells #[.string s0, fv] 44) := ⟨_, rfl⟩
  have BV : Hid (Below w.heap.size w V) := by rw [hV]; exact (Below.refl _ _).alloc (Nat.le_refl _) _
  have XV : V.cell? ⟨w.heap.size, 0, none⟩ = some (.string s0) := by
    have : V.heap[w.heap.size]? = some (.cells #[.string s0, fv] 44 (0, 0)) := by rw [hV]; exact at_new rfl
    simp [World.cell?, this]
  have zw : bw < w.heap.size := (Array.getElem?_eq_some_iff.1 h.1).1
  have HV := h.below BV.out zw h.2.1
  have Q1 : V.cell? ⟨bw, 0, none⟩ = some (.slice (some ⟨bs, os, none⟩) ws.length cs) := by
    have := HV.1
    simp [World.cell?, this]
  have Q2 : V.cell? ⟨bs, os, none⟩ = some (.string ws[0]) := HV.2.2.2 0 h0
  have hl0 : (0 : Int) < (ws.length : Int) := by omega
  clear HV h
  generalize ws[0] = w0 at *
  go_enter Tryz.func18, Tryz.ntmps18
  go_upto_region 1 with fail
  rw [← hV]
  clear hV
  refine wp_region_T 6 (fun w' => w'.cell? ⟨w.heap.size, 0, none⟩ = some (.string s0) ∧ w'.cell? ⟨bw, 0, none⟩ = some (.slice (some ⟨bs, os, none⟩) ws.length cs) ∧ w'.cell? ⟨bs, os, none⟩ = some (.string w0)) (by kernel_rfl) ⟨XV, Q1, Q2⟩ (fun hS => ?_)
  refine wpAnyT_take (i := 0) (v := .pointer (some ⟨w.heap.size, 0, none⟩)) [0] rfl (by kernel_rfl) (fun _ _ _ h => h) hS rfl (fun w' hSw => by go_simp) ?_
  try simp only [Act.put]
  refine wpAnyT_take (i := 1) (v := .string s0) [1] rfl (by kernel_rfl) (fun _ _ _ h => h) hS rfl (fun w' hSw => by have h1 := hSw.1; go_simp) ?_
  try simp only [Act.put]
  refine wpAnyT_take (i := 2) (v := .slice (some ⟨bs, os, none⟩) ws.length cs) [2] rfl (by kernel_rfl) (fun _ _ _ h => h) hS rfl (fun w' hSw => by have h1 := hSw.2.1; go_simp) ?_
  try simp only [Act.put]
  refine wpAnyT_take (i := 3) (v := .pointer (some ⟨bs, os, none⟩)) [3] rfl (by kernel_rfl) (fun _ _ _ h => h) hS rfl (fun w' hSw => by go_simp) ?_
  try simp only [Act.put]
  refine wpAnyT_take (i := 4) (v := .string w0) [4] rfl (by kernel_rfl) (fun _ _ _ h => h) hS rfl (fun w' hSw => by have h1 := hSw.2.2; go_simp) ?_
  try simp only [Act.put]
  refine wpAnyT_take (i := 5) (v := .bool (s0.toList == w0.toList)) [5] rfl (by kernel_rfl) (fun _ _ _ h => h) hS rfl (fun w' hSw => by go_simp) ?_
  try simp only [Act.put]
  refine wpAnyT_one (i := 6) rfl (by kernel_rfl) (fun K hK => ?_)
  go_simp
  refine hK.out _ _ (fun h => absurd rfl h) ?_
  clear hK K
  try simp only [Act.put]
  refine wpAnyT_done (by kernel_rfl) ?_ _
  clear hS XV Q1 Q2
  go_wp2
  go_ret
  exact ⟨rfl, by first | exact BV.out | exact BV.out.drew⟩
end Go.Proofs.YtkchiplcjlgflaaGreatDoor
