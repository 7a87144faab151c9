/- Several texts laid together: ShG, RoL, RoE. -/
import Derived.Test.YtjkdmhdehihcbaaGreatDoorRows
import Derived.Shelf.SlicesQ.IndexFunc
import Derived.Test.YtjkdmhdehihcbaaGreatDoorRoK
import Derived.Test.YtjkdmhdehihcbaaGreatDoorOrdT
import Derived.Test.YtjkdmhdehihcbaaGreatDoorRoF
namespace Go.Proofs.YtjkdmhdehihcbaaGreatDoor
open Go.Shelf Go.RowKit
def lays6H_ren : Go.Shelf.Ren := ⟨fun | 6 => 68 | n => n, fun | 22 => 68 | 23 => 67 | 25 => 115 | 3 => 3 | 0 => 0 | 4 => 4 | n => n, fun | n => n⟩
theorem lays6H : Go.Proofs.SlLaysH0.n6 Tryz.prog lays6H_ren := {
  mixed := by kernel_rfl
  f6 := ⟨Tryz.f68.name, by decide, Tryz.func68.trans (congrArg some (by kernel_rfl))⟩
  t0 := Tryz.underlying0
  a0 := Tryz.isAgg0
  z0 := Tryz.sizeOf0
  v0 := Tryz.zeroValue0
  t3 := Tryz.underlying3
  a3 := Tryz.isAgg3
  z3 := Tryz.sizeOf3
  v3 := Tryz.zeroValue3
  t4 := Tryz.underlying4
  a4 := Tryz.isAgg4
  z4 := Tryz.sizeOf4
  v4 := Tryz.zeroValue4
  t22 := Tryz.underlying68
  a22 := Tryz.isAgg68
  z22 := Tryz.sizeOf68
  v22 := Tryz.zeroValue68
  t25 := Tryz.underlying115
  a25 := Tryz.isAgg115
  z25 := Tryz.sizeOf115
  v25 := Tryz.zeroValue115 }
end Go.Proofs.YtjkdmhdehihcbaaGreatDoor

namespace Go.Proofs.YtjkdmhdehihcbaaGreatDoor
open Go.RowKit
abbrev FmV : Type := ByteArray × Value
def fmE (f : FmV) : List Value := [.string f.1, f.2]
def WdB (w : World) (bw : Nat) (bs os cs : Nat) (ws : List ByteArray) : Prop := w.heap[bw]? = some (.cells #[.slice (some ⟨bs, os, none⟩) ws.length cs] 35 (0, 0)) ∧ bs < w.heap.size ∧ ws.length ≤ cs ∧ ∀ k (h : k < ws.length), w.cell? ⟨bs, os + k, none⟩ = some (.string ws[k])
theorem WdB.below {w w' : World} {bw bs os cs : Nat} {ws : List ByteArray} (h : WdB w bw bs os cs ws) {B : Nat} (hb : Below B w w') (h1 : bw < B) (h2 : bs < B) : WdB w' bw bs os cs ws := by
  obtain ⟨a, b, c, d⟩ := h
  exact ⟨(hb.block _ h1).trans a, by have := hb.size; omega, c, fun k hk => (hb.cell (p := ⟨bs, os + k, none⟩) h2).trans (d k hk)⟩
set_option maxRecDepth 100000 in
set_option maxHeartbeats 4000000 in
theorem isForm_any (bw bs os cs : Nat) (ws : List ByteArray) (h0 : 0 < ws.length) (f : FmV) (w : World) (h : WdB w bw bs os cs ws) :
    Calls Tryz.prog 69 #[.agg #[.string f.1, f.2], .pointer (some ⟨bw, 0, none⟩)] w fun e w' => e = .returned (.bool (f.1.toList == (wa ws 0).toList)) ∧ Below w.heap.size w w' := by
  obtain ⟨s0, fv⟩ := f
  have e0 : wa ws 0 = ws[0] := by simp [wa, List.getD, h0]
  rw [e0]
  obtain ⟨V, hV⟩ : ∃ V, V = w.alloc (.cells #[.string s0, fv] 67) := ⟨_, rfl⟩
  have BV : Hid (Below w.heap.size w V) := by rw [hV]; exact (Below.refl _ _).alloc (Nat.le_refl _) _
  have XV : V.cell? ⟨w.heap.size, 0, none⟩ = some (.string s0) := by
    have : V.heap[w.heap.size]? = some (.cells #[.string s0, fv] 67 (0, 0)) := by rw [hV]; exact at_new rfl
    simp [World.cell?, this]
  have zw : bw < w.heap.size := (Array.getElem?_eq_some_iff.1 h.1).1
  have HV := h.below BV.out zw h.2.1
  have Q1 : V.cell? ⟨bw, 0, none⟩ = some (.slice (some ⟨bs, os, none⟩) ws.length cs) := by
    have := HV.1
    simp [World.cell?, this]
  have Q2 : V.cell? ⟨bs, os, none⟩ = some (.string ws[0]) := HV.2.2.2 0 h0
  have hl0 : (0 : Int) < (ws.length : Int) := by omega
  clear HV h
  generalize ws[0] = w0 at *
  go_enter Tryz.func69, Tryz.ntmps69
  go_upto_region 1 with fail
  rw [← hV]
  clear hV
  refine wp_region_T 6 (fun w' => w'.cell? ⟨w.heap.size, 0, none⟩ = some (.string s0) ∧ w'.cell? ⟨bw, 0, none⟩ = some (.slice (some ⟨bs, os, none⟩) ws.length cs) ∧ w'.cell? ⟨bs, os, none⟩ = some (.string w0)) (by kernel_rfl) ⟨XV, Q1, Q2⟩ (fun hS => ?_)
  refine wpAnyT_take (i := 0) (v := .pointer (some ⟨w.heap.size, 0, none⟩)) [0] rfl (by kernel_rfl) (fun _ _ _ h => h) hS rfl (fun w' hSw => by go_simp) ?_
  try simp only [Act.put]
  refine wpAnyT_take (i := 1) (v := .string s0) [1] rfl (by kernel_rfl) (fun _ _ _ h => h) hS rfl (fun w' hSw => by have h1 := hSw.1; go_simp) ?_
  try simp only [Act.put]
  refine wpAnyT_take (i := 2) (v := .slice (some ⟨bs, os, none⟩) ws.length cs) [2] rfl (by kernel_rfl) (fun _ _ _ h => h) hS rfl (fun w' hSw => by have h1 := hSw.2.1; go_simp) ?_
  try simp only [Act.put]
  refine wpAnyT_take (i := 3) (v := .pointer (some ⟨bs, os, none⟩)) [3] rfl (by kernel_rfl) (fun _ _ _ h => h) hS rfl (fun w' hSw => by go_simp) ?_
  try simp only [Act.put]
  refine wpAnyT_take (i := 4) (v := .string w0) [4] rfl (by kernel_rfl) (fun _ _ _ h => h) hS rfl (fun w' hSw => by have h1 := hSw.2.2; go_simp) ?_
  try simp only [Act.put]
  refine wpAnyT_take (i := 5) (v := .bool (s0.toList == w0.toList)) [5] rfl (by kernel_rfl) (fun _ _ _ h => h) hS rfl (fun w' hSw => by go_simp) ?_
  try simp only [Act.put]
  refine wpAnyT_one (i := 6) rfl (by kernel_rfl) (fun K hK => ?_)
  go_simp
  refine hK.out _ _ (fun h => absurd rfl h) ?_
  clear hK K
  try simp only [Act.put]
  refine wpAnyT_done (by kernel_rfl) ?_ _
  clear hS XV Q1 Q2
  go_wp2
  go_ret
  exact ⟨rfl, by first | exact BV.out | exact BV.out.drew⟩
end Go.Proofs.YtjkdmhdehihcbaaGreatDoor

namespace Go.Proofs.YtjkdmhdehihcbaaGreatDoor
open Go.RowKit
theorem wdG_len : ∀ (l cur : List UInt8) (x : List UInt8), x ∈ wdG cur l → x.length ≤ cur.length + l.length
  | [], cur, x, h => by
    unfold wdG at h
    split at h
    · cases h
    · obtain rfl := List.mem_singleton.1 h
      omega
  | c :: l, cur, x, h => by
    rw [wdG_cons] at h
    simp only [List.length_cons]
    split at h
    · split at h
      · have := wdG_len l [] x h
        simp at this
        omega
      · rcases List.mem_cons.1 h with rfl | h
        · omega
        · have := wdG_len l [] x h
          simp at this
          omega
    · have := wdG_len l (cur ++ [c]) x h
      simp at this
      omega
theorem wds_size {s x : ByteArray} (h : x ∈ wds s) : x.size ≤ s.size := by
  unfold wds at h
  obtain ⟨l, hl, rfl⟩ := List.mem_map.1 h
  have := wdG_len _ [] l hl
  rw [← Lib.size_eq] at this
  have e : (mkB l).size = l.length := by simp [mkB, ByteArray.size]
  rw [e]
  simpa using this
theorem wdG_count : ∀ (l cur : List UInt8), (wdG cur l).length ≤ cur.length + l.length
  | [], cur => by
    unfold wdG
    split
    · simp
    · rename_i h
      have : cur.length ≠ 0 := fun e => h (by rw [List.length_eq_zero_iff.1 e])
      simp
      omega
  | c :: l, cur => by
    rw [wdG_cons]
    simp only [List.length_cons]
    split
    · have := wdG_count l []
      simp only [List.length_nil] at this
      split
      · omega
      · simp only [List.length_cons]
        omega
    · have := wdG_count l (cur ++ [c])
      simp at this
      omega
theorem wds_len {s : ByteArray} : (wds s).length ≤ s.size := by
  unfold wds
  have := wdG_count s.data.toList []
  rw [List.length_map, Lib.size_eq]
  simpa using this
theorem five_box {w : World} {b : Nat} {t : TypeId} {x0 x1 x2 x3 x4 : Value} (h : w.heap[b]? = some (.cells #[x0, x1, x2, x3, x4] t (0, 0))) : (w.cell? ⟨b, 0, none⟩ = some x0 ∧ w.cell? ⟨b, 1, none⟩ = some x1 ∧ w.cell? ⟨b, 2, none⟩ = some x2 ∧ w.cell? ⟨b, 3, none⟩ = some x3 ∧ w.cell? ⟨b, 4, none⟩ = some x4) ∧ w.frozen? ⟨b, 0, none⟩ = false ∧ w.frozen? ⟨b, 1, none⟩ = false ∧ w.frozen? ⟨b, 2, none⟩ = false ∧ w.frozen? ⟨b, 3, none⟩ = false ∧ w.frozen? ⟨b, 4, none⟩ = false := by
  simp [World.cell?, World.frozen?, h]
def put5o (w : World) (b : Nat) (u0 u1 u2 u3 u4 : Value) : World := ((((w.setCell ⟨b, 0, none⟩ u0).setCell ⟨b, 1, none⟩ u1).setCell ⟨b, 2, none⟩ u2).setCell ⟨b, 3, none⟩ u3).setCell ⟨b, 4, none⟩ u4
theorem put5o_box {w : World} {b : Nat} {t : TypeId} {x0 x1 x2 x3 x4 : Value} (h : w.heap[b]? = some (.cells #[x0, x1, x2, x3, x4] t (0, 0))) (u0 u1 u2 u3 u4 : Value) : (put5o w b u0 u1 u2 u3 u4).heap[b]? = some (.cells #[u0, u1, u2, u3, u4] t (0, 0)) := by
  unfold put5o
  simp [World.setCell, Array.getElem?_modify, h]
theorem put5o_below {W w : World} {b : Nat} (hb : Below W.heap.size W w) (h : W.heap.size ≤ b) (u0 u1 u2 u3 u4 : Value) : Below W.heap.size W (put5o w b u0 u1 u2 u3 u4) := by
  unfold put5o
  exact ((((hb.setCell (by simp only; omega) _).setCell (by simp only; omega) _).setCell (by simp only; omega) _).setCell (by simp only; omega) _).setCell (by simp only; omega) _
end Go.Proofs.YtjkdmhdehihcbaaGreatDoor
