/- All writes made sure: by the program. -/
import Derived.Test.YtbjcoeimcdodjaaDoorZAL
import Derived.Deep.MidRow
import Derived.Deep.WholeRow
namespace Go.Proofs.YtbjcoeimcdodjaaDoor
open Go.RowKit
theorem wpList_store_new {P : Program} {ops : Array Oper} {rest : List Oper} {o : Oper} {a : Act} {w0 : World} {Q : Exit → Act → World → Prop} (hgd : o.guard = none) (t : TypeId) (x y : Operand) (ho : o.op = .store t x y) (c c' : Array Value)
    (hx : a.eval x = .pointer (some ⟨w0.heap.size, 0, none⟩)) (hy : a.eval y = .agg c') (hi : (P.info? t).map (·.size) = some c'.size) (hold : c.size = c'.size) (h1 : c'.all (·.oneCell') = true)
    (h : wpList P ops Q rest (a.put o.dst undef) (w0.alloc (.cells c' t))) : wpList P ops Q (o :: rest) a (w0.alloc (.cells c t)) :=
  wpList_plain hgd fun _ hK => wp_store_row t x y ho w0.heap.size c' hx hy t c (heap_alloc_last w0 _) hi hold h1 (by rw [World.setRow_alloc_new]; exact hK _ _ h)
theorem range_ints {w : World} {b o : Nat} {zs : List Int} (h : ∀ k (h : k < zs.length), w.cell? ⟨b, o + k, none⟩ = some (.int .i64 zs[k])) : w.rangeAt b o (ints zs) := by
  intro j v hv
  have hj : j < zs.length := by have := (List.getElem?_eq_some_iff.1 hv).1; rwa [ints_len] at this
  rw [ints_at zs j hj] at hv
  cases hv
  exact h j hj
def noughts32 : Array Value := (List.replicate 32 (Value.int .i64 0)).toArray
theorem run_noughts32 (w : World) : (zeroValue 61).run Tryd.prog w = .ok (.agg noughts32) w := by kernel_rfl
theorem noughts32_size : noughts32.size = 32 := by unfold noughts32; rw [List.size_toArray, List.length_replicate]
theorem info32 : (Tryd.prog.info? 61).map (·.size) = some 32 := by kernel_rfl
theorem row32 (w : World) (ws : List Int) (hl : ws.length = 32) : Row (w.alloc (.cells (ints ws).toArray 61)) 61 1 w.heap.size (w.heap.size + 1) (.slice (some ⟨w.heap.size, 0, none⟩) 32 32) 32 (ints ws) := by
  have := World.ownsRow_lit (base := w.heap.size) (e := 61) (size := 1) w (ints ws).toArray 32 (Nat.le_refl _) (by simp [maxLen]) (by simp [ints, hl])
  exact ⟨by simpa using this, fun k hk => by cases hk; exact Nat.lt_succ_self _⟩
theorem run_arrayAt (a : Option Addr) (n cap : Nat) (hn : 32 ≤ n) (w : World) : (Instr.arrayAt 61 (.slice a n cap)).run Tryd.prog w = .ok (.pointer a) w := by
  have h : ¬ n < 32 := by omega
  simp [Instr.arrayAt, run_underlying Tryd.underlying61, h, go_sem]
theorem ints_all (zs : List Int) : (ints zs).toArray.all (·.oneCell') = true := all_oneCell_toArray (ints_one zs)
end Go.Proofs.YtbjcoeimcdodjaaDoor
