/- All writes made sure: by the program. -/
import Derived.Test.YtbjcoeimcdodjaaDoorBlkBar
import Derived.Deep.MidRow
import Derived.Deep.WholeRow
namespace Go.Proofs.YtbjcoeimcdodjaaDoor
open Go.RowKit
theorem wpList_store_new {P : Program} {ops : Array Oper} {rest : List Oper} {o : Oper} {a : Act} {w0 : World} {Q : Exit → Act → World → Prop} (hgd : o.guard = none) (t : TypeId) (x y : Operand) (ho : o.op = .store t x y) (c c' : Array Value)
    (hx : a.eval x = .pointer (some ⟨w0.heap.size, 0, none⟩)) (hy : a.eval y = .agg c') (hi : (P.info? t).map (·.size) = some c'.size) (hold : c.size = c'.size) (h1 : c'.all (·.oneCell') = true)
    (h : wpList P ops Q rest (a.put o.dst undef) (w0.alloc (.cells c' t))) : wpList P ops Q (o :: rest) a (w0.alloc (.cells c t)) :=
  wpList_plain hgd fun _ hK => wp_store_row t x y ho w0.heap.size c' hx hy t c (heap_alloc_last w0 _) hi hold h1 (by rw [World.setRow_alloc_new]; exact hK _ _ h)
theorem range_ints {w : World} {b o : Nat} {zs : List Int} (h : ∀ k (h : k < zs.length), w.cell? ⟨b, o + k, none⟩ = some (.int .i64 zs[k])) : w.rangeAt b o (ints zs) := by
  intro j v hv
  have hj : j < zs.length := by have := (List.getElem?_eq_some_iff.1 hv).1; rwa [ints_len] at this
  rw [ints_at zs j hj] at hv
  cases hv
  exact h j hj
def noughts32 : Array Value := (List.replicate 32 (Value.int .i64 0)).toArray
theorem run_noughts32 (w : World) : (zeroValue 61).run Tryd.prog w = .ok (.agg noughts32) w := by kernel_rfl
theorem noughts32_size : noughts32.size = 32 := by unfold noughts32; rw [List.size_toArray, List.length_replicate]
theorem info32 : (Tryd.prog.info? 61).map (·.size) = some 32 := by kernel_rfl
theorem row32 (w : World) (ws : List Int) (hl : ws.length = 32) : Row (w.alloc (.cells (ints ws).toArray 61)) 61 1 w.heap.size (w.heap.size + 1) (.slice (some ⟨w.heap.size, 0, none⟩) 32 32) 32 (ints ws) := by
  have := World.ownsRow_lit (base := w.heap.size) (e := 61) (size := 1) w (ints ws).toArray 32 (Nat.le_refl _) (by simp [maxLen]) (by simp [ints, hl])
  exact ⟨by simpa using this, fun k hk => by cases hk; exact Nat.lt_succ_self _⟩
theorem run_arrayAt (a : Option Addr) (n cap : Nat) (hn : 32 ≤ n) (w : World) : (Instr.arrayAt 61 (.slice a n cap)).run Tryd.prog w = .ok (.pointer a) w := by
  have h : ¬ n < 32 := by omega
  simp [Instr.arrayAt, run_underlying Tryd.underlying61, h, go_sem]
theorem ints_all (zs : List Int) : (ints zs).toArray.all (·.oneCell') = true := all_oneCell_toArray (ints_one zs)
set_option maxRecDepth 100000 in
set_option maxHeartbeats 4000000 in
theorem implBlkBarrier_any (v : Value) (ws : List Int) (ps : List Se) (w : World) (h : RdBlk w v ws ps) (hw : ws.length ≤ 1048576) (hp : ps.length ≤ 1048576) :
    Calls Tryd.prog 10 #[v] w fun e w' => ∃ v', e = .returned (.tuple #[v', .int .i64 (barC ws ps)]) ∧ RowBlk w' w.heap.size w'.heap.size v' (barWs ws ps) [] ∧ Below w.heap.size w w' := by
  have HR := hideIt h
  obtain ⟨vW, vP, rfl, h1, h2⟩ := h
  obtain ⟨aW, cW, rfl, _, hcW⟩ := h1.shape
  obtain ⟨aP, cP, rfl, _, hcP⟩ := h2.shape
  have HP := hideIt hcP
  have HW := hideIt hcW
  clear h1 h2 hcP hcW
  have hb0 : Below w.heap.size w ((w.alloc (.cells #[.slice aW ws.length cW, .slice aP ps.length cP] 26)).alloc (.cells #[.slice none 0 0, .slice none 0 0] 26)) := by
    repeat (refine Below.alloc ?_ (by simp <;> omega) _)
    exact Below.refl _ _
  by_cases hc : blkB ws ps = true
  · obtain ⟨e1, e2⟩ := bar_ok hc
    rw [e1, e2]
    have OK := hideIt (blkB_at hc)
    have L32 := hideIt (blkB_len hc).1
    obtain ⟨bW, oW, rfl, hbW, hcellW⟩ := HW.out (by have := L32.out; omega)
    have HCW := hideIt hcellW
    have C := hideIt hc
    have hge32 : ¬ (ws.length : Int) < 32 := by have := L32.out; omega
    clear e1 e2 hc hcellW
    go_enter Tryd.func10, Tryd.ntmps10
    go_wp2_with fail
    refine (implBlkOK_any _ ws ps _ (HR.out.below hb0) hw hp).mono ?_
    rw [C.out]
    rintro e w1 ⟨rfl, hb1⟩
    have hz1 : w.heap.size + 2 ≤ w1.heap.size := by have := hb1.size; simp at this; omega
    have V0 := (hb1.block w.heap.size (by simp <;> omega)).trans (at_old (at_new rfl))
    have V1 := (hb1.block (w.heap.size + 1) (by simp)).trans (at_new (by simp))
    have B1 := hideIt (below_trans hb0 hb1 (by simp <;> omega))
    obtain ⟨x1, x2, x3, x4⟩ := two_cells V0
    obtain ⟨z1, z2, z3, z4⟩ := two_cells (at_old (o := .cells (ints ws).toArray 61) V0)
    have VR := hideIt (at_old (o := .cells (ints ws).toArray 61) V1)
    have RNG := hideIt (range_ints (w := w1) (b := bW) (o := oW) (zs := ws) (fun k hk => (B1.out.cell (p := ⟨bW, oW + k, none⟩) hbW).trans (HCW.out k hk)))
    have SZ := hideIt (show (Tryd.prog.info? 61).map (·.size) = some (ints ws).length by rw [ints_len, L32.out]; exact info32)
    have SZ2 := hideIt (show (Tryd.prog.info? 61).map (·.size) = some (ints ws).toArray.size by rw [List.size_toArray, ints_len, L32.out]; exact info32)
    have SZ3 := hideIt (show noughts32.size = (ints ws).toArray.size by rw [noughts32_size, List.size_toArray, ints_len, L32.out])
    have START := hideIt (row32 w1 ws L32.out)
    have BS := hideIt (B1.out.alloc (by omega) (.cells (ints ws).toArray 61))
    have hal := run_noughts32
    have har := run_arrayAt (some ⟨bW, oW, none⟩) ws.length cW (by have := L32.out; omega)
    clear hb0 hb1 V0 V1
    go_wp2_with (first
      | (refine wpList_load_mid rfl 61 (.tmp 13) rfl bW oW rfl (ints ws) _ RNG.out Tryd.underlying61 rfl SZ.out ?_)
      | (refine wpList_store_new rfl 61 (.tmp 4) (.tmp 14) rfl noughts32 (ints ws).toArray rfl rfl SZ2.out SZ3.out (ints_all ws) ?_))
    clear hal har
    go_loopw [6, 18] (fun _ i wr => ∃ m : Nat, m ≤ ps.length ∧ i = .int .i64 m ∧ Row wr 61 1 w1.heap.size (w1.heap.size + 1) (.slice (some ⟨w1.heap.size, 0, none⟩) 32 32) 32 (ints (layE ws (ps.take m))) ∧ (Below w.heap.size w wr ∧ wr.heap[w.heap.size + 1]? = some (.cells #[.slice none 0 0, .slice none 0 0] 26 (0, 0))) ∧ w1.heap.size + 1 ≤ wr.heap.size) (fun _ i _ => ps.length - (intOf i).toNat)
    case atStart => exact ⟨0, by omega, rfl, START.out, ⟨BS.out, VR.out⟩, by simp⟩
    case round =>
      obtain ⟨m, hm, rfl, hrow, ⟨hb, hv⟩, hz⟩ := hrel
      by_cases hlt : m < ps.length
      · obtain ⟨b, o, rfl, hbl, hcell⟩ := HP.out (by omega)
        obtain ⟨e0, e1⟩ := hcell m hlt
        have d0 := (hb.cell (p := ⟨b, o + m * 2, none⟩) hbl).trans e0
        have d1 := (hb.cell (p := ⟨b, o + m * 2 + 1, none⟩) hbl).trans e1
        obtain ⟨q0, q1⟩ := OK.out m hlt
        have hl32 := L32.out
        obtain ⟨_, _, _, _, hfrw, hclw⟩ := (hrow.alloc hz (.cells #[.int .i64 ps[m].at_, .int .i64 ps[m].val] 59)).at
        have hj : ps[m].at_.toNat < (layE ws (ps.take m)).length := by rw [layE_len]; omega
        have g0 := hfrw ps[m].at_.toNat
        have g1 := (hclw ps[m].at_.toNat (by omega)).trans (ints_at _ _ hj)
        have F : Hid (Row ((wr.alloc (.cells #[.int .i64 ps[m].at_, .int .i64 ps[m].val] 59)).setCell ⟨w1.heap.size, ps[m].at_.toNat, none⟩ (.int .i64 ps[m].val)) 61 1 w1.heap.size (w1.heap.size + 1) (.slice (some ⟨w1.heap.size, 0, none⟩) 32 32) 32 (ints (layE ws (ps.take (m + 1))))) := by
          rw [take_snoc ps m hlt, layE_snoc, ← ints_set]
          exact (hrow.alloc hz _).stored _ _
        have G := hideIt ((hb.alloc (by omega) (.cells #[.int .i64 ps[m].at_, .int .i64 ps[m].val] 59)).setCell (p := ⟨w1.heap.size, ps[m].at_.toNat, none⟩) (by simp only; omega) (.int .i64 ps[m].val))
        have V : Hid (((wr.alloc (.cells #[.int .i64 ps[m].at_, .int .i64 ps[m].val] 59)).setCell ⟨w1.heap.size, ps[m].at_.toNat, none⟩ (.int .i64 ps[m].val)).heap[w.heap.size + 1]? = some (.cells #[.slice none 0 0, .slice none 0 0] 26 (0, 0))) := by
          rw [Below.heap_setCell _ _ _ _ (by simp only; omega)]
          exact at_old hv
        clear hrow hcell e0 e1 hfrw hclw hl32
        go_wp2
        go_roundw
        case rel => exact ⟨m + 1, by omega, by go_num, F.out, ⟨G.out, V.out⟩, by simp; omega⟩
        case measure => simp [intOf]; omega
      · have e : m = ps.length := by omega
        subst e
        have R := hideIt hrow
        obtain ⟨t1, t2, t3, t4⟩ := two_cells hv
        clear hrow hv
        go_wp2
        refine bodyPost_ret (v := .tuple #[.agg #[.slice (some ⟨w1.heap.size, 0, none⟩) 32 32, .slice none 0 0], .int .i64 0]) (by simp [results, Tryd.results10, go_sem, t1, t2]) rfl ?_
        refine ⟨_, rfl, ⟨_, _, rfl, ⟨61, by decide, ?_⟩, Row.nil _ _ _ _ _⟩, (hb.setCell (by simp only; omega) _).setCell (by simp only; omega) _⟩
        have := R.out
        rw [List.take_length] at this
        rw [layE_len, L32.out]
        refine (this.same fun b h1 h2 => ?_).wide (by omega) (by simp; omega)
        rw [Below.heap_setCell _ _ _ _ (by simp only; omega), Below.heap_setCell _ _ _ _ (by simp only; omega)]
  · have hc' : blkB ws ps = false := by simpa using hc
    clear hc
    obtain ⟨e1, e2⟩ := bar_not hc'
    rw [e1, e2]
    have C := hideIt hc'
    clear e1 e2 hc'
    go_enter Tryd.func10, Tryd.ntmps10
    go_wp2_with fail
    refine (implBlkOK_any _ ws ps _ (HR.out.below hb0) hw hp).mono ?_
    rw [C.out]
    rintro e w1 ⟨rfl, hb1⟩
    have V1 := (hb1.block (w.heap.size + 1) (by simp)).trans (at_new (by simp))
    obtain ⟨t1, t2, t3, t4⟩ := two_cells V1
    have B1 := hideIt (below_trans hb0 hb1 (by simp <;> omega))
    clear hb0 hb1 V1
    go_wp2
    refine bodyPost_ret (v := .tuple #[.agg #[.slice none 0 0, .slice none 0 0], .int .i64 1]) (by simp [results, Tryd.results10, go_sem, t1, t2]) rfl ?_
    exact ⟨_, rfl, RowBlk.zero _ _ _, (B1.out.setCell (by simp only; omega) _).setCell (by simp only; omega) _⟩
end Go.Proofs.YtbjcoeimcdodjaaDoor
