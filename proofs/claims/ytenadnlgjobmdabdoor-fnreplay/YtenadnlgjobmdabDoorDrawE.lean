/- A block device, drawn. -/
import Derived.Test.YtenadnlgjobmdabDoorDrawK
import Derived.Test.YtenadnlgjobmdabDoorBlkWrite
import Derived.Test.YtenadnlgjobmdabDoorBlkBar
import Derived.Test.YtenadnlgjobmdabDoorBlkOwn
import Derived.Deep.RegionWith
import Derived.Deep.DeepCutAuto
namespace Go.Proofs.YtenadnlgjobmdabDoor
open Go.RowKit

/-- A block device that the document allows, with at most n writes. -/
structure BlkP (ws : List Int) (ps : List Se) (n : Nat) : Prop where
  len : ws.length = 32
  few : ps.length ≤ n
  word : ∀ z ∈ ws, 0 ≤ z ∧ z < 1099511627776
  store : ∀ p ∈ ps, (0 ≤ p.at_ ∧ p.at_ < 32) ∧ 0 ≤ p.val ∧ p.val < 1099511627776
theorem BlkP.ok {ws : List Int} {ps : List Se} {n : Nat} (h : BlkP ws ps n) (hn : n ≤ 400) : blkB ws ps = true :=
  blkB_mk h.len (Nat.le_trans h.few hn) (fun _ hk => decide_eq_true (h.word _ (List.getElem_mem hk))) (fun _ hk => ⟨decide_eq_true (h.store _ (List.getElem_mem hk)).1, decide_eq_true (h.store _ (List.getElem_mem hk)).2⟩)
theorem BlkP.at {ws : List Int} {ps : List Se} {n : Nat} (h : BlkP ws ps n) : ∀ j (hj : j < ps.length), 0 ≤ ps[j].at_ ∧ ps[j].at_ < ws.length := fun _ hj => by have := (h.store _ (List.getElem_mem hj)).1; have := h.len; omega
theorem BlkP.more {ws : List Int} {ps : List Se} {n m : Nat} (h : BlkP ws ps n) (hm : n ≤ m) : BlkP ws ps m := ⟨h.len, Nat.le_trans h.few hm, h.word, h.store⟩
theorem BlkP.add {ws : List Int} {ps : List Se} {n : Nat} (h : BlkP ws ps n) {a x : Int} (h1 : 0 ≤ a ∧ a < 32) (h2 : 0 ≤ x ∧ x < 1099511627776) : BlkP ws (ps ++ [⟨a, x⟩]) (n + 1) :=
  ⟨h.len, by have := h.few; simp; omega, h.word, fun p hp => by
    rcases List.mem_append.1 hp with e | e
    · exact h.store p e
    · simp at e; subst e; exact ⟨h1, h2⟩⟩
theorem layE_mem : ∀ (ps : List Se) (ws : List Int) (z : Int), z ∈ layE ws ps → z ∈ ws ∨ ∃ p ∈ ps, z = p.val
  | [], _, _, h => .inl h
  | p :: ps, ws, z, h => by
    rcases layE_mem ps (ws.set p.at_.toNat p.val) z h with e | ⟨q, hq, e⟩
    · rcases List.mem_or_eq_of_mem_set e with e | e
      · exact .inl e
      · exact .inr ⟨p, by simp, e⟩
    · exact .inr ⟨q, by simp [hq], e⟩
theorem BlkP.bar {ws : List Int} {ps : List Se} {n : Nat} (h : BlkP ws ps n) : BlkP (layE ws ps) [] 0 :=
  ⟨(layE_len ws ps).trans h.len, Nat.le_refl _, fun z hz => by
    rcases layE_mem ps ws z hz with e | ⟨p, hp, rfl⟩
    · exact h.word z e
    · exact (h.store p hp).2, fun p hp => by cases hp⟩
theorem BlkP.zero : BlkP (List.replicate 32 0) [] 0 :=
  ⟨List.length_replicate .., Nat.le_refl _, fun z hz => by obtain ⟨_, rfl⟩ := List.mem_replicate.1 hz; omega, fun p hp => by simp at hp⟩

/-- The blocks that a device lies in. -/
def Own (v : Value) (lo x : Nat) : Prop := ∀ k, v.ownBlock = some k → lo ≤ k ∧ k ≠ x
theorem RdBlk.away {w w' : World} {vW vP : Value} {ws : List Int} {ps : List Se} (h : RdBlk w (.agg #[vW, vP]) ws ps) (hz : w.heap.size ≤ w'.heap.size) (hw : ∀ k, k < w.heap.size → vW.ownBlock = some k → w'.heap[k]? = w.heap[k]?) (hp : ∀ k, k < w.heap.size → vP.ownBlock = some k → w'.heap[k]? = w.heap[k]?) : RdBlk w' (.agg #[vW, vP]) ws ps := by
  obtain ⟨_, _, e, h1, h2⟩ := h
  cases e
  exact ⟨_, _, rfl, Rd.same h1 hz hw, Rd.same h2 hz hp⟩
theorem RdBlk.rdI {w : World} {vW vP : Value} {ws : List Int} {ps : List Se} (h : RdBlk w (.agg #[vW, vP]) ws ps) : RdI w vW ws := by
  obtain ⟨_, _, e, h1, _⟩ := h
  cases e
  exact h1
theorem RdBlk.rdE {w : World} {vW vP : Value} {ws : List Int} {ps : List Se} (h : RdBlk w (.agg #[vW, vP]) ws ps) : RdE w vP ps := by
  obtain ⟨_, _, e, _, h2⟩ := h
  cases e
  exact h2
theorem RowBlk.own {w : World} {lo hi : Nat} {vW vP : Value} {ws : List Int} {ps : List Se} (h : RowBlk w lo hi (.agg #[vW, vP]) ws ps) (x : Nat) (hx : x < lo) : Own vW lo x ∧ Own vP lo x := by
  obtain ⟨_, _, e, ⟨_, _, h1⟩, h2⟩ := h
  cases e
  exact ⟨fun k hk => by have := (h1.1.lt k hk).1; omega, fun k hk => by have := (h2.1.lt k hk).1; omega⟩

def nought32 : Array Value := (List.replicate 32 (Value.int .i64 0)).toArray
theorem made32 : madeCells #[Value.int .i64 0] (32 * 1) = nought32 := by kernel_rfl
theorem nought32_at (k : Nat) (hk : k < 32) : nought32[k]? = some (.int .i64 0) := by unfold nought32; rw [List.getElem?_toArray, List.getElem?_replicate, if_pos hk]
theorem run_make32 (w : World) : (Instr.makeSlice 28 (.int .i64 32) (.int .i64 32)).run Tryd.prog w = .ok (.slice (some ⟨w.heap.size, 0, none⟩) 32 32) (w.alloc (.cells nought32 3)) := by
  rw [← made32]
  exact run_make_rows (P := Tryd.prog) 28 3 (.int .i64 0) 1 8 Tryd.underlying28 info3 .i64 .i64 32 (by decide) (by decide) w
theorem len32 : (List.replicate 32 (0 : Int)).length = 32 := List.length_replicate ..
theorem rd_nought32 {w : World} {b : Nat} (h : w.heap[b]? = some (.cells nought32 3 (0, 0))) : RdI w (.slice (some ⟨b, 0, none⟩) 32 32) (List.replicate 32 0) := by
  refine ⟨by rw [ints_len, Nat.mul_one], some ⟨b, 0, none⟩, 32, by rw [len32], ⟨Nat.le_of_eq len32, fun e => by cases e⟩, fun _ => ⟨b, 0, rfl, (Array.getElem?_eq_some_iff.1 h).1, fun j hj => ?_⟩⟩
  rw [len32, Nat.mul_one] at hj
  rw [ints_at _ j (by rw [len32]; exact hj), List.getElem_replicate]
  have e := nought32_at j hj
  generalize nought32 = A at h e
  simp [World.cell?, h, e]
theorem rd_noneE (w : World) (b : Nat) : RdE w (.slice (some ⟨b, 0, none⟩) 0 0) [] :=
  ⟨rfl, some ⟨b, 0, none⟩, 0, rfl, ⟨Nat.le_refl _, fun e => by cases e⟩, fun h => absurd h (by simp)⟩

/-- In the midst of drawing a device. -/
structure BlkInv (w0 w wr : World) (b : Nat) (vC : Value) (bs : List Int) (q : Nat) (ws : List Int) (ps : List Se) (n : Nat) (vW vP : Value) : Prop where
  pm : BlkP ws ps n
  rd : RdBlk wr (.agg #[vW, vP]) ws ps
  box : wr.heap[w.heap.size + 1 + 1 + 1]? = some (.cells #[vW, vP] 34 (0, 0))
  res : wr.heap[w.heap.size]? = some (.cells #[.slice none 0 0, .slice none 0 0] 34 (0, 0))
  src : Src w0 wr b vC bs q
  out : Outside b (b + 1) w wr
  size : w.heap.size + 4 ≤ wr.heap.size
  old : b < w.heap.size
  ow : Own vW (w.heap.size + 1) (w.heap.size + 1 + 1 + 1)
  op_ : Own vP (w.heap.size + 1) (w.heap.size + 1 + 1 + 1)
theorem BlkInv.next {w0 w wr w' : World} {b : Nat} {vC : Value} {bs : List Int} {q q' : Nat} {ws : List Int} {ps : List Se} {n : Nat} {vW vP : Value} (h : BlkInv w0 w wr b vC bs q ws ps n vW vP) (hs : Src w0 w' b vC bs q') (ho : Outside b (b + 1) wr w') : BlkInv w0 w w' b vC bs q' ws ps n vW vP := by
  have hz := h.size
  have ho' := h.old
  exact ⟨h.pm, h.rd.away ho.size (fun k hk e => ho.block k hk (.inr (by have := h.ow k e; omega))) (fun k hk e => ho.block k hk (.inr (by have := h.op_ k e; omega))), (ho.block _ (by omega) (.inr (by omega))).trans h.box, (ho.block _ (by omega) (.inr (by omega))).trans h.res, hs, h.out.trans ho, Nat.le_trans hz ho.size, ho', h.ow, h.op_⟩
theorem BlkInv.drew {w0 w wr : World} {b : Nat} {vC : Value} {bs : List Int} {q : Nat} {ws : List Int} {ps : List Se} {n : Nat} {vW vP : Value} (h : BlkInv w0 w wr b vC bs q ws ps n vW vP) : BlkInv w0 w wr.drew b vC bs q ws ps n vW vP :=
  h.next (h.src.outside (lo := b + 1) (hi := b + 1) ((Outside.refl _ _ wr).drewN 1) (.inl (by omega)) (by have := h.src.old; omega)) ((Outside.refl _ _ wr).drewN 1)
theorem BlkInv.op {w0 w wr w' : World} {b : Nat} {vC : Value} {bs : List Int} {q : Nat} {ws ws' : List Int} {ps ps' : List Se} {n n' : Nat} {vW vP vW' vP' : Value} (h : BlkInv w0 w wr b vC bs q ws ps n vW vP) (hb : Below wr.heap.size wr w') (hr : RdBlk w' (.agg #[vW', vP']) ws' ps') (hp : BlkP ws' ps' n') (hw : Own vW' (w.heap.size + 1) (w.heap.size + 1 + 1 + 1)) (hq : Own vP' (w.heap.size + 1) (w.heap.size + 1 + 1 + 1)) :
    BlkInv w0 w ((w'.setCell ⟨w.heap.size + 1 + 1 + 1, 0, none⟩ vW').setCell ⟨w.heap.size + 1 + 1 + 1, 1, none⟩ vP') b vC bs q ws' ps' n' vW' vP' := by
  have hz := h.size
  have ho := h.old
  have hs := hb.size
  have hB := (hb.block _ (by omega)).trans h.box
  have O : Outside (w.heap.size + 1 + 1 + 1) (w.heap.size + 1 + 1 + 1 + 1) wr ((w'.setCell ⟨w.heap.size + 1 + 1 + 1, 0, none⟩ vW').setCell ⟨w.heap.size + 1 + 1 + 1, 1, none⟩ vP') :=
    ((Outside.of_below hb).setCell (a := ⟨w.heap.size + 1 + 1 + 1, 0, none⟩) (Nat.le_refl _) (by simp) vW').setCell (a := ⟨w.heap.size + 1 + 1 + 1, 1, none⟩) (Nat.le_refl _) (by simp) vP'
  have same : ∀ k, k ≠ w.heap.size + 1 + 1 + 1 → ((w'.setCell ⟨w.heap.size + 1 + 1 + 1, 0, none⟩ vW').setCell ⟨w.heap.size + 1 + 1 + 1, 1, none⟩ vP').heap[k]? = w'.heap[k]? := fun k hk => by
    rw [Below.heap_setCell _ _ _ _ (by simp only; omega), Below.heap_setCell _ _ _ _ (by simp only; omega)]
  refine ⟨hp, hr.away (by simp [World.setCell]) (fun k _ e => same k (hw k e).2) (fun k _ e => same k (hq k e).2), ?_, ?_, ?_, ?_, ?_, ho, hw, hq⟩
  · simp [World.setCell, Array.getElem?_modify, hB]
  · exact (O.block _ (by omega) (.inl (by omega))).trans h.res
  · exact h.src.outside O (.inl (by omega)) (by have := h.src.old; omega)
  · exact ⟨O.os.trans h.out.os, O.tape.trans h.out.tape, O.output.trans h.out.output, Nat.le_trans h.out.size O.size, fun j hj hjo => (O.block j (by omega) (.inl (by omega))).trans (h.out.block j hj hjo)⟩
  · have := O.size; omega
theorem BlkInv.some {w0 w wr : World} {b : Nat} {vC : Value} {bs : List Int} {q q' : Nat} {ws : List Int} {ps : List Se} {n : Nat} {vW vP : Value} (h : BlkInv w0 w wr b vC bs q ws ps n vW vP) (hq : q ≤ q') : BlkInv w0 w wr b vC bs q' ws ps n vW vP :=
  ⟨h.pm, h.rd, h.box, h.res, h.src.more hq, h.out, h.size, h.old, h.ow, h.op_⟩
theorem Own.far {v : Value} {lo lo' x y : Nat} (h : Own v lo y) (hl : lo' ≤ lo) (hx : x < lo) : Own v lo' x := fun k hk => by have := h k hk; omega

end Go.Proofs.YtenadnlgjobmdabDoor
