/- A block device, drawn. -/
import Derived.Test.YtbjcoeimcdodjaaDoorDrawK
import Derived.Test.YtbjcoeimcdodjaaDoorBlkWrite
import Derived.Test.YtbjcoeimcdodjaaDoorBlkBar
import Derived.Test.YtbjcoeimcdodjaaDoorBlkOwn
import Derived.Deep.RegionWith
import Derived.Deep.DeepCutAuto
namespace Go.Proofs.YtbjcoeimcdodjaaDoor
open Go.RowKit
structure BlkP (ws : List Int) (ps : List Se) (n : Nat) : Prop where
  len : ws.length = 32
  few : ps.length ≤ n
  word : ∀ z ∈ ws, 0 ≤ z ∧ z < 1099511627776
  store : ∀ p ∈ ps, (0 ≤ p.at_ ∧ p.at_ < 32) ∧ 0 ≤ p.val ∧ p.val < 1099511627776
theorem BlkP.ok {ws : List Int} {ps : List Se} {n : Nat} (h : BlkP ws ps n) (hn : n ≤ 400) : blkB ws ps = true :=
  blkB_mk h.len (Nat.le_trans h.few hn) (fun _ hk => decide_eq_true (h.word _ (List.getElem_mem hk))) (fun _ hk => ⟨decide_eq_true (h.store _ (List.getElem_mem hk)).1, decide_eq_true (h.store _ (List.getElem_mem hk)).2⟩)
theorem BlkP.at {ws : List Int} {ps : List Se} {n : Nat} (h : BlkP ws ps n) : ∀ j (hj : j < ps.length), 0 ≤ ps[j].at_ ∧ ps[j].at_ < ws.length := fun _ hj => by have := (h.store _ (List.getElem_mem hj)).1; have := h.len; omega
theorem BlkP.more {ws : List Int} {ps : List Se} {n m : Nat} (h : BlkP ws ps n) (hm : n ≤ m) : BlkP ws ps m := ⟨h.len, Nat.le_trans h.few hm, h.word, h.store⟩
theorem BlkP.add {ws : List Int} {ps : List Se} {n : Nat} (h : BlkP ws ps n) {a x : Int} (h1 : 0 ≤ a ∧ a < 32) (h2 : 0 ≤ x ∧ x < 1099511627776) : BlkP ws (ps ++ [⟨a, x⟩]) (n + 1) :=
  ⟨h.len, by have := h.few; simp; omega, h.word, fun p hp => by
    rcases List.mem_append.1 hp with e | e
    · exact h.store p e
    · simp at e; subst e; exact ⟨h1, h2⟩⟩
theorem layE_mem : ∀ (ps : List Se) (ws : List Int) (z : Int), z ∈ layE ws ps → z ∈ ws ∨ ∃ p ∈ ps, z = p.val
  | [], _, _, h => .inl h
  | p :: ps, ws, z, h => by
    rcases layE_mem ps (ws.set p.at_.toNat p.val) z h with e | ⟨q, hq, e⟩
    · rcases List.mem_or_eq_of_mem_set e with e | e
      · exact .inl e
      · exact .inr ⟨p, by simp, e⟩
    · exact .inr ⟨q, by simp [hq], e⟩
theorem BlkP.bar {ws : List Int} {ps : List Se} {n : Nat} (h : BlkP ws ps n) : BlkP (layE ws ps) [] 0 :=
  ⟨(layE_len ws ps).trans h.len, Nat.le_refl _, fun z hz => by
    rcases layE_mem ps ws z hz with e | ⟨p, hp, rfl⟩
    · exact h.word z e
    · exact (h.store p hp).2, fun p hp => by cases hp⟩
theorem BlkP.zero : BlkP (List.replicate 32 0) [] 0 :=
  ⟨List.length_replicate .., Nat.le_refl _, fun z hz => by obtain ⟨_, rfl⟩ := List.mem_replicate.1 hz; omega, fun p hp => by simp at hp⟩
def Own (v : Value) (lo x : Nat) : Prop := ∀ k, v.ownBlock = some k → lo ≤ k ∧ k ≠ x
theorem RdBlk.away {w w' : World} {vW vP : Value} {ws : List Int} {ps : List Se} (h : RdBlk w (.agg #[vW, vP]) ws ps) (hz : w.heap.size ≤ w'.heap.size) (hw : ∀ k, k < w.heap.size → vW.ownBlock = some k → w'.heap[k]? = w.heap[k]?) (hp : ∀ k, k < w.heap.size → vP.ownBlock = some k → w'.heap[k]? = w.heap[k]?) : RdBlk w' (.agg #[vW, vP]) ws ps := by
  obtain ⟨_, _, e, h1, h2⟩ := h
  cases e
  exact ⟨_, _, rfl, Rd.same h1 hz hw, Rd.same h2 hz hp⟩
theorem RdBlk.rdI {w : World} {vW vP : Value} {ws : List Int} {ps : List Se} (h : RdBlk w (.agg #[vW, vP]) ws ps) : RdI w vW ws := by
  obtain ⟨_, _, e, h1, _⟩ := h
  cases e
  exact h1
theorem RdBlk.rdE {w : World} {vW vP : Value} {ws : List Int} {ps : List Se} (h : RdBlk w (.agg #[vW, vP]) ws ps) : RdE w vP ps := by
  obtain ⟨_, _, e, _, h2⟩ := h
  cases e
  exact h2
theorem RowBlk.own {w : World} {lo hi : Nat} {vW vP : Value} {ws : List Int} {ps : List Se} (h : RowBlk w lo hi (.agg #[vW, vP]) ws ps) (x : Nat) (hx : x < lo) : Own vW lo x ∧ Own vP lo x := by
  obtain ⟨_, _, e, ⟨_, _, h1⟩, h2⟩ := h
  cases e
  exact ⟨fun k hk => by have := (h1.1.lt k hk).1; omega, fun k hk => by have := (h2.1.lt k hk).1; omega⟩
def nought32 : Array Value := (List.replicate 32 (Value.int .i64 0)).toArray
theorem made32 : madeCells #[Value.int .i64 0] (32 * 1) = nought32 := by kernel_rfl
theorem nought32_at (k : Nat) (hk : k < 32) : nought32[k]? = some (.int .i64 0) := by unfold nought32; rw [List.getElem?_toArray, List.getElem?_replicate, if_pos hk]
theorem run_make32 (w : World) : (Instr.makeSlice 23 (.int .i64 32) (.int .i64 32)).run Tryd.prog w = .ok (.slice (some ⟨w.heap.size, 0, none⟩) 32 32) (w.alloc (.cells nought32 3)) := by
  rw [← made32]
  exact run_make_rows (P := Tryd.prog) 23 3 (.int .i64 0) 1 8 Tryd.underlying23 info3 .i64 .i64 32 (by decide) (by decide) w
theorem len32 : (List.replicate 32 (0 : Int)).length = 32 := List.length_replicate ..
theorem rd_nought32 {w : World} {b : Nat} (h : w.heap[b]? = some (.cells nought32 3 (0, 0))) : RdI w (.slice (some ⟨b, 0, none⟩) 32 32) (List.replicate 32 0) := by
  refine ⟨by rw [ints_len, Nat.mul_one], some ⟨b, 0, none⟩, 32, by rw [len32], ⟨Nat.le_of_eq len32, fun e => by cases e⟩, fun _ => ⟨b, 0, rfl, (Array.getElem?_eq_some_iff.1 h).1, fun j hj => ?_⟩⟩
  rw [len32, Nat.mul_one] at hj
  rw [ints_at _ j (by rw [len32]; exact hj), List.getElem_replicate]
  have e := nought32_at j hj
  generalize nought32 = A at h e
  simp [World.cell?, h, e]
theorem rd_noneE (w : World) (b : Nat) : RdE w (.slice (some ⟨b, 0, none⟩) 0 0) [] :=
  ⟨rfl, some ⟨b, 0, none⟩, 0, rfl, ⟨Nat.le_refl _, fun e => by cases e⟩, fun h => absurd h (by simp)⟩
set_option maxRecDepth 100000 in
theorem srcChance_any (w0 w : World) (b k : Nat) (vC : Value) (bs : List Int) (h : Src w0 w b vC bs k) (hk : k ≤ 900000) :
    Calls Tryd.prog 51 #[.pointer (some ⟨b, 0, none⟩), .int .i64 6] w fun e w' => ∃ r : Bool, e = .returned (.bool r) ∧ Src w0 w' b vC bs (k + 3) ∧ Outside b (b + 1) w w' ∧ w'.heap.size = w.heap.size := by
  have HS := hideIt h
  clear h
  go_enter Tryd.func51, Tryd.ntmps51
  go_wp2_with fail
  refine (srcNext_any 6 (by omega) w0 w b k vC bs HS.out hk).mono ?_
  rintro e w1 ⟨r, rfl, r0, r1, hs, ho, hz⟩
  have S1 := hideIt hs
  have O1 := hideIt ho
  clear hs ho
  go_wp2
  go_ret
  exact ⟨_, rfl, S1.out, O1.out, hz⟩
structure BlkInv (w0 w wr : World) (b : Nat) (vC : Value) (bs : List Int) (q : Nat) (ws : List Int) (ps : List Se) (n : Nat) (vW vP : Value) : Prop where
  pm : BlkP ws ps n
  rd : RdBlk wr (.agg #[vW, vP]) ws ps
  box : wr.heap[w.heap.size + 1 + 1 + 1]? = some (.cells #[vW, vP] 26 (0, 0))
  res : wr.heap[w.heap.size]? = some (.cells #[.slice none 0 0, .slice none 0 0] 26 (0, 0))
  src : Src w0 wr b vC bs q
  out : Outside b (b + 1) w wr
  size : w.heap.size + 4 ≤ wr.heap.size
  old : b < w.heap.size
  ow : Own vW (w.heap.size + 1) (w.heap.size + 1 + 1 + 1)
  op_ : Own vP (w.heap.size + 1) (w.heap.size + 1 + 1 + 1)
theorem BlkInv.next {w0 w wr w' : World} {b : Nat} {vC : Value} {bs : List Int} {q q' : Nat} {ws : List Int} {ps : List Se} {n : Nat} {vW vP : Value} (h : BlkInv w0 w wr b vC bs q ws ps n vW vP) (hs : Src w0 w' b vC bs q') (ho : Outside b (b + 1) wr w') : BlkInv w0 w w' b vC bs q' ws ps n vW vP := by
  have hz := h.size
  have ho' := h.old
  exact ⟨h.pm, h.rd.away ho.size (fun k hk e => ho.block k hk (.inr (by have := h.ow k e; omega))) (fun k hk e => ho.block k hk (.inr (by have := h.op_ k e; omega))), (ho.block _ (by omega) (.inr (by omega))).trans h.box, (ho.block _ (by omega) (.inr (by omega))).trans h.res, hs, h.out.trans ho, Nat.le_trans hz ho.size, ho', h.ow, h.op_⟩
theorem BlkInv.drew {w0 w wr : World} {b : Nat} {vC : Value} {bs : List Int} {q : Nat} {ws : List Int} {ps : List Se} {n : Nat} {vW vP : Value} (h : BlkInv w0 w wr b vC bs q ws ps n vW vP) : BlkInv w0 w wr.drew b vC bs q ws ps n vW vP :=
  h.next (h.src.outside (lo := b + 1) (hi := b + 1) ((Outside.refl _ _ wr).drewN 1) (.inl (by omega)) (by have := h.src.old; omega)) ((Outside.refl _ _ wr).drewN 1)
theorem BlkInv.op {w0 w wr w' : World} {b : Nat} {vC : Value} {bs : List Int} {q : Nat} {ws ws' : List Int} {ps ps' : List Se} {n n' : Nat} {vW vP vW' vP' : Value} (h : BlkInv w0 w wr b vC bs q ws ps n vW vP) (hb : Below wr.heap.size wr w') (hr : RdBlk w' (.agg #[vW', vP']) ws' ps') (hp : BlkP ws' ps' n') (hw : Own vW' (w.heap.size + 1) (w.heap.size + 1 + 1 + 1)) (hq : Own vP' (w.heap.size + 1) (w.heap.size + 1 + 1 + 1)) :
    BlkInv w0 w ((w'.setCell ⟨w.heap.size + 1 + 1 + 1, 0, none⟩ vW').setCell ⟨w.heap.size + 1 + 1 + 1, 1, none⟩ vP') b vC bs q ws' ps' n' vW' vP' := by
  have hz := h.size
  have ho := h.old
  have hs := hb.size
  have hB := (hb.block _ (by omega)).trans h.box
  have O : Outside (w.heap.size + 1 + 1 + 1) (w.heap.size + 1 + 1 + 1 + 1) wr ((w'.setCell ⟨w.heap.size + 1 + 1 + 1, 0, none⟩ vW').setCell ⟨w.heap.size + 1 + 1 + 1, 1, none⟩ vP') :=
    ((Outside.of_below hb).setCell (a := ⟨w.heap.size + 1 + 1 + 1, 0, none⟩) (Nat.le_refl _) (by simp) vW').setCell (a := ⟨w.heap.size + 1 + 1 + 1, 1, none⟩) (Nat.le_refl _) (by simp) vP'
  have same : ∀ k, k ≠ w.heap.size + 1 + 1 + 1 → ((w'.setCell ⟨w.heap.size + 1 + 1 + 1, 0, none⟩ vW').setCell ⟨w.heap.size + 1 + 1 + 1, 1, none⟩ vP').heap[k]? = w'.heap[k]? := fun k hk => by
    rw [Below.heap_setCell _ _ _ _ (by simp only; omega), Below.heap_setCell _ _ _ _ (by simp only; omega)]
  refine ⟨hp, hr.away (by simp [World.setCell]) (fun k _ e => same k (hw k e).2) (fun k _ e => same k (hq k e).2), ?_, ?_, ?_, ?_, ?_, ho, hw, hq⟩
  · simp [World.setCell, Array.getElem?_modify, hB]
  · exact (O.block _ (by omega) (.inl (by omega))).trans h.res
  · exact h.src.outside O (.inl (by omega)) (by have := h.src.old; omega)
  · exact ⟨O.os.trans h.out.os, O.tape.trans h.out.tape, O.output.trans h.out.output, Nat.le_trans h.out.size O.size, fun j hj hjo => (O.block j (by omega) (.inl (by omega))).trans (h.out.block j hj hjo)⟩
  · have := O.size; omega
theorem BlkInv.some {w0 w wr : World} {b : Nat} {vC : Value} {bs : List Int} {q q' : Nat} {ws : List Int} {ps : List Se} {n : Nat} {vW vP : Value} (h : BlkInv w0 w wr b vC bs q ws ps n vW vP) (hq : q ≤ q') : BlkInv w0 w wr b vC bs q' ws ps n vW vP :=
  ⟨h.pm, h.rd, h.box, h.res, h.src.more hq, h.out, h.size, h.old, h.ow, h.op_⟩
theorem Own.far {v : Value} {lo lo' x y : Nat} (h : Own v lo y) (hl : lo' ≤ lo) (hx : x < lo) : Own v lo' x := fun k hk => by have := h k hk; omega
set_option maxRecDepth 100000 in
set_option maxHeartbeats 8000000 in
theorem srcBlk_any (w0 w : World) (b k : Nat) (vC : Value) (bs : List Int) (h : Src w0 w b vC bs k) (hk : k ≤ 1000) :
    Calls Tryd.prog 28 #[.pointer (some ⟨b, 0, none⟩)] w fun e w' => ∃ v' ws ps, e = .returned v' ∧ BlkP ws ps 19 ∧ RowBlk w' w.heap.size w'.heap.size v' ws ps ∧ Outside b (b + 1) w w' := by
  have hsz := h.size
  have hb0 : Below w.heap.size w ((((w.alloc (.cells #[.slice none 0 0, .slice none 0 0] 26)).alloc (.cells nought32 3)).alloc (.cells #[] 59)).alloc (.cells #[.slice (some ⟨w.heap.size + 1, 0, none⟩) 32 32, .slice (some ⟨w.heap.size + 1 + 1, 0, none⟩) 0 0] 26)) := by
    repeat (refine Below.alloc ?_ (by simp <;> omega) _)
    exact Below.refl _ _
  have INV0 : Hid (BlkInv w0 w ((((w.alloc (.cells #[.slice none 0 0, .slice none 0 0] 26)).alloc (.cells nought32 3)).alloc (.cells #[] 59)).alloc (.cells #[.slice (some ⟨w.heap.size + 1, 0, none⟩) 32 32, .slice (some ⟨w.heap.size + 1 + 1, 0, none⟩) 0 0] 26)) b vC bs k (List.replicate 32 0) [] 0 (.slice (some ⟨w.heap.size + 1, 0, none⟩) 32 32) (.slice (some ⟨w.heap.size + 1 + 1, 0, none⟩) 0 0)) :=
    ⟨BlkP.zero, ⟨_, _, rfl, rd_nought32 (at_old (at_old (at_new (by simp)))), rd_noneE _ _⟩, at_new (by simp), at_old (at_old (at_old (at_new rfl))), h.newer hb0, Outside.of_below hb0, by simp, hsz, fun k hk => by simp [Value.ownBlock] at hk; omega, fun k hk => by simp [Value.ownBlock] at hk; omega⟩
  clear h hb0
  have hmk := run_make32
  go_enter Tryd.func28, Tryd.ntmps28
  go_wp2_with fail
  clear hmk
  refine (srcNext_any 20 (by omega) w0 _ b k vC bs INV0.out.src (by omega)).mono ?_
  rintro e w1 ⟨r, rfl, r0, r1, hs, ho, hz⟩
  have INV1 := hideIt (INV0.out.next hs ho)
  obtain ⟨n0, rfl⟩ : ∃ n : Nat, r = n := ⟨r.toNat, by omega⟩
  clear hs ho hz
  go_wp2
  go_loopw [4] (fun i wr => ∃ (m n : Nat) (ws : List Int) (ps : List Se) (vW vP : Value), i = .int .i64 m ∧ m + n = n0 ∧ Hid (BlkInv w0 w wr b vC bs (k + 3 + 30 * n) ws ps n vW vP)) (fun i _ => (intOf i).toNat)
  case atStart => exact ⟨n0, 0, _, _, _, _, rfl, by omega, INV1⟩
  case round =>
    obtain ⟨m, n, ws, ps, vW, vP, rfl, hmn, I⟩ := hrel
    by_cases c : 0 < m
    · go_wp2_with fail
      refine (srcChance_any w0 _ b _ vC bs I.out.src (by omega)).mono ?_
      rintro e w2 ⟨t, rfl, hs, ho, hz⟩
      have I2 := hideIt (I.out.next hs ho)
      clear hs ho hz
      obtain ⟨y1, y2, y3, y4⟩ := two_cells I2.out.box
      have hl := I2.out.pm.len
      have hf := I2.out.pm.few
      obtain ⟨aW, cW, eW⟩ := RdI.form (n := 32) (RdBlk.rdI I2.out.rd) hl
      obtain ⟨aP, cP, eP⟩ := RdE.form (n := ps.length) (RdBlk.rdE I2.out.rd) rfl
      subst eW eP
      cases t with
      | true =>
        go_wp2_with fail
        refine (l02Barrier_any _ ws ps _ I2.out.rd (by omega) (by omega) I2.out.pm.at).mono ?_
        rintro e w4 ⟨v', rfl, hr, hb⟩
        obtain ⟨vW', vP', rfl, hI, hS⟩ := hr.rd
        have hsz2 := I2.out.size
        have OW := hr.own (w.heap.size + 1 + 1 + 1) (by omega)
        obtain ⟨aW', cW', rfl⟩ := RdI.form hI ((layE_len ws ps).trans hl)
        obtain ⟨aP', cP', rfl⟩ := RdE.form hS (n := 0) rfl
        have I4 := hideIt ((I2.out.op hb hr.rd (I2.out.pm.bar.more (Nat.zero_le (n + 1))) (OW.1.far (by omega) (by omega)) (OW.2.far (by omega) (by omega))).some (q' := k + 3 + 30 * (n + 1)) (by omega))
        obtain ⟨z1, z2, z3, z4⟩ := two_cells ((hb.block _ (by have := I2.out.size; omega)).trans I2.out.box)
        clear hr hb y1 y2 y3 y4 hI hS OW
        go_wp2
        go_roundw
        case rel => exact ⟨m - 1, n + 1, _, _, _, _, by go_num, by omega, I4⟩
        case measure => simp [intOf]; omega
      | false =>
        go_upto_region 7 with fail
        have J := hideIt I2.out.drew
        go_region_with (first
          | (go_at_call 50; refine (srcNext_any 6 (by omega) w0 _ b _ vC bs (by first | exact I2.out.src | exact J.out.src) (by omega)).mono ?_; rintro e w3 ⟨at_, rfl, a0, a1, hs, ho, hz⟩; have I3 : Hid (BlkInv w0 w w3 b vC bs _ ws ps n _ _) := (by first | exact I2.out.next hs ho | exact J.out.next hs ho); obtain ⟨x1, x2, x3, x4⟩ := two_cells I3.out.box; clear hs ho hz)
          | (go_at_call 29; refine (srcWord_any w0 _ b _ vC bs (by first | exact I3.out.src | exact I3.out.drew.src) (by omega)).mono ?_; rintro e w4 ⟨x, rfl, x0, x1', hs, ho⟩; have I4 : Hid (BlkInv w0 w w4 b vC bs _ ws ps n _ _) := (by first | exact I3.out.next hs ho | exact I3.out.drew.next hs ho); obtain ⟨z1, z2, z3, z4⟩ := two_cells I4.out.box; clear hs ho)
          | (go_at_call 53; refine (l02Write_own _ _ ws ps _ x _ (by first | exact I4.out.rd | exact I4.out.drew.rd) (by omega)).mono ?_; rintro e w5 ⟨vP', rfl, hr, hk5, hb⟩; have hr' := hr; obtain ⟨_, _, e0, hI, hS⟩ := hr; cases e0; obtain ⟨aP', cP', rfl⟩ := RdE.form hS (n := ps.length + 1) (by simp); have hz4 := I4.out.size; have I5 := hideIt ((BlkInv.op (by first | exact I4.out | exact I4.out.drew) hb hr' (I4.out.pm.add (a := at_) (x := x) ⟨by omega, by omega⟩ ⟨x0, x1'⟩) I4.out.ow (fun q hq => by have := hk5 q hq; first | omega | (simp only [World.drew] at this; omega))).some (q' := k + 3 + 30 * (n + 1)) (by omega)); obtain ⟨t1, t2, t3, t4⟩ := two_cells ((hb.block _ (by first | omega | (simp only [World.drew]; omega))).trans I4.out.box); clear hr' hb hI hS hk5))
        all_goals
          go_wp2
          go_roundw
          case rel => exact ⟨m - 1, n + 1, _, _, _, _, by go_num, by omega, I5⟩
          case measure => simp [intOf]; omega
    · have e : m = 0 := by omega
      subst e
      obtain ⟨y1, y2, y3, y4⟩ := two_cells I.out.box
      have hl := I.out.pm.len
      have hf := I.out.pm.few
      have hsz2 := I.out.size
      obtain ⟨aW, cW, eW⟩ := RdI.form (n := 32) (RdBlk.rdI I.out.rd) hl
      obtain ⟨aP, cP, eP⟩ := RdE.form (n := ps.length) (RdBlk.rdE I.out.rd) rfl
      subst eW eP
      go_wp2_with fail
      refine (l02Own_any _ ws ps _ I.out.rd (by omega) (by omega)).mono ?_
      rintro e w2 ⟨v', rfl, hr, hb⟩
      have hr' := hr
      obtain ⟨vW', vP', rfl, hI, hS⟩ := hr.rd
      obtain ⟨aW', cW', rfl⟩ := RdI.form hI hl
      obtain ⟨aP', cP', rfl⟩ := RdE.form hS rfl
      obtain ⟨z1, z2, z3, z4⟩ := two_cells ((hb.block _ (by omega)).trans I.out.res)
      have O2 := hideIt (Outside.of_below (lo := w.heap.size) (hi := w.heap.size + 1) hb)
      have HR := hideIt hr'
      have hz2 := hb.size
      clear hr hr' hb hI hS y1 y2 y3 y4
      go_wp2
      refine bodyPost_ret (v := .agg #[.slice aW' 32 cW', .slice aP' ps.length cP']) (by simp [results, Tryd.results28, go_sem, z1, z2]) rfl ?_
      have O3 := (O2.out.setCell (a := ⟨w.heap.size, 0, none⟩) (Nat.le_refl _) (by simp) (.slice aW' 32 cW')).setCell (a := ⟨w.heap.size, 1, none⟩) (Nat.le_refl _) (by simp) (.slice aP' ps.length cP')
      refine ⟨_, ws, ps, rfl, I.out.pm.more (by omega), ?_, ⟨O3.os.trans I.out.out.os, O3.tape.trans I.out.out.tape, O3.output.trans I.out.out.output, Nat.le_trans I.out.out.size O3.size, fun j hj hjo => (O3.block j (by omega) (.inl hj)).trans (I.out.out.block j hj hjo)⟩⟩
      exact ((HR.out.setCell (a := ⟨w.heap.size, 0, none⟩) (by simp only; omega) _).setCell (a := ⟨w.heap.size, 1, none⟩) (by simp only; omega) _).wide (by omega) (by simp [World.setCell])
set_option maxRecDepth 100000 in
set_option maxHeartbeats 2000000 in
theorem blkOf_any (v : Value) (bs : List Int) (w : World) (h : RdB w v bs) (hl : bs.length ≤ 1048576) :
    Calls Tryd.prog 5 #[v] w fun e w' => ∃ v' ws ps, e = .returned v' ∧ BlkP ws ps 19 ∧ RowBlk w' w.heap.size w'.heap.size v' ws ps ∧ Below w.heap.size w w' := by
  have H := hideIt h
  obtain ⟨aC, cC, rfl, _⟩ := h.shape
  have B0 := hideIt ((Below.refl w.heap.size w).alloc (Nat.le_refl _) (.cells #[.slice none 0 0, .slice none 0 0] 26))
  clear h
  go_enter Tryd.func5, Tryd.ntmps5
  go_wp2_with fail
  refine (l00Source_any _ bs _ (H.out.below B0.out) hl).mono ?_
  rintro e w1 ⟨rfl, S, hb⟩
  rw [World.size_alloc] at S
  have S1 := hideIt S
  have B1 := hideIt hb
  clear S hb
  go_wp2_with fail
  refine (srcBlk_any _ w1 _ 0 _ bs S1.out.src (by omega)).mono ?_
  rintro e w2 ⟨v', ws, ps, rfl, hp, hr, ho⟩
  have hl := hp.len
  have hz1 := B1.out.size
  simp only [World.size_alloc] at hz1
  have hr' := hr
  obtain ⟨vW', vP', rfl, hI, hS⟩ := hr.rd
  obtain ⟨aW', cW', rfl⟩ := RdI.form hI hl
  obtain ⟨aP', cP', rfl⟩ := RdE.form hS rfl
  have hz2 := ho.size
  obtain ⟨z1, z2, z3, z4⟩ := two_cells ((ho.block w.heap.size (by omega) (.inl (by simp))).trans ((B1.out.block w.heap.size (by simp)).trans (at_new rfl)))
  have B2 := hideIt ((B0.out.trans (B1.out.mono (by simp))).trans (ho.below (B := w.heap.size) (by simp) (by omega)))
  have HR := hideIt hr'
  clear hr hr' ho hI hS
  go_wp2
  refine bodyPost_ret (v := .agg #[.slice aW' 32 cW', .slice aP' ps.length cP']) (by simp [results, Tryd.results5, go_sem, z1, z2]) rfl ?_
  exact ⟨_, ws, ps, rfl, hp, ((HR.out.setCell (a := ⟨w.heap.size, 0, none⟩) (by simp only; omega) _).setCell (a := ⟨w.heap.size, 1, none⟩) (by simp only; omega) _).wide (by omega) (by simp [World.setCell]), (B2.out.setCell (by simp only; omega) _).setCell (by simp only; omega) _⟩
end Go.Proofs.YtbjcoeimcdodjaaDoor
