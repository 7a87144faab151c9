/- The program's map of one directory: clear, and turnTo. -/
import Derived.Test.YtpgdpachomdfhaaGreatDoorPlA
import Derived.Test.YtpgdpachomdfhaaGreatDoorPiF
import Derived.Maps.OwnSet
import Derived.Deep.LoopGhost
namespace Go.Proofs.YtpgdpachomdfhaaGreatDoor
open Go.RowKit Go.Maps Go.MapKept Go.ChangeMaps Go.WideShapes
open Go.WideElems (Fit rd rg pl rd_val elemAt)

theorem ownsMap_clear {H : Type} {P : Program} {k e t : TypeId} {R : Value → Option (DataW H × List MemPlace)} {w : World} {b n : Nat} {D : DataW H} (h : w.ownsMap P k R b n D) (ht : P.underlying t = some (.map k e)) (ty : TypeId) :
    ∃ w', (Builtin.clear_ #[t] ty #[.map (some b)]).run P w = .ok (.tuple #[]) w' ∧ w'.ownsMap P k R b 0 (.map []) ∧ w.grownBy w' (some b) := by
  obtain ⟨es, clock, hb, F, hs, rfl⟩ := h
  refine ⟨setBlock w b (.map #[] clock), ?_, ⟨#[], clock, heap_setBlock_same hb _, ⟨by simp, stamped_empty clock, by simp⟩, Nat.le_refl _, rfl⟩, ⟨rfl, rfl, rfl, by simp [setBlock], fun i _ hi => heap_setBlock_other hb _ (fun e => hi (by rw [e]))⟩⟩
  simp [Builtin.clear_, run_underlying ht, MapKept.run_getObj_map hb, MapKept.run_setObj_map _ hb, Result.andThen, setBlock]
/-- The map's types. -/
theorem mapU : Tryz.prog.underlying 52 = some (.map 9 3) := by kernel_rfl
theorem strU : Tryz.prog.underlying 9 = some .string := by kernel_rfl
theorem intU : Tryz.prog.underlying 3 = some (.int .i64) := by kernel_rfl
theorem strK : Keyed Tryz.prog 9 := string_keyed strU
theorem intZ (w : World) : (zeroValue 3).run Tryz.prog w = .ok (.int .i64 0) w := by kernel_rfl
/-- A block is the map that reads as D. -/
def Mp (w : World) (b : Nat) (D : DataW Unit) : Prop := w.ownsMap Tryz.prog 9 (plainElem Tryz.prog 3) b 4096 D
theorem Mp.lt {w : World} {b : Nat} {D : DataW Unit} (h : Mp w b D) : b < w.heap.size := World.ownsMap.lt h
theorem Mp.below {w w' : World} {b : Nat} {D : DataW Unit} (h : Mp w b D) (hb : Below w.heap.size w w') : Mp w' b D := by
  have hl := h.lt
  obtain ⟨es, cl, q, r⟩ := h
  exact ⟨es, cl, (hb.block b hl).trans q, r⟩
theorem grownB {w w' : World} (h : Below w.heap.size w w') (row : Option Nat) : w.grownBy w' row := ⟨h.os, h.tape, h.output, h.size, fun i hi _ => h.block i hi⟩
/-- A cell does not lie in the map's block. -/
theorem Mp.ne {w : World} {b : Nat} {D : DataW Unit} (h : Mp w b D) {a : Addr} {v : Value} (hc : w.cell? a = some v) : some a.block ≠ some b := by
  obtain ⟨es, cl, q, _⟩ := h
  intro e
  injection e with e
  subst e
  simp [World.cell?, q] at hc
theorem Mp.neg {w : World} {b : Nat} {D : DataW Unit} (h : Mp w b D) {g : Nat} {cs : Array Value} {t : TypeId} {fr} (hc : w.heap[g]? = some (.cells cs t fr)) : some g ≠ some b := by
  obtain ⟨es, cl, q, _⟩ := h
  intro e
  injection e with e
  subst e
  rw [q] at hc
  cases hc
theorem FD.grown {w w' : World} {b : Nat} {D : DataW Unit} (h : FD w) (m : Mp w b D) (hg : w.grownBy w' (some b)) : FD w' := by
  have hl := h.lt
  obtain ⟨t, fr, h⟩ := h
  exact ⟨t, fr, (hg.block _ hl (m.neg h)).trans h⟩
theorem below_of_grown {B : Nat} {a w w' : World} {b : Nat} (h : Below B a w) (hg : w.grownBy w' (some b)) (hB : B ≤ w.heap.size) (hb : B ≤ b) : Below B a w' := h.grown hg hB (fun j hj => by cases hj; exact hb)

set_option maxRecDepth 100000 in
set_option maxHeartbeats 4000000 in
theorem turnTo_any (v : Value) (ws : List Ino) (ps : List Den) (d : Int) (b : Nat) (D : DataW Unit) (w : World) (h : RdIm w v ws ps) (hi : imgB ws ps = true) (hm : Mp w b D) (hF : FD w) :
    Calls Tryz.prog 42 #[.map (some b), v, .int .i64 d] w fun e w' => e = .returned (.tuple #[]) ∧ Mp w' b (mpD ps d ps.length) ∧ w.grownBy w' (some b) := by
  have HL := hideIt (pimg_all hi).2.1
  have HF := hideIt (fun j hj => free_child hi j hj)
  have HN := hideIt (fun j hj => pimg_ent hi j hj)
  obtain ⟨vW, vP, rfl, h1, h2⟩ := h
  obtain ⟨aW, cW, rfl, _⟩ := h1.shape
  obtain ⟨aP, cP, rfl, _, hcP⟩ := h2.shape
  have HZ := hideIt hcP
  clear h1 h2 hcP hi
  obtain ⟨W, hW⟩ : ∃ W, W = w.alloc (.cells #[.slice aW ws.length cW, .slice aP ps.length cP] 33) := ⟨_, rfl⟩
  have BW : Hid (Below w.heap.size w W) := by rw [hW]; exact (Below.refl _ _).alloc (Nat.le_refl _) _
  have M : Hid (Mp W b D) := hm.below BW.out
  have hbl : b < w.heap.size := hm.lt
  have BL := hideIt hbl
  have CA : Hid (W.cell? ⟨w.heap.size, 1, none⟩ = some (.slice aP ps.length cP)) := by
    have : W.heap[w.heap.size]? = some (.cells #[.slice aW ws.length cW, .slice aP ps.length cP] 33 (0, 0)) := by rw [hW]; exact at_new rfl
    exact (two_cells this).2.1
  have F := hideIt (hF.below BW.out)
  have MW := hideIt hm
  clear hF hm hbl
  go_enter Tryz.func42, Tryz.ntmps42
  go_wp2_with fail
  rw [← hW]
  clear hW
  obtain ⟨w1, hrun, hown1, hg1⟩ := ownsMap_clear M.out mapU 0
  rw [hrun]
  clear hrun
  have x1 := hg1.cell CA.out (M.out.ne CA.out)
  have F1 := hideIt (F.out.grown M.out hg1)
  have G1 := hideIt ((grownB BW.out (some b)).trans hg1)
  have hz1 : w.heap.size ≤ w1.heap.size := G1.out.size
  have O1 := hideIt hown1
  clear hown1 hg1 CA M F
  go_wp2
  go_loopg [6, 7, 12] ps.length (fun g _ _ i wr => ∃ k : Nat, k + g = ps.length ∧ i = .int .i64 k ∧ Hid (wr.ownsMap Tryz.prog 9 (plainElem Tryz.prog 3) b k (mpD ps d k)) ∧ Hid (w.grownBy wr (some b)) ∧ Hid (FD wr))
  case atStart => exact ⟨0, by omega, rfl, O1, G1, F1⟩
  case round =>
    obtain ⟨k, hk, rfl, O, G, F⟩ := hrel
    have k0 : (0 : Int) ≤ (k : Int) := by omega
    by_cases hlt : k < ps.length
    · obtain ⟨bP, o, rfl, hbl, hcell⟩ := HZ.out (by omega)
      obtain ⟨a0, a1, a2⟩ := hcell k hlt
      have d0 := G.out.cell a0 (MW.out.ne a0)
      have d1 := G.out.cell a1 (MW.out.ne a1)
      have d2 := G.out.cell a2 (MW.out.ne a2)
      have k1 : (k : Int) < (ps.length : Int) := by omega
      have DF := den_free ps[k]
      have FC := HF.out k hlt
      have PE := HN.out k hlt
      have STEP := hideIt (show mpD ps d (k + 1) = if decide (0 ≤ ps[k].child) && ps[k].dir == d then (mpD ps d k).put (keyB ps[k].name) (.lit (.int .i64 (k : Int))) else mpD ps d k by
        rw [← childAt_of hlt, ← getD_of hlt]; rfl)
      have k4096 : k < 4096 := by have := HL.out; omega
      have hg24 : gk - 1 < gk := by omega
      have hk' : (k + 1) + (gk - 1) = ps.length := by omega
      clear a0 a1 a2 hcell
      generalize ps[k] = x at *
      have BA : Hid (Below wr.heap.size wr (wr.alloc (.cells #[.int .i64 x.dir, .string x.name, .int .i64 x.child] 54))) := (Below.refl _ _).alloc (Nat.le_refl _) _
      have OB : Hid ((wr.alloc (.cells #[.int .i64 x.dir, .string x.name, .int .i64 x.child] 54)).ownsMap Tryz.prog 9 (plainElem Tryz.prog 3) b k (mpD ps d k)) := O.out.alloc _
      have FB := hideIt (F.out.below BA.out)
      have GB := hideIt (G.out.trans (grownB BA.out (some b)))
      obtain ⟨f0, f1, f2⟩ := FD.cells FB.out
      clear O F G
      cases hf : x.freeB with
      | true =>
        have O2 : Hid ((wr.alloc (.cells #[.int .i64 x.dir, .string x.name, .int .i64 x.child] 54)).ownsMap Tryz.prog 9 (plainElem Tryz.prog 3) b (k + 1) (mpD ps d (k + 1))) := by
          unfold Hid
          rw [STEP.out, if_neg (by rw [hf] at FC; rw [← FC]; simp)]
          exact OB.out.mono (by omega)
        rw [hf] at DF
        clear FC PE STEP OB BA hf
        go_wp2
        go_roundg (gk - 1)
        case measure => exact hg24
        case rel => exact ⟨k + 1, hk', by go_num, O2, GB, FB⟩
      | false =>
        have fc : 0 ≤ x.child := by
          rw [hf] at FC
          have := FC.symm
          simpa using this
        have hn : x.name.size ≤ maxLen := by
          rcases PE with q | q
          · omega
          · have := (nmB_true q.2.2.1).2.1
            unfold maxLen
            omega
        rw [hf] at DF
        rw [decide_eq_true fc, Bool.true_and] at STEP
        clear FC PE hf
        cases q : (x.dir == d) with
        | false =>
          have O2 : Hid ((wr.alloc (.cells #[.int .i64 x.dir, .string x.name, .int .i64 x.child] 54)).ownsMap Tryz.prog 9 (plainElem Tryz.prog 3) b (k + 1) (mpD ps d (k + 1))) := by
            unfold Hid
            rw [STEP.out, if_neg (by rw [q]; decide)]
            exact OB.out.mono (by omega)
          clear STEP OB BA
          go_wp2
          go_roundg (gk - 1)
          case measure => exact hg24
          case rel => exact ⟨k + 1, hk', by go_num, O2, GB, FB⟩
        | true =>
          rw [q, if_pos rfl] at STEP
          have key : Hid (keyOf Tryz.prog 9 (.string x.name) = some (keyB x.name)) := WideMaps.keyOf_string_mk strU hn
          clear BA hn fc
          go_wp2_with (at_mapUpdate; refine wpList_mapUpdate_own _ rfl _ _ _ 52 rfl 9 3 strK mapU _ b k _ rfl OB.out (by unfold maxLen; omega) _ _ _ rfl rfl key.out _ [] (plainElem_int intU (WalkArith.wf_i64 (by omega))) ?_)
          intro wN hownN hgrN
          rw [← STEP.out] at hownN
          have O2 := hideIt hownN
          have F2 := hideIt (FB.out.grown (OB.out.mono (by omega)) hgrN)
          have G2 := hideIt (GB.out.trans hgrN)
          clear hownN hgrN OB FB GB STEP
          go_wp2
          go_roundg (gk - 1)
          case measure => exact hg24
          case rel => exact ⟨k + 1, hk', by go_num, O2, G2, F2⟩
    · obtain rfl : k = ps.length := by omega
      go_wp2
      refine bodyPost_end (v := .tuple #[]) (by simp [results, Tryz.results42, go_sem]) rfl ?_
      exact ⟨rfl, O.out.mono (by have := HL.out; omega), G.out⟩
end Go.Proofs.YtpgdpachomdfhaaGreatDoor
