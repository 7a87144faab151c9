/- Several texts laid together: JrC, Blk, BlkT, BlkOK. -/
import Derived.Test.YtgnfbiohjdepcaaGreatDoorZAV
import Derived.Test.YtgnfbiohjdepcaaGreatDoorZAD
import Derived.Test.YtgnfbiohjdepcaaGreatDoorZAG
namespace Go.Proofs.YtgnfbiohjdepcaaGreatDoor
open Go.RowKit
def ldW (ws : List Int) (ps : List St) (k : Nat) : Int := lastW (k : Int) (ws[k]?.getD 0) ps
theorem ldW_at {ws : List Int} {ps : List St} {k : Nat} (h : k < ws.length) : ldW ws ps k = lastW (k : Int) ws[k] ps := by unfold ldW; simp [h]
end Go.Proofs.YtgnfbiohjdepcaaGreatDoor

namespace Go.Proofs.YtgnfbiohjdepcaaGreatDoor
open Go.RowKit
def RdBlk (w : World) (v : Value) (ws : List Int) (ps : List Se) : Prop := ∃ vW vP, v = .agg #[vW, vP] ∧ RdI w vW ws ∧ RdE w vP ps
def RowZ (w : World) (lo hi : Nat) (v : Value) (n : Nat) (xs : List Value) : Prop := ∃ e, e ≠ 138 ∧ Row w e 1 lo hi v n xs
theorem RowZ.rd {w : World} {lo hi : Nat} {v : Value} {n : Nat} {xs : List Value} (h : RowZ w lo hi v n xs) : Rd w 1 v n xs := by
  obtain ⟨_, _, h⟩ := h
  exact h.rd
theorem RowZ.same {w w' : World} {lo hi : Nat} {v : Value} {n : Nat} {xs : List Value} (h : RowZ w lo hi v n xs) (hs : ∀ b, lo ≤ b → b < hi → w'.heap[b]? = w.heap[b]?) : RowZ w' lo hi v n xs := by
  obtain ⟨e, he, h⟩ := h
  exact ⟨e, he, h.same hs⟩
theorem RowZ.below {w w' : World} {lo hi : Nat} {v : Value} {n : Nat} {xs : List Value} (h : RowZ w lo hi v n xs) {B : Nat} (hb : Below B w w') (hB : hi ≤ B) : RowZ w' lo hi v n xs := by
  obtain ⟨e, he, h⟩ := h
  exact ⟨e, he, h.below hb hB⟩
theorem RowZ.outside {w w' : World} {lo hi : Nat} {v : Value} {n : Nat} {xs : List Value} (h : RowZ w lo hi v n xs) {lo' hi' : Nat} (ho : Outside lo' hi' w w') (hd : hi ≤ lo' ∨ hi' ≤ lo) (hz : hi ≤ w.heap.size) : RowZ w' lo hi v n xs := by
  obtain ⟨e, he, h⟩ := h
  exact ⟨e, he, h.outside ho hd hz⟩
theorem RowZ.wide {w : World} {lo hi : Nat} {v : Value} {n : Nat} {xs : List Value} (h : RowZ w lo hi v n xs) {lo' hi' : Nat} (h1 : lo' ≤ lo) (h2 : hi ≤ hi') : RowZ w lo' hi' v n xs := by
  obtain ⟨e, he, h⟩ := h
  exact ⟨e, he, h.wide h1 h2⟩
theorem RowZ.nil (w : World) (lo hi : Nat) : RowZ w lo hi (.slice none 0 0) 0 [] := ⟨3, by decide, Row.nil _ _ _ _ _⟩
theorem Row.z {w : World} {lo hi : Nat} {v : Value} {n : Nat} {xs : List Value} (h : Row w 3 1 lo hi v n xs) : RowZ w lo hi v n xs := ⟨3, by decide, h⟩
def RowBlk (w : World) (lo hi : Nat) (v : Value) (ws : List Int) (ps : List Se) : Prop := ∃ vW vP, v = .agg #[vW, vP] ∧ RowZ w lo hi vW ws.length (ints ws) ∧ Row w 138 2 lo hi vP ps.length (ses ps)
theorem RowBlk.rd {w : World} {lo hi : Nat} {v : Value} {ws : List Int} {ps : List Se} (h : RowBlk w lo hi v ws ps) : RdBlk w v ws ps := by
  obtain ⟨vW, vP, rfl, h1, h2⟩ := h
  exact ⟨vW, vP, rfl, h1.rd, h2.rd⟩
theorem RdBlk.below {w w' : World} {v : Value} {ws : List Int} {ps : List Se} (h : RdBlk w v ws ps) (hb : Below w.heap.size w w') : RdBlk w' v ws ps := by
  obtain ⟨vW, vP, rfl, h1, h2⟩ := h
  exact ⟨vW, vP, rfl, Rd.below h1 hb, Rd.below h2 hb⟩
theorem RowBlk.below {w w' : World} {lo hi : Nat} {v : Value} {ws : List Int} {ps : List Se} (h : RowBlk w lo hi v ws ps) {B : Nat} (hb : Below B w w') (hB : hi ≤ B) : RowBlk w' lo hi v ws ps := by
  obtain ⟨vW, vP, rfl, h1, h2⟩ := h
  exact ⟨vW, vP, rfl, h1.below hb hB, h2.below hb hB⟩
theorem RowBlk.outside {w w' : World} {lo hi : Nat} {v : Value} {ws : List Int} {ps : List Se} (h : RowBlk w lo hi v ws ps) {lo' hi' : Nat} (ho : Outside lo' hi' w w') (hd : hi ≤ lo' ∨ hi' ≤ lo) (hz : hi ≤ w.heap.size) : RowBlk w' lo hi v ws ps := by
  obtain ⟨vW, vP, rfl, h1, h2⟩ := h
  exact ⟨vW, vP, rfl, h1.outside ho hd hz, h2.outside ho hd hz⟩
theorem RowBlk.wide {w : World} {lo hi : Nat} {v : Value} {ws : List Int} {ps : List Se} (h : RowBlk w lo hi v ws ps) {lo' hi' : Nat} (h1 : lo' ≤ lo) (h2 : hi ≤ hi') : RowBlk w lo' hi' v ws ps := by
  obtain ⟨vW, vP, rfl, a, b⟩ := h
  exact ⟨vW, vP, rfl, a.wide h1 h2, b.wide h1 h2⟩
set_option maxHeartbeats 2000000 in
theorem toBlk_any (v : Value) (ws : List Int) (ps : List Se) (w : World) (h : RdBlk w v ws ps) (hw : ws.length ≤ 1048576) (hp : ps.length ≤ 1048576) :
    Calls Tryz.prog 27 #[v] w fun e w' => ∃ v', e = .returned v' ∧ RowBlk w' w.heap.size w'.heap.size v' ws ps ∧ Below w.heap.size w w' := by
  obtain ⟨vW, vP, rfl, h1, h2⟩ := h
  have H1 := hideIt h1
  have H2 := hideIt h2
  obtain ⟨aW, cW, eW, _⟩ := h1.shape
  obtain ⟨aP, cP, eP, _⟩ := h2.shape
  clear h1 h2
  subst eW eP
  go_enter Tryz.func27, Tryz.ntmps27
  go_wp2_with fail
  have hb0 : Below w.heap.size w (((w.alloc (.cells #[.slice aW ws.length cW, .slice aP ps.length cP] 28)).alloc (.cells #[.slice none 0 0, .slice none 0 0] 39)).alloc (.cells #[.slice none 0 0, .slice none 0 0] 39)) := by
    repeat (refine Below.alloc ?_ (by simp <;> omega) _)
    exact Below.refl _ _
  refine (toIntS_any _ ws _ (Rd.below H1.out hb0) hw).mono ?_
  rintro e w1 ⟨v1, rfl, hr1, hb1⟩
  obtain ⟨_, a1, c1, rfl, _⟩ := hr1.rd
  have hz1 : w.heap.size + 3 ≤ w1.heap.size := by have := hb1.size; simp at this; omega
  have V0 := (hb1.block w.heap.size (by simp <;> omega)).trans (at_old (at_old (at_new rfl)))
  have V1 := (hb1.block (w.heap.size + 1) (by simp <;> omega)).trans (at_old (at_new (by simp)))
  have V2 := (hb1.block (w.heap.size + 1 + 1) (by simp <;> omega)).trans (at_new (by simp))
  have B1 := hideIt (hb0.trans (hb1.mono (by simp <;> omega)))
  have R1 := hideIt hr1
  obtain ⟨x1, x2, _, _⟩ := two_cells V0
  obtain ⟨y1, y2, y3, y4⟩ := two_cells V2
  have V2' := two_set0 V2 (.slice a1 ws.length c1)
  have V1' := (Below.heap_setCell w1 ⟨w.heap.size + 1 + 1, 0, none⟩ (.slice a1 ws.length c1) (w.heap.size + 1) (by simp)).trans V1
  have VH := hideIt (And.intro V1' V2')
  clear hb0 hb1 hr1 V0 V1 V2 V1' V2'
  go_wp2_with fail
  have hb2 := B1.out.setCell (p := ⟨w.heap.size + 1 + 1, 0, none⟩) (by simp; omega) (.slice a1 ws.length c1)
  refine (toSectorS_any _ ps _ (Rd.below H2.out hb2) hp).mono ?_
  rintro e w2 ⟨v2, rfl, hr2, hb3⟩
  obtain ⟨_, a2, c2, rfl, _⟩ := hr2.rd
  have hz2 : w1.heap.size ≤ w2.heap.size := by have := hb3.size; simpa using this
  have V1 := (hb3.block _ (by simp; omega)).trans VH.out.1
  have V2 := (hb3.block _ (by simp; omega)).trans VH.out.2
  have B2 := hideIt (hb2.trans (hb3.mono (by simp; omega)))
  have K2 := hideIt hb3
  have R2 := hideIt hr2
  clear hb2 hb3 hr2
  obtain ⟨z1, z2, z3, z4⟩ := two_cells V2
  obtain ⟨t1, t2, t3, t4⟩ := two_cells V1
  clear V1 V2
  go_wp2
  refine bodyPost_ret (v := .agg #[.slice a1 ws.length c1, .slice a2 ps.length c2]) (by simp [results, Tryz.results27, go_sem, t1, t2]) rfl ?_
  refine ⟨_, rfl, ⟨_, _, rfl, ((R1.out.same fun b h1 h2 => ?_).wide (by simp; omega) (by simp; omega)).z, (R2.out.same fun b h1 h2 => ?_).wide (by simp; omega) (by simp)⟩, ?_⟩
  · simp only [World.size_alloc] at h1
    rw [Below.heap_setCell _ _ _ _ (by simp only; omega), Below.heap_setCell _ _ _ _ (by simp only; omega), Below.heap_setCell _ _ _ _ (by simp only; omega), K2.out.block b (by simp; omega), Below.heap_setCell _ _ _ _ (by simp only; omega)]
  · simp at h1
    rw [Below.heap_setCell _ _ _ _ (by simp only; omega), Below.heap_setCell _ _ _ _ (by simp only; omega), Below.heap_setCell _ _ _ _ (by simp only; omega)]
  · exact ((B2.out.setCell (by simp only; omega) _).setCell (by simp only; omega) _).setCell (by simp only; omega) _
end Go.Proofs.YtgnfbiohjdepcaaGreatDoor

namespace Go.Proofs.YtgnfbiohjdepcaaGreatDoor
open Go.RowKit
set_option maxHeartbeats 2000000 in
theorem eqBlk_same (va vb : Value) (ws : List Int) (ps : List Se) (w : World) (ha : RdBlk w va ws ps) (hb : RdBlk w vb ws ps) (hw : ws.length ≤ 2147483648) (hp : ps.length ≤ 2147483648) :
    Calls Tryz.prog 32 #[va, vb] w fun e w' => e = .returned (.bool true) ∧ Below w.heap.size w w' := by
  obtain ⟨vW, vP, rfl, h1, h2⟩ := ha
  obtain ⟨uW, uP, rfl, h3, h4⟩ := hb
  obtain ⟨aW, cW, rfl, _⟩ := h1.shape
  obtain ⟨aP, cP, rfl, _⟩ := h2.shape
  obtain ⟨bW, dW, rfl, _⟩ := h3.shape
  obtain ⟨bP, dP, rfl, _⟩ := h4.shape
  have H1 := hideIt h1
  have H2 := hideIt h2
  have H3 := hideIt h3
  have H4 := hideIt h4
  clear h1 h2 h3 h4
  go_enter Tryz.func32, Tryz.ntmps32
  go_wp2_with fail
  have hb0 : Below w.heap.size w ((w.alloc (.cells #[.slice aW ws.length cW, .slice aP ps.length cP] 39)).alloc (.cells #[.slice bW ws.length dW, .slice bP ps.length dP] 39)) := by
    repeat (refine Below.alloc ?_ (by simp <;> omega) _)
    exact Below.refl _ _
  refine (eqIntS_same _ _ ws _ (Rd.below H1.out hb0) (Rd.below H3.out hb0) hw).mono ?_
  rintro e w1 ⟨rfl, hb1⟩
  have hz1 : w.heap.size + 2 ≤ w1.heap.size := by have := hb1.size; simp at this; omega
  have V0 := (hb1.block w.heap.size (by simp <;> omega)).trans (at_old (at_new rfl))
  have V1 := (hb1.block (w.heap.size + 1) (by simp <;> omega)).trans (at_new (by simp))
  have B1 := hb0.trans (hb1.mono (by simp <;> omega))
  obtain ⟨x1, x2, _, _⟩ := two_cells V0
  obtain ⟨y1, y2, _, _⟩ := two_cells V1
  clear hb0 hb1 V0 V1
  go_wp2_with fail
  refine (eqSectorS_same _ _ ps _ (Rd.below H2.out B1) (Rd.below H4.out B1) hp).mono ?_
  rintro e w2 ⟨rfl, hb2⟩
  go_wp2
  go_ret
  exact ⟨rfl, B1.trans (hb2.mono (by omega))⟩
set_option maxHeartbeats 2000000 in
theorem markBlk_any (v : Value) (ws : List Int) (ps : List Se) (k0 : Int) (lo hi : Nat) (w : World) (h : RowBlk w lo hi v ws ps) (hi1 : hi ≤ w.heap.size) (hw : ws.length ≤ 2147483648) (hp : ps.length ≤ 2147483648) (h0 : 0 ≤ k0) (h1 : k0 ≤ 1073741824) :
    Calls Tryz.prog 42 #[v, .int .i64 k0] w fun e w' => e = .returned (.int .i64 (k0 + ws.length + 2 * ps.length)) ∧ RowBlk w' lo hi v (marks k0 ws.length) (marksE (k0 + ws.length) ps.length) ∧ Outside lo hi w w' := by
  obtain ⟨vW, vP, rfl, h1, h2⟩ := h
  obtain ⟨_, aW, cW, rfl, _⟩ := h1.rd
  obtain ⟨_, aP, cP, rfl, _⟩ := h2.rd
  obtain ⟨e1, he1, h1⟩ := h1
  have HE := hideIt he1
  have H1 := hideIt h1
  have H2 := hideIt h2
  clear h1 h2 he1
  go_enter Tryz.func42, Tryz.ntmps42
  go_wp2_with fail
  have hb0 : Below w.heap.size w (w.alloc (.cells #[.slice aW ws.length cW, .slice aP ps.length cP] 39)) := (Below.refl _ _).alloc (Nat.le_refl _) _
  refine (markIntS_any _ _ (ints ws) k0 lo hi _ (H1.out.below hb0 hi1) (fun u hu => by simp only [ints, List.mem_map] at hu; obtain ⟨z, _, rfl⟩ := hu; exact ⟨z, rfl⟩) hw h0 (by omega)).mono ?_
  rintro e w1 ⟨rfl, hr1, hg1, hz1⟩
  simp only [World.size_alloc] at hz1
  have ho1 := Row.grown_outside H1.out hg1
  have V0 := (ho1.block w.heap.size (by simp) (.inr hi1)).trans (at_new rfl)
  obtain ⟨x1, x2, _, _⟩ := two_cells V0
  have O1 := hideIt ((Outside.of_below (lo := lo) (hi := hi) hb0).trans ho1)
  have R1 := hideIt hr1
  have R2 := hideIt ((H2.out.below hb0 hi1).apart (H1.out.below hb0 hi1) (Ne.symm HE.out) hg1)
  clear hr1 hg1 ho1 V0
  go_wp2_with fail
  refine (markSectorS_any _ _ (ses ps) (k0 + ws.length) lo hi _ R2.out (isSes ps) hp (by omega) (by omega)).mono ?_
  rintro e w2 ⟨rfl, hr2, hg2, hz2⟩
  have O2 := hideIt (O1.out.trans (Row.grown_outside R2.out hg2))
  have R3 := hideIt (R1.out.apart R2.out HE.out hg2)
  have R4 := hideIt hr2
  clear hr2 hg2
  go_wp2
  go_ret
  refine ⟨rfl, ⟨_, _, rfl, ?_, ?_⟩, O2.out⟩
  · rw [marks_len]; exact ⟨e1, HE.out, R3.out⟩
  · rw [marksE_len]; exact R4.out
end Go.Proofs.YtgnfbiohjdepcaaGreatDoor

namespace Go.Proofs.YtgnfbiohjdepcaaGreatDoor
open Go.RowKit
def blkB (ws : List Int) (ps : List Se) : Bool := decide (ws.length = 32 ∧ ps.length ≤ 400 ∧ (∀ k (h : k < ws.length), wordB ws[k] = true) ∧ ∀ k (h : k < ps.length), secB ps[k].at_ = true ∧ wordB ps[k].val = true)
theorem blkB_mk {ws : List Int} {ps : List Se} (h1 : ws.length = 32) (h2 : ps.length ≤ 400) (h3 : ∀ k (h : k < ws.length), wordB ws[k] = true) (h4 : ∀ k (h : k < ps.length), secB ps[k].at_ = true ∧ wordB ps[k].val = true) : blkB ws ps = true := decide_eq_true ⟨h1, h2, h3, h4⟩
theorem blkB_len {ws : List Int} {ps : List Se} (h : blkB ws ps = true) : ws.length = 32 ∧ ps.length ≤ 400 := ⟨(of_decide_eq_true h).1, (of_decide_eq_true h).2.1⟩
theorem blkB_len1 {ws : List Int} {ps : List Se} (h : ¬ ws.length = 32) : blkB ws ps = false := decide_eq_false (fun x => h x.1)
theorem blkB_len2 {ws : List Int} {ps : List Se} (h : 400 < ps.length) : blkB ws ps = false := decide_eq_false (fun x => absurd x.2.1 (by omega))
theorem blkB_w {ws : List Int} {ps : List Se} {k : Nat} (hk : k < ws.length) (h : wordB ws[k] = false) : blkB ws ps = false := decide_eq_false (fun x => by have := x.2.2.1 k hk; rw [h] at this; cases this)
theorem blkB_a {ws : List Int} {ps : List Se} {k : Nat} (hk : k < ps.length) (h : secB ps[k].at_ = false) : blkB ws ps = false := decide_eq_false (fun x => by have := (x.2.2.2 k hk).1; rw [h] at this; cases this)
theorem blkB_v {ws : List Int} {ps : List Se} {k : Nat} (hk : k < ps.length) (h : wordB ps[k].val = false) : blkB ws ps = false := decide_eq_false (fun x => by have := (x.2.2.2 k hk).2; rw [h] at this; cases this)
set_option maxHeartbeats 4000000 in
theorem specBlkOK_any (v : Value) (ws : List Int) (ps : List Se) (w : World) (h : RdBlk w v ws ps) (hw : ws.length ≤ 1048576) (hp : ps.length ≤ 1048576) :
    Calls Tryz.prog 89 #[v] w fun e w' => e = .returned (.bool (blkB ws ps)) ∧ Below w.heap.size w w' := by
  obtain ⟨vW, vP, rfl, h1, h2⟩ := h
  obtain ⟨aW, cW, rfl, _, hcW⟩ := h1.shape
  obtain ⟨aP, cP, rfl, _, hcP⟩ := h2.shape
  clear h1 h2
  have hb0 : Below w.heap.size w (w.alloc (.cells #[.slice aW ws.length cW, .slice aP ps.length cP] 39)) := (Below.refl _ _).alloc (Nat.le_refl _) _
  by_cases c1 : ws.length = 32
  case neg =>
    have E := hideIt (blkB_len1 (ps := ps) c1)
    have c1' : ((ws.length : Int) != 32) = true := by simp; omega
    clear c1
    go_enter Tryz.func89, Tryz.ntmps89
    go_wp2
    go_ret
    exact ⟨ret_bool E.out.symm, hb0⟩
  have c1n : ((ws.length : Int) != 32) = false := by simp; omega
  have hpos : 0 < ws.length := by omega
  have C1 := hideIt c1
  clear c1
  by_cases c2 : 400 < ps.length
  · have E := hideIt (blkB_len2 (ws := ws) c2)
    go_enter Tryz.func89, Tryz.ntmps89
    go_wp2
    go_ret
    exact ⟨ret_bool E.out.symm, hb0⟩
  obtain ⟨b, o, rfl, hbl, hcell⟩ := hcW hpos
  clear hcW hpos
  go_enter Tryz.func89, Tryz.ntmps89
  go_wp2
  go_loop [3] (fun i => ∃ k : Nat, k ≤ ws.length ∧ i = .int .i64 k ∧ Hid (∀ j (h : j < ws.length), j < k → wordB ws[j] = true)) (fun i => ws.length - (intOf i).toNat)
  case atStart => exact ⟨0, by omega, rfl, fun j h a => absurd a (by omega)⟩
  case round =>
    obtain ⟨k, hk, rfl, H⟩ := hrel
    by_cases hlt : k < ws.length
    · have hck := (hb0.cell (p := ⟨b, o + k, none⟩) hbl).trans (hcell k hlt)
      clear hcell hcP
      by_cases q : wordB ws[k] = true
      · go_wp2_with (go_at_call 65; refine (l01Word_any _ _).mono ?_; rintro e w' ⟨rfl, rfl⟩)
        go_round
        case rel =>
          refine ⟨k + 1, by omega, by go_num, fun j h a => ?_⟩
          by_cases e : j = k
          · subst e; exact q
          · exact H.out j h (by omega)
        case measure => simp [intOf]; omega
      · have q' : wordB ws[k] = false := by simpa using q
        have E := hideIt (blkB_w (ps := ps) hlt q')
        go_wp2_with (go_at_call 65; refine (l01Word_any _ _).mono ?_; rintro e w' ⟨rfl, rfl⟩)
        go_ret
        exact ⟨ret_bool E.out.symm, hb0⟩
    · have HW := hideIt (fun j (h : j < ws.length) => H.out j h (by omega))
      clear H hcell
      go_wp2
      go_loop [4] (fun i => ∃ k : Nat, k ≤ ps.length ∧ i = .int .i64 k ∧ Hid (∀ j (h : j < ps.length), j < k → secB ps[j].at_ = true ∧ wordB ps[j].val = true)) (fun i => ps.length - (intOf i).toNat)
      case atStart => exact ⟨0, by omega, rfl, fun j h a => absurd a (by omega)⟩
      case round =>
        obtain ⟨m, hm, rfl, H⟩ := hrel
        by_cases hlt2 : m < ps.length
        · obtain ⟨b2, o2, rfl, hbl2, hcell2⟩ := hcP (by omega)
          obtain ⟨d0, d1⟩ := hcell2 m hlt2
          have e0 := (hb0.cell (p := ⟨b2, o2 + m * 2, none⟩) hbl2).trans d0
          have e1 := (hb0.cell (p := ⟨b2, o2 + m * 2 + 1, none⟩) hbl2).trans d1
          clear d0 d1 hcell2 hcP
          by_cases q : secB ps[m].at_ = true
          · by_cases q2 : wordB ps[m].val = true
            · go_wp2_with (first | (go_at_call 52; refine (l01InSec_any _ _).mono ?_; rintro e w' ⟨rfl, rfl⟩) | (go_at_call 65; refine (l01Word_any _ _).mono ?_; rintro e w' ⟨rfl, rfl⟩))
              go_round
              case rel =>
                refine ⟨m + 1, by omega, by go_num, fun j h a => ?_⟩
                by_cases e : j = m
                · subst e; exact ⟨q, q2⟩
                · exact H.out j h (by omega)
              case measure => simp [intOf]; omega
            · have q2' : wordB ps[m].val = false := by simpa using q2
              have E := hideIt (blkB_v (ws := ws) hlt2 q2')
              go_wp2_with (first | (go_at_call 52; refine (l01InSec_any _ _).mono ?_; rintro e w' ⟨rfl, rfl⟩) | (go_at_call 65; refine (l01Word_any _ _).mono ?_; rintro e w' ⟨rfl, rfl⟩))
              go_ret
              exact ⟨ret_bool E.out.symm, hb0⟩
          · have q' : secB ps[m].at_ = false := by simpa using q
            have E := hideIt (blkB_a (ws := ws) hlt2 q')
            go_wp2_with (first | (go_at_call 52; refine (l01InSec_any _ _).mono ?_; rintro e w' ⟨rfl, rfl⟩) | (go_at_call 65; refine (l01Word_any _ _).mono ?_; rintro e w' ⟨rfl, rfl⟩))
            go_ret
            exact ⟨ret_bool E.out.symm, hb0⟩
        · have E := hideIt (blkB_mk C1.out (by omega) HW.out (fun j h => H.out j h (by omega)))
          go_wp2
          go_ret
          exact ⟨ret_bool E.out.symm, hb0⟩
end Go.Proofs.YtgnfbiohjdepcaaGreatDoor
