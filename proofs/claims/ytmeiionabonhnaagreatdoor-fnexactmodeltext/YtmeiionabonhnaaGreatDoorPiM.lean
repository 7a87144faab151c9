/- Links counted: by the program. -/
import Derived.Test.YtmeiionabonhnaaGreatDoorImX
namespace Go.Proofs.YtmeiionabonhnaaGreatDoor
open Go.RowKit
def lnkV (ts : List Den) (k j : Nat) : Int := (if j = 0 then 1 else 0) + (cntD ts j k : Int)
def lnkC (ts : List Den) (k : Nat) : List Value := (List.range 16).map fun j => .int .i64 (lnkV ts k j)
theorem lnkC_at (ts : List Den) (k j : Nat) (h : j < 16) : (lnkC ts k)[j]? = some (.int .i64 (lnkV ts k j)) := by
  unfold lnkC
  rw [List.getElem?_map, List.getElem?_range h]
  rfl
theorem lnkV_bound (ts : List Den) (k j : Nat) : 0 ≤ lnkV ts k j ∧ lnkV ts k j ≤ 1 + k := by
  have := cntD_le ts j k
  unfold lnkV
  split <;> omega
theorem lnkC_succ {ts : List Den} {k c : Nat} (hk : k < ts.length) (hc : c < 16) (e : ts[k].child = (c : Int)) : (lnkC ts k).set c (.int .i64 (lnkV ts k c + 1)) = lnkC ts (k + 1) := by
  apply List.ext_getElem?
  intro j
  have hl : (lnkC ts k).length = 16 := by simp [lnkC]
  by_cases hj : j < 16
  · rw [set_at (by omega), lnkC_at ts (k + 1) j hj, lnkC_at ts k j hj]
    by_cases h : j = c
    · subst h
      rw [if_pos rfl]
      unfold lnkV
      rw [cntD_succ hk, e]
      simp
      omega
    · rw [if_neg h]
      unfold lnkV
      rw [cntD_succ hk, e]
      have : ((c : Int) == (j : Int)) = false := by rw [beq_eq_false_iff_ne]; omega
      rw [this]
      simp
  · rw [List.getElem?_eq_none (by simp [lnkC]; omega), List.getElem?_eq_none (by simp [lnkC]; omega)]
theorem lcB_mk {ws : List Ino} {ts : List Den} (h : ∀ i (h : i < ws.length), ws[i].links = lnkV ts ts.length i) : lcB ws ts = true := decide_eq_true h
theorem lcB_not {ws : List Ino} {ts : List Den} {i : Nat} (hi : i < ws.length) (h : ¬ ws[i].links = lnkV ts ts.length i) : lcB ws ts = false := decide_eq_false (fun x => h (x i hi))
set_option maxRecDepth 100000 in
set_option maxHeartbeats 4000000 in
theorem linksCounted_any (vW v : Value) (ws : List Ino) (ts : List Den) (w : World) (hw : RdN w vW ws) (h : RdD w v ts) (hl : ws.length = 16) (hn : ts.length ≤ 4096) (hT : ∀ k (h : k < ts.length), 0 ≤ ts[k].child ∧ ts[k].child ≤ 15) :
    Calls Tryz.prog 119 #[vW, v] w fun e w' => e = .returned (.bool (lcB ws ts)) ∧ Below w.heap.size w w' := by
  obtain ⟨aW, cW, rfl, _, hcW⟩ := hw.shape
  obtain ⟨aP, cP, rfl, _, hcP⟩ := h.shape
  have HW := hideIt hcW
  have HP := hideIt hcP
  have HT := hideIt hT
  have HL := hideIt hl
  have S0 : Hid ((w.alloc (.cells #[.int .i64 1, .int .i64 0, .int .i64 0, .int .i64 0, .int .i64 0, .int .i64 0, .int .i64 0, .int .i64 0, .int .i64 0, .int .i64 0, .int .i64 0, .int .i64 0, .int .i64 0, .int .i64 0, .int .i64 0, .int .i64 0] 237)).heap[w.heap.size]? = some (.cells (lnkC ts 0).toArray 237 (0, 0)) ∧ Below w.heap.size w (w.alloc (.cells #[.int .i64 1, .int .i64 0, .int .i64 0, .int .i64 0, .int .i64 0, .int .i64 0, .int .i64 0, .int .i64 0, .int .i64 0, .int .i64 0, .int .i64 0, .int .i64 0, .int .i64 0, .int .i64 0, .int .i64 0, .int .i64 0] 237))) := ⟨at_new rfl, (Below.refl _ _).alloc (Nat.le_refl _) _⟩
  clear h hw hcW hcP hT hl
  go_enter Tryz.func119, Tryz.ntmps119
  go_wp2
  go_loopw [7, 13] (fun _ i wr => ∃ k : Nat, k ≤ ts.length ∧ i = .int .i64 k ∧ Hid (wr.heap[w.heap.size]? = some (.cells (lnkC ts k).toArray 237 (0, 0)) ∧ Below w.heap.size w wr)) (fun _ i _ => ts.length - (intOf i).toNat)
  case atStart => exact ⟨0, by omega, rfl, S0⟩
  case round =>
    obtain ⟨k, hk, rfl, I⟩ := hrel
    have hz : w.heap.size ≤ wr.heap.size := I.out.2.size
    have hzz : w.heap.size < wr.heap.size := (Array.getElem?_eq_some_iff.1 I.out.1).1
    clear S0
    by_cases hlt : k < ts.length
    · obtain ⟨b, o, rfl, hbl, hcell⟩ := HP.out (by omega)
      obtain ⟨a0, a1, a2⟩ := hcell k hlt
      have d0 := (I.out.2.cell (p := ⟨b, o + k * 3, none⟩) hbl).trans a0
      have d1 := (I.out.2.cell (p := ⟨b, o + k * 3 + 1, none⟩) hbl).trans a1
      have d2 := (I.out.2.cell (p := ⟨b, o + k * 3 + 2, none⟩) hbl).trans a2
      have k0 : (0 : Int) ≤ (k : Int) := by omega
      have k1 : (k : Int) < (ts.length : Int) := by omega
      obtain ⟨c1, c2⟩ := HT.out k hlt
      obtain ⟨c, hc⟩ : ∃ c : Nat, ts[k].child = (c : Int) := ⟨ts[k].child.toNat, by omega⟩
      have LS := hideIt (lnkC_succ hlt (c := c) (by omega) hc)
      rw [hc] at d2 c1 c2
      obtain ⟨v0, v1⟩ := lnkV_bound ts k c
      have LA := hideIt (lnkC_at ts k c (by omega))
      have g1 := (eight_at I.out.1 c).1.trans LA.out
      have g2 := (eight_at I.out.1 c).2
      clear a0 a1 a2 hcell hc
      generalize ts[k].dir = xd at *
      generalize ts[k].name = xs at *
      generalize lnkV ts k c = z at *
      have BA : Hid (Below wr.heap.size wr (wr.alloc (.cells #[.int .i64 xd, .string xs, .int .i64 (c : Int)] 140))) := (Below.refl _ _).alloc (Nat.le_refl _) _
      have g3 := (BA.out.cell (p := ⟨w.heap.size, c, none⟩) hzz).trans g1
      have g4 : (wr.alloc (.cells #[.int .i64 xd, .string xs, .int .i64 (c : Int)] 140)).frozen? ⟨w.heap.size, c, none⟩ = false := (eight_at (at_old I.out.1) c).2
      have c16 : (c : Int) < 16 := by omega
      have G : Hid (((wr.setCell ⟨w.heap.size, c, none⟩ (.int .i64 (z + 1))).alloc (.cells #[.int .i64 xd, .string xs, .int .i64 (c : Int)] 140)).heap[w.heap.size]? = some (.cells (lnkC ts (k + 1)).toArray 237 (0, 0)) ∧ Below w.heap.size w ((wr.setCell ⟨w.heap.size, c, none⟩ (.int .i64 (z + 1))).alloc (.cells #[.int .i64 xd, .string xs, .int .i64 (c : Int)] 140))) := by
        refine ⟨?_, (I.out.2.setCell (Nat.le_refl _) _).alloc (by simp; omega) _⟩
        rw [← LS.out]
        exact at_old (eight_set I.out.1 c _)
      clear I LS LA BA
      go_wp2
      go_roundw
      case rel => exact ⟨k + 1, by omega, by go_num, G⟩
      case measure => simp [intOf]; omega
    · obtain rfl : k = ts.length := by omega
      have START : Hid (Below wr.heap.size wr wr) := Below.refl _ _
      have HC : Hid (∀ w', Below wr.heap.size wr w' → ∀ j, j < 16 → w'.cell? ⟨w.heap.size, j, none⟩ = some (.int .i64 (lnkV ts ts.length j))) := fun w' hb j hj => by
        have := (hb.block _ hzz).trans I.out.1
        exact (eight_at this j).1.trans (lnkC_at ts ts.length j hj)
      have BW := hideIt I.out.2
      generalize hV : wr = V at *
      clear hV I
      go_wp2
      go_loopw [8, 9, 26] (fun _ _ i wq => ∃ m : Nat, m ≤ ws.length ∧ i = .int .i64 m ∧ Hid (Below V.heap.size V wq ∧ ∀ j (h : j < ws.length), j < m → ws[j].links = lnkV ts ts.length j)) (fun _ _ i _ => ws.length - (intOf i).toNat)
      case atStart => exact ⟨0, by omega, rfl, START.out, fun j h a => absurd a (by omega)⟩
      case round =>
        obtain ⟨m, hm, rfl, J⟩ := hrel
        have J1 := hideIt J.out.1
        have JW := hideIt (below_trans BW.out J.out.1 hz)
        have hzq : V.heap.size ≤ wr.heap.size := J.out.1.size
        by_cases hlm : m < ws.length
        · obtain ⟨b, o, rfl, hbl, hcell⟩ := HW.out (by omega)
          obtain ⟨a0, a1, a2, a3, a4, a5, a6, a7, a8, a9, a10⟩ := hcell m hlm
          have d0 := (JW.out.cell (p := ⟨b, o + m * 11, none⟩) hbl).trans a0
          have d1 := (JW.out.cell (p := ⟨b, o + m * 11 + 1, none⟩) hbl).trans a1
          have d2 := (JW.out.cell (p := ⟨b, o + m * 11 + 2, none⟩) hbl).trans a2
          have d3 := (JW.out.cell (p := ⟨b, o + m * 11 + 3, none⟩) hbl).trans a3
          have d4 := (JW.out.cell (p := ⟨b, o + m * 11 + 4, none⟩) hbl).trans a4
          have d5 := (JW.out.cell (p := ⟨b, o + m * 11 + 5, none⟩) hbl).trans a5
          have d6 := (JW.out.cell (p := ⟨b, o + m * 11 + 6, none⟩) hbl).trans a6
          have d7 := (JW.out.cell (p := ⟨b, o + m * 11 + 7, none⟩) hbl).trans a7
          have d8 := (JW.out.cell (p := ⟨b, o + m * 11 + 8, none⟩) hbl).trans a8
          have d9 := (JW.out.cell (p := ⟨b, o + m * 11 + 9, none⟩) hbl).trans a9
          have d10 := (JW.out.cell (p := ⟨b, o + m * 11 + 10, none⟩) hbl).trans a10
          have m0 : (0 : Int) ≤ (m : Int) := by omega
          have m1 : (m : Int) < (ws.length : Int) := by omega
          have m16 : (m : Int) < 16 := by have := HL.out; omega
          have B2 := hideIt (J1.out.alloc hzq (.cells ws[m].cs.toArray 150))
          have l1 := HC.out _ B2.out m (by omega)
          have J2 : Hid (ws[m].links = lnkV ts ts.length m → ∀ j (h : j < ws.length), j < m + 1 → ws[j].links = lnkV ts ts.length j) := fun q j h a => by
            by_cases e : j = m
            · subst e; exact q
            · exact J.out.2 j h (by omega)
          have J3 := hideIt (fun q => lcB_not (ts := ts) hlm q)
          clear a0 a1 a2 a3 a4 a5 a6 a7 a8 a9 a10 hcell J
          generalize lnkV ts ts.length m = z at l1 J2 J3
          generalize ws[m] = x at d0 d1 d2 d3 d4 d5 d6 d7 d8 d9 d10 B2 l1 J2 J3
          have BF := hideIt (below_trans BW.out B2.out hz)
          unfold Ino.cs at B2 BF l1
          by_cases q : x.links = z
          · have q1 : (x.links != z) = false := by rw [q]; simp
            have E := hideIt (J2.out q)
            clear q J2 J3
            go_wp2
            go_quiet (fail)
            go_wp2
            go_roundw
            case rel => exact ⟨m + 1, by omega, by go_num, below_drewN B2.out _, E.out⟩
            case measure => simp [intOf]; omega
          · have q1 : (x.links != z) = true := by rw [bne_iff_ne]; exact q
            have E := hideIt (J3.out q)
            clear q J2 J3
            go_wp2
            go_quiet (fail)
            go_wp2
            go_ret
            exact ⟨ret_bool E.out.symm, below_drewN BF.out _⟩
        · have E := hideIt (lcB_mk (ts := ts) (fun j h => J.out.2 j h (by omega)))
          clear J
          go_wp2
          go_ret
          exact ⟨ret_bool E.out.symm, JW.out⟩
end Go.Proofs.YtmeiionabonhnaaGreatDoor
