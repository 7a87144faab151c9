/- Directories that hang on the root: by the program. -/
import Derived.Test.YtmeiionabonhnaaGreatDoorPiM
namespace Go.Proofs.YtmeiionabonhnaaGreatDoor
open Go.RowKit
def sixC (f : Int → Int) : List Value := (List.range 16).map fun (j : Nat) => .int .i64 (f (j : Int))
theorem sixC_at (f : Int → Int) (j : Nat) (h : j < 16) : (sixC f)[j]? = some (.int .i64 (f (j : Int))) := by
  unfold sixC
  rw [List.getElem?_map, List.getElem?_range h]
  rfl
theorem goUp_snoc (f : Int → Int) (n : Nat) (i : Int) : goUp f (n + 1) i = f (goUp f n i) := by
  rw [goUp_add f n 1 i]; rfl
set_option maxRecDepth 100000 in
set_option maxHeartbeats 4000000 in
theorem leadsToRoot_any (f : Int → Int) (i : Int) (w : World) (hr : ∀ n, 0 ≤ goUp f n i ∧ goUp f n i ≤ 15) :
    Calls Tryz.prog 182 #[.agg (sixC f).toArray, .int .i64 i] w fun e w' => e = .returned (.bool (goUp f 16 i == 0)) ∧ Below w.heap.size w w' := by
  have HR := hideIt hr
  have C0 : Hid (∀ j, j < 16 → (w.alloc (.cells (sixC f).toArray 237)).cell? ⟨w.heap.size, j, none⟩ = some (.int .i64 (f (j : Int)))) := fun j hj => (eight_at (xs := sixC f) (at_new rfl) j).1.trans (sixC_at f j hj)
  have BW := hideIt ((Below.refl w.heap.size w).alloc (Nat.le_refl _) (.cells (sixC f).toArray 237))
  have G0 : goUp f 0 i = i := rfl
  clear hr
  go_enter Tryz.func182, Tryz.ntmps182
  go_wp2
  generalize w.alloc (.cells (sixC f).toArray 237) = W at *
  go_loopw [1, 5] (fun v k wr => ∃ m : Nat, m ≤ 16 ∧ k = .int .i64 m ∧ v = .int .i64 (goUp f m i) ∧ wr = W) (fun _ k _ => 16 - (intOf k).toNat)
  case atStart => exact ⟨0, by omega, rfl, by rw [G0], rfl⟩
  case round =>
    obtain ⟨m, hm, rfl, rfl, rfl⟩ := hrel
    by_cases hlt : m < 16
    · obtain ⟨r0, r1⟩ := HR.out m
      obtain ⟨c, hc⟩ : ∃ c : Nat, goUp f m i = (c : Int) := ⟨(goUp f m i).toNat, by omega⟩
      have NX := hideIt (goUp_snoc f m i)
      rw [hc] at NX
      rw [hc] at r0 r1
      have g := C0.out c (by omega)
      have m0 : (0 : Int) ≤ (m : Int) := by omega
      have m1 : (m : Int) < 16 := by omega
      have c1 : (c : Int) < 16 := by omega
      rw [hc]
      clear hc G0
      generalize f (c : Int) = z at g NX
      go_wp2
      go_roundw
      case rel => exact ⟨m + 1, by omega, by go_num, by rw [NX.out], trivial⟩
      case measure => simp [intOf]; omega
    · obtain rfl : m = 16 := by omega
      generalize hZ : goUp f 16 i = z
      have HZ := hideIt hZ
      clear hZ
      go_wp2
      go_ret
      exact ⟨ret_bool (by rw [HZ.out]), BW.out⟩
def upC (ts : List Den) (k : Nat) : List Value := sixC (upA ts k)
theorem upA_succ {ts : List Den} {k : Nat} (hk : k < ts.length) (j : Int) : upA ts (k + 1) j = if ts[k].child = j then ts[k].dir else upA ts k j := by
  show (if (ts.getD k ⟨0, ⟨#[]⟩, 0⟩).child = j then (ts.getD k ⟨0, ⟨#[]⟩, 0⟩).dir else upA ts k j) = _
  rw [List.getD_eq_getElem?_getD, List.getElem?_eq_getElem hk]; rfl
theorem upC_succ {ts : List Den} {k c : Nat} (hk : k < ts.length) (hc : c < 16) (e : ts[k].child = (c : Int)) : (upC ts k).set c (.int .i64 ts[k].dir) = upC ts (k + 1) := by
  apply List.ext_getElem?
  intro j
  have hl : (upC ts k).length = 16 := by simp [upC, sixC]
  by_cases hj : j < 16
  · rw [set_at (by omega)]
    unfold upC
    rw [sixC_at _ j hj, sixC_at _ j hj, upA_succ hk, e]
    by_cases h : j = c
    · subst h; rw [if_pos rfl, if_pos rfl]
    · rw [if_neg h, if_neg (by omega)]
  · rw [List.getElem?_eq_none (by simp [upC, sixC]; omega), List.getElem?_eq_none (by simp [upC, sixC]; omega)]
theorem dhB_mk {ws : List Ino} {ts : List Den} (h : ∀ i (h : i < ws.length), ws[i].kind = 2 → goUp (upA ts ts.length) 16 (i : Int) = 0) : dhB ws ts = true := decide_eq_true h
theorem dhB_not {ws : List Ino} {ts : List Den} {i : Nat} (hi : i < ws.length) (hk : ws[i].kind = 2) (h : ¬ goUp (upA ts ts.length) 16 (i : Int) = 0) : dhB ws ts = false := decide_eq_false (fun x => h (x i hi hk))
theorem upA_bound {ts : List Den} (hT : ∀ k (h : k < ts.length), 0 ≤ ts[k].dir ∧ ts[k].dir ≤ 15) : ∀ (k : Nat) (_ : k ≤ ts.length) (j : Int), 0 ≤ upA ts k j ∧ upA ts k j ≤ 15
  | 0, _, _ => by show (0 : Int) ≤ 0 ∧ (0 : Int) ≤ 15; omega
  | k + 1, hk, j => by
    rw [upA_succ (by omega)]
    split
    · exact hT k (by omega)
    · exact upA_bound hT k (by omega) j
theorem goUp_bound {f : Int → Int} (hf : ∀ j, 0 ≤ f j ∧ f j ≤ 15) : ∀ (n : Nat) (i : Int), 0 ≤ i ∧ i ≤ 15 → 0 ≤ goUp f n i ∧ goUp f n i ≤ 15
  | 0, _, h => h
  | n + 1, i, _ => goUp_bound hf n (f i) (hf i)
set_option maxRecDepth 100000 in
set_option maxHeartbeats 4000000 in
theorem directoriesHang_any (vW v : Value) (ws : List Ino) (ts : List Den) (w : World) (hw : RdN w vW ws) (h : RdD w v ts) (hl : ws.length = 16) (hn : ts.length ≤ 4096) (hT : ∀ k (h : k < ts.length), (0 ≤ ts[k].child ∧ ts[k].child ≤ 15) ∧ (0 ≤ ts[k].dir ∧ ts[k].dir ≤ 15)) :
    Calls Tryz.prog 120 #[vW, v] w fun e w' => e = .returned (.bool (dhB ws ts)) ∧ Below w.heap.size w w' := by
  obtain ⟨aW, cW, rfl, _, hcW⟩ := hw.shape
  obtain ⟨aP, cP, rfl, _, hcP⟩ := h.shape
  have HW := hideIt hcW
  have HP := hideIt hcP
  have HT := hideIt hT
  have HL := hideIt hl
  have UB := hideIt (upA_bound (fun k h => (hT k h).2) ts.length (Nat.le_refl _))
  have S0 : Hid ((w.alloc (.cells #[.int .i64 0, .int .i64 0, .int .i64 0, .int .i64 0, .int .i64 0, .int .i64 0, .int .i64 0, .int .i64 0, .int .i64 0, .int .i64 0, .int .i64 0, .int .i64 0, .int .i64 0, .int .i64 0, .int .i64 0, .int .i64 0] 237)).heap[w.heap.size]? = some (.cells (upC ts 0).toArray 237 (0, 0)) ∧ Below w.heap.size w (w.alloc (.cells #[.int .i64 0, .int .i64 0, .int .i64 0, .int .i64 0, .int .i64 0, .int .i64 0, .int .i64 0, .int .i64 0, .int .i64 0, .int .i64 0, .int .i64 0, .int .i64 0, .int .i64 0, .int .i64 0, .int .i64 0, .int .i64 0] 237))) := ⟨at_new rfl, (Below.refl _ _).alloc (Nat.le_refl _) _⟩
  clear h hw hcW hcP hT hl
  go_enter Tryz.func120, Tryz.ntmps120
  go_wp2
  go_loopw [7, 12] (fun _ i wr => ∃ k : Nat, k ≤ ts.length ∧ i = .int .i64 k ∧ Hid (wr.heap[w.heap.size]? = some (.cells (upC ts k).toArray 237 (0, 0)) ∧ Below w.heap.size w wr)) (fun _ i _ => ts.length - (intOf i).toNat)
  case atStart => exact ⟨0, by omega, rfl, S0⟩
  case round =>
    obtain ⟨k, hk, rfl, I⟩ := hrel
    have hz : w.heap.size ≤ wr.heap.size := I.out.2.size
    have hzz : w.heap.size < wr.heap.size := (Array.getElem?_eq_some_iff.1 I.out.1).1
    clear S0
    by_cases hlt : k < ts.length
    · obtain ⟨b, o, rfl, hbl, hcell⟩ := HP.out (by omega)
      obtain ⟨a0, a1, a2⟩ := hcell k hlt
      have d0 := (I.out.2.cell (p := ⟨b, o + k * 3, none⟩) hbl).trans a0
      have d1 := (I.out.2.cell (p := ⟨b, o + k * 3 + 1, none⟩) hbl).trans a1
      have d2 := (I.out.2.cell (p := ⟨b, o + k * 3 + 2, none⟩) hbl).trans a2
      have k0 : (0 : Int) ≤ (k : Int) := by omega
      have k1 : (k : Int) < (ts.length : Int) := by omega
      obtain ⟨c1, c2⟩ := (HT.out k hlt).1
      obtain ⟨c, hc⟩ : ∃ c : Nat, ts[k].child = (c : Int) := ⟨ts[k].child.toNat, by omega⟩
      have LS := hideIt (upC_succ hlt (c := c) (by omega) hc)
      rw [hc] at d2 c1 c2
      have LA := hideIt (sixC_at (upA ts k) c (by omega))
      have g1 := (eight_at (xs := upC ts k) I.out.1 c).1.trans LA.out
      have g2 := (eight_at I.out.1 c).2
      clear a0 a1 a2 hcell hc
      generalize ts[k].dir = xd at *
      generalize ts[k].name = xs at *
      generalize upA ts k (c : Int) = z at *
      have BA : Hid (Below wr.heap.size wr (wr.alloc (.cells #[.int .i64 xd, .string xs, .int .i64 (c : Int)] 140))) := (Below.refl _ _).alloc (Nat.le_refl _) _
      have g3 := (BA.out.cell (p := ⟨w.heap.size, c, none⟩) hzz).trans g1
      have g4 : (wr.alloc (.cells #[.int .i64 xd, .string xs, .int .i64 (c : Int)] 140)).frozen? ⟨w.heap.size, c, none⟩ = false := (eight_at (at_old I.out.1) c).2
      have c16 : (c : Int) < 16 := by omega
      have G : Hid (((wr.setCell ⟨w.heap.size, c, none⟩ (.int .i64 xd)).alloc (.cells #[.int .i64 xd, .string xs, .int .i64 (c : Int)] 140)).heap[w.heap.size]? = some (.cells (upC ts (k + 1)).toArray 237 (0, 0)) ∧ Below w.heap.size w ((wr.setCell ⟨w.heap.size, c, none⟩ (.int .i64 xd)).alloc (.cells #[.int .i64 xd, .string xs, .int .i64 (c : Int)] 140))) := by
        refine ⟨?_, (I.out.2.setCell (Nat.le_refl _) _).alloc (by simp; omega) _⟩
        rw [← LS.out]
        exact at_old (eight_set I.out.1 c _)
      clear I LS LA BA
      go_wp2
      go_roundw
      case rel => exact ⟨k + 1, by omega, by go_num, G⟩
      case measure => simp [intOf]; omega
    · obtain rfl : k = ts.length := by omega
      have START : Hid (Below wr.heap.size wr wr) := Below.refl _ _
      have HC : Hid (∀ w', Below wr.heap.size wr w' → ∀ j, j < 16 → w'.cell? ⟨w.heap.size, j, none⟩ = some (.int .i64 (upA ts ts.length (j : Int)))) := fun w' hb j hj => by
        have := (hb.block _ hzz).trans I.out.1
        exact (eight_at (xs := upC ts ts.length) this j).1.trans (sixC_at _ j hj)
      have BW := hideIt I.out.2
      have LR := hideIt (fun (i : Nat) (hi : i < 16) w1 => leadsToRoot_any (upA ts ts.length) (i : Int) w1 (fun n => goUp_bound UB.out n _ (by omega)))
      have MK := hideIt (fun h => dhB_mk (ws := ws) (ts := ts) h)
      have NO := hideIt (fun i hi hk h => dhB_not (ws := ws) (ts := ts) (i := i) hi hk h)
      generalize hV : wr = V at *
      generalize upA ts ts.length = f at *
      clear hV I UB
      go_wp2
      go_loopw [8, 9, 24] (fun _ _ i wq => ∃ m : Nat, m ≤ ws.length ∧ i = .int .i64 m ∧ Hid (Below V.heap.size V wq ∧ ∀ j (h : j < ws.length), j < m → ws[j].kind = 2 → goUp f 16 (j : Int) = 0)) (fun _ _ i _ => ws.length - (intOf i).toNat)
      case atStart => exact ⟨0, by omega, rfl, START.out, fun j h a => absurd a (by omega)⟩
      case round =>
        obtain ⟨m, hm, rfl, J⟩ := hrel
        have J1 := hideIt J.out.1
        have JW := hideIt (below_trans BW.out J.out.1 hz)
        have hzq : V.heap.size ≤ wr.heap.size := J.out.1.size
        by_cases hlm : m < ws.length
        · obtain ⟨b, o, rfl, hbl, hcell⟩ := HW.out (by omega)
          obtain ⟨a0, a1, a2, a3, a4, a5, a6, a7, a8, a9, a10⟩ := hcell m hlm
          have d0 := (JW.out.cell (p := ⟨b, o + m * 11, none⟩) hbl).trans a0
          have d1 := (JW.out.cell (p := ⟨b, o + m * 11 + 1, none⟩) hbl).trans a1
          have d2 := (JW.out.cell (p := ⟨b, o + m * 11 + 2, none⟩) hbl).trans a2
          have d3 := (JW.out.cell (p := ⟨b, o + m * 11 + 3, none⟩) hbl).trans a3
          have d4 := (JW.out.cell (p := ⟨b, o + m * 11 + 4, none⟩) hbl).trans a4
          have d5 := (JW.out.cell (p := ⟨b, o + m * 11 + 5, none⟩) hbl).trans a5
          have d6 := (JW.out.cell (p := ⟨b, o + m * 11 + 6, none⟩) hbl).trans a6
          have d7 := (JW.out.cell (p := ⟨b, o + m * 11 + 7, none⟩) hbl).trans a7
          have d8 := (JW.out.cell (p := ⟨b, o + m * 11 + 8, none⟩) hbl).trans a8
          have d9 := (JW.out.cell (p := ⟨b, o + m * 11 + 9, none⟩) hbl).trans a9
          have d10 := (JW.out.cell (p := ⟨b, o + m * 11 + 10, none⟩) hbl).trans a10
          have m0 : (0 : Int) ≤ (m : Int) := by omega
          have m1 : (m : Int) < (ws.length : Int) := by omega
          have m16 : m < 16 := by have := HL.out; omega
          have B2 := hideIt (J1.out.alloc hzq (.cells ws[m].cs.toArray 150))
          have BF := hideIt (below_trans BW.out B2.out hz)
          have LM := hideIt (fun w1 => LR.out m m16 w1)
          have J2 : Hid ((ws[m].kind = 2 → goUp f 16 (m : Int) = 0) → ∀ j (h : j < ws.length), j < m + 1 → ws[j].kind = 2 → goUp f 16 (j : Int) = 0) := fun q j h a => by
            by_cases e : j = m
            · subst e; exact q
            · exact J.out.2 j h (by omega)
          have J3 := hideIt (fun hk q => NO.out m hlm hk q)
          clear a0 a1 a2 a3 a4 a5 a6 a7 a8 a9 a10 hcell J
          generalize ws[m] = x at d0 d1 d2 d3 d4 d5 d6 d7 d8 d9 d10 B2 BF J2 J3
          by_cases r : x.kind = 2
          · have r1 : (x.kind == 2) = true := by rw [r]; rfl
            have ZC := HC.out _ B2.out
            have z0 := ZC 0 (by omega)
            have z1 := ZC 1 (by omega)
            have z2 := ZC 2 (by omega)
            have z3 := ZC 3 (by omega)
            have z4 := ZC 4 (by omega)
            have z5 := ZC 5 (by omega)
            have z6 := ZC 6 (by omega)
            have z7 := ZC 7 (by omega)
            have z8 := ZC 8 (by omega)
            have z9 := ZC 9 (by omega)
            have z10 := ZC 10 (by omega)
            have z11 := ZC 11 (by omega)
            have z12 := ZC 12 (by omega)
            have z13 := ZC 13 (by omega)
            have z14 := ZC 14 (by omega)
            have z15 := ZC 15 (by omega)
            clear ZC
            unfold Ino.cs at B2 BF z0 z1 z2 z3 z4 z5 z6 z7 z8 z9 z10 z11 z12 z13 z14 z15
            unfold sixC at LM
            by_cases q : goUp f 16 (m : Int) = 0
            · have q1 : (goUp f 16 (m : Int) == 0) = true := by rw [q]; rfl
              have E := hideIt (J2.out (fun _ => q))
              rw [q1] at LM
              clear q J2 J3 r q1
              go_wp2_with fail
              refine (LM.out _).mono ?_
              rintro e w1 ⟨rfl, hb1⟩
              have B3 := hideIt (below_trans B2.out hb1 B2.out.size)
              clear hb1 d0 d1 d2 d3 d4 d5 d6 d7 d8 d9 d10 z0 z1 z2 z3 z4 z5 z6 z7 z8 z9 z10 z11 z12 z13 z14 z15
              go_wp2
              go_roundw
              case rel => exact ⟨m + 1, by omega, by go_num, B3.out, E.out⟩
              case measure => simp [intOf]; omega
            · have q1 : (goUp f 16 (m : Int) == 0) = false := by rw [beq_eq_false_iff_ne]; exact q
              have E := hideIt (J3.out r q)
              rw [q1] at LM
              clear q J2 J3 r q1
              go_wp2_with fail
              refine (LM.out _).mono ?_
              rintro e w1 ⟨rfl, hb1⟩
              have B3 := hideIt (below_trans BF.out hb1 BF.out.size)
              clear hb1 d0 d1 d2 d3 d4 d5 d6 d7 d8 d9 d10 z0 z1 z2 z3 z4 z5 z6 z7 z8 z9 z10 z11 z12 z13 z14 z15
              go_wp2
              go_ret
              exact ⟨ret_bool E.out.symm, B3.out⟩
          · have r1 : (x.kind == 2) = false := by rw [beq_eq_false_iff_ne]; exact r
            have E := hideIt (J2.out (fun e => absurd e r))
            unfold Ino.cs at B2 BF
            clear r J2 J3
            go_wp2
            go_roundw
            case rel => exact ⟨m + 1, by omega, by go_num, B2.out, E.out⟩
            case measure => simp [intOf]; omega
        · have E := hideIt (MK.out (fun j h => J.out.2 j h (by omega)))
          clear J
          go_wp2
          go_ret
          exact ⟨ret_bool E.out.symm, JW.out⟩
end Go.Proofs.YtmeiionabonhnaaGreatDoor
