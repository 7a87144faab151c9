/- Several texts laid together: PiN, PiO. -/
import Derived.Test.YtmeiionabonhnaaGreatDoorZAU
namespace Go.Proofs.YtmeiionabonhnaaGreatDoor
open Go.RowKit
def sixC (f : Int → Int) : List Value := (List.range 16).map fun (j : Nat) => .int .i64 (f (j : Int))
theorem sixC_at (f : Int → Int) (j : Nat) (h : j < 16) : (sixC f)[j]? = some (.int .i64 (f (j : Int))) := by
  unfold sixC
  rw [List.getElem?_map, List.getElem?_range h]
  rfl
theorem goUp_snoc (f : Int → Int) (n : Nat) (i : Int) : goUp f (n + 1) i = f (goUp f n i) := by
  rw [goUp_add f n 1 i]; rfl
set_option maxRecDepth 100000 in
set_option maxHeartbeats 4000000 in
theorem leadsToRoot_any (f : Int → Int) (i : Int) (w : World) (hr : ∀ n, 0 ≤ goUp f n i ∧ goUp f n i ≤ 15) :
    Calls Tryz.prog 182 #[.agg (sixC f).toArray, .int .i64 i] w fun e w' => e = .returned (.bool (goUp f 16 i == 0)) ∧ Below w.heap.size w w' := by
  have HR := hideIt hr
  have C0 : Hid (∀ j, j < 16 → (w.alloc (.cells (sixC f).toArray 237)).cell? ⟨w.heap.size, j, none⟩ = some (.int .i64 (f (j : Int)))) := fun j hj => (eight_at (xs := sixC f) (at_new rfl) j).1.trans (sixC_at f j hj)
  have BW := hideIt ((Below.refl w.heap.size w).alloc (Nat.le_refl _) (.cells (sixC f).toArray 237))
  have G0 : goUp f 0 i = i := rfl
  clear hr
  go_enter Tryz.func182, Tryz.ntmps182
  go_wp2
  generalize w.alloc (.cells (sixC f).toArray 237) = W at *
  go_loopw [1, 5] (fun v k wr => ∃ m : Nat, m ≤ 16 ∧ k = .int .i64 m ∧ v = .int .i64 (goUp f m i) ∧ wr = W) (fun _ k _ => 16 - (intOf k).toNat)
  case atStart => exact ⟨0, by omega, rfl, by rw [G0], rfl⟩
  case round =>
    obtain ⟨m, hm, rfl, rfl, rfl⟩ := hrel
    by_cases hlt : m < 16
    · obtain ⟨r0, r1⟩ := HR.out m
      obtain ⟨c, hc⟩ : ∃ c : Nat, goUp f m i = (c : Int) := ⟨(goUp f m i).toNat, by omega⟩
      have NX := hideIt (goUp_snoc f m i)
      rw [hc] at NX
      rw [hc] at r0 r1
      have g := C0.out c (by omega)
      have m0 : (0 : Int) ≤ (m : Int) := by omega
      have m1 : (m : Int) < 16 := by omega
      have c1 : (c : Int) < 16 := by omega
      rw [hc]
      clear hc G0
      generalize f (c : Int) = z at g NX
      go_wp2
      go_roundw
      case rel => exact ⟨m + 1, by omega, by go_num, by rw [NX.out], trivial⟩
      case measure => simp [intOf]; omega
    · obtain rfl : m = 16 := by omega
      generalize hZ : goUp f 16 i = z
      have HZ := hideIt hZ
      clear hZ
      go_wp2
      go_ret
      exact ⟨ret_bool (by rw [HZ.out]), BW.out⟩
def upC (ts : List Den) (k : Nat) : List Value := sixC (upA ts k)
theorem upA_succ {ts : List Den} {k : Nat} (hk : k < ts.length) (j : Int) : upA ts (k + 1) j = if ts[k].child = j then ts[k].dir else upA ts k j := by
  show (if (ts.getD k ⟨0, ⟨#[]⟩, 0⟩).child = j then (ts.getD k ⟨0, ⟨#[]⟩, 0⟩).dir else upA ts k j) = _
  rw [List.getD_eq_getElem?_getD, List.getElem?_eq_getElem hk]; rfl
theorem upC_succ {ts : List Den} {k c : Nat} (hk : k < ts.length) (hc : c < 16) (e : ts[k].child = (c : Int)) : (upC ts k).set c (.int .i64 ts[k].dir) = upC ts (k + 1) := by
  apply List.ext_getElem?
  intro j
  have hl : (upC ts k).length = 16 := by simp [upC, sixC]
  by_cases hj : j < 16
  · rw [set_at (by omega)]
    unfold upC
    rw [sixC_at _ j hj, sixC_at _ j hj, upA_succ hk, e]
    by_cases h : j = c
    · subst h; rw [if_pos rfl, if_pos rfl]
    · rw [if_neg h, if_neg (by omega)]
  · rw [List.getElem?_eq_none (by simp [upC, sixC]; omega), List.getElem?_eq_none (by simp [upC, sixC]; omega)]
theorem dhB_mk {ws : List Ino} {ts : List Den} (h : ∀ i (h : i < ws.length), ws[i].kind = 2 → goUp (upA ts ts.length) 16 (i : Int) = 0) : dhB ws ts = true := decide_eq_true h
theorem dhB_not {ws : List Ino} {ts : List Den} {i : Nat} (hi : i < ws.length) (hk : ws[i].kind = 2) (h : ¬ goUp (upA ts ts.length) 16 (i : Int) = 0) : dhB ws ts = false := decide_eq_false (fun x => h (x i hi hk))
theorem upA_bound {ts : List Den} (hT : ∀ k (h : k < ts.length), 0 ≤ ts[k].dir ∧ ts[k].dir ≤ 15) : ∀ (k : Nat) (_ : k ≤ ts.length) (j : Int), 0 ≤ upA ts k j ∧ upA ts k j ≤ 15
  | 0, _, _ => by show (0 : Int) ≤ 0 ∧ (0 : Int) ≤ 15; omega
  | k + 1, hk, j => by
    rw [upA_succ (by omega)]
    split
    · exact hT k (by omega)
    · exact upA_bound hT k (by omega) j
theorem goUp_bound {f : Int → Int} (hf : ∀ j, 0 ≤ f j ∧ f j ≤ 15) : ∀ (n : Nat) (i : Int), 0 ≤ i ∧ i ≤ 15 → 0 ≤ goUp f n i ∧ goUp f n i ≤ 15
  | 0, _, h => h
  | n + 1, i, _ => goUp_bound hf n (f i) (hf i)
set_option maxRecDepth 100000 in
set_option maxHeartbeats 4000000 in
theorem directoriesHang_any (vW v : Value) (ws : List Ino) (ts : List Den) (w : World) (hw : RdN w vW ws) (h : RdD w v ts) (hl : ws.length = 16) (hn : ts.length ≤ 4096) (hT : ∀ k (h : k < ts.length), (0 ≤ ts[k].child ∧ ts[k].child ≤ 15) ∧ (0 ≤ ts[k].dir ∧ ts[k].dir ≤ 15)) :
    Calls Tryz.prog 120 #[vW, v] w fun e w' => e = .returned (.bool (dhB ws ts)) ∧ Below w.heap.size w w' := by
  obtain ⟨aW, cW, rfl, _, hcW⟩ := hw.shape
  obtain ⟨aP, cP, rfl, _, hcP⟩ := h.shape
  have HW := hideIt hcW
  have HP := hideIt hcP
  have HT := hideIt hT
  have HL := hideIt hl
  have UB := hideIt (upA_bound (fun k h => (hT k h).2) ts.length (Nat.le_refl _))
  have S0 : Hid ((w.alloc (.cells #[.int .i64 0, .int .i64 0, .int .i64 0, .int .i64 0, .int .i64 0, .int .i64 0, .int .i64 0, .int .i64 0, .int .i64 0, .int .i64 0, .int .i64 0, .int .i64 0, .int .i64 0, .int .i64 0, .int .i64 0, .int .i64 0] 237)).heap[w.heap.size]? = some (.cells (upC ts 0).toArray 237 (0, 0)) ∧ Below w.heap.size w (w.alloc (.cells #[.int .i64 0, .int .i64 0, .int .i64 0, .int .i64 0, .int .i64 0, .int .i64 0, .int .i64 0, .int .i64 0, .int .i64 0, .int .i64 0, .int .i64 0, .int .i64 0, .int .i64 0, .int .i64 0, .int .i64 0, .int .i64 0] 237))) := ⟨at_new rfl, (Below.refl _ _).alloc (Nat.le_refl _) _⟩
  clear h hw hcW hcP hT hl
  go_enter Tryz.func120, Tryz.ntmps120
  go_wp2
  go_loopw [7, 12] (fun _ i wr => ∃ k : Nat, k ≤ ts.length ∧ i = .int .i64 k ∧ Hid (wr.heap[w.heap.size]? = some (.cells (upC ts k).toArray 237 (0, 0)) ∧ Below w.heap.size w wr)) (fun _ i _ => ts.length - (intOf i).toNat)
  case atStart => exact ⟨0, by omega, rfl, S0⟩
  case round =>
    obtain ⟨k, hk, rfl, I⟩ := hrel
    have hz : w.heap.size ≤ wr.heap.size := I.out.2.size
    have hzz : w.heap.size < wr.heap.size := (Array.getElem?_eq_some_iff.1 I.out.1).1
    clear S0
    by_cases hlt : k < ts.length
    · obtain ⟨b, o, rfl, hbl, hcell⟩ := HP.out (by omega)
      obtain ⟨a0, a1, a2⟩ := hcell k hlt
      have d0 := (I.out.2.cell (p := ⟨b, o + k * 3, none⟩) hbl).trans a0
      have d1 := (I.out.2.cell (p := ⟨b, o + k * 3 + 1, none⟩) hbl).trans a1
      have d2 := (I.out.2.cell (p := ⟨b, o + k * 3 + 2, none⟩) hbl).trans a2
      have k0 : (0 : Int) ≤ (k : Int) := by omega
      have k1 : (k : Int) < (ts.length : Int) := by omega
      obtain ⟨c1, c2⟩ := (HT.out k hlt).1
      obtain ⟨c, hc⟩ : ∃ c : Nat, ts[k].child = (c : Int) := ⟨ts[k].child.toNat, by omega⟩
      have LS := hideIt (upC_succ hlt (c := c) (by omega) hc)
      rw [hc] at d2 c1 c2
      have LA := hideIt (sixC_at (upA ts k) c (by omega))
      have g1 := (eight_at (xs := upC ts k) I.out.1 c).1.trans LA.out
      have g2 := (eight_at I.out.1 c).2
      clear a0 a1 a2 hcell hc
      generalize ts[k].dir = xd at *
      generalize ts[k].name = xs at *
      generalize upA ts k (c : Int) = z at *
      have BA : Hid (Below wr.heap.size wr (wr.alloc (.cells #[.int .i64 xd, .string xs, .int .i64 (c : Int)] 140))) := (Below.refl _ _).alloc (Nat.le_refl _) _
      have g3 := (BA.out.cell (p := ⟨w.heap.size, c, none⟩) hzz).trans g1
      have g4 : (wr.alloc (.cells #[.int .i64 xd, .string xs, .int .i64 (c : Int)] 140)).frozen? ⟨w.heap.size, c, none⟩ = false := (eight_at (at_old I.out.1) c).2
      have c16 : (c : Int) < 16 := by omega
      have G : Hid (((wr.setCell ⟨w.heap.size, c, none⟩ (.int .i64 xd)).alloc (.cells #[.int .i64 xd, .string xs, .int .i64 (c : Int)] 140)).heap[w.heap.size]? = some (.cells (upC ts (k + 1)).toArray 237 (0, 0)) ∧ Below w.heap.size w ((wr.setCell ⟨w.heap.size, c, none⟩ (.int .i64 xd)).alloc (.cells #[.int .i64 xd, .string xs, .int .i64 (c : Int)] 140))) := by
        refine ⟨?_, (I.out.2.setCell (Nat.le_refl _) _).alloc (by simp; omega) _⟩
        rw [← LS.out]
        exact at_old (eight_set I.out.1 c _)
      clear I LS LA BA
      go_wp2
      go_roundw
      case rel => exact ⟨k + 1, by omega, by go_num, G⟩
      case measure => simp [intOf]; omega
    · obtain rfl : k = ts.length := by omega
      have START : Hid (Below wr.heap.size wr wr) := Below.refl _ _
      have HC : Hid (∀ w', Below wr.heap.size wr w' → ∀ j, j < 16 → w'.cell? ⟨w.heap.size, j, none⟩ = some (.int .i64 (upA ts ts.length (j : Int)))) := fun w' hb j hj => by
        have := (hb.block _ hzz).trans I.out.1
        exact (eight_at (xs := upC ts ts.length) this j).1.trans (sixC_at _ j hj)
      have BW := hideIt I.out.2
      have LR := hideIt (fun (i : Nat) (hi : i < 16) w1 => leadsToRoot_any (upA ts ts.length) (i : Int) w1 (fun n => goUp_bound UB.out n _ (by omega)))
      have MK := hideIt (fun h => dhB_mk (ws := ws) (ts := ts) h)
      have NO := hideIt (fun i hi hk h => dhB_not (ws := ws) (ts := ts) (i := i) hi hk h)
      generalize hV : wr = V at *
      generalize upA ts ts.length = f at *
      clear hV I UB
      go_wp2
      go_loopw [8, 9, 24] (fun _ _ i wq => ∃ m : Nat, m ≤ ws.length ∧ i = .int .i64 m ∧ Hid (Below V.heap.size V wq ∧ ∀ j (h : j < ws.length), j < m → ws[j].kind = 2 → goUp f 16 (j : Int) = 0)) (fun _ _ i _ => ws.length - (intOf i).toNat)
      case atStart => exact ⟨0, by omega, rfl, START.out, fun j h a => absurd a (by omega)⟩
      case round =>
        obtain ⟨m, hm, rfl, J⟩ := hrel
        have J1 := hideIt J.out.1
        have JW := hideIt (below_trans BW.out J.out.1 hz)
        have hzq : V.heap.size ≤ wr.heap.size := J.out.1.size
        by_cases hlm : m < ws.length
        · obtain ⟨b, o, rfl, hbl, hcell⟩ := HW.out (by omega)
          obtain ⟨a0, a1, a2, a3, a4, a5, a6, a7, a8, a9, a10⟩ := hcell m hlm
          have d0 := (JW.out.cell (p := ⟨b, o + m * 11, none⟩) hbl).trans a0
          have d1 := (JW.out.cell (p := ⟨b, o + m * 11 + 1, none⟩) hbl).trans a1
          have d2 := (JW.out.cell (p := ⟨b, o + m * 11 + 2, none⟩) hbl).trans a2
          have d3 := (JW.out.cell (p := ⟨b, o + m * 11 + 3, none⟩) hbl).trans a3
          have d4 := (JW.out.cell (p := ⟨b, o + m * 11 + 4, none⟩) hbl).trans a4
          have d5 := (JW.out.cell (p := ⟨b, o + m * 11 + 5, none⟩) hbl).trans a5
          have d6 := (JW.out.cell (p := ⟨b, o + m * 11 + 6, none⟩) hbl).trans a6
          have d7 := (JW.out.cell (p := ⟨b, o + m * 11 + 7, none⟩) hbl).trans a7
          have d8 := (JW.out.cell (p := ⟨b, o + m * 11 + 8, none⟩) hbl).trans a8
          have d9 := (JW.out.cell (p := ⟨b, o + m * 11 + 9, none⟩) hbl).trans a9
          have d10 := (JW.out.cell (p := ⟨b, o + m * 11 + 10, none⟩) hbl).trans a10
          have m0 : (0 : Int) ≤ (m : Int) := by omega
          have m1 : (m : Int) < (ws.length : Int) := by omega
          have m16 : m < 16 := by have := HL.out; omega
          have B2 := hideIt (J1.out.alloc hzq (.cells ws[m].cs.toArray 150))
          have BF := hideIt (below_trans BW.out B2.out hz)
          have LM := hideIt (fun w1 => LR.out m m16 w1)
          have J2 : Hid ((ws[m].kind = 2 → goUp f 16 (m : Int) = 0) → ∀ j (h : j < ws.length), j < m + 1 → ws[j].kind = 2 → goUp f 16 (j : Int) = 0) := fun q j h a => by
            by_cases e : j = m
            · subst e; exact q
            · exact J.out.2 j h (by omega)
          have J3 := hideIt (fun hk q => NO.out m hlm hk q)
          clear a0 a1 a2 a3 a4 a5 a6 a7 a8 a9 a10 hcell J
          generalize ws[m] = x at d0 d1 d2 d3 d4 d5 d6 d7 d8 d9 d10 B2 BF J2 J3
          by_cases r : x.kind = 2
          · have r1 : (x.kind == 2) = true := by rw [r]; rfl
            have ZC := HC.out _ B2.out
            have z0 := ZC 0 (by omega)
            have z1 := ZC 1 (by omega)
            have z2 := ZC 2 (by omega)
            have z3 := ZC 3 (by omega)
            have z4 := ZC 4 (by omega)
            have z5 := ZC 5 (by omega)
            have z6 := ZC 6 (by omega)
            have z7 := ZC 7 (by omega)
            have z8 := ZC 8 (by omega)
            have z9 := ZC 9 (by omega)
            have z10 := ZC 10 (by omega)
            have z11 := ZC 11 (by omega)
            have z12 := ZC 12 (by omega)
            have z13 := ZC 13 (by omega)
            have z14 := ZC 14 (by omega)
            have z15 := ZC 15 (by omega)
            clear ZC
            unfold Ino.cs at B2 BF z0 z1 z2 z3 z4 z5 z6 z7 z8 z9 z10 z11 z12 z13 z14 z15
            unfold sixC at LM
            by_cases q : goUp f 16 (m : Int) = 0
            · have q1 : (goUp f 16 (m : Int) == 0) = true := by rw [q]; rfl
              have E := hideIt (J2.out (fun _ => q))
              rw [q1] at LM
              clear q J2 J3 r q1
              go_wp2_with fail
              refine (LM.out _).mono ?_
              rintro e w1 ⟨rfl, hb1⟩
              have B3 := hideIt (below_trans B2.out hb1 B2.out.size)
              clear hb1 d0 d1 d2 d3 d4 d5 d6 d7 d8 d9 d10 z0 z1 z2 z3 z4 z5 z6 z7 z8 z9 z10 z11 z12 z13 z14 z15
              go_wp2
              go_roundw
              case rel => exact ⟨m + 1, by omega, by go_num, B3.out, E.out⟩
              case measure => simp [intOf]; omega
            · have q1 : (goUp f 16 (m : Int) == 0) = false := by rw [beq_eq_false_iff_ne]; exact q
              have E := hideIt (J3.out r q)
              rw [q1] at LM
              clear q J2 J3 r q1
              go_wp2_with fail
              refine (LM.out _).mono ?_
              rintro e w1 ⟨rfl, hb1⟩
              have B3 := hideIt (below_trans BF.out hb1 BF.out.size)
              clear hb1 d0 d1 d2 d3 d4 d5 d6 d7 d8 d9 d10 z0 z1 z2 z3 z4 z5 z6 z7 z8 z9 z10 z11 z12 z13 z14 z15
              go_wp2
              go_ret
              exact ⟨ret_bool E.out.symm, B3.out⟩
          · have r1 : (x.kind == 2) = false := by rw [beq_eq_false_iff_ne]; exact r
            have E := hideIt (J2.out (fun e => absurd e r))
            unfold Ino.cs at B2 BF
            clear r J2 J3
            go_wp2
            go_roundw
            case rel => exact ⟨m + 1, by omega, by go_num, B2.out, E.out⟩
            case measure => simp [intOf]; omega
        · have E := hideIt (MK.out (fun j h => J.out.2 j h (by omega)))
          clear J
          go_wp2
          go_ret
          exact ⟨ret_bool E.out.symm, JW.out⟩
end Go.Proofs.YtmeiionabonhnaaGreatDoor

namespace Go.Proofs.YtmeiionabonhnaaGreatDoor
open Go.RowKit
def pimB (ws : List Ino) (ps : List Den) : Bool := partsB ws ps && (kindAt ws 0 == 2 && (fitsB ws (takenD ps) && (onceD ((takenD ps).map anonD) && (lcB ws (takenD ps) && (dhB ws (takenD ps) && onceB (mapped ws))))))
theorem parts_true {ws : List Ino} {ps : List Den} (h : partsB ws ps = true) : ws.length = 16 ∧ ps.length = 24 ∧ okNs ws = true ∧ okDs ps = true := by
  unfold partsB at h
  simp only [Bool.and_eq_true, decide_eq_true_eq] at h
  exact h
theorem taken_range {ps : List Den} (h : okDs ps = true) : ∀ k (h : k < (takenD ps).length), (0 ≤ (takenD ps)[k].child ∧ (takenD ps)[k].child ≤ 15) ∧ (0 ≤ (takenD ps)[k].dir ∧ (takenD ps)[k].dir ≤ 15) := by
  have h := of_decide_eq_true h
  intro k hk
  obtain ⟨hm, hf⟩ := List.mem_filter.1 (List.getElem_mem hk)
  obtain ⟨i, hi, e⟩ := List.getElem_of_mem hm
  have o := h i hi
  rw [e] at o
  have c := ok_taken o (fun q => by rw [(ok_free o).2 q] at hf; cases hf)
  exact ⟨by omega, c.2.1⟩
set_option maxRecDepth 100000 in
set_option maxHeartbeats 8000000 in
theorem pimOK_any (v : Value) (ws : List Ino) (ps : List Den) (w : World) (h : RdIm w v ws ps) (hw : ws.length ≤ 1048576) (hp : ps.length ≤ 1048576) (hT : TS w) (hE : ED w) (hF : FD w) (hr : ∀ k (h : k < ws.length), ws[k].R) (hs : ∀ k (h : k < ps.length), ps[k].name.size ≤ maxLen) :
    Calls Tryz.prog 62 #[v] w fun e w' => e = .returned (.bool (pimB ws ps)) ∧ Below w.heap.size w w' := by
  have LP := hideIt (fun w1 (hb : Below w.heap.size w w1) => partsOK_any v ws ps w1 (h.below hb) hw hp (hT.below hb) (hE.below hb) (hF.below hb) hr hs)
  obtain ⟨vW, vP, rfl, h1, h2⟩ := h
  have RW := hideIt h1
  have RP := hideIt h2
  obtain ⟨aW, cW, rfl, _, hcW⟩ := h1.shape
  obtain ⟨aP, cP, rfl, _, _⟩ := h2.shape
  have BW := hideIt ((Below.refl w.heap.size w).alloc (Nat.le_refl _) (.cells #[.slice aW ws.length cW, .slice aP ps.length cP] 98))
  have CA : Hid (∀ w', Below (w.alloc (.cells #[.slice aW ws.length cW, .slice aP ps.length cP] 98)).heap.size (w.alloc (.cells #[.slice aW ws.length cW, .slice aP ps.length cP] 98)) w' → w'.cell? ⟨w.heap.size, 0, none⟩ = some (.slice aW ws.length cW) ∧ w'.cell? ⟨w.heap.size, 1, none⟩ = some (.slice aP ps.length cP)) := fun w' hb => by
    have : w'.heap[w.heap.size]? = some (.cells #[.slice aW ws.length cW, .slice aP ps.length cP] 98 (0, 0)) := (hb.block _ (by simp)).trans (at_new rfl)
    exact ⟨(two_cells this).1, (two_cells this).2.1⟩
  obtain ⟨x0, x1⟩ := CA.out _ (Below.refl _ _)
  have F := hideIt hF
  clear h1 h2 hT hE hF hr hs
  cases c1 : partsB ws ps with
  | false =>
    have E := hideIt (show pimB ws ps = false by unfold pimB; rw [c1]; rfl)
    rw [c1] at LP
    clear c1 hcW
    go_enter Tryz.func62, Tryz.ntmps62
    go_wp2_with fail
    refine (LP.out _ BW.out).mono ?_
    rintro e w1 ⟨rfl, hb1⟩
    have B1 := hideIt (below_trans BW.out hb1 BW.out.size)
    clear hb1 x0 x1
    go_wp2
    go_ret
    exact ⟨ret_bool E.out.symm, B1.out⟩
  | true =>
  obtain ⟨l1, l2, o1, o2⟩ := parts_true c1
  have E0 := hideIt (show pimB ws ps = (kindAt ws 0 == 2 && (fitsB ws (takenD ps) && (onceD ((takenD ps).map anonD) && (lcB ws (takenD ps) && (dhB ws (takenD ps) && onceB (mapped ws)))))) by unfold pimB; rw [c1, Bool.true_and])
  rw [c1] at LP
  obtain ⟨bW, oW, rfl, hblW, hcellW⟩ := hcW (by omega)
  have HK := (hcellW 0 (by omega)).1
  rw [show ws[0].kind = kindAt ws 0 from (kindAt_of (i := 0) (by omega)).symm] at HK
  simp only [Nat.zero_mul, Nat.add_zero] at HK
  have KK : Hid (∀ w', Below w.heap.size w w' → w'.cell? ⟨bW, oW, none⟩ = some (.int .i64 (kindAt ws 0))) := fun w' hb => (hb.cell (p := ⟨bW, oW, none⟩) hblW).trans HK
  have TR := hideIt (taken_range o2)
  have tl : (takenD ps).length ≤ 24 := by have := taken_len ps; omega
  have ml : (mapped ws).length ≤ 128 := by have := mapped_len ws; omega
  have len16 : (0 : Int) < (ws.length : Int) := by omega
  have L1 := hideIt l1
  have L2 := hideIt l2
  have LT := hideIt (fun w1 (hb : Below w.heap.size w w1) => takenDirents_any (.slice aP ps.length cP) ps w1 (Rd.below RP.out hb) (by omega) (F.out.below hb))
  have LM := hideIt (fun w1 (hb : Below w.heap.size w w1) => mappedEntries_any (.slice (some ⟨bW, oW, none⟩) ws.length cW) ws w1 (Rd.below RW.out hb) (by omega))
  have LK := hideIt (fun v w1 (hb : Below w.heap.size w w1) h => kindsFit_any (.slice (some ⟨bW, oW, none⟩) ws.length cW) v ws (takenD ps) w1 (Rd.below RW.out hb) h l1 (by omega) TR.out)
  have LC := hideIt (fun v w1 (hb : Below w.heap.size w w1) h => linksCounted_any (.slice (some ⟨bW, oW, none⟩) ws.length cW) v ws (takenD ps) w1 (Rd.below RW.out hb) h l1 (by omega) (fun k hk => (TR.out k hk).1))
  have LH := hideIt (fun v w1 (hb : Below w.heap.size w w1) h => directoriesHang_any (.slice (some ⟨bW, oW, none⟩) ws.length cW) v ws (takenD ps) w1 (Rd.below RW.out hb) h l1 (by omega) TR.out)
  have LO := hideIt (fun v w1 h => namesOnce_any v (takenD ps) w1 h (by omega))
  have LI := hideIt (fun v w1 h => noneTwiceInt_any v (mapped ws) w1 h (by omega))
  clear l1 l2 o1 o2 c1 hcW hcellW HK TR F RP RW
  generalize kindAt ws 0 = k0 at *
  generalize takenD ps = ts at *
  generalize mapped ws = ms at *
  generalize fitsB ws ts = f1 at *
  generalize onceD (ts.map anonD) = f2 at *
  generalize lcB ws ts = f3 at *
  generalize dhB ws ts = f4 at *
  generalize onceB ms = f5 at *
  by_cases c2 : k0 = 2
  case neg =>
    have q : (k0 != 2) = true := by rw [bne_iff_ne]; exact c2
    have E := hideIt (show pimB ws ps = false by rw [E0.out, show (k0 == 2) = false by rw [beq_eq_false_iff_ne]; exact c2]; rfl)
    clear c2
    go_enter Tryz.func62, Tryz.ntmps62
    go_wp2_with fail
    refine (LP.out _ BW.out).mono ?_
    rintro e w1 ⟨rfl, hb1⟩
    have B1 := hideIt (below_trans BW.out hb1 BW.out.size)
    clear x0 x1
    obtain ⟨x0, x1⟩ := CA.out _ hb1
    have kk := KK.out _ B1.out
    clear hb1
    go_wp2
    go_ret
    exact ⟨ret_bool E.out.symm, B1.out⟩
  have q : (k0 != 2) = false := by rw [c2]; rfl
  have E1 := hideIt (show pimB ws ps = (f1 && (f2 && (f3 && (f4 && f5)))) by rw [E0.out, c2]; rfl)
  clear c2 E0
  go_enter Tryz.func62, Tryz.ntmps62
  go_wp2_with fail
  refine (LP.out _ BW.out).mono ?_
  rintro e w1 ⟨rfl, hb1⟩
  have B1 := hideIt (below_trans BW.out hb1 BW.out.size)
  have BA := hideIt hb1
  clear x0 x1 LP
  obtain ⟨x0, x1⟩ := CA.out _ hb1
  have kk := KK.out _ B1.out
  clear hb1
  go_wp2_with fail
  refine (LT.out _ B1.out).mono ?_
  rintro e w2 ⟨v2, rfl, hr2, hb2⟩
  obtain ⟨-, aT, cT, hvT, -⟩ := hr2.rd
  subst hvT
  have hz1 : w.heap.size ≤ w1.heap.size := B1.out.size
  have hz2 : w1.heap.size ≤ w2.heap.size := hb2.size
  have R2 := hideIt hr2.rd
  have B2 := hideIt (below_trans B1.out hb2 hz1)
  have BA2 := hideIt (below_trans BA.out hb2 BA.out.size)
  clear hr2 x0 x1 kk B1 BA KK LT hb2
  obtain ⟨x0, x1⟩ := CA.out _ BA2.out
  go_wp2_with fail
  refine (LK.out _ _ B2.out R2.out).mono ?_
  rintro e w3 ⟨rfl, hb3⟩
  have hz3 : w2.heap.size ≤ w3.heap.size := hb3.size
  have R3 := hideIt (Rd.below R2.out hb3)
  have B3 := hideIt (below_trans B2.out hb3 (by omega))
  have BA3 := hideIt (below_trans BA2.out hb3 (by have := BA2.out.size; omega))
  clear hb3 x0 x1 R2 B2 BA2
  cases f1 with
  | false =>
    go_wp2
    go_ret
    exact ⟨ret_bool (by rw [E1.out]; rfl), B3.out⟩
  | true =>
  go_wp2_with fail
  refine (LO.out _ _ R3.out).mono ?_
  rintro e w4 ⟨rfl, hb4⟩
  have hz4 : w3.heap.size ≤ w4.heap.size := hb4.size
  have R4 := hideIt (Rd.below R3.out hb4)
  have B4 := hideIt (below_trans B3.out hb4 (by omega))
  have BA4 := hideIt (below_trans BA3.out hb4 (by have := BA3.out.size; omega))
  clear hb4 R3 B3 BA3
  cases f2 with
  | false =>
    go_wp2
    go_ret
    exact ⟨ret_bool (by rw [E1.out]; rfl), B4.out⟩
  | true =>
  obtain ⟨x0, x1⟩ := CA.out _ BA4.out
  go_wp2_with fail
  refine (LC.out _ _ B4.out R4.out).mono ?_
  rintro e w5 ⟨rfl, hb5⟩
  have hz5 : w4.heap.size ≤ w5.heap.size := hb5.size
  have R5 := hideIt (Rd.below R4.out hb5)
  have B5 := hideIt (below_trans B4.out hb5 (by omega))
  have BA5 := hideIt (below_trans BA4.out hb5 (by have := BA4.out.size; omega))
  clear hb5 x0 x1 R4 B4 BA4
  cases f3 with
  | false =>
    go_wp2
    go_ret
    exact ⟨ret_bool (by rw [E1.out]; rfl), B5.out⟩
  | true =>
  obtain ⟨x0, x1⟩ := CA.out _ BA5.out
  go_wp2_with fail
  refine (LH.out _ _ B5.out R5.out).mono ?_
  rintro e w6 ⟨rfl, hb6⟩
  have hz6 : w5.heap.size ≤ w6.heap.size := hb6.size
  have B6 := hideIt (below_trans B5.out hb6 (by omega))
  have BA6 := hideIt (below_trans BA5.out hb6 (by have := BA5.out.size; omega))
  clear hb6 x0 x1 R5 B5 BA5
  cases f4 with
  | false =>
    go_wp2
    go_ret
    exact ⟨ret_bool (by rw [E1.out]; rfl), B6.out⟩
  | true =>
  obtain ⟨x0, x1⟩ := CA.out _ BA6.out
  go_wp2_with fail
  refine (LM.out _ B6.out).mono ?_
  rintro e w7 ⟨v7, rfl, hr7, hb7⟩
  obtain ⟨-, aM, cM, hvM, -⟩ := hr7.rd
  subst hvM
  have B7 := hideIt (below_trans B6.out hb7 (by omega))
  have R7 := hideIt hr7.rd
  clear hb7 hr7 x0 x1 B6 BA6
  go_wp2_with fail
  refine (LI.out _ _ R7.out).mono ?_
  rintro e w' ⟨rfl, hw'⟩
  subst w'
  go_wp2
  go_ret
  exact ⟨ret_bool (by rw [E1.out]; rfl), B7.out⟩
end Go.Proofs.YtmeiionabonhnaaGreatDoor
