/- What a crash of the block device leaves: by the program. -/
import Derived.Test.YtbjcoeimcdodjaaDoorCrashIE
import Derived.Test.YtbjcoeimcdodjaaDoorBlkUnsI
import Derived.Test.YtbjcoeimcdodjaaDoorBlkBarI
namespace Go.Proofs.YtbjcoeimcdodjaaDoor
open Go.RowKit
theorem below_allocQ {a w : World} (h : Below a.heap.size a w) (o : Obj) : Below a.heap.size a (w.alloc o) := h.alloc h.size o
theorem lw_kept (a : Nat) : ∀ (ps : List Se) (s : Se) (d mo : Int), (ps.foldl (lwStep (a : Int)) (s, mo) = (s, mo) ∧ keptE a (d, mo) ps = (d, mo)) ∨ ((ps.foldl (lwStep (a : Int)) (s, mo)).1.at_ = (a : Int) ∧ (keptE a (d, mo) ps).1 = (ps.foldl (lwStep (a : Int)) (s, mo)).1.val)
  | [], _, _, _ => .inl ⟨rfl, rfl⟩
  | p :: ps, s, d, mo => by
    have e2 : keptE a (d, mo) (p :: ps) = keptE a (kept1E a (d, mo) p) ps := rfl
    rw [List.foldl_cons, e2]
    by_cases c : p.at_ = (a : Int) ∧ 0 < mo
    · rw [show lwStep (a : Int) (s, mo) p = (p, mo - 1) from if_pos c, show kept1E a (d, mo) p = (p.val, mo - 1) from if_pos c]
      rcases lw_kept a ps p p.val (mo - 1) with ⟨h1, h2⟩ | h
      · exact .inr ⟨by rw [h1]; exact c.1, by rw [h1, h2]⟩
      · exact .inr h
    · rw [show lwStep (a : Int) (s, mo) p = (s, mo) from if_neg c, show kept1E a (d, mo) p = (d, mo) from if_neg c]
      exact lw_kept a ps s d mo
theorem lastM_kept {ps : List Se} {a : Nat} {d mo : Int} (h0 : 0 < mo) (h : hasE ps a = true) : (keptE a (d, mo) ps).1 = (lastM (a : Int) mo ps).val := by
  rcases lw_kept a ps ⟨-1, 0⟩ d mo with ⟨h1, _⟩ | ⟨_, h2⟩
  · have := lastM_hit h0 h
    unfold lastM lwR at this
    rw [h1] at this
    exact absurd (show (-1 : Int) = (a : Int) from this) (by omega)
  · exact h2
theorem lastM_zero {ps : List Se} {a mo : Int} (h : ¬ 0 < mo) : lastM a mo ps = ⟨-1, 0⟩ := by
  unfold lastM lwR
  generalize (⟨-1, 0⟩ : Se) = s
  induction ps with
  | nil => rfl
  | cons p ps ih =>
    rw [List.foldl_cons, show lwStep a (s, mo) p = (s, mo) from if_neg (fun x => h x.2)]
    exact ih
theorem unsNE_has (ps : List Se) (n i : Nat) (hi : i < (unsNE ps n).length) : hasE ps ((unsNE ps n)[i]?.getD 0) = true := by
  rw [List.getElem?_eq_getElem hi, Option.getD_some]
  have := List.getElem_mem hi
  unfold unsNE at this
  rw [List.mem_filter] at this
  exact this.2
theorem spE_hit {us : List Nat} {zs : List Int} {ps : List Se} {ws : List Int} {i : Nat} (h0 : 0 < keepI zs i) (h : hasE ps (us[i]?.getD 0) = true) : spE us zs ps ws (i + 1) = (spE us zs ps ws i).set (us[i]?.getD 0) (lastM ((us[i]?.getD 0 : Nat) : Int) (keepI zs i) ps).val := by
  rw [spE, lastM_kept h0 h]
theorem spE_zero {us : List Nat} {zs : List Int} {ps : List Se} {ws : List Int} {i : Nat} (h0 : ¬ 0 < keepI zs i) (h : us[i]?.getD 0 < ws.length) : spE us zs ps ws (i + 1) = spE us zs ps ws i := by
  have hl : us[i]?.getD 0 < (spE us zs ps ws i).length := by rw [spE_len]; exact h
  rw [spE, keptE_stop h0]
  simp [hl]
structure CrB (w w1 wr : World) (X : List Int) (us : List Int) (vW vP vU : Value) : Prop where
  arr : Row wr 61 1 w1.heap.size (w1.heap.size + 1) (.slice (some ⟨w1.heap.size, 0, none⟩) 32 32) 32 (ints X)
  plc : Row wr 3 1 (w.heap.size + 2) w1.heap.size vU us.length (ints us)
  box : wr.heap[w.heap.size]? = some (.cells #[vW, vP] 26 (0, 0))
  res : wr.heap[w.heap.size + 1]? = some (.cells #[.slice none 0 0, .slice none 0 0] 26 (0, 0))
  below : Below w.heap.size w wr
  size : w1.heap.size + 1 ≤ wr.heap.size
theorem CrB.later {w w1 wr wx : World} {X us : List Int} {vW vP vU : Value} (h : CrB w w1 wr X us vW vP vU) (hb : Below wr.heap.size wr wx) (hz : w.heap.size + 2 ≤ w1.heap.size) : CrB w w1 wx X us vW vP vU :=
  have h7 := h.size
  ⟨h.arr.below hb h7, h.plc.below hb (by omega), (hb.block _ (by omega)).trans h.box, (hb.block _ (by omega)).trans h.res, below_trans h.below hb h.below.size, Nat.le_trans h.size hb.size⟩
theorem CrB.store {w w1 wr : World} {X us : List Int} {vW vP vU : Value} (h : CrB w w1 wr X us vW vP vU) (hz : w.heap.size + 2 ≤ w1.heap.size) (a : Nat) (x : Int) : CrB w w1 (wr.setCell ⟨w1.heap.size, a, none⟩ (.int .i64 x)) (X.set a x) us vW vP vU := by
  obtain ⟨h1, h2, h3, h4, h5, h6⟩ := h
  refine ⟨?_, h2.same (fun k _ hk => Below.heap_setCell _ _ _ _ (by simp only; omega)), ?_, ?_, h5.setCell (by simp only; omega) _, by simpa using h6⟩
  · rw [← ints_set]; exact h1.stored _ _
  · rw [Below.heap_setCell _ _ _ _ (by simp only; omega)]; exact h3
  · rw [Below.heap_setCell _ _ _ _ (by simp only; omega)]; exact h4
structure LCut (wr wx : World) (x y : Int) (bx : Nat) : Prop where
  lo : wr.heap.size ≤ bx
  box : wx.heap[bx]? = some (.cells #[.int .i64 x, .int .i64 y] 59 (0, 0))
  below : Below wr.heap.size wr wx
theorem LCut.new {wr wf : World} {x y : Int} (hb : Below wr.heap.size wr wf) : LCut wr (wf.alloc (.cells #[.int .i64 x, .int .i64 y] 59)) x y wf.heap.size := ⟨hb.size, at_new rfl, below_allocQ hb _⟩
theorem LCut.old {wr wf : World} {x y : Int} {bx : Nat} (hb : Below wr.heap.size wr wf) (hx : wr.heap.size ≤ bx) (hv : wf.heap[bx]? = some (.cells #[.int .i64 0, .int .i64 0] 59 (0, 0))) : LCut wr ((wf.setCell ⟨bx, 0, none⟩ (.int .i64 x)).setCell ⟨bx, 1, none⟩ (.int .i64 y)) x y bx :=
  ⟨hx, two_set1 (two_set0 hv _) _, (hb.setCell (by simp only; omega) _).setCell (by simp only; omega) _⟩
def kbC (ws : List Int) (ps : List Se) (zs : List Int) : Int := if blkB ws ps = true then if keepsB zs = true then 0 else 4 else 1
def kbW (ws : List Int) (ps : List Se) (zs : List Int) : List Int := if kbC ws ps zs = 0 then spE (unsNE ps 32) zs ps ws (unsNE ps 32).length else []
theorem kbC_cases (ws : List Int) (ps : List Se) (zs : List Int) :
    (blkB ws ps = false ∧ kbC ws ps zs = 1 ∧ kbW ws ps zs = []) ∨
    (blkB ws ps = true ∧ keepsB zs = false ∧ kbC ws ps zs = 4 ∧ kbW ws ps zs = []) ∨
    (blkB ws ps = true ∧ keepsB zs = true ∧ kbC ws ps zs = 0 ∧ kbW ws ps zs = spE (unsNE ps 32) zs ps ws (unsNE ps 32).length) := by
  by_cases c2 : blkB ws ps = true
  · by_cases c3 : keepsB zs = true
    · have e : kbC ws ps zs = 0 := by unfold kbC; rw [if_pos c2, if_pos c3]
      exact .inr (.inr ⟨c2, c3, e, by unfold kbW; rw [if_pos e]⟩)
    · have e : kbC ws ps zs = 4 := by unfold kbC; rw [if_pos c2, if_neg c3]
      exact .inr (.inl ⟨c2, by simpa using c3, e, by unfold kbW; rw [e]; rfl⟩)
  · have e : kbC ws ps zs = 1 := by unfold kbC; rw [if_neg c2]
    exact .inl ⟨by simpa using c2, e, by unfold kbW; rw [e]; rfl⟩
theorem kbC_eq {ws : List Int} {ps : List Se} {zs : List Int} (h : ¬ 4096 < zs.length) : crashCE ws ps zs = kbC ws ps zs ∧ crashWE ws ps zs = kbW ws ps zs := by
  have e : crashCE ws ps zs = kbC ws ps zs := by unfold crashCE kbC; rw [if_neg h]
  exact ⟨e, by unfold crashWE kbW; rw [e]⟩
set_option maxRecDepth 100000 in
set_option maxHeartbeats 8000000 in
theorem implCrashBlk_any (v vZ : Value) (ws : List Int) (ps : List Se) (zs : List Int) (w : World) (h : RdBlk w v ws ps) (hz : RdI w vZ zs) (hG : NW w) (hw : ws.length ≤ 1048576) (hp : ps.length ≤ 1048576) (hzl : zs.length ≤ 1048576) :
    Calls Tryd.prog 34 #[v, vZ] w fun e w' => ∃ v', e = .returned (.tuple #[v', .int .i64 (kbC ws ps zs)]) ∧ RowBlk w' w.heap.size w'.heap.size v' (kbW ws ps zs) [] ∧ Below w.heap.size w w' := by
  have HR := hideIt h
  have HZ := hideIt hz
  have HG := hideIt hG
  obtain ⟨vW, vP, rfl, h1, h2⟩ := h
  have H2 := hideIt h2
  obtain ⟨aW, cW, rfl, _, hcW⟩ := h1.shape
  obtain ⟨aP, cP, rfl, _⟩ := h2.shape
  obtain ⟨aZ, cZ, rfl, _⟩ := hz.shape
  have HW := hideIt hcW
  clear h1 h2 hz hcW hG
  have hb0 : Below w.heap.size w ((w.alloc (.cells #[.slice aW ws.length cW, .slice aP ps.length cP] 26)).alloc (.cells #[.slice none 0 0, .slice none 0 0] 26)) := by
    repeat (refine Below.alloc ?_ (by simp <;> omega) _)
    exact Below.refl _ _
  rcases kbC_cases ws ps zs with ⟨c2, e1, e2⟩ | ⟨c2, c3, e1, e2⟩ | ⟨c2, c3, e1, e2⟩
  · rw [e1, e2]
    obtain ⟨s1, s2⟩ := unsE_not c2
    have S1 := hideIt s1
    clear e1 e2 s1 s2
    go_enter Tryd.func34, Tryd.ntmps34
    go_wp2_with fail
    refine (implBlkUnsure_any _ ws ps _ (HR.out.below hb0) (HG.out.below hb0) hw hp).mono ?_
    rw [S1.out]
    rintro e w1 ⟨v1, rfl, hr1, hb1⟩
    obtain ⟨aU, cU, rfl⟩ := RdI.form hr1.rd rfl
    have V1 := (hb1.block (w.heap.size + 1) (by simp)).trans (at_new (by simp))
    obtain ⟨t1, t2, t3, t4⟩ := two_cells V1
    have B1 := hideIt (below_trans hb0 hb1 (by simp <;> omega))
    clear hb0 hb1 V1 hr1
    go_wp2
    refine bodyPost_ret (v := .tuple #[.agg #[.slice none 0 0, .slice none 0 0], .int .i64 1]) (by simp [results, Tryd.results34, go_sem, t1, t2]) rfl ?_
    exact ⟨_, rfl, RowBlk.zero _ _ _, (B1.out.setCell (by simp only; omega) _).setCell (by simp only; omega) _⟩
  · rw [e1, e2]
    obtain ⟨s1, s2⟩ := unsE_ok c2
    have S1 := hideIt s1
    clear e1 e2 s1 s2
    go_enter Tryd.func34, Tryd.ntmps34
    go_wp2_with fail
    refine (implBlkUnsure_any _ ws ps _ (HR.out.below hb0) (HG.out.below hb0) hw hp).mono ?_
    rw [S1.out]
    rintro e w1 ⟨v1, rfl, hr1, hb1⟩
    obtain ⟨aU, cU, rfl⟩ := RdI.form hr1.rd rfl
    have V1 := (hb1.block (w.heap.size + 1) (by simp)).trans (at_new (by simp))
    obtain ⟨t1, t2, t3, t4⟩ := two_cells V1
    have B1 := hideIt (below_trans hb0 hb1 (by simp <;> omega))
    clear hb0 hb1 V1 hr1
    go_wp2_with (go_at_call 40; refine (everyKeep_any _ zs _ (Rd.below HZ.out B1.out) (by omega)).mono ?_; rintro e w1 ⟨rfl, rfl⟩)
    refine bodyPost_ret (v := .tuple #[.agg #[.slice none 0 0, .slice none 0 0], .int .i64 4]) (by simp [results, Tryd.results34, go_sem, t1, t2]) rfl ?_
    exact ⟨_, rfl, RowBlk.zero _ _ _, (B1.out.setCell (by simp only; omega) _).setCell (by simp only; omega) _⟩
  · rw [e1, e2]
    obtain ⟨s1, s2⟩ := unsE_ok c2
    have S1 := hideIt s1
    have L32 := hideIt (blkB_len c2).1
    have KB := hideIt (keepI_of c3)
    obtain ⟨bW, oW, rfl, hbW, hcellW⟩ := HW.out (by have := L32.out; omega)
    have HCW := hideIt hcellW
    clear e1 e2 s1 hcellW
    go_enter Tryd.func34, Tryd.ntmps34
    go_wp2_with fail
    refine (implBlkUnsure_any _ ws ps _ (HR.out.below hb0) (HG.out.below hb0) hw hp).mono ?_
    rw [S1.out, s2]
    rintro e w1 ⟨v1, rfl, hr1, hb1⟩
    obtain ⟨aU, cU, rfl⟩ := RdI.form hr1.rd (n := (unsNE ps 32).length) (unsLE_len ps 32)
    have hz1 : w.heap.size + 2 ≤ w1.heap.size := by have := hb1.size; simp at this; omega
    have V0 := (hb1.block w.heap.size (by simp <;> omega)).trans (at_old (at_new rfl))
    have V1 := (hb1.block (w.heap.size + 1) (by simp)).trans (at_new (by simp))
    have B1 := hideIt (below_trans hb0 hb1 (by simp <;> omega))
    have RU := hideIt (hr1.wide (lo' := w.heap.size + 2) (hi' := w1.heap.size) (by simp) (Nat.le_refl _))
    obtain ⟨x1, x2, x3, x4⟩ := two_cells V0
    have RNG := hideIt (range_ints (w := w1) (b := bW) (o := oW) (zs := ws) (fun k hk => (B1.out.cell (p := ⟨bW, oW + k, none⟩) hbW).trans (HCW.out k hk)))
    have SZ := hideIt (show (Tryd.prog.info? 61).map (·.size) = some (ints ws).length by rw [ints_len, L32.out]; exact info32)
    have SZ2 := hideIt (show (Tryd.prog.info? 61).map (·.size) = some (ints ws).toArray.size by rw [List.size_toArray, ints_len, L32.out]; exact info32)
    have SZ3 := hideIt (show noughts32.size = (ints ws).toArray.size by rw [noughts32_size, List.size_toArray, ints_len, L32.out])
    have START : Hid (CrB w w1 (w1.alloc (.cells (ints ws).toArray 61)) (spE (unsNE ps 32) zs ps ws 0) (unsLE ps 32) (.slice (some ⟨bW, oW, none⟩) ws.length cW) (.slice aP ps.length cP) (.slice aU (unsNE ps 32).length cU)) :=
      ⟨row32 w1 ws L32.out, RU.out.alloc (Nat.le_refl _) _, at_old V0, at_old V1, B1.out.alloc (by omega) _, by simp⟩
    have hal := run_noughts32
    have har := run_arrayAt (some ⟨bW, oW, none⟩) ws.length cW (by have := L32.out; omega)
    have hul : (unsNE ps 32).length ≤ 32 := by rw [← unsLE_len]; exact unsLE_le ps 32
    clear hb0 hb1 V0 V1 hr1
    go_wp2_with (first
      | (go_at_call 40; refine (everyKeep_any _ zs _ (Rd.below HZ.out B1.out) (by omega)).mono ?_; rintro e w1 ⟨rfl, rfl⟩)
      | (refine wpList_load_mid rfl 61 (.tmp 27) rfl bW oW rfl (ints ws) _ RNG.out Tryd.underlying61 rfl SZ.out ?_)
      | (refine wpList_store_new rfl 61 (.tmp 8) (.tmp 28) rfl noughts32 (ints ws).toArray rfl rfl SZ2.out SZ3.out (ints_all ws) ?_))
    clear hal har x1 x2 x3 x4
    go_loopw [9, 10, 11, 31] (fun _ _ _ ii wr => ∃ i : Nat, i ≤ (unsNE ps 32).length ∧ ii = .int .i64 i ∧ Hid (CrB w w1 wr (spE (unsNE ps 32) zs ps ws i) (unsLE ps 32) (.slice (some ⟨bW, oW, none⟩) ws.length cW) (.slice aP ps.length cP) (.slice aU (unsNE ps 32).length cU))) (fun _ _ _ ii _ => (unsNE ps 32).length - (intOf ii).toNat)
    case atStart => exact ⟨0, by omega, rfl, START⟩
    case round =>
      obtain ⟨i, hi, rfl, I⟩ := hrel
      by_cases hlt : i < (unsNE ps 32).length
      · have ha32 : (unsNE ps 32)[i]?.getD 0 < 32 := unsNE_lt ps 32 i hlt
        have hal : (unsNE ps 32)[i]?.getD 0 < ws.length := by rw [L32.out]; exact ha32
        have hpl := I.out.plc
        rw [unsLE_len] at hpl
        obtain ⟨_, au', cu', eu', _, hcu⟩ := hpl.rd
        cases eu'
        obtain ⟨bu, ou, rfl, _, _⟩ := hcu (by omega)
        obtain ⟨rfl, _, _, _, _, hclu⟩ := hpl.at
        have hil : i < (unsLE ps 32).length := by rw [unsLE_len]; exact hlt
        have u0 := (hclu i (by omega)).trans (ints_at _ i hil)
        rw [unsLE_at] at u0
        clear hpl hcu hclu
        have HAS := hideIt (unsNE_has ps 32 i hlt)
        obtain ⟨kb0, kb1⟩ := KB.out i
        have hzr := I.out.size
        obtain ⟨y1, y2, y3, y4⟩ := two_cells I.out.box
        obtain ⟨f1, f2, f3, f4⟩ := two_cells (at_old (o := .cells #[.int .i64 0, .int .i64 0] 59) I.out.box)
        by_cases hk : 0 < keepI zs i
        · have SP := hideIt (spE_hit (us := unsNE ps 32) (ws := ws) hk HAS.out)
          have LH := hideIt (lastM_hit hk HAS.out)
          clear hk
          generalize hkk : keepI zs i = kk at *
          have HKK := hideIt hkk
          have hspl : (unsNE ps 32)[i]?.getD 0 < (spE (unsNE ps 32) zs ps ws i).length := by rw [spE_len]; exact hal
          have mn : ((((unsNE ps 32)[i]?.getD 0 : Nat) : Int) == -1) = false := by first | (simp; done) | (simp; omega)
          generalize (unsNE ps 32)[i]?.getD 0 = a at *
          clear hkk
          go_wp2_with fail
          go_region_with (first
            | (go_at_call 57; refine (keepAt_any _ zs i _ (Rd.below HZ.out (by repeat (first | exact I.out.below | refine below_allocQ ?_ _ | refine Below.drew ?_))) hzl (by omega)).mono ?_; rw [HKK.out]; rintro e w' ⟨rfl, rfl⟩)
            | (go_at_call 33; refine (lastWrite_any _ ps _ _ _ (Rd.below H2.out (by repeat (first | exact I.out.below | refine below_allocQ ?_ _ | refine Below.drew ?_))) (HG.out.below (by repeat (first | exact I.out.below | refine below_allocQ ?_ _ | refine Below.drew ?_))) hp kb0 kb1).mono ?_; rw [LH.out]; rintro e wa ⟨rfl, hba⟩; have BA : Hid (Below wr.heap.size wr wa) := below_trans (b := _) (by repeat (first | exact Below.refl _ _ | refine below_allocQ ?_ _ | refine Below.drew ?_)) hba (Below.size (B := wr.heap.size) (by repeat (first | exact Below.refl _ _ | refine below_allocQ ?_ _ | refine Below.drew ?_))); (first | (have VX : Hid (wa.heap[wr.heap.size]? = some (.cells #[.int .i64 0, .int .i64 0] 59 (0, 0))) := (hba.block wr.heap.size (by first | (rw [World.size_alloc]; exact Nat.lt_succ_self _) | (show _ < (World.alloc _ _).heap.size; rw [World.size_alloc]; exact Nat.lt_succ_self _))).trans (at_new rfl); obtain ⟨s0, s1, s2, s3⟩ := two_cells VX.out) | skip); generalize (lastM (a : Int) kk ps).val = yy at *; obtain ⟨k0, k1⟩ := ((HG.out.below I.out.below).below BA.out).cells; obtain ⟨l0, l1⟩ := ((HG.out.below I.out.below).below (below_allocQ BA.out (.cells #[.int .i64 (a : Int), .int .i64 yy] 59))).cells; obtain ⟨_, _, _, _, hfr1, hcl1⟩ := (I.out.later BA.out hz1).arr.at; have r0 := hfr1 a; have r1 := (hcl1 a (by omega)).trans (ints_at _ a hspl); obtain ⟨_, _, _, _, hfr2, hcl2⟩ := (I.out.later (below_allocQ BA.out (.cells #[.int .i64 (a : Int), .int .i64 yy] 59)) hz1).arr.at; have r2 := hfr2 a; have r3 := (hcl2 a (by omega)).trans (ints_at _ a hspl); clear hfr1 hcl1 hfr2 hcl2; clear hba))
          all_goals
            go_wp2
            go_roundw
            case rel =>
              refine ⟨i + 1, by omega, by go_num, ?_⟩
              rw [SP.out]
              first
                | exact ((I.out.later BA.out hz1).store hz1 a yy).later (below_allocQ (Below.refl _ _) _) hz1
                | exact (((I.out.later BA.out hz1).store hz1 a yy).later (below_allocQ (Below.refl _ _) _) hz1).drew
                | exact ((I.out.later BA.out hz1).drew.store hz1 a yy).later (below_allocQ (Below.refl _ _) _) hz1
                | exact (I.out.later (LCut.below (LCut.new BA.out)) hz1).store hz1 a yy
                | exact ((I.out.later (LCut.below (LCut.new BA.out)) hz1).store hz1 a yy).drew
                | exact (I.out.later (LCut.below (LCut.new BA.out).drew) hz1).store hz1 a yy
                | exact ((I.out.later (LCut.below (LCut.new BA.out).drew) hz1).store hz1 a yy).drew
                | exact (I.out.later (LCut.below (LCut.old BA.out (Nat.le_refl _) VX.out)) hz1).store hz1 a yy
                | exact ((I.out.later (LCut.below (LCut.old BA.out (Nat.le_refl _) VX.out)) hz1).store hz1 a yy).drew
                | exact (I.out.later (LCut.below (LCut.old BA.out (Nat.le_refl _) VX.out).drew) hz1).store hz1 a yy
                | exact ((I.out.later (LCut.below (LCut.old BA.out (Nat.le_refl _) VX.out).drew) hz1).store hz1 a yy).drew
            case measure => simp [intOf]; omega
        · have SP := hideIt (spE_zero (us := unsNE ps 32) (ps := ps) hk hal)
          have hk0 : keepI zs i = 0 := by omega
          clear hk
          have LH := hideIt (lastM_zero (ps := ps) (a := (((unsNE ps 32)[i]?.getD 0 : Nat) : Int)) (mo := keepI zs i) (by omega))
          clear hk0
          generalize hkk : keepI zs i = kk at *
          have HKK := hideIt hkk
          generalize (unsNE ps 32)[i]?.getD 0 = a at *
          clear hkk
          go_wp2_with fail
          go_region_with (first
            | (go_at_call 57; refine (keepAt_any _ zs i _ (Rd.below HZ.out (by repeat (first | exact I.out.below | refine below_allocQ ?_ _ | refine Below.drew ?_))) hzl (by omega)).mono ?_; rw [HKK.out]; rintro e w' ⟨rfl, rfl⟩)
            | (go_at_call 33; refine (lastWrite_any _ ps _ _ _ (Rd.below H2.out (by repeat (first | exact I.out.below | refine below_allocQ ?_ _ | refine Below.drew ?_))) (HG.out.below (by repeat (first | exact I.out.below | refine below_allocQ ?_ _ | refine Below.drew ?_))) hp kb0 kb1).mono ?_; rw [LH.out]; rintro e wa ⟨rfl, hba⟩; have BA : Hid (Below wr.heap.size wr wa) := below_trans (b := _) (by repeat (first | exact Below.refl _ _ | refine below_allocQ ?_ _ | refine Below.drew ?_)) hba (Below.size (B := wr.heap.size) (by repeat (first | exact Below.refl _ _ | refine below_allocQ ?_ _ | refine Below.drew ?_))); (first | (have VX : Hid (wa.heap[wr.heap.size]? = some (.cells #[.int .i64 0, .int .i64 0] 59 (0, 0))) := (hba.block wr.heap.size (by first | (rw [World.size_alloc]; exact Nat.lt_succ_self _) | (show _ < (World.alloc _ _).heap.size; rw [World.size_alloc]; exact Nat.lt_succ_self _))).trans (at_new rfl); obtain ⟨s0, s1, s2, s3⟩ := two_cells VX.out) | skip); obtain ⟨k0, k1⟩ := ((HG.out.below I.out.below).below BA.out).cells; obtain ⟨l0, l1⟩ := ((HG.out.below I.out.below).below (below_allocQ BA.out (.cells #[.int .i64 (-1), .int .i64 0] 59))).cells; clear hba))
          all_goals
            go_wp2
            go_roundw
            case rel =>
              refine ⟨i + 1, by omega, by go_num, ?_⟩
              rw [SP.out]
              first
                | exact (I.out.later (LCut.below (LCut.new BA.out)) hz1)
                | exact (I.out.later (LCut.below (LCut.new BA.out)) hz1).drew
                | exact (I.out.later (LCut.below (LCut.new BA.out).drew) hz1)
                | exact (I.out.later (LCut.below (LCut.new BA.out).drew) hz1).drew
                | exact (I.out.later (LCut.below (LCut.old BA.out (Nat.le_refl _) VX.out)) hz1)
                | exact (I.out.later (LCut.below (LCut.old BA.out (Nat.le_refl _) VX.out)) hz1).drew
                | exact (I.out.later (LCut.below (LCut.old BA.out (Nat.le_refl _) VX.out).drew) hz1)
                | exact (I.out.later (LCut.below (LCut.old BA.out (Nat.le_refl _) VX.out).drew) hz1).drew
            case measure => simp [intOf]; omega
      · have e : i = (unsNE ps 32).length := by omega
        subst e
        obtain ⟨t1, t2, t3, t4⟩ := two_cells I.out.res
        have hsz := I.out.size
        go_wp2
        refine bodyPost_ret (v := .tuple #[.agg #[.slice (some ⟨w1.heap.size, 0, none⟩) 32 32, .slice none 0 0], .int .i64 0]) (by simp [results, Tryd.results34, go_sem, t1, t2]) rfl ?_
        refine ⟨_, rfl, ⟨_, _, rfl, ⟨61, by decide, ?_⟩, Row.nil _ _ _ _ _⟩, (I.out.below.setCell (by simp only; omega) _).setCell (by simp only; omega) _⟩
        rw [spE_len, L32.out]
        refine (I.out.arr.same fun b h1 h2 => ?_).wide (by omega) (by simp; omega)
        rw [Below.heap_setCell _ _ _ _ (by simp only; omega), Below.heap_setCell _ _ _ _ (by simp only; omega)]
set_option maxRecDepth 100000 in
set_option maxHeartbeats 8000000 in
theorem implBlkCrash_any (v vZ : Value) (ws : List Int) (ps : List Se) (zs : List Int) (w : World) (h : RdBlk w v ws ps) (hz : RdI w vZ zs) (hG : NW w) (hw : ws.length ≤ 1048576) (hp : ps.length ≤ 1048576) (hzl : zs.length ≤ 1048576) :
    Calls Tryd.prog 11 #[v, vZ] w fun e w' => ∃ v', e = .returned (.tuple #[v', .int .i64 (crashCE ws ps zs)]) ∧ RowBlk w' w.heap.size w'.heap.size v' (crashWE ws ps zs) [] ∧ Below w.heap.size w w' := by
  have HR := hideIt h
  have HZ := hideIt hz
  have HG := hideIt hG
  clear hG
  obtain ⟨vW, vP, rfl, h1, h2⟩ := h
  obtain ⟨aW, cW, rfl, _⟩ := h1.shape
  obtain ⟨aP, cP, rfl, _⟩ := h2.shape
  obtain ⟨aZ, cZ, rfl, _⟩ := hz.shape
  clear h1 h2 hz
  have hb0 : Below w.heap.size w ((w.alloc (.cells #[.slice aW ws.length cW, .slice aP ps.length cP] 26)).alloc (.cells #[.slice none 0 0, .slice none 0 0] 26)) := by
    repeat (refine Below.alloc ?_ (by simp <;> omega) _)
    exact Below.refl _ _
  by_cases c1 : 4096 < zs.length
  · have e1 : crashCE ws ps zs = 2 := by unfold crashCE; rw [if_pos c1]
    have e2 : crashWE ws ps zs = [] := by unfold crashWE; rw [e1]; rfl
    rw [e1, e2]
    clear e1 e2
    go_enter Tryd.func11, Tryd.ntmps11
    go_wp2
    refine bodyPost_ret (v := .tuple #[.agg #[.slice none 0 0, .slice none 0 0], .int .i64 2]) (by simp [results, Tryd.results11, go_sem]) rfl ?_
    exact ⟨_, rfl, RowBlk.zero _ _ _, hb0⟩
  · obtain ⟨e1, e2⟩ := kbC_eq (ws := ws) (ps := ps) c1
    rw [e1, e2]
    clear e1 e2
    have c0 : ¬ (4096 : Int) < (zs.length : Int) := by omega
    go_enter Tryd.func11, Tryd.ntmps11
    go_wp2_with fail
    refine (implCrashBlk_any _ _ ws ps zs _ (HR.out.below hb0) (Rd.below HZ.out hb0) (HG.out.below hb0) hw hp hzl).mono ?_
    rintro e w1 ⟨v1, rfl, hr1, hb1⟩
    have V1 := (hb1.block (w.heap.size + 1) (by simp)).trans (at_new (by simp))
    have hz1 := hb1.size
    simp only [World.size_alloc] at hz1
    have R1 := hideIt (hr1.wide (lo' := w.heap.size + 2) (by simp) (Nat.le_refl _))
    obtain ⟨q1, q2, rfl, k1, k2⟩ := R1.out.rd
    obtain ⟨aw, cw, rfl, -⟩ := k1.shape
    obtain ⟨ap, cp, rfl, -⟩ := k2.shape
    clear k1 k2
    have B1 := hideIt (below_trans hb0 hb1 (by simp <;> omega))
    obtain ⟨x1, x2, x3, x4⟩ := two_cells V1
    clear hb0 hb1 hr1
    go_wp2
    have V2 := two_set1 (two_set0 V1 (.slice aw (kbW ws ps zs).length cw)) (.slice ap 0 cp)
    obtain ⟨t1, t2, -, -⟩ := two_cells V2
    refine bodyPost_ret (v := .tuple #[.agg #[.slice aw (kbW ws ps zs).length cw, .slice ap 0 cp], .int .i64 (kbC ws ps zs)]) (by simp [results, Tryd.results11, go_sem, t1, t2]) rfl ?_
    refine ⟨_, rfl, ((R1.out.setCell (by simp only; omega) _).setCell (by simp only; omega) _).wide (by omega) (by simp), (B1.out.setCell (by simp only; omega) _).setCell (by simp only; omega) _⟩
end Go.Proofs.YtbjcoeimcdodjaaDoor
