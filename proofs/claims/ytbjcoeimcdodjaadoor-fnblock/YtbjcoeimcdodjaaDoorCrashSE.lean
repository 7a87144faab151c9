/- What a crash leaves: by the model. -/
import Derived.Test.YtbjcoeimcdodjaaDoorCrashE
import Derived.Test.YtbjcoeimcdodjaaDoorBlkOwn
import Derived.BigRegion
namespace Go.Proofs.YtbjcoeimcdodjaaDoor
open Go.RowKit
structure CrIE (w wr : World) (n : Nat) (X : List Int) (ps : List Se) (us : List Int) (lo hi hi2 : Nat) (vW vP vU : Value) : Prop where
  words : Row wr 3 1 lo hi vW n (ints X)
  pend : Row wr 59 2 lo hi vP ps.length (ses ps)
  plc : Row wr 3 1 hi hi2 vU us.length (ints us)
  box : wr.heap[w.heap.size]? = some (.cells #[vW, vP] 26 (0, 0))
  res : wr.heap[w.heap.size + 1]? = some (.cells #[.slice none 0 0, .slice none 0 0] 26 (0, 0))
  below : Below w.heap.size w wr
  size : hi2 ≤ wr.heap.size
theorem CrIE.drewN {w wr : World} {n : Nat} {X : List Int} {ps : List Se} {us : List Int} {lo hi hi2 : Nat} {vW vP vU : Value} (h : CrIE w wr n X ps us lo hi hi2 vW vP vU) (m : Nat) : CrIE w (wr.drewN m) n X ps us lo hi hi2 vW vP vU := by
  obtain ⟨h1, h2, h3, h4, h5, h6, h7⟩ := h
  exact ⟨h1.same (fun _ _ _ => rfl), h2.same (fun _ _ _ => rfl), h3.same (fun _ _ _ => rfl), h4, h5, below_drewN h6 m, h7⟩
theorem CrIE.drew {w wr : World} {n : Nat} {X : List Int} {ps : List Se} {us : List Int} {lo hi hi2 : Nat} {vW vP vU : Value} (h : CrIE w wr n X ps us lo hi hi2 vW vP vU) : CrIE w wr.drew n X ps us lo hi hi2 vW vP vU := by
  obtain ⟨h1, h2, h3, h4, h5, h6, h7⟩ := h
  exact ⟨h1.same (fun _ _ _ => rfl), h2.same (fun _ _ _ => rfl), h3.same (fun _ _ _ => rfl), h4, h5, h6.drew, h7⟩
theorem CrIE.store {w wr : World} {n : Nat} {X : List Int} {ps : List Se} {us : List Int} {lo hi hi2 : Nat} {b cap : Nat} {vP vU : Value} (h : CrIE w wr n X ps us lo hi hi2 (.slice (some ⟨b, 0, none⟩) n cap) vP vU) (hlo : w.heap.size + 2 ≤ lo) (a : Nat) (x : Int) :
    CrIE w (wr.setCell ⟨b, a, none⟩ (.int .i64 x)) n (X.set a x) ps us lo hi hi2 (.slice (some ⟨b, 0, none⟩) n cap) vP vU := by
  obtain ⟨h1, h2, h3, h4, h5, h6, h7⟩ := h
  obtain ⟨_, hb1, hb2, _⟩ := h1.at
  refine ⟨?_, h2.apart h1 (by decide) (World.ownsRow.stored h1.1 _ _).2, h3.same (fun k hk _ => Below.heap_setCell _ _ _ _ (by simp only; omega)), ?_, ?_, h6.setCell (by simp only; omega) _, by simp; omega⟩
  · rw [← ints_set]; exact h1.stored _ _
  · rw [Below.heap_setCell _ _ _ _ (by simp only; omega)]; exact h4
  · rw [Below.heap_setCell _ _ _ _ (by simp only; omega)]; exact h5
def midE (us : List Nat) (zs : List Int) (ps : List Se) (ws : List Int) (i n : Nat) : List Int :=
  (spE us zs ps ws i).set (us[i]?.getD 0) (keptE (us[i]?.getD 0) ((spE us zs ps ws i)[us[i]?.getD 0]?.getD 0, keepI zs i) (ps.take n)).1
def midKE (us : List Nat) (zs : List Int) (ps : List Se) (ws : List Int) (i n : Nat) : Int :=
  (keptE (us[i]?.getD 0) ((spE us zs ps ws i)[us[i]?.getD 0]?.getD 0, keepI zs i) (ps.take n)).2
theorem midE_zero (us : List Nat) (zs : List Int) (ps : List Se) (ws : List Int) (i : Nat) (h : us[i]?.getD 0 < ws.length) : midE us zs ps ws i 0 = spE us zs ps ws i := by
  unfold midE
  have hl : us[i]?.getD 0 < (spE us zs ps ws i).length := by rw [spE_len]; exact h
  rw [List.take_zero, keptE_nil]
  simp [hl]
theorem midKE_zero (us : List Nat) (zs : List Int) (ps : List Se) (ws : List Int) (i : Nat) : midKE us zs ps ws i 0 = keepI zs i := rfl
theorem keptE_cut {a : Nat} {s : Int × Int} {ps : List Se} {n : Nat} (h : ¬ 0 < (keptE a s (ps.take n)).2) : keptE a s ps = keptE a s (ps.take n) := by
  have e : keptE a s (ps.take n ++ ps.drop n) = keptE a s (ps.take n) := by rw [keptE_append, keptE_stop h]
  rw [List.take_append_drop] at e
  exact e
theorem midE_end {us : List Nat} {zs : List Int} {ps : List Se} {ws : List Int} {i n : Nat} (_hn : n ≤ ps.length) (h : n = ps.length ∨ ¬ 0 < midKE us zs ps ws i n) : midE us zs ps ws i n = spE us zs ps ws (i + 1) := by
  unfold midE
  rw [spE]
  congr 2
  rcases h with h | h
  · rw [h, List.take_length]
  · exact (keptE_cut h).symm
theorem midE_hit {us : List Nat} {zs : List Int} {ps : List Se} {ws : List Int} {i n : Nat} (hn : n < ps.length) (hk : 0 < midKE us zs ps ws i n) (h : ps[n].at_ = ((us[i]?.getD 0 : Nat) : Int)) :
    midE us zs ps ws i (n + 1) = (midE us zs ps ws i n).set (us[i]?.getD 0) ps[n].val ∧ midKE us zs ps ws i (n + 1) = midKE us zs ps ws i n - 1 := by
  unfold midE midKE at *
  rw [take_snoc ps n hn, keptE_snoc]
  unfold kept1E
  rw [if_pos ⟨h, hk⟩]
  exact ⟨by rw [List.set_set], rfl⟩
theorem midE_miss {us : List Nat} {zs : List Int} {ps : List Se} {ws : List Int} {i n : Nat} (hn : n < ps.length) (h : ¬ ps[n].at_ = ((us[i]?.getD 0 : Nat) : Int)) :
    midE us zs ps ws i (n + 1) = midE us zs ps ws i n ∧ midKE us zs ps ws i (n + 1) = midKE us zs ps ws i n := by
  unfold midE midKE
  rw [take_snoc ps n hn, keptE_snoc]
  unfold kept1E
  rw [if_neg (fun x => h x.1)]
  exact ⟨rfl, rfl⟩
theorem midE_len (us : List Nat) (zs : List Int) (ps : List Se) (ws : List Int) (i n : Nat) : (midE us zs ps ws i n).length = ws.length := by unfold midE; rw [List.length_set, spE_len]
theorem midKE_bd {us : List Nat} {zs : List Int} {ps : List Se} {ws : List Int} {i n : Nat} (h : 0 ≤ keepI zs i ∧ keepI zs i ≤ 400) : 0 ≤ midKE us zs ps ws i n ∧ midKE us zs ps ws i n ≤ 400 := by
  have := keptE_nonneg (a := us[i]?.getD 0) (ps.take n) ((spE us zs ps ws i)[us[i]?.getD 0]?.getD 0, keepI zs i) h.1
  unfold midKE
  simp only at this
  omega
set_option maxRecDepth 100000 in
set_option maxHeartbeats 8000000 in
theorem l02Crash_any (v vZ : Value) (ws : List Int) (ps : List Se) (zs : List Int) (w : World) (h : RdBlk w v ws ps) (hz : RdI w vZ zs) (hw : ws.length ≤ 1048576) (hp : ps.length ≤ 1048576) (hzl : zs.length ≤ 1048576) (hok : blkB ws ps = true) (hks : keepsB zs = true) :
    Calls Tryd.prog 38 #[v, vZ] w fun e w' => ∃ v', e = .returned v' ∧ RowBlk w' w.heap.size w'.heap.size v' (spE (unsNE ps 32) zs ps ws (unsNE ps 32).length) [] ∧ Below w.heap.size w w' := by
  have HR := hideIt h
  obtain ⟨vW, vP, rfl, h1, h2⟩ := h
  obtain ⟨aW, cW, rfl, _⟩ := h1.shape
  obtain ⟨aP, cP, rfl, _⟩ := h2.shape
  obtain ⟨aZ, cZ, rfl, _, hcZ⟩ := hz.shape
  have HZ := hideIt hcZ
  have KB := hideIt (keepI_of hks)
  have L32 := hideIt (blkB_len hok).1
  clear h1 h2 hz hcZ hok hks
  have hb0 : Below w.heap.size w ((w.alloc (.cells #[.slice aW ws.length cW, .slice aP ps.length cP] 26)).alloc (.cells #[.slice none 0 0, .slice none 0 0] 26)) := by
    repeat (refine Below.alloc ?_ (by simp <;> omega) _)
    exact Below.refl _ _
  go_enter Tryd.func38, Tryd.ntmps38
  go_wp2_with fail
  refine (l02Own_row _ ws ps _ (HR.out.below hb0) (by omega) (by omega)).mono ?_
  rintro e w2 ⟨v2, rfl, hr2, hb2⟩
  obtain ⟨vW2, vP2, rfl, hI2, hS2⟩ := hr2
  obtain ⟨aW2, cW2, rfl⟩ := RdI.form hI2.rd rfl
  obtain ⟨aP2, cP2, rfl⟩ := RdE.form hS2.rd rfl
  simp only [World.size_alloc] at hI2 hS2
  have hz2 : w.heap.size + 2 ≤ w2.heap.size := by have := hb2.size; simp at this; omega
  have V0 := (hb2.block w.heap.size (by simp <;> omega)).trans (at_old (at_new rfl))
  have V1 := (hb2.block (w.heap.size + 1) (by simp)).trans (at_new (by simp))
  have B2 := below_trans hb0 hb2 (by simp <;> omega)
  obtain ⟨x1, x2, x3, x4⟩ := two_cells V0
  have KEEP : ∀ b, w.heap.size + 2 ≤ b → ((w2.setCell ⟨w.heap.size, 0, none⟩ (.slice aW2 ws.length cW2)).setCell ⟨w.heap.size, 1, none⟩ (.slice aP2 ps.length cP2)).heap[b]? = w2.heap[b]? := fun b hb => by
    rw [Below.heap_setCell _ _ _ _ (by simp only; omega), Below.heap_setCell _ _ _ _ (by simp only; omega)]
  have RW := hideIt (hI2.same (fun b hb1 _ => KEEP b (by omega)))
  have RP := hideIt (hS2.same (fun b hb1 _ => KEEP b (by omega)))
  have VB := hideIt (two_set1 (two_set0 V0 (.slice aW2 ws.length cW2)) (.slice aP2 ps.length cP2))
  have VR : Hid (((w2.setCell ⟨w.heap.size, 0, none⟩ (.slice aW2 ws.length cW2)).setCell ⟨w.heap.size, 1, none⟩ (.slice aP2 ps.length cP2)).heap[w.heap.size + 1]? = some (.cells #[.slice none 0 0, .slice none 0 0] 26 (0, 0))) := by
    show _ = _
    rw [Below.heap_setCell _ _ _ _ (by simp only; omega), Below.heap_setCell _ _ _ _ (by simp only; omega)]
    exact V1
  have BB := hideIt ((B2.setCell (p := ⟨w.heap.size, 0, none⟩) (by simp only; omega) (.slice aW2 ws.length cW2)).setCell (p := ⟨w.heap.size, 1, none⟩) (by simp only; omega) (.slice aP2 ps.length cP2))
  obtain ⟨y1, y2, y3, y4⟩ := two_cells VB.out
  clear hb0 hb2 hI2 hS2 V0 V1 B2 KEEP
  go_wp2_with fail
  refine (l02Unsure_any _ ws ps _ ⟨_, _, rfl, RW.out.rd, RP.out.rd⟩ hp).mono ?_
  rintro e w3 ⟨v3, rfl, hr3, hb3⟩
  obtain ⟨aU, cU, rfl⟩ := RdI.form hr3.rd (n := (unsNE ps 32).length) (unsLE_len ps 32)
  have hz3 : w2.heap.size ≤ w3.heap.size := by have := hb3.size; simpa using this
  have hr3' : Row w3 3 1 w2.heap.size w3.heap.size (.slice aU (unsNE ps 32).length cU) (unsLE ps 32).length (ints (unsLE ps 32)) := hr3.wide (by simp) (Nat.le_refl _)
  have INV : Hid (CrIE w w3 ws.length (spE (unsNE ps 32) zs ps ws 0) ps (unsLE ps 32) (w.heap.size + 1 + 1) w2.heap.size w3.heap.size (.slice aW2 ws.length cW2) (.slice aP2 ps.length cP2) (.slice aU (unsNE ps 32).length cU)) :=
    ⟨RW.out.below hb3 (by simp), RP.out.below hb3 (by simp), hr3', (hb3.block _ (by simp; omega)).trans VB.out, (hb3.block _ (by simp; omega)).trans VR.out, below_trans BB.out hb3 (by simp; omega), Nat.le_refl _⟩
  have hul : (unsNE ps 32).length ≤ 32 := by rw [← unsLE_len]; exact unsLE_le ps 32
  clear hr3 hr3' hb3 y1 y2 y3 y4
  go_wp2
  go_loopw [6, 7, 8] (fun ii _ _ wr => ∃ i : Nat, i ≤ (unsNE ps 32).length ∧ ii = .int .i64 i ∧ Hid (CrIE w wr ws.length (spE (unsNE ps 32) zs ps ws i) ps (unsLE ps 32) (w.heap.size + 1 + 1) w2.heap.size w3.heap.size (.slice aW2 ws.length cW2) (.slice aP2 ps.length cP2) (.slice aU (unsNE ps 32).length cU))) (fun ii _ _ _ => (unsNE ps 32).length - (intOf ii).toNat)
  case atStart => exact ⟨0, by omega, rfl, INV⟩
  case round =>
    obtain ⟨i, hi, rfl, I⟩ := hrel
    by_cases hlt : i < (unsNE ps 32).length
    · have hal : (unsNE ps 32)[i]?.getD 0 < ws.length := by rw [L32.out]; exact unsNE_lt ps 32 i hlt
      by_cases h0 : zs.length = 0
      · have KST : Hid (Value.int IntKind.i64 0 = .int .i64 (midKE (unsNE ps 32) zs ps ws i 0)) := by
          show _ = _
          rw [midKE_zero]; unfold keepI; rw [if_pos h0]
        have h0' : ¬ (0 : Int) < (zs.length : Int) := by omega
        clear h0
        go_wp2
        go_loopw [7, 8] (fun kk nn wr => ∃ n : Nat, n ≤ ps.length ∧ nn = .int .i64 n ∧ kk = .int .i64 (midKE (unsNE ps 32) zs ps ws i n) ∧ Hid (CrIE w wr ws.length (midE (unsNE ps 32) zs ps ws i n) ps (unsLE ps 32) (w.heap.size + 1 + 1) w2.heap.size w3.heap.size (.slice aW2 ws.length cW2) (.slice aP2 ps.length cP2) (.slice aU (unsNE ps 32).length cU))) (fun _ nn _ => ps.length - (intOf nn).toNat)
        case atStart => exact ⟨0, by omega, rfl, KST.out, by rw [midE_zero _ _ _ _ _ hal]; exact I⟩
        case round =>
          obtain ⟨n, hn, rfl, rfl, J⟩ := hrel
          obtain ⟨kb0, kb1⟩ := midKE_bd (us := unsNE ps 32) (ps := ps) (ws := ws) (n := n) (KB.out i)
          obtain ⟨y1, y2, y3, y4⟩ := two_cells J.out.box
          by_cases hlt2 : n < ps.length
          · by_cases hk : 0 < midKE (unsNE ps 32) zs ps ws i n
            · obtain ⟨_, ao', cap', e', _, hc⟩ := J.out.pend.rd
              cases e'
              obtain ⟨bp, op, rfl, _, _⟩ := hc (by omega)
              obtain ⟨rfl, _, _, _, _, hcl⟩ := J.out.pend.at
              have e0 := (hcl (n * 2) (by omega)).trans (ses_at0 _ n hlt2)
              have e1 := (hcl (n * 2 + 1) (by omega)).trans (ses_at1 _ n hlt2)
              clear hc hcl
              have hpl := J.out.plc
              rw [unsLE_len] at hpl
              obtain ⟨_, au', cu', eu', _, hcu⟩ := hpl.rd
              cases eu'
              obtain ⟨bu, ou, rfl, _, _⟩ := hcu (by omega)
              obtain ⟨rfl, _, _, _, _, hclu⟩ := hpl.at
              have hil : i < (unsLE ps 32).length := by rw [unsLE_len]; exact hlt
              have u0 := (hclu i (by omega)).trans (ints_at _ i hil)
              rw [unsLE_at] at u0
              clear hpl hcu hclu
              obtain ⟨_, aw', cw', ew', _, hcw⟩ := J.out.words.rd
              cases ew'
              obtain ⟨bw, ow, rfl, _, _⟩ := hcw (by omega)
              obtain ⟨rfl, _, _, _, hfrw, hclw⟩ := J.out.words.at
              have hj : (unsNE ps 32)[i]?.getD 0 < (midE (unsNE ps 32) zs ps ws i n).length := by rw [midE_len]; exact hal
              have g0 := hfrw ((unsNE ps 32)[i]?.getD 0)
              have g1 := (hclw ((unsNE ps 32)[i]?.getD 0) (by omega)).trans (ints_at _ _ hj)
              clear hcw hfrw hclw
              have hlt2' : (n : Int) < (ps.length : Int) := by omega
              have hlt' : (i : Int) < ((unsNE ps 32).length : Int) := by omega
              have n0 : (0 : Int) ≤ (n : Int) := by omega
              have i0 : (0 : Int) ≤ (i : Int) := by omega
              have a0 : (0 : Int) ≤ (((unsNE ps 32)[i]?.getD 0 : Nat) : Int) := by omega
              have a1 : (((unsNE ps 32)[i]?.getD 0 : Nat) : Int) < (ws.length : Int) := by omega
              have MH := hideIt (fun h => midE_hit (zs := zs) (ws := ws) hlt2 hk h)
              have MM := hideIt (fun h => midE_miss (us := unsNE ps 32) (zs := zs) (ws := ws) (i := i) hlt2 h)
              generalize midKE (unsNE ps 32) zs ps ws i n = mk at *
              generalize ha : (unsNE ps 32)[i]?.getD 0 = a at *
              clear ha
              by_cases c : ps[n].at_ = (a : Int)
              · obtain ⟨m1, m2⟩ := MH.out c
                have M1 := hideIt m1
                have M2 := hideIt m2
                have c' : (ps[n].at_ == (a : Int)) = true := by simpa using c
                clear c m1 m2 MH MM
                go_wp2
                go_quiet (fail)
                go_wp2
                go_region
                all_goals
                  go_wp2
                  go_roundw
                  case rel =>
                    refine ⟨n + 1, by omega, by go_num, by rw [M2.out], ?_⟩
                    rw [M1.out]
                    first | exact ((J.out.drewN _).store (Nat.le_refl _) _ _).drew | exact ((J.out.drewN _).drew).store (Nat.le_refl _) _ _
                  case measure => simp [intOf]; omega
              · obtain ⟨m1, m2⟩ := MM.out c
                have M1 := hideIt m1
                have M2 := hideIt m2
                have c' : (ps[n].at_ == (a : Int)) = false := by simpa using c
                clear c m1 m2 MH MM
                go_wp2
                go_quiet (fail)
                go_wp2
                go_roundw
                case rel =>
                  refine ⟨n + 1, by omega, by go_num, by rw [M2.out], ?_⟩
                  rw [M1.out]
                  exact J.out.drewN _
                case measure => simp [intOf]; omega
            · have E := hideIt (midE_end (by omega) (.inr hk))
              have hk' : ¬ (0 : Int) < midKE (unsNE ps 32) zs ps ws i n := hk
              have hkd : decide ((0 : Int) < midKE (unsNE ps 32) zs ps ws i n) = false := by simpa using hk
              clear hk
              go_wp2
              go_roundw
              case rel => exact ⟨i + 1, by omega, by go_num, E.out ▸ J⟩
              case measure => simp [intOf]; omega
          · have E := hideIt (midE_end (zs := zs) (us := unsNE ps 32) (ws := ws) (i := i) hn (.inl (by omega)))
            go_wp2
            go_roundw
            case rel => exact ⟨i + 1, by omega, by go_num, E.out ▸ J⟩
            case measure => simp [intOf]; omega
      · have hl : i % zs.length < zs.length := Nat.mod_lt _ (by omega)
        have KST : Hid (Value.int IntKind.i64 zs[i % zs.length] = .int .i64 (midKE (unsNE ps 32) zs ps ws i 0)) := by
          show _ = _
          rw [midKE_zero]; unfold keepI; rw [if_neg h0, List.getElem?_eq_getElem hl, Option.getD_some]
        obtain ⟨bz, oz, rfl, hbz, hcz⟩ := HZ.out (by omega)
        have hck := (I.out.below.cell (p := ⟨bz, oz + i % zs.length, none⟩) hbz).trans (hcz (i % zs.length) hl)
        have h0' : (0 : Int) < (zs.length : Int) := by omega
        have m0 : (0 : Int) ≤ (i : Int) % (zs.length : Int) := Int.emod_nonneg _ (by omega)
        have m1 : (i : Int) % (zs.length : Int) < (zs.length : Int) := Int.emod_lt_of_pos _ h0'
        have mt : ((i : Int) % (zs.length : Int)).toNat = i % zs.length := by rw [← Int.natCast_emod, Int.toNat_natCast]
        have hck2 : wr.cell? ⟨bz, oz + ((i : Int) % (zs.length : Int)).toNat, none⟩ = some (.int .i64 zs[i % zs.length]) := by rw [mt]; exact hck
        clear h0 hcz mt
        go_wp2
        go_loopw [7, 8] (fun kk nn wr => ∃ n : Nat, n ≤ ps.length ∧ nn = .int .i64 n ∧ kk = .int .i64 (midKE (unsNE ps 32) zs ps ws i n) ∧ Hid (CrIE w wr ws.length (midE (unsNE ps 32) zs ps ws i n) ps (unsLE ps 32) (w.heap.size + 1 + 1) w2.heap.size w3.heap.size (.slice aW2 ws.length cW2) (.slice aP2 ps.length cP2) (.slice aU (unsNE ps 32).length cU))) (fun _ nn _ => ps.length - (intOf nn).toNat)
        case atStart => exact ⟨0, by omega, rfl, KST.out, by rw [midE_zero _ _ _ _ _ hal]; exact I⟩
        case round =>
          obtain ⟨n, hn, rfl, rfl, J⟩ := hrel
          obtain ⟨kb0, kb1⟩ := midKE_bd (us := unsNE ps 32) (ps := ps) (ws := ws) (n := n) (KB.out i)
          obtain ⟨y1, y2, y3, y4⟩ := two_cells J.out.box
          by_cases hlt2 : n < ps.length
          · by_cases hk : 0 < midKE (unsNE ps 32) zs ps ws i n
            · obtain ⟨_, ao', cap', e', _, hc⟩ := J.out.pend.rd
              cases e'
              obtain ⟨bp, op, rfl, _, _⟩ := hc (by omega)
              obtain ⟨rfl, _, _, _, _, hcl⟩ := J.out.pend.at
              have e0 := (hcl (n * 2) (by omega)).trans (ses_at0 _ n hlt2)
              have e1 := (hcl (n * 2 + 1) (by omega)).trans (ses_at1 _ n hlt2)
              clear hc hcl
              have hpl := J.out.plc
              rw [unsLE_len] at hpl
              obtain ⟨_, au', cu', eu', _, hcu⟩ := hpl.rd
              cases eu'
              obtain ⟨bu, ou, rfl, _, _⟩ := hcu (by omega)
              obtain ⟨rfl, _, _, _, _, hclu⟩ := hpl.at
              have hil : i < (unsLE ps 32).length := by rw [unsLE_len]; exact hlt
              have u0 := (hclu i (by omega)).trans (ints_at _ i hil)
              rw [unsLE_at] at u0
              clear hpl hcu hclu
              obtain ⟨_, aw', cw', ew', _, hcw⟩ := J.out.words.rd
              cases ew'
              obtain ⟨bw, ow, rfl, _, _⟩ := hcw (by omega)
              obtain ⟨rfl, _, _, _, hfrw, hclw⟩ := J.out.words.at
              have hj : (unsNE ps 32)[i]?.getD 0 < (midE (unsNE ps 32) zs ps ws i n).length := by rw [midE_len]; exact hal
              have g0 := hfrw ((unsNE ps 32)[i]?.getD 0)
              have g1 := (hclw ((unsNE ps 32)[i]?.getD 0) (by omega)).trans (ints_at _ _ hj)
              clear hcw hfrw hclw
              have hlt2' : (n : Int) < (ps.length : Int) := by omega
              have hlt' : (i : Int) < ((unsNE ps 32).length : Int) := by omega
              have n0 : (0 : Int) ≤ (n : Int) := by omega
              have i0 : (0 : Int) ≤ (i : Int) := by omega
              have a0 : (0 : Int) ≤ (((unsNE ps 32)[i]?.getD 0 : Nat) : Int) := by omega
              have a1 : (((unsNE ps 32)[i]?.getD 0 : Nat) : Int) < (ws.length : Int) := by omega
              have MH := hideIt (fun h => midE_hit (zs := zs) (ws := ws) hlt2 hk h)
              have MM := hideIt (fun h => midE_miss (us := unsNE ps 32) (zs := zs) (ws := ws) (i := i) hlt2 h)
              generalize midKE (unsNE ps 32) zs ps ws i n = mk at *
              generalize ha : (unsNE ps 32)[i]?.getD 0 = a at *
              clear ha
              by_cases c : ps[n].at_ = (a : Int)
              · obtain ⟨m1, m2⟩ := MH.out c
                have M1 := hideIt m1
                have M2 := hideIt m2
                have c' : (ps[n].at_ == (a : Int)) = true := by simpa using c
                clear c m1 m2 MH MM
                go_wp2
                go_quiet (fail)
                go_wp2
                go_region
                all_goals
                  go_wp2
                  go_roundw
                  case rel =>
                    refine ⟨n + 1, by omega, by go_num, by rw [M2.out], ?_⟩
                    rw [M1.out]
                    first | exact ((J.out.drewN _).store (Nat.le_refl _) _ _).drew | exact ((J.out.drewN _).drew).store (Nat.le_refl _) _ _
                  case measure => simp [intOf]; omega
              · obtain ⟨m1, m2⟩ := MM.out c
                have M1 := hideIt m1
                have M2 := hideIt m2
                have c' : (ps[n].at_ == (a : Int)) = false := by simpa using c
                clear c m1 m2 MH MM
                go_wp2
                go_quiet (fail)
                go_wp2
                go_roundw
                case rel =>
                  refine ⟨n + 1, by omega, by go_num, by rw [M2.out], ?_⟩
                  rw [M1.out]
                  exact J.out.drewN _
                case measure => simp [intOf]; omega
            · have E := hideIt (midE_end (by omega) (.inr hk))
              have hk' : ¬ (0 : Int) < midKE (unsNE ps 32) zs ps ws i n := hk
              have hkd : decide ((0 : Int) < midKE (unsNE ps 32) zs ps ws i n) = false := by simpa using hk
              clear hk
              go_wp2
              go_roundw
              case rel => exact ⟨i + 1, by omega, by go_num, E.out ▸ J⟩
              case measure => simp [intOf]; omega
          · have E := hideIt (midE_end (zs := zs) (us := unsNE ps 32) (ws := ws) (i := i) hn (.inl (by omega)))
            go_wp2
            go_roundw
            case rel => exact ⟨i + 1, by omega, by go_num, E.out ▸ J⟩
            case measure => simp [intOf]; omega
    · have e : i = (unsNE ps 32).length := by omega
      subst e
      obtain ⟨y1, y2, y3, y4⟩ := two_cells I.out.box
      obtain ⟨t1, t2, t3, t4⟩ := two_cells I.out.res
      obtain ⟨z1, z2, z3, z4⟩ := two_cells (at_old (o := .cells #[] 59) I.out.box)
      obtain ⟨z5, z6, z7, z8⟩ := two_cells (at_old (o := .cells #[] 59) I.out.res)
      have hsz := I.out.size
      have ho : (wr.alloc (.cells #[] 59)).ownsRow (w.heap.size + 2) 59 2 (.slice (some ⟨wr.heap.size, 0, none⟩) 0 0) 0 [] := by
        simpa using World.ownsRow_lit (base := w.heap.size + 2) (e := 59) (size := 2) wr #[] 0 (by omega) (by simp) rfl
      have HO := hideIt ho
      clear ho
      go_wp2
      refine bodyPost_ret (v := .agg #[.slice aW2 ws.length cW2, .slice (some ⟨wr.heap.size, 0, none⟩) 0 0]) (by simp [results, Tryd.results38, go_sem, z5, z6]) rfl ?_
      refine ⟨_, rfl, ⟨_, _, rfl, Row.z ?_, ?_⟩, (((I.out.below.alloc (by omega) _).setCell (by simp only; omega) _).setCell (by simp only; omega) _).setCell (by simp only; omega) _⟩
      · rw [spE_len]
        refine ((I.out.words.alloc (by omega) (.cells #[] 59)).same fun b h1 h2 => ?_).wide (by omega) (by simp; omega)
        rw [Below.heap_setCell _ _ _ _ (by simp only; omega), Below.heap_setCell _ _ _ _ (by simp only; omega), Below.heap_setCell _ _ _ _ (by simp only; omega)]
      · refine ((own_block HO.out).same fun b h1 h2 => ?_).wide (by omega) (by simp)
        rw [Below.heap_setCell _ _ _ _ (by simp only; omega), Below.heap_setCell _ _ _ _ (by simp only; omega), Below.heap_setCell _ _ _ _ (by simp only; omega)]
end Go.Proofs.YtbjcoeimcdodjaaDoor
