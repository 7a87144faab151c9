/- What is told of a model: the program's walk. -/
import Derived.Test.YtmeiionabonhnaaGreatDoorZBN
namespace Go.Proofs.YtmeiionabonhnaaGreatDoor
open Go.RowKit Go.Maps Go.MapKept Go.ChangeMaps Go.WideShapes
open Go.WideElems (Fit rd rg pl rd_val elemAt)
theorem grownN {w w' : World} (h : Below w.heap.size w w') : w.grownBy w' none := ⟨h.os, h.tape, h.output, h.size, fun i hi _ => h.block i hi⟩
set_option maxRecDepth 100000 in
set_option maxHeartbeats 16000000 in
theorem implModelText_any (v : Value) (ts : List Th) (ps : List Den) (w : World) (h : RdMd w v ts ps) (hn : ts.length ≤ 1048576) (hp : ps.length ≤ 1048576) (hs : ∀ k (h : k < ps.length), ps[k].name.size ≤ maxLen) (hT : TS w) (hE : ED w) (hF : FD w) (hQ : PT w) :
    Calls Tryz.prog 10 #[v] w fun e w' => ∃ vL, e = .returned (.tuple #[vL, .int .i64 (mtC ts ps)]) ∧ Row w' 9 1 w.heap.size w'.heap.size vL (mtL ts ps).length (strs (mtL ts ps)) ∧ Below w.heap.size w w' := by
  have LO := hideIt (fun w1 (hb : Below w.heap.size w w1) => implModelOK_any v ts ps w1 (h.below2 hb) hn hp hs (hT.below hb) (hE.below hb) (hF.below hb))
  have LS := hideIt (fun w1 (hb : Below w.heap.size w w1) => shapeOf_any v ts ps w1 (h.below2 hb) hn)
  have LP := hideIt (fun v1 w1 (hb : Below w.heap.size w w1) (h1 : RdIm w1 v1 (imgM ts) ps) => implPathsOf_of sortDen_holds v1 (imgM ts) ps w1 h1 (by rw [imgM_len]; exact hn) hp (hT.below hb) (hE.below hb) (hF.below hb) (imgM_R ts) hs)
  obtain ⟨vT, vP, rfl, ⟨us, eu, hU⟩, hD⟩ := h
  have LB := hideIt (fun w1 (hb : Below w.heap.size w w1) (hm : modB ts ps = true) => thingsByPath_any _ us ps w1 vT vP rfl (hU.below hb) (Rd.below hD hb) (by
    have hi : imgB (imgM ts) ps = true := by
      cases q : imgB (imgM ts) ps with
      | true => rfl
      | false => rw [mod_not q] at hm; cases hm
    have := (pimg_all hi).2.1; omega) (by
    have hi : imgB (imgM ts) ps = true := by
      cases q : imgB (imgM ts) ps with
      | true => rfl
      | false => rw [mod_not q] at hm; cases hm
    rw [map_fst_len eu]; exact (img_pages hi).1) (hF.below hb) (fun y hy => by
    have hi : imgB (imgM ts) ps = true := by
      cases q : imgB (imgM ts) ps with
      | true => rfl
      | false => rw [mod_not q] at hm; cases hm
    have en := ent_dir hi (taken_ents hi) hy
    exact ⟨taken_name hi hy, en.1.1, en.1.2, taken_chn hi hy⟩) (fun y hy => by
    have hi : imgB (imgM ts) ps = true := by
      cases q : imgB (imgM ts) ps with
      | true => rfl
      | false => rw [mod_not q] at hm; cases hm
    have := pthU_size (ts := takenD ps) (fun y hy => taken_name hi hy) 16 y ⟨#[]⟩ (taken_name hi hy)
    have z : (⟨#[]⟩ : ByteArray).size = 0 := rfl
    unfold maxLen
    omega))
  have TOLD := hideIt (fun (hm : modB ts ps = true) s (hs : s ∈ pthN (imgM ts) ps 16 0 ⟨#[]⟩) => told (us := us) eu hm hs)
  obtain ⟨aT, cT, rfl⟩ := (show RdTh w vT ts from ⟨us, eu, hU⟩).form
  obtain ⟨aP, cP, rfl, -, -⟩ := hD.shape
  have HU := hideIt hU
  have HQ := hideIt hQ
  clear hs hn hp hT hE hF hQ hU hD
  obtain ⟨ML, eL⟩ : ∃ ML, ML = mtL ts ps := ⟨_, rfl⟩
  obtain ⟨MC, eC⟩ : ∃ MC, MC = mtC ts ps := ⟨_, rfl⟩
  rw [← eL, ← eC]
  have EL := hideIt eL
  have EC := hideIt eC
  clear eL eC
  obtain ⟨V, hV⟩ : ∃ V, V = w.alloc (.cells #[.slice aT ts.length cT, .slice aP ps.length cP] 33) := ⟨_, rfl⟩
  have BV : Hid (Below w.heap.size w V) := by rw [hV]; exact (Below.refl _ _).alloc (Nat.le_refl _) _
  have XV : Hid (V.heap[w.heap.size]? = some (.cells #[.slice aT ts.length cT, .slice aP ps.length cP] 33 (0, 0))) := by rw [hV]; exact at_new rfl
  have zV : w.heap.size < V.heap.size := (Array.getElem?_eq_some_iff.1 XV.out).1
  go_enter Tryz.func10, Tryz.ntmps10
  go_upto_region 1 with fail
  rw [← hV]
  clear hV
  obtain ⟨x0, x1, -⟩ := two_cells XV.out
  go_wp2_with fail
  refine (LO.out V BV.out).mono ?_
  rintro e w1 ⟨rfl, hb⟩
  have B1 := hideIt (below_trans BV.out hb BV.out.size)
  have X1 := hideIt ((hb.block w.heap.size zV).trans XV.out)
  have z1 : w.heap.size < w1.heap.size := by have := hb.size; omega
  clear hb BV XV zV x0 x1 LO
  by_cases hm : modB ts ps = true
  rotate_left
  · have hm' : modB ts ps = false := by simpa using hm
    have e1 : mtL ts ps = [] := if_neg hm
    have e2 : mtC ts ps = 1 := if_neg hm
    rw [hm']
    obtain rfl : ML = [] := EL.out.trans e1
    obtain rfl : MC = 1 := EC.out.trans e2
    clear hm hm' LS LP LB TOLD e1 e2 EL EC
    go_wp2
    go_ret2
    exact ⟨_, rfl, Row.nil _ _ _ _ _, B1.out⟩
  have e1 : mtL ts ps = (pthN (imgM ts) ps 16 0 ⟨#[]⟩).map (lnT ts ps) := if_pos hm
  have e2 : mtC ts ps = 0 := if_pos hm
  have hi : imgB (imgM ts) ps = true := by
    cases q : imgB (imgM ts) ps with
    | true => rfl
    | false => rw [mod_not q] at hm; cases hm
  have p1 : poL (imgM ts) ps = pthN (imgM ts) ps 16 0 ⟨#[]⟩ := if_pos hi
  have p2 : poC (imgM ts) ps = 0 := if_pos hi
  have PL := poL_len (imgM ts) ps
  rw [p1] at PL LP
  rw [p2] at LP
  rw [hm]
  obtain rfl : ML = (pthN (imgM ts) ps 16 0 ⟨#[]⟩).map (lnT ts ps) := EL.out.trans e1
  obtain rfl : MC = 0 := EC.out.trans e2
  clear EL EC
  have LB2 := hideIt (fun w1 hb => LB.out w1 hb hm)
  have TD := hideIt (TOLD.out hm)
  clear LB TOLD p1 p2 e1 e2 hi hm
  obtain ⟨P, eP⟩ : ∃ P, P = pthN (imgM ts) ps 16 0 ⟨#[]⟩ := ⟨_, rfl⟩
  rw [← eP] at PL LP TD
  have EP := hideIt eP
  clear eP
  obtain ⟨x0, x1, -⟩ := two_cells X1.out
  go_upto_region 3 with fail
  go_wp2_with fail
  refine (LB2.out w1 B1.out).mono ?_
  rintro e w2 ⟨bm, rfl, ho, hbm, hb⟩
  have B2 := hideIt (below_trans B1.out hb B1.out.size)
  have X2 := hideIt ((hb.block w.heap.size z1).trans X1.out)
  have z2 : w1.heap.size ≤ w2.heap.size := hb.size
  have O2 := hideIt ho
  have zb : w.heap.size < bm := by omega
  clear hb ho B1 X1 x0 x1 LB2 hbm
  obtain ⟨x0, x1, -⟩ := two_cells X2.out
  go_wp2_with fail
  refine (LS.out w2 B2.out).mono ?_
  rintro e w3 ⟨v3, rfl, hr3, hb⟩
  have B3 := hideIt (below_trans B2.out hb B2.out.size)
  have O3 := hideIt (O2.out.kept (row := none) (grownN hb) (by simp))
  have z3 : w2.heap.size ≤ w3.heap.size := hb.size
  have R3 := hideIt hr3
  obtain ⟨vA, vB, rfl, ⟨-, iA, jA, rfl, -⟩, ⟨-, iB, jB, rfl, -⟩⟩ := id hr3
  clear hb hr3 B2 O2 X2 x0 x1 LS
  go_wp2_with fail
  refine (LP.out _ w3 B3.out R3.out).mono ?_
  rintro e w4 ⟨v4, rfl, hr4, hb⟩
  have B4 := hideIt (below_trans B3.out hb B3.out.size)
  have O4 := hideIt (O3.out.kept (row := none) (grownN hb) (by simp))
  have z4 : w3.heap.size ≤ w4.heap.size := hb.size
  have zm : bm < w3.heap.size := World.ownsMap.lt O3.out
  have R4 := hideIt hr4
  obtain ⟨-, aL, cL, rfl, -⟩ := id hr4.rd
  clear hb hr4 B3 O3 R3 LP
  have Z0 := hideIt (lnTo_zero ts ps P)
  have ZE := hideIt (lnTo_end ts ps P)
  go_upto_region 5 with fail
  go_wp2_with fail
  go_loopg [22] P.length (fun g i wr => ∃ k : Nat, k + g = P.length ∧ i = .int .i64 k ∧ Hid (Row wr 9 1 w3.heap.size w4.heap.size (.slice aL P.length cL) P.length (strs (lnTo ts ps P k))) ∧ Hid (wr.ownsMap Tryz.prog 9 RV bm 24 (mapD us (takenD ps) (takenD ps) (takenD ps).length)) ∧ Hid (Below w.heap.size w wr) ∧ w4.heap.size ≤ wr.heap.size)
  case atStart => exact ⟨0, by omega, rfl, by unfold Hid; rw [Z0.out]; exact R4.out, O4.out, B4.out, Nat.le_refl _⟩
  case round =>
    obtain ⟨k, hk, rfl, R, O, B, zr⟩ := hrel
    clear R4 O4 B4
    have k0 : (0 : Int) ≤ (k : Int) := by omega
    by_cases hlt : k < P.length
    · obtain ⟨T1, ⟨c, hc, T2, T3⟩, T4, ⟨T5, T5'⟩, T6, T7⟩ := TD.out _ (List.getElem_mem hlt)
      have LS2 := hideIt (lnTo_succ (ts := ts) (ps := ps) hlt)
      have LA := lnTo_at (ts := ts) (ps := ps) hlt
      have LN := lnTo_len ts ps P k
      have EQ : Hid (lnT ts ps P[k] = P[k] ++ ⟨#[32]⟩ ++ thT us[c].1.kind us[c].1.links us[c].1.pages) := by unfold Hid lnT; rw [T3]
      rw [T3] at T5 T5' T6 T7
      have RP := hideIt (HU.out.2 c hc)
      obtain ⟨ax, cx, ev⟩ := HU.out.val c hc
      have TV : thV us[c] = .agg #[.int .i64 us[c].1.kind, .int .i64 us[c].1.links, .slice ax us[c].1.pages.length cx] := by unfold thV; rw [ev]
      rw [ev] at RP
      have TS := thT_size (a := us[c].1.kind) T5 T5' T7
      have LT := hideIt (fun w1 (hb : Below w.heap.size w w1) => thingText_any us[c].1.kind us[c].1.links _ us[c].1.pages w1 (Rd.below RP.out hb) (by omega) T5 T5' T7 (HQ.out.below hb))
      have key : keyOf Tryz.prog 9 (.string P[k]) = some (keyB P[k]) := WideMaps.keyOf_string_mk strUT (by unfold maxLen; omega)
      obtain ⟨vv, pp, hrun, hvv⟩ := O.out.lookup strKT mapTU (thZero wr) (show RV thZV = some (.held thZV, []) from rfl) key
      rw [T1] at hvv
      have hvv2 : vv = thV (thAt (imgM ts) ps us P[k]) := by
        have := (Prod.mk.inj (Option.some.inj hvv)).1
        injection this
      rw [T2, TV] at hvv2
      rw [hvv2] at hrun
      clear hvv hvv2 T1 T2 T3 TV ev RP key T5 T5' T7
      generalize lnT ts ps P[k] = ln at *
      generalize us[c].1.kind = tk at *
      generalize us[c].1.links = tl at *
      generalize us[c].1.pages = tp at *
      have A1 := fun (w1 : World) => run_string_add_sum (P := Tryz.prog) w1 P[k] ⟨#[32]⟩ (by show _ + 1 ≤ _; omega)
      have s1 : (P[k] ++ ⟨#[32]⟩ : ByteArray).size = P[k].size + 1 := ByteArray.size_append
      have A2 := fun (w1 : World) => run_string_add_sum (P := Tryz.prog) w1 (P[k] ++ ⟨#[32]⟩) (thT tk tl tp) (by omega)
      rw [← EQ.out] at A2
      generalize (P[k] ++ ⟨#[32]⟩ : ByteArray) = r1 at *
      generalize thT tk tl tp = r2 at *
      clear EQ s1 TS
      obtain ⟨-, aL', cL', e', -, hcL⟩ := R.out.rd
      cases e'
      obtain ⟨bL, oL, rfl, hbl, -⟩ := hcL (by omega)
      obtain ⟨rfl, hb1, hb2, -, hfr, hcl⟩ := R.out.at
      have f0 := hfr k
      have e0 : wr.cell? ⟨bL, k, none⟩ = some (.string P[k]) := by
        rw [hcl k (by omega), strs_at _ k (by omega)]
        rw [List.getElem?_eq_getElem (by omega)] at LA
        rw [Option.some.inj LA]
      have k1 : (k : Int) < (P.length : Int) := by omega
      have hg2 : gk - 1 < gk := by omega
      have hk2 : (k + 1) + (gk - 1) = P.length := by omega
      generalize P[k] = pk at *
      have a1 := A1 wr
      clear hcL hfr hcl LA A1
      go_upto_region 8 with fail
      go_wp2_with fail
      refine (LT.out wr B.out).mono ?_
      rintro e w5 ⟨rfl, hb⟩
      have R5 := hideIt (R.out.below hb zr)
      have O5 := hideIt (O.out.kept (row := none) (grownN hb) (by simp))
      have B5 := hideIt (below_trans B.out hb B.out.size)
      have z5 : wr.heap.size ≤ w5.heap.size := hb.size
      have e5 : w5.cell? ⟨bL, k, none⟩ = some (.string pk) := (hb.cell (p := ⟨bL, k, none⟩) (by show bL < _; omega)).trans e0
      obtain ⟨-, -, -, -, hfr, -⟩ := R5.out.at
      have f5 := hfr k
      have a2 := A2 w5
      have ne : bm ≠ bL := by omega
      have R6 : Hid (Row (w5.setCell ⟨bL, k, none⟩ (.string ln)) 9 1 w3.heap.size w4.heap.size (.slice (some ⟨bL, 0, none⟩) P.length cL) P.length (strs (lnTo ts ps P (k + 1)))) := by
        unfold Hid
        rw [← LS2.out]
        exact R5.out.stored _ _
      have O6 := hideIt (World.ownsMap.setCell O5.out (a := ⟨bL, k, none⟩) ne (.string ln))
      have B6 := hideIt (B5.out.setCell (p := ⟨bL, k, none⟩) (by show w.heap.size ≤ bL; omega) (.string ln))
      clear hb hfr R5 O5 B5 R O B A2 a1 e0 f0 LT hrun LS2
      go_wp2
      go_roundg (gk - 1)
      case measure => exact hg2
      case rel => exact ⟨k + 1, hk2, by go_num, R6.out, O6.out, B6.out, by simp; omega⟩
    · obtain rfl : k = P.length := by omega
      have RE := hideIt R.out
      rw [ZE.out] at RE
      clear R O Z0 ZE
      go_wp2
      go_ret2
      have RE2 := hideIt (RE.out.wide (lo' := w.heap.size) (hi' := wr.heap.size) (by omega) zr)
      exact ⟨.slice aL P.length cL, rfl, by rw [List.length_map, ← EP.out]; exact RE2.out, B.out⟩
end Go.Proofs.YtmeiionabonhnaaGreatDoor
