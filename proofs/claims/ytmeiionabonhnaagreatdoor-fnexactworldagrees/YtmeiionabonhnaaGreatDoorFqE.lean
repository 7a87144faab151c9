/- Which file systems are right: by the program. -/
import Derived.Test.YtmeiionabonhnaaGreatDoorZBD
import Derived.Test.YtmeiionabonhnaaGreatDoorZBE
import Derived.Test.YtmeiionabonhnaaGreatDoorZBF
import Derived.Test.YtmeiionabonhnaaGreatDoorZAB
import Derived.Test.YtmeiionabonhnaaGreatDoorZAI
import Derived.Test.YtmeiionabonhnaaGreatDoorZAJ
import Derived.Test.YtmeiionabonhnaaGreatDoorZBA
import Derived.Test.YtmeiionabonhnaaGreatDoorZAD
import Derived.Test.YtmeiionabonhnaaGreatDoorZAW
import Derived.Deep.RegionHeld3
import Derived.BigRegion
import Derived.BigQuiet
import Derived.Deep.QuietTactic
import Derived.Deep.DeepCutAuto
namespace Go.Proofs.YtmeiionabonhnaaGreatDoor
open Go.RowKit
set_option maxRecDepth 100000 in
set_option maxHeartbeats 8000000 in
theorem isNoAnswer_any (c v : Int) (a : Option Addr) (nm : List ByteArray) (cap : Nat) (w : World) (_hn : nm.length ≤ 1048576) :
    Calls Tryz.prog 155 #[.agg #[.int .i64 c, .int .i64 v, .slice a nm.length cap]] w fun e w' => e = .returned (.bool (noA c v nm)) ∧ Below w.heap.size w w' := by
  have BW : Hid (Below w.heap.size w (w.alloc (.cells #[.int .i64 c, .int .i64 v, .slice a nm.length cap] 73))) := (Below.refl _ _).alloc (Nat.le_refl _) _
  by_cases a1 : c = 0
  · by_cases a2 : v = 0
    · by_cases a3 : nm.length = 0
      · have q : noA c v nm = true := by unfold noA; rw [a1, a2, a3]; rfl
        rw [q]
        clear q
        have a3' : (nm.length : Int) = 0 := by omega
        subst a1 a2
        clear a3
        go_enter Tryz.func155, Tryz.ntmps155
        go_wp2
        go_ret
        exact ⟨ret_bool (by first | rfl | exact decide_eq_false (by assumption) | exact decide_eq_false (by omega) | exact decide_eq_true (by omega)), BW.out⟩
      · have q : noA c v nm = false := by unfold noA; rw [a1, a2, decide_eq_false a3]; rfl
        rw [q]
        clear q
        have a3' : ¬ (nm.length : Int) = 0 := by omega
        subst a1 a2
        clear a3
        go_enter Tryz.func155, Tryz.ntmps155
        go_wp2
        go_ret
        exact ⟨ret_bool (by first | rfl | exact decide_eq_false (by assumption) | exact decide_eq_false (by omega) | exact decide_eq_true (by omega)), BW.out⟩
    · have q : noA c v nm = false := by unfold noA; rw [decide_eq_false a2]; simp
      rw [q]
      clear q
      subst a1
      go_enter Tryz.func155, Tryz.ntmps155
      go_wp2
      go_ret
      exact ⟨ret_bool (by first | rfl | exact decide_eq_false (by assumption) | exact decide_eq_false (by omega) | exact decide_eq_true (by omega)), BW.out⟩
  · have q : noA c v nm = false := by unfold noA; rw [decide_eq_false a1]; rfl
    rw [q]
    clear q
    go_enter Tryz.func155, Tryz.ntmps155
    go_wp2
    go_ret
    exact ⟨ret_bool (by first | rfl | exact decide_eq_false (by assumption) | exact decide_eq_false (by omega) | exact decide_eq_true (by omega)), BW.out⟩
theorem mis_all' (td : List Mi) : misB td = td.all miB := by
  apply Bool.eq_iff_iff.2
  unfold misB
  simp only [decide_eq_true_eq, List.all_eq_true]
  constructor
  · intro h m hm
    obtain ⟨j, hj, rfl⟩ := List.getElem_of_mem hm
    exact h j hj
  · intro h j hj
    exact h _ (List.getElem_mem hj)
set_option maxRecDepth 100000 in
set_option maxHeartbeats 8000000 in
theorem todoOK_any (v : Value) (ws : List Int) (ps : List St) (es : List Int) (qs : List Se) (hs : List Int) (td : List Mi) (cd vl : Int) (nm : List ByteArray) (fr : Bool) (w : World) (h : RdF w v ws ps es qs hs td cd vl nm fr) (hps : ps.length ≤ 1048576) (hqs : qs.length ≤ 1048576) (htd : td.length ≤ 1048576) (hS : SB w) :
    Calls Tryz.prog 154 #[v] w fun e w' => e = .returned (.bool (todB ps qs td)) ∧ Below w.heap.size w w' := by
  obtain ⟨aW, cW, aP, cP, aS, cS, aQ, cQ, aH, cH, aT, cT, aN, cN, rfl, -, -, t1, -⟩ := h
  obtain ⟨M, eM⟩ : ∃ M, M = td.all miB := ⟨_, rfl⟩
  have LE : Hid (∀ w1, Below w.heap.size w w1 → Calls Tryz.prog 211 #[.slice aT td.length cT, .func (.func 212) #[] #[]] w1 fun e w' => e = .returned (.bool M) ∧ Below w1.heap.size w1 w') := fun w1 hb => by rw [eM, ← mis_all']; exact everyStep_any _ td w1 (hS.below hb) (Rd.below t1 hb) htd
  have FB : Hid (todB ps qs td = (decide (td.length ≤ 200) && (M && (decide (ps.length + td.length ≤ 400) && decide (qs.length + td.length ≤ 400))))) := by rw [eM]; rfl
  generalize todB ps qs td = r at *
  clear t1 eM hS
  obtain ⟨V, hV⟩ : ∃ V, V = w.alloc (.cells #[.slice aW ws.length cW, .slice aP ps.length cP, .slice aS es.length cS, .slice aQ qs.length cQ, .slice aH hs.length cH, .slice aT td.length cT, .int .i64 cd, .int .i64 vl, .slice aN nm.length cN, .bool fr] 75) := ⟨_, rfl⟩
  have BV : Hid (Below w.heap.size w V) := by rw [hV]; exact (Below.refl _ _).alloc (Nat.le_refl _) _
  have XV : Hid (V.heap[w.heap.size]? = some (.cells #[.slice aW ws.length cW, .slice aP ps.length cP, .slice aS es.length cS, .slice aQ qs.length cQ, .slice aH hs.length cH, .slice aT td.length cT, .int .i64 cd, .int .i64 vl, .slice aN nm.length cN, .bool fr] 75 (0, 0))) := by rw [hV]; exact at_new rfl
  have zV : w.heap.size < V.heap.size := lt_box XV.out
  go_enter Tryz.func154, Tryz.ntmps154
  go_upto_region 1 with fail
  rw [← hV]
  clear hV
  have x5 := tenT XV.out
  by_cases c1 : td.length ≤ 200
  · rw [decide_eq_true c1, Bool.true_and] at FB
    have c1' : (td.length : Int) ≤ 200 := by omega
    go_wp2_with fail
    refine (LE.out V BV.out).mono ?_
    rintro e w1 ⟨rfl, hb1⟩
    have B1 := hideIt (below_trans BV.out hb1 BV.out.size)
    have X1 := hideIt (box_below XV.out hb1 zV)
    clear hb1 x5 LE BV XV
    cases M with
    | false =>
      obtain rfl := FB.out
      clear FB X1
      go_wp2
      go_ret
      exact ⟨ret_bool (by first | rfl | exact decide_eq_false (by assumption) | exact decide_eq_false (by omega) | exact decide_eq_true (by omega)), B1.out⟩
    | true =>
      rw [Bool.true_and] at FB
      have x5 := tenT X1.out
      obtain ⟨x0, x1, x2, x3⟩ := tenD X1.out
      clear X1
      by_cases c2 : ps.length + td.length ≤ 400
      · rw [decide_eq_true c2, Bool.true_and] at FB
        have c2' : (ps.length : Int) + (td.length : Int) ≤ 400 := by omega
        by_cases c3 : qs.length + td.length ≤ 400
        · rw [decide_eq_true c3] at FB
          obtain rfl := FB.out
          have c3' : (qs.length : Int) + (td.length : Int) ≤ 400 := by omega
          clear FB
          go_wp2
          go_ret
          exact ⟨ret_bool (by first | rfl | exact decide_eq_false (by assumption) | exact decide_eq_false (by omega) | exact decide_eq_true (by omega)), B1.out⟩
        · rw [decide_eq_false c3] at FB
          obtain rfl := FB.out
          have c3' : ¬ (qs.length : Int) + (td.length : Int) ≤ 400 := by omega
          clear FB
          go_wp2
          go_ret
          exact ⟨ret_bool (by first | rfl | exact decide_eq_false (by assumption) | exact decide_eq_false (by omega) | exact decide_eq_true (by omega)), B1.out⟩
      · rw [decide_eq_false c2] at FB
        obtain rfl := FB.out
        have c2' : ¬ (ps.length : Int) + (td.length : Int) ≤ 400 := by omega
        clear FB
        go_wp2
        go_ret
        exact ⟨ret_bool (by first | rfl | exact decide_eq_false (by assumption) | exact decide_eq_false (by omega) | exact decide_eq_true (by omega)), B1.out⟩
  · rw [decide_eq_false c1] at FB
    obtain rfl := FB.out
    have c1' : ¬ (td.length : Int) ≤ 200 := by omega
    clear FB LE XV
    go_wp2
    go_ret
    exact ⟨ret_bool (by first | rfl | exact decide_eq_false (by assumption) | exact decide_eq_false (by omega) | exact decide_eq_true (by omega)), BV.out⟩
set_option maxRecDepth 100000 in
set_option maxHeartbeats 8000000 in
theorem allSure_any (aW aP aS aQ : Option Addr) (n m p q cW cP cS cQ : Nat) (w : World) (hm : m ≤ 1048576) (hq : q ≤ 1048576) :
    Calls Tryz.prog 214 #[.agg #[.slice aW n cW, .slice aP m cP, .slice aS p cS, .slice aQ q cQ]] w fun e w' => e = .returned (.bool (decide (m = 0) && decide (q = 0))) ∧ Below w.heap.size w w' := by
  have BW : Hid (Below w.heap.size w (w.alloc (.cells #[.slice aW n cW, .slice aP m cP, .slice aS p cS, .slice aQ q cQ] 71))) := (Below.refl _ _).alloc (Nat.le_refl _) _
  by_cases a1 : m = 0
  · subst a1
    by_cases a2 : q = 0
    · subst a2
      go_enter Tryz.func214, Tryz.ntmps214
      go_wp2
      go_ret
      exact ⟨ret_bool (by first | rfl | exact decide_eq_false (by assumption) | exact decide_eq_false (by omega) | exact decide_eq_true (by omega)), BW.out⟩
    · rw [decide_eq_false a2]
      have a2' : ¬ (q : Int) = 0 := by omega
      go_enter Tryz.func214, Tryz.ntmps214
      go_wp2
      go_ret
      exact ⟨ret_bool (by first | rfl | exact decide_eq_false (by assumption) | exact decide_eq_false (by omega) | exact decide_eq_true (by omega)), BW.out⟩
  · rw [decide_eq_false a1]
    have a1' : ¬ (m : Int) = 0 := by omega
    go_enter Tryz.func214, Tryz.ntmps214
    go_wp2
    go_ret
    exact ⟨ret_bool (by first | rfl | exact decide_eq_false (by assumption) | exact decide_eq_false (by omega) | exact decide_eq_true (by omega)), BW.out⟩
set_option maxRecDepth 100000 in
set_option maxHeartbeats 8000000 in
theorem implJournalCount_some (v : Value) (ws : List Int) (ps : List St) (w : World) (h : RdPm w v ws ps) (hw : ws.length ≤ 1048576) (hp : ps.length ≤ 1048576) (hok : pmB ws ps = true) :
    Calls Tryz.prog 213 #[v] w fun e w' => ∃ a c : Int, e = .returned (.tuple #[.int .i64 a, .int .i64 c]) ∧ (ps.length = 0 → (a = 0 ∧ c = 0 ↔ ldW ws ps 8 = 0)) ∧ Below w.heap.size w w' := by
  have hl8 : 8 < ws.length := by rw [pm_len hok]; decide
  have LP : Hid (∀ w1, Below w.heap.size w w1 → Calls Tryz.prog 209 #[v] w1 fun e w' => e = .returned (.bool true) ∧ Below w1.heap.size w1 w') := fun w1 hb => by rw [← hok]; exact implPmOK_any v ws ps w1 (h.below hb) hw hp
  have EL : Hid (ps.length = 0 → ldW ws ps 8 = ws[8]) := fun e => by
    obtain rfl := List.length_eq_zero_iff.1 e
    rw [ldW_at hl8]
    rfl
  obtain ⟨vW, vP, rfl, h1, h2⟩ := h
  obtain ⟨aW, cW, rfl, _, hcW⟩ := h1.shape
  obtain ⟨aP, cP, rfl, _⟩ := h2.shape
  obtain ⟨b, o, rfl, hbl, hcell⟩ := hcW (by omega)
  have d8 := hcell 8 hl8
  have hlt : (8 : Int) < (ws.length : Int) := by omega
  have hb0 : Below w.heap.size w (w.alloc (.cells #[.slice (some ⟨b, o, none⟩) ws.length cW, .slice aP ps.length cP] 66)) := (Below.refl _ _).alloc (Nat.le_refl _) _
  generalize ws[8] = n at *
  clear h1 h2 hcW hcell hok
  go_enter Tryz.func213, Tryz.ntmps213
  go_wp2_with fail
  refine (LP.out _ hb0).mono ?_
  rintro e w1 ⟨rfl, hb1⟩
  have B1 := hideIt (below_trans hb0 hb1 (by simp))
  have d8' := (B1.out.cell (p := ⟨b, o + 8, none⟩) hbl).trans d8
  obtain ⟨x1, x2, -, -⟩ := two_cells ((hb1.block w.heap.size (by simp)).trans (at_new rfl))
  clear hb0 hb1 d8 LP
  by_cases c : 16 < n
  · go_wp2
    go_ret2
    exact ⟨0, 3, rfl, fun e => by rw [EL.out e]; constructor <;> intro q <;> omega, B1.out⟩
  · go_wp2
    go_ret2
    exact ⟨n, 0, rfl, fun e => by rw [EL.out e]; constructor <;> intro q <;> omega, B1.out⟩
set_option maxRecDepth 100000 in
set_option maxHeartbeats 8000000 in
theorem isAtRest_any (v : Value) (ws : List Int) (ps : List St) (es : List Int) (qs : List Se) (w : World) (h : RdDev w v ws ps es qs) (hok : (pmB ws ps && blkB es qs) = true) (hws : ws.length ≤ 1048576) (hps : ps.length ≤ 1048576) (hes : es.length ≤ 1048576) (hqs : qs.length ≤ 1048576) (hT : TS w) (hE : ED w) (hF : FD w) :
    Calls Tryz.prog 156 #[v] w fun e w' => e = .returned (.bool (restB ws ps es qs)) ∧ Below w.heap.size w w' := by
  obtain ⟨aW, cW, aP, cP, aS, cS, aQ, cQ, rfl, -, -⟩ := h.form
  have hok' := hok
  simp only [Bool.and_eq_true] at hok'
  have LJ := hideIt (fun w1 (hb : Below w.heap.size w w1) => implJournalCount_some _ ws ps w1 (dev_pm (h.below hb)) hws hps hok'.1)
  have LA := hideIt (fun w1 => allSure_any aW aP aS aQ ws.length ps.length es.length qs.length cW cP cS cQ w1 hps hqs)
  have LS := hideIt (fun w1 (hb : Below w.heap.size w w1) => seenImage_any _ ws ps es qs w1 (h.below hb) hws hps hes hqs (hT.below hb) (hE.below hb) (hF.below hb))
  have LI := hideIt (fun v1 w1 (hb : Below w.heap.size w w1) (hr : RdIm w1 v1 (dvN ws ps es qs) (dvD ws ps es qs)) => implImageOK_any v1 (dvN ws ps es qs) (dvD ws ps es qs) w1 hr (dv_len ws ps es qs).1 (dv_len ws ps es qs).2 (hT.below hb) (hE.below hb) (hF.below hb) dv_R dv_name)
  rw [dv_img] at LI
  have FB : Hid (restB ws ps es qs = (dvB ws ps es qs && (decide (ps.length = 0) && (decide (qs.length = 0) && decide (ldW ws ps 8 = 0))))) := rfl
  generalize restB ws ps es qs = r at *
  generalize dvB ws ps es qs = d at *
  generalize dvN ws ps es qs = dn at *
  generalize dvD ws ps es qs = dd at *
  generalize ldW ws ps 8 = jc at *
  clear h hok hok' hT hE hF
  obtain ⟨V, hV⟩ : ∃ V, V = w.alloc (.cells #[.slice aW ws.length cW, .slice aP ps.length cP, .slice aS es.length cS, .slice aQ qs.length cQ] 71) := ⟨_, rfl⟩
  have BV : Hid (Below w.heap.size w V) := by rw [hV]; exact (Below.refl _ _).alloc (Nat.le_refl _) _
  have XV : Hid (V.heap[w.heap.size]? = some (.cells #[.slice aW ws.length cW, .slice aP ps.length cP, .slice aS es.length cS, .slice aQ qs.length cQ] 71 (0, 0))) := by rw [hV]; exact at_new rfl
  have zV : w.heap.size < V.heap.size := lt_box XV.out
  go_enter Tryz.func156, Tryz.ntmps156
  go_upto_region 1 with fail
  rw [← hV]
  clear hV
  obtain ⟨x0, x1, x2, x3, -⟩ := four_cells XV.out
  go_wp2_with fail
  refine (LJ.out V BV.out).mono ?_
  rintro e w1 ⟨ja, jb, rfl, hj, hb1⟩
  have B1 := hideIt (below_trans BV.out hb1 BV.out.size)
  have X1 := hideIt (box_below XV.out hb1 zV)
  have z1 : w.heap.size < w1.heap.size := Nat.lt_of_lt_of_le zV hb1.size
  have HJ := hideIt hj
  clear hb1 x0 x1 x2 x3 LJ BV XV hj
  obtain ⟨x0, x1, x2, x3, -⟩ := four_cells X1.out
  go_wp2_with fail
  refine (LA.out w1).mono ?_
  by_cases a1 : ps.length = 0
  · by_cases a2 : qs.length = 0
    · rw [decide_eq_true a1, decide_eq_true a2]
      rintro e w2 ⟨rfl, hb2⟩
      have B2 := hideIt (below_trans B1.out hb2 B1.out.size)
      have X2 := hideIt (box_below X1.out hb2 z1)
      have z2 : w.heap.size < w2.heap.size := Nat.lt_of_lt_of_le z1 hb2.size
      have IJ := hideIt (HJ.out a1)
      have q : r = (d && decide (jc = 0)) := by rw [FB.out, decide_eq_true a1, decide_eq_true a2]; rfl
      clear hb2 x0 x1 x2 x3 LA B1 X1 HJ FB a1 a2
      obtain ⟨x0, x1, x2, x3, -⟩ := four_cells X2.out
      by_cases b1 : ja = 0
      · subst b1
        by_cases b2 : jb = 0
        · subst b2
          have ej : jc = 0 := IJ.out.1 ⟨rfl, rfl⟩
          rw [decide_eq_true ej, Bool.and_true] at q
          subst q
          clear IJ ej
          go_wp2_with fail
          refine (LS.out w2 B2.out).mono ?_
          rintro e w3 ⟨v3, rfl, hr3, hb3⟩
          have B3 := hideIt (below_trans B2.out hb3 B2.out.size)
          have R3 := hideIt hr3.rd
          obtain ⟨vA, vB, rfl, ⟨-, ia, ic, rfl, -⟩, ⟨-, ib, id, rfl, -⟩⟩ := hr3.rd
          clear hr3 hb3 x0 x1 x2 x3 LS B2 X2
          go_wp2_with fail
          refine (LI.out _ w3 B3.out R3.out).mono ?_
          rintro e w4 ⟨rfl, hb4⟩
          have B4 := hideIt (below_trans B3.out hb4 B3.out.size)
          clear hb4 LI R3 B3
          go_wp2
          go_ret
          exact ⟨ret_bool (by first | rfl | exact decide_eq_false (by assumption) | exact decide_eq_false (by omega) | exact decide_eq_true (by omega)), B4.out⟩
        · have ej : ¬ jc = 0 := fun e => b2 (IJ.out.2 e).2
          rw [decide_eq_false ej, Bool.and_false] at q
          subst q
          clear IJ ej LS LI X2
          go_wp2
          go_ret
          exact ⟨ret_bool (by first | rfl | exact decide_eq_false (by assumption) | exact decide_eq_false (by omega) | exact decide_eq_true (by omega)), B2.out⟩
      · have ej : ¬ jc = 0 := fun e => b1 (IJ.out.2 e).1
        rw [decide_eq_false ej, Bool.and_false] at q
        subst q
        clear IJ ej LS LI X2
        go_wp2
        go_ret
        exact ⟨ret_bool (by first | rfl | exact decide_eq_false (by assumption) | exact decide_eq_false (by omega) | exact decide_eq_true (by omega)), B2.out⟩
    · have q : r = false := by rw [FB.out, decide_eq_false a2]; simp
      rw [decide_eq_false a2, Bool.and_false]
      rintro e w2 ⟨rfl, hb2⟩
      have B2 := hideIt (below_trans B1.out hb2 B1.out.size)
      subst q
      clear hb2 LA LS LI FB HJ X1
      go_wp2
      go_ret
      exact ⟨ret_bool (by first | rfl | exact decide_eq_false (by assumption) | exact decide_eq_false (by omega) | exact decide_eq_true (by omega)), B2.out⟩
  · have q : r = false := by rw [FB.out, decide_eq_false a1]; simp
    rw [decide_eq_false a1, Bool.false_and]
    rintro e w2 ⟨rfl, hb2⟩
    have B2 := hideIt (below_trans B1.out hb2 B1.out.size)
    subst q
    clear hb2 LA LS LI FB HJ X1
    go_wp2
    go_ret
    exact ⟨ret_bool (by first | rfl | exact decide_eq_false (by assumption) | exact decide_eq_false (by omega) | exact decide_eq_true (by omega)), B2.out⟩
set_option maxRecDepth 100000 in
set_option maxHeartbeats 8000000 in
theorem implFsOK_any (v : Value) (ws : List Int) (ps : List St) (es : List Int) (qs : List Se) (hs : List Int) (td : List Mi) (cd vl : Int) (nm : List ByteArray) (fr : Bool) (w : World) (h : RdF w v ws ps es qs hs td cd vl nm fr) (hws : ws.length ≤ 1048576) (hps : ps.length ≤ 1048576) (hes : es.length ≤ 1048576) (hqs : qs.length ≤ 1048576) (hhs : hs.length ≤ 1048576) (htd : td.length ≤ 1048576) (hnm : nm.length ≤ 1048576) (hS : SB w) (hT : TS w) (hE : ED w) (hF : FD w) :
    Calls Tryz.prog 100 #[v] w fun e w' => e = .returned (.bool (fsB ws ps es qs hs td cd vl nm fr)) ∧ Below w.heap.size w w' := by
  have HR := hideIt h
  obtain ⟨aW, cW, aP, cP, aS, cS, aQ, cQ, aH, cH, aT, cT, aN, cN, rfl, d1, h1, -, -⟩ := h
  obtain ⟨D, eD⟩ : ∃ D, D = (pmB ws ps && blkB es qs) := ⟨_, rfl⟩
  obtain ⟨H, eH⟩ : ∃ H, H = heatB hs := ⟨_, rfl⟩
  have LD : Hid (∀ w1, Below w.heap.size w w1 → Calls Tryz.prog 152 #[.agg #[.slice aW ws.length cW, .slice aP ps.length cP, .slice aS es.length cS, .slice aQ qs.length cQ]] w1 fun e w' => e = .returned (.bool D) ∧ Below w1.heap.size w1 w') := fun w1 hb => by rw [eD]; exact implDevicesOK_any _ ws ps es qs w1 (d1.below hb) hws hps hes hqs
  have LH : Hid (∀ w1, Below w.heap.size w w1 → Calls Tryz.prog 153 #[.slice aH hs.length cH] w1 fun e w' => e = .returned (.bool H) ∧ w' = w1) := fun w1 hb => by rw [eH]; exact implHeatOK_any _ hs w1 (Rd.below h1 hb) hhs
  have LT := hideIt (fun w1 (hb : Below w.heap.size w w1) => todoOK_any _ ws ps es qs hs td cd vl nm fr w1 (HR.out.below hb) hps hqs htd (hS.below hb))
  have LN := hideIt (fun w1 => isNoAnswer_any cd vl aN nm cN w1 hnm)
  have LR : Hid (D = true → ∀ w1, Below w.heap.size w w1 → Calls Tryz.prog 156 #[.agg #[.slice aW ws.length cW, .slice aP ps.length cP, .slice aS es.length cS, .slice aQ qs.length cQ]] w1 fun e w' => e = .returned (.bool (restB ws ps es qs)) ∧ Below w1.heap.size w1 w') := fun hD w1 hb => isAtRest_any _ ws ps es qs w1 (d1.below hb) (eD.symm.trans hD) hws hps hes hqs (hT.below hb) (hE.below hb) (hF.below hb)
  have FB : Hid (fsB ws ps es qs hs td cd vl nm fr = (D && (H && (todB ps qs td && ((fr || noA cd vl nm) && (decide (0 < td.length) || restB ws ps es qs)))))) := by rw [eD, eH]; rfl
  generalize fsB ws ps es qs hs td cd vl nm fr = r at *
  generalize todB ps qs td = tb at *
  generalize noA cd vl nm = na at *
  generalize restB ws ps es qs = rb at *
  clear eD eH d1 h1 hS hT hE hF HR
  obtain ⟨V, hV⟩ : ∃ V, V = w.alloc (.cells #[.slice aW ws.length cW, .slice aP ps.length cP, .slice aS es.length cS, .slice aQ qs.length cQ, .slice aH hs.length cH, .slice aT td.length cT, .int .i64 cd, .int .i64 vl, .slice aN nm.length cN, .bool fr] 75) := ⟨_, rfl⟩
  have BV : Hid (Below w.heap.size w V) := by rw [hV]; exact (Below.refl _ _).alloc (Nat.le_refl _) _
  have XV : Hid (V.heap[w.heap.size]? = some (.cells #[.slice aW ws.length cW, .slice aP ps.length cP, .slice aS es.length cS, .slice aQ qs.length cQ, .slice aH hs.length cH, .slice aT td.length cT, .int .i64 cd, .int .i64 vl, .slice aN nm.length cN, .bool fr] 75 (0, 0))) := by rw [hV]; exact at_new rfl
  have zV : w.heap.size < V.heap.size := lt_box XV.out
  go_enter Tryz.func100, Tryz.ntmps100
  go_upto_region 1 with fail
  rw [← hV]
  clear hV
  obtain ⟨x0, x1, x2, x3⟩ := tenD XV.out
  go_wp2_with fail
  refine (LD.out V BV.out).mono ?_
  rintro e w1 ⟨rfl, hb1⟩
  have B1 := hideIt (below_trans BV.out hb1 BV.out.size)
  have X1 := hideIt (box_below XV.out hb1 zV)
  have z1 : w.heap.size < w1.heap.size := Nat.lt_of_lt_of_le zV hb1.size
  clear hb1 x0 x1 x2 x3 LD BV XV
  cases D with
  | false =>
    obtain rfl := FB.out
    clear FB LH LR LT LN X1
    go_wp2
    go_ret
    exact ⟨ret_bool (by first | rfl | exact decide_eq_false (by assumption) | exact decide_eq_false (by omega) | exact decide_eq_true (by omega)), B1.out⟩
  | true =>
  have x4 := tenH X1.out
  go_wp2_with fail
  refine (LH.out w1 B1.out).mono ?_
  rintro e w' ⟨rfl, hw'⟩
  subst w'
  clear LH x4
  cases H with
  | false =>
    obtain rfl := FB.out
    clear FB LR LT LN X1
    go_wp2
    go_ret
    exact ⟨ret_bool (by first | rfl | exact decide_eq_false (by assumption) | exact decide_eq_false (by omega) | exact decide_eq_true (by omega)), B1.out⟩
  | true =>
  obtain ⟨x0, x1, x2, x3, x4, x5, x6, x7, x8, x9, -⟩ := ten_cells X1.out
  go_wp2_with fail
  refine (LT.out w1 B1.out).mono ?_
  rintro e w2 ⟨rfl, hb2⟩
  have B2 := hideIt (below_trans B1.out hb2 B1.out.size)
  have X2 := hideIt (box_below X1.out hb2 z1)
  have z2 : w.heap.size < w2.heap.size := Nat.lt_of_lt_of_le z1 hb2.size
  clear hb2 x0 x1 x2 x3 x4 x5 x6 x7 x8 x9 LT B1 X1
  cases tb with
  | false =>
    obtain rfl := FB.out
    clear FB LR LN X2
    go_wp2
    go_ret
    exact ⟨ret_bool (by first | rfl | exact decide_eq_false (by assumption) | exact decide_eq_false (by omega) | exact decide_eq_true (by omega)), B2.out⟩
  | true =>
  simp only [Bool.true_and] at FB
  have x9 := tenB X2.out
  cases fr with
  | true =>
    simp only [Bool.true_or, Bool.true_and] at FB
    clear LN
    go_upto_region 5 with fail
    clear x9
    have x5 := tenT X2.out
    by_cases c : 0 < td.length
    · rw [decide_eq_true c, Bool.true_or] at FB
      obtain rfl := FB.out
      have c' : (0 : Int) < (td.length : Int) := by omega
      clear FB LR X2
      go_wp2
      go_ret
      exact ⟨ret_bool (by first | rfl | exact decide_eq_false (by assumption) | exact decide_eq_false (by omega) | exact decide_eq_true (by omega)), B2.out⟩
    · rw [decide_eq_false c, Bool.false_or] at FB
      obtain rfl := FB.out
      have c' : ¬ (0 : Int) < (td.length : Int) := by omega
      obtain ⟨x0, x1, x2, x3⟩ := tenD X2.out
      go_wp2_with fail
      refine (LR.out (by simp) w2 B2.out).mono ?_
      rintro e w4 ⟨rfl, hb4⟩
      have B4 := hideIt (below_trans B2.out hb4 B2.out.size)
      clear hb4 x0 x1 x2 x3 x5 LR B2 X2 FB
      go_wp2
      go_ret
      exact ⟨ret_bool (by first | rfl | exact decide_eq_false (by assumption) | exact decide_eq_false (by omega) | exact decide_eq_true (by omega)), B4.out⟩
  | false =>
  simp only [Bool.false_or] at FB
  obtain ⟨x6, x7, x8⟩ := tenA X2.out
  go_wp2_with fail
  refine (LN.out w2).mono ?_
  rintro e w3 ⟨rfl, hb3⟩
  have B3 := hideIt (below_trans B2.out hb3 B2.out.size)
  have X3 := hideIt (box_below X2.out hb3 z2)
  have z3 : w.heap.size < w3.heap.size := Nat.lt_of_lt_of_le z2 hb3.size
  clear hb3 x6 x7 x8 x9 LN B2 X2
  cases na with
  | false =>
    obtain rfl := FB.out
    clear FB LR X3
    go_wp2
    go_ret
    exact ⟨ret_bool (by first | rfl | exact decide_eq_false (by assumption) | exact decide_eq_false (by omega) | exact decide_eq_true (by omega)), B3.out⟩
  | true =>
  simp only [Bool.true_and] at FB
  go_upto_region 5 with fail
  have x5 := tenT X3.out
  by_cases c : 0 < td.length
  · rw [decide_eq_true c, Bool.true_or] at FB
    obtain rfl := FB.out
    have c' : (0 : Int) < (td.length : Int) := by omega
    clear FB LR X3
    go_wp2
    go_ret
    exact ⟨ret_bool (by first | rfl | exact decide_eq_false (by assumption) | exact decide_eq_false (by omega) | exact decide_eq_true (by omega)), B3.out⟩
  · rw [decide_eq_false c, Bool.false_or] at FB
    obtain rfl := FB.out
    have c' : ¬ (0 : Int) < (td.length : Int) := by omega
    obtain ⟨x0, x1, x2, x3⟩ := tenD X3.out
    go_wp2_with fail
    refine (LR.out (by simp) w3 B3.out).mono ?_
    rintro e w4 ⟨rfl, hb4⟩
    have B4 := hideIt (below_trans B3.out hb4 B3.out.size)
    clear hb4 x0 x1 x2 x3 x5 LR B3 X3 FB
    go_wp2
    go_ret
    exact ⟨ret_bool (by first | rfl | exact decide_eq_false (by assumption) | exact decide_eq_false (by omega) | exact decide_eq_true (by omega)), B4.out⟩
end Go.Proofs.YtmeiionabonhnaaGreatDoor
