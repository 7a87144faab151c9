/- Operations are read back from their texts, steps are told: the law FnTexts, the walk. -/
import Derived.Test.YtjkdmhdehihcbaaGreatDoorTxM
import Derived.Test.YtjkdmhdehihcbaaGreatDoorMtC
import Derived.Test.YtjkdmhdehihcbaaGreatDoorJiI
import Derived.Test.YtjkdmhdehihcbaaGreatDoorZBU
import Derived.Test.YtjkdmhdehihcbaaGreatDoorFsP
import Derived.Test.YtjkdmhdehihcbaaGreatDoorSmT
namespace Go.Proofs.YtjkdmhdehihcbaaGreatDoor
open Go.RowKit
theorem bxT_below {c w' : World} {b : Nat} {o : Obj} {B : Nat} (h : c.heap[b]? = some o) (hb : Below B c w') (hB : b < B) : w'.heap[b]? = some o := (hb.block b hB).trans h
theorem bxT_lt {c : World} {b : Nat} {o : Obj} (h : c.heap[b]? = some o) : b < c.heap.size := (Array.getElem?_eq_some_iff.1 h).1
set_option maxRecDepth 100000 in
set_option maxHeartbeats 4000000 in
theorem opBd_any (v : Value) (bs : List Int) (w : World) (h : RdB w v bs) (hl : bs.length ≤ 1048576) :
    Calls Tryz.prog 5 #[v] w fun e w' => ∃ k p t g y, e = .returned (.agg #[.int .i64 k, .string p, .string t, .int .i64 g, .int .i64 y]) ∧ opB k p t g y = true ∧ (p.size ≤ 100 ∧ t.size ≤ 100) ∧ (inR g ∧ inR y) ∧ Below w.heap.size w w' := by
  have H := hideIt h
  obtain ⟨aC, cC, rfl, _⟩ := h.shape
  clear h
  obtain ⟨V, hV⟩ : ∃ V, V = w.alloc (.cells #[.int .i64 0, .string ⟨#[]⟩, .string ⟨#[]⟩, .int .i64 0, .int .i64 0] 24) := ⟨_, rfl⟩
  have RV : Hid (V.heap[w.heap.size]? = some (.cells #[.int .i64 0, .string ⟨#[]⟩, .string ⟨#[]⟩, .int .i64 0, .int .i64 0] 24 (0, 0))) := by rw [hV]; exact at_new rfl
  have B : Hid (Below w.heap.size w V) := by rw [hV]; exact (Below.refl _ _).alloc (Nat.le_refl _) _
  go_enter Tryz.func5, Tryz.ntmps5
  go_upto_region 1 with fail
  rw [← hV]
  clear hV
  go_wp2_with fail
  refine (l00Source_any _ bs V (H.out.below B.out) hl).mono ?_
  rintro e w1 ⟨rfl, S, hb⟩
  have S1 := hideIt S.src
  have B1 := hideIt (below_trans B.out hb B.out.size)
  have R1 := hideIt (bxT_below RV.out hb (bxT_lt RV.out))
  have z0 : w.heap.size < V.heap.size := bxT_lt RV.out
  have z1 : V.heap.size ≤ w1.heap.size := hb.size
  clear S hb RV B H
  go_wp2_with fail
  refine (srcOp_bd V w1 _ _ _ bs S1.out (by omega)).mono ?_
  rintro e w2 ⟨k, p, t, g, y, rfl, zp, zt, ob, ⟨i1, i2, i3, i4⟩, -, ho⟩
  have R2 := hideIt ((ho.block _ (bxT_lt R1.out) (by omega)).trans R1.out)
  have B2 := hideIt (B1.out.trans (ho.below (B := w.heap.size) (by omega) B1.out.size))
  have OB := hideIt (And.intro ob (And.intro (And.intro zp zt) (And.intro (show inR g from ⟨i1, i2⟩) (show inR y from ⟨i3, i4⟩))))
  clear R1 B1 S1 ho ob zp zt i1 i2 i3 i4
  obtain ⟨d0, d1, d2, d3, d4, f0, f1, f2, f3, f4⟩ := five_all R2.out
  obtain ⟨w3, hw3⟩ : ∃ w3, w3 = put5 w2 w.heap.size (.int .i64 k) (.string p) (.string t) (.int .i64 g) (.int .i64 y) := ⟨_, rfl⟩
  have O3 : Outside w.heap.size (w.heap.size + 1) w2 w3 := by rw [hw3]; exact put5_out _ _ _ _ _ _ _
  have B3 := hideIt (B2.out.trans (O3.below (B := w.heap.size) (Nat.le_refl _) B2.out.size))
  unfold put5 at hw3
  clear O3 B2 R2
  go_wp2
  refine bodyPost_ret (v := .agg #[.int .i64 k, .string p, .string t, .int .i64 g, .int .i64 y]) (by simp [results, Tryz.results5, go_sem, d0, d1, d2, d3, d4]) rfl ?_
  rw [← hw3]
  exact ⟨_, _, _, _, _, rfl, OB.out.1, OB.out.2.1, OB.out.2.2, B3.out⟩
theorem rp_back {k : Nat} {p t : ByteArray} {g x : Int} (h : otB k p t g x = true) {e : Ending} (hs : (joinB (opW k p t g x)).size ≤ 65536) (hr : rpP (joinB (opW k p t g x)) e) : e = .returned (.tuple #[.agg #[.int .i64 k, .string p, .string t, .int .i64 g, .int .i64 x], .int .i64 0]) := by
  obtain ⟨g', x', hq, rfl, rfl⟩ := op_read h
  obtain ⟨k2, p2, t2, g2, x2, c2, rfl, hr⟩ := hr
  rcases hr with ⟨a, -⟩ | ⟨a, b, -⟩ | ⟨a, n, u, v, b, rfl, rfl, rfl, rfl⟩
  · omega
  · rw [hq] at b; cases b
  · rw [hq] at b; cases b; rfl
theorem rp_more {k : Nat} {p t : ByteArray} {g x : Int} (h : otB k p t g x = true) {e : Ending} (hs : (joinB (opW k p t g x) ++ (⟨#[32, 120]⟩ : ByteArray)).size ≤ 65536) (hr : rpP (joinB (opW k p t g x) ++ ⟨#[32, 120]⟩) e) : e = .returned (.tuple #[.agg #[.int .i64 0, .string ⟨#[]⟩, .string ⟨#[]⟩, .int .i64 0, .int .i64 0], .int .i64 3]) := by
  have hq := op_more h
  obtain ⟨k2, p2, t2, g2, x2, c2, rfl, hr⟩ := hr
  rcases hr with ⟨a, -⟩ | ⟨a, b, rfl, rfl, rfl, rfl, rfl, rfl⟩ | ⟨a, n, u, v, b, -⟩
  · omega
  · rfl
  · rw [hq] at b; cases b
theorem op_text_size {k : Nat} {p t : ByteArray} {g x : Int} (_h : otB k p t g x = true) (hp : p.size ≤ 100) (ht : t.size ≤ 100) (hg : inR g) (hx : inR x) : (joinB (opW k p t g x)).size ≤ 1000 := by
  have FL : (fdsOf k).length ≤ 3 := by
    unfold fdsOf
    split
    · decide
    · split
      · decide
      · split <;> decide
  have q := joinB_size (xs := opW k p t g x) (B := 100) (fun y hy => by
    unfold opW at hy
    rcases List.mem_cons.1 hy with rfl | hy
    · have := kwT_size (k := k); omega
    · obtain ⟨f, hf, rfl⟩ := List.mem_map.1 hy
      unfold fdT
      split
      · exact hp
      · split
        · exact Nat.le_trans (it_size2 hg.1 hg.2) (by decide)
        · split
          · exact Nat.le_trans (it_size2 hx.1 hx.2) (by decide)
          · exact ht)
  have hl : (opW k p t g x).length ≤ 4 := by unfold opW; rw [List.length_cons, List.length_map]; omega
  rw [Lib.size_eq]
  unfold joinB
  simp only
  have : (100 + 1) * (opW k p t g x).length ≤ 101 * 4 := Nat.mul_le_mul_left _ hl
  omega
set_option maxRecDepth 100000 in
set_option maxHeartbeats 32000000 in
theorem fnTexts_law (vA vB : Value) (cs ms : List Int) (w : World) (hA : RdB w vA cs) (hB : RdB w vB ms) (hSB : SB w) (hSF : StF w) (hP : PT w) (hSY : SY w) (hRY : RY w) :
    Calls Tryz.prog 3 #[vA, vB] w fun e w' => e = .returned (.bool true) ∧ Below w.heap.size w w' := by
  obtain ⟨aA, cA, rfl, _⟩ := hA.shape
  obtain ⟨aB, cB, rfl, _⟩ := hB.shape
  have HA := hideIt hA
  have HB := hideIt hB
  have G := hideIt (And.intro hSB (And.intro hSF (And.intro hP (And.intro hSY hRY))))
  clear hA hB hSB hSF hP hSY hRY
  by_cases c1 : 1048576 < cs.length
  · go_enter Tryz.func3, Tryz.ntmps3
    go_wp2
    go_ret
    exact ⟨rfl, Below.refl _ _⟩
  by_cases c2 : 1048576 < ms.length
  · go_enter Tryz.func3, Tryz.ntmps3
    go_wp2
    go_ret
    exact ⟨rfl, Below.refl _ _⟩
  go_enter Tryz.func3, Tryz.ntmps3
  go_wp2_with fail
  refine (opBd_any _ cs w HA.out (by omega)).mono ?_
  rintro e w1 ⟨k, p, t, g, y, rfl, ob, ⟨zp, zt⟩, ⟨rg, ry⟩, hb1⟩
  have OB := hideIt ob
  have Z := hideIt (And.intro (And.intro zp zt) (And.intro rg ry))
  have M20 := hideIt (show ms.length ≤ 1048576 by omega)
  obtain ⟨n, rfl⟩ : ∃ n : Nat, k = (n : Int) := ⟨k.toNat, by have := opB_iff.1 ob; omega⟩
  obtain ⟨W1, hW1⟩ : ∃ W1, W1 = w1.alloc (.cells #[.int .i64 n, .string p, .string t, .int .i64 g, .int .i64 y] 24) := ⟨_, rfl⟩
  have A1 : Below w1.heap.size w1 W1 := by rw [hW1]; exact (Below.refl _ _).alloc (Nat.le_refl _) _
  have B1 := hideIt (below_trans hb1 A1 hb1.size)
  have N1 : Hid (W1.heap[w1.heap.size]? = some (.cells #[.int .i64 n, .string p, .string t, .int .i64 g, .int .i64 y] 24 (0, 0))) := by rw [hW1]; exact at_new rfl
  clear hb1 A1 ob zp zt rg ry
  go_upto_region 4 with fail
  rw [← hW1]
  clear hW1 c1 c2
  obtain ⟨ob, hob⟩ : ∃ ob, ob = w1.heap.size := ⟨_, rfl⟩
  rw [← hob] at N1 ⊢
  clear hob
  have LTI := hideIt (fun w' (hb : Below w.heap.size w w') => implOpText_any n p t g y w' (G.out.2.2.1.below hb) Z.out.2.1 Z.out.2.2)
  have LTS := hideIt (fun w' => specOpText_any n p t g y w')
  obtain ⟨o0, o1, o2, o3, o4, -⟩ := five_all N1.out
  go_wp2_with fail
  refine (LTI.out _ B1.out).mono ?_
  rintro e w2 ⟨rfl, hb2⟩
  have B2 := hideIt (below_trans B1.out hb2 B1.out.size)
  have N2 := hideIt (bxT_below N1.out hb2 (bxT_lt N1.out))
  clear hb2 N1 B1 LTI o0 o1 o2 o3 o4
  obtain ⟨o0, o1, o2, o3, o4, -⟩ := five_all N2.out
  go_wp2_with fail
  refine (LTS.out _).mono ?_
  rintro e w3 ⟨rfl, hb3⟩
  have B3 := hideIt (below_trans B2.out hb3 B2.out.size)
  have N3 := hideIt (bxT_below N2.out hb3 (bxT_lt N2.out))
  clear hb3 N2 B2 LTS o0 o1 o2 o3 o4
  cases hq : otB n p t g y with
  | false =>
    have e1 : otS n p t g y = ⟨#[]⟩ := by unfold otS; rw [hq]; rfl
    have e2 : otC n p t g y = 1 := by unfold otC; rw [hq]; rfl
    rw [e1, e2]
    clear e1 e2 hq N3 OB
    go_upto_region 13 with fail
    obtain ⟨W, hW⟩ : ∃ W, W = w3 := ⟨_, rfl⟩
    have BW : Hid (Below w.heap.size w W) := by rw [hW]; exact B3.out
    rw [← hW]
    clear hW B3
    have LU := hideIt (updatesOf_any _ ms W (HB.out.below BW.out) M20.out)
    go_wp2_with fail
    refine LU.out.mono ?_
    rintro e x1 ⟨vU, us, rfl, hl5, hd, hru, hbu⟩
    have RU := hideIt (show RdE x1 vU us from hru.rd)
    have D := hideIt (jp_ok hd hl5)
    have LMI : Hid (∀ m ∈ planL (upsL us), miB m = true) := fun m hm => (ok_plan hd hl5 m hm).1
    have LLE := plan_short hl5
    have X1 := hideIt (below_trans BW.out hbu BW.out.size)
    clear hbu hru hd LU BW HB M20
    obtain ⟨aU, cU, rfl, -⟩ := RU.out.shape
    have LJ := hideIt (implJournalPlan_any _ us x1 RU.out (by omega))
    rw [D.out.1, D.out.2] at LJ
    clear D RU
    generalize planL (upsL us) = l at *
    go_wp2_with fail
    refine LJ.out.mono ?_
    rintro e x2 ⟨vP, rfl, hrp, hb2⟩
    have R2 := hideIt (show RdM x2 vP l from hrp.rd)
    have X2 := hideIt (below_trans X1.out hb2 X1.out.size)
    clear hrp hb2 X1 LJ hl5
    obtain ⟨aP, cP, rfl, -, hcellP⟩ := R2.out.shape
    have HCP := hideIt hcellP
    clear hcellP
    have MB : misB l = true := decide_eq_true (fun q hq => LMI.out _ (List.getElem_mem hq))
    have EC : ptC l = 0 := by unfold ptC; rw [if_neg (by omega), if_pos MB]
    have EL : ptL l = l.map miT := by unfold ptL; rw [if_pos ⟨by omega, MB⟩]
    have LP := hideIt (implPlanText_any _ l x2 R2.out (by omega) (G.out.1.below X2.out) (G.out.2.1.below X2.out) (G.out.2.2.1.below X2.out))
    have LQ := hideIt (fun x3 h => specPlanText_any (.slice aP l.length cP) l x3 h (by omega))
    rw [EC, EL] at LP
    rw [EC, EL] at LQ
    clear EC EL MB
    have TLH := hideIt (show (l.map miT).length = l.length from List.length_map ..)
    have TA := hideIt (fun m (h : m < l.length) => show (l.map miT)[m]'(by rw [TLH.out]; exact h) = miT l[m] from List.getElem_map ..)
    generalize l.map miT = ts at *
    go_wp2_with fail
    refine LP.out.mono ?_
    rintro e x3 ⟨vL, rfl, hrl, hb3⟩
    have R3 := hideIt (show RdT x3 vL ts from hrl.rd)
    have b3 := hideIt hb3
    have X3 := hideIt (below_trans X2.out hb3 X2.out.size)
    clear hrl hb3 LP
    obtain ⟨aL, cL, rfl, -, hcellL⟩ := R3.out.shape
    have HCL := hideIt hcellL
    clear hcellL
    go_wp2_with fail
    refine (LQ.out x3 (R2.out.below b3.out)).mono ?_
    rintro e x4 ⟨vM, rfl, hrm, hb4⟩
    have R4 := hideIt (show RdT x4 vM ts from hrm.rd)
    have R34 := hideIt (Rd.below R3.out hb4)
    have b4 := hideIt (below_trans b3.out hb4 b3.out.size)
    have c4 := hideIt hb4
    have X4 := hideIt (below_trans X3.out hb4 X3.out.size)
    clear hrm hb4 LQ X3
    obtain ⟨aM, cM, rfl, -, -⟩ := R4.out.shape
    have LS := hideIt (sameTexts_same _ _ ts x4 R34.out R4.out (by have := TLH.out; omega))
    clear R34 R4
    go_wp2_with fail
    refine LS.out.mono ?_
    rintro e x5 ⟨rfl, hb5⟩
    have b5 := hideIt (below_trans b4.out hb5 b4.out.size)
    have c5 := hideIt (below_trans c4.out hb5 c4.out.size)
    have X5 := hideIt (below_trans X4.out hb5 X4.out.size)
    clear hb5 LS b4 c4 X4
    have TLQ : ((ts.length : Int) != (l.length : Int)) = false := by rw [TLH.out]; simp
    go_wp2_with fail
    go_loopg [20] l.length (fun gk i wr => ∃ m : Nat, m + gk = l.length ∧ i = .int .i64 m ∧ Hid (Below x5.heap.size x5 wr))
    case atStart => exact ⟨0, by omega, rfl, Below.refl _ _⟩
    case round =>
      obtain ⟨m, hm, rfl, BR⟩ := hrel
      have m0 : (0 : Int) ≤ (m : Int) := by omega
      have XR := hideIt (below_trans X5.out BR.out X5.out.size)
      by_cases hlt : m < l.length
      · have m1 : (m : Int) < (l.length : Int) := by omega
        have m2 : (m : Int) < (ts.length : Int) := by have := TLH.out; omega
        obtain ⟨bP, oP, rfl, hbP, hcP⟩ := HCP.out (by omega)
        obtain ⟨bL, oL, rfl, hbL, hcL⟩ := HCL.out (by have := TLH.out; omega)
        obtain ⟨u0, u1, u2⟩ := hcP m hlt
        have v0 := ((below_trans b5.out BR.out b5.out.size).cell (p := ⟨bP, oP + m * 3, none⟩) hbP).trans u0
        have v1 := ((below_trans b5.out BR.out b5.out.size).cell (p := ⟨bP, oP + m * 3 + 1, none⟩) hbP).trans u1
        have v2 := ((below_trans b5.out BR.out b5.out.size).cell (p := ⟨bP, oP + m * 3 + 2, none⟩) hbP).trans u2
        have v3 := ((below_trans c5.out BR.out c5.out.size).cell (p := ⟨bL, oL + m, none⟩) hbL).trans (hcL m (by have := TLH.out; omega))
        rw [TA.out m hlt] at v3
        have LM := hideIt (implMicroText_any l[m] wr (G.out.1.below XR.out) (G.out.2.1.below XR.out) (G.out.2.2.1.below XR.out))
        have e1 : mtS l[m] = miT l[m] := by unfold mtS; rw [if_pos (LMI.out _ (List.getElem_mem hlt))]
        have e2 : mtK l[m] = 0 := by unfold mtK; rw [if_pos (LMI.out _ (List.getElem_mem hlt))]
        rw [e1, e2] at LM
        have hms : l.length - (m + 1) < gk := by omega
        have hmq : m + 1 + (l.length - (m + 1)) = l.length := by omega
        have mb : m ≤ 1000 := by omega
        clear u0 u1 u2 hcP hcL e1 e2 hm
        unfold Mi.v at LM
        generalize miT l[m] = tx at *
        generalize l[m].kind = q0 at *
        generalize l[m].at_ = q1 at *
        generalize l[m].val = q2 at *
        go_wp2_with fail
        refine LM.out.mono ?_
        rintro e y1 ⟨rfl, hby⟩
        have BY := hideIt (below_trans BR.out hby BR.out.size)
        have v4 := (hby.cell (p := ⟨bL, oL + m, none⟩) (by have := (below_trans c5.out BR.out c5.out.size).size; simp only; omega)).trans v3
        clear hby LM v0 v1 v2 v3 XR BR
        go_wp2
        go_roundg (l.length - (m + 1))
        case measure => exact hms
        case rel => exact ⟨m + 1, hmq, by go_num, BY.out⟩
      · have m1 : ¬ (m : Int) < (l.length : Int) := by omega
        clear HCP HCL TA LMI
        go_wp2
        go_ret
        exact ⟨rfl, XR.out⟩
  | true =>
    have e1 : otS n p t g y = joinB (opW n p t g y) := by unfold otS; rw [hq]; rfl
    have e2 : otC n p t g y = 0 := by unfold otC; rw [hq]; rfl
    have SZ := op_text_size hq Z.out.1.1 Z.out.1.2 Z.out.2.1 Z.out.2.2
    have SZ2 : (joinB (opW n p t g y) ++ (⟨#[32, 120]⟩ : ByteArray)).size = (joinB (opW n p t g y)).size + 2 := by rw [ByteArray.size_append]; rfl
    have BK := hideIt (fun e h => rp_back hq (e := e) (by omega) h)
    have BM := hideIt (fun e h => rp_more hq (e := e) (by omega) h)
    have LR1 := hideIt (implReadOp_any (joinB (opW n p t g y)) w3 (G.out.2.2.1.below B3.out) (G.out.2.2.2.1.below B3.out) (G.out.2.2.2.2.below B3.out))
    have LR2 := hideIt (fun w' (hb : Below w.heap.size w w') => implReadOp_any (joinB (opW n p t g y) ++ ⟨#[32, 120]⟩) w' (G.out.2.2.1.below hb) (G.out.2.2.2.1.below hb) (G.out.2.2.2.2.below hb))
    have A1 := fun (w1 : World) => run_string_add_sum (P := Tryz.prog) w1 (joinB (opW n p t g y)) ⟨#[32, 120]⟩ (by show _ + 2 ≤ _; omega)
    have EQ : opEq n p t g y n p t g y = true := by simp [opEq]
    rw [e1, e2]
    clear e1 e2 SZ SZ2 hq OB
    generalize rpP (joinB (opW n p t g y) ++ (⟨#[32, 120]⟩ : ByteArray)) = P2 at *
    generalize joinB (opW n p t g y) ++ (⟨#[32, 120]⟩ : ByteArray) = s2 at *
    generalize rpP (joinB (opW n p t g y)) = P1 at *
    generalize joinB (opW n p t g y) = s1 at *
    go_wp2_with fail
    refine LR1.out.mono ?_
    rintro e w4 ⟨hr4, hb4⟩
    obtain rfl := BK.out e hr4
    have B4 := hideIt (below_trans B3.out hb4 B3.out.size)
    have N4 := hideIt (bxT_below N3.out hb4 (bxT_lt N3.out))
    clear hb4 hr4 B3 N3 LR1 BK
    obtain ⟨W5, hW5⟩ : ∃ W5, W5 = w4.alloc (.cells #[.int .i64 n, .string p, .string t, .int .i64 g, .int .i64 y] 24) := ⟨_, rfl⟩
    have A5 : Below w4.heap.size w4 W5 := by rw [hW5]; exact (Below.refl _ _).alloc (Nat.le_refl _) _
    have B5 := hideIt (below_trans B4.out A5 B4.out.size)
    have N5 := hideIt (bxT_below N4.out A5 (bxT_lt N4.out))
    have O5 : Hid (W5.heap[w4.heap.size]? = some (.cells #[.int .i64 n, .string p, .string t, .int .i64 g, .int .i64 y] 24 (0, 0))) := by rw [hW5]; exact at_new rfl
    go_upto_region 10 with fail
    rw [← hW5]
    clear hW5 A5 B4 N4
    obtain ⟨oc, hoc⟩ : ∃ oc, oc = w4.heap.size := ⟨_, rfl⟩
    rw [← hoc] at O5 ⊢
    clear hoc
    go_wp2_with fail
    refine (LR2.out _ B5.out).mono ?_
    rintro e w6 ⟨hr6, hb6⟩
    obtain rfl := BM.out e hr6
    have B6 := hideIt (below_trans B5.out hb6 B5.out.size)
    have N6 := hideIt (bxT_below N5.out hb6 (bxT_lt N5.out))
    have O6 := hideIt (bxT_below O5.out hb6 (bxT_lt O5.out))
    clear hb6 hr6 B5 N5 O5 LR2 BM
    obtain ⟨W7, hW7⟩ : ∃ W7, W7 = w6.alloc (.cells #[.int .i64 0, .string ⟨#[]⟩, .string ⟨#[]⟩, .int .i64 0, .int .i64 0] 24) := ⟨_, rfl⟩
    have A7 : Below w6.heap.size w6 W7 := by rw [hW7]; exact (Below.refl _ _).alloc (Nat.le_refl _) _
    have B7 := hideIt (below_trans B6.out A7 B6.out.size)
    have N7 := hideIt (bxT_below N6.out A7 (bxT_lt N6.out))
    have O7 := hideIt (bxT_below O6.out A7 (bxT_lt O6.out))
    go_upto_region 11 with fail
    rw [← hW7]
    clear hW7 A7 B6 N6 O6
    obtain ⟨o0, o1, o2, o3, o4, -⟩ := five_all N7.out
    obtain ⟨p0, p1, p2, p3, p4, -⟩ := five_all O7.out
    go_upto_region 13 with fail
    clear o0 o1 o2 o3 o4 p0 p1 p2 p3 p4 N7 O7 EQ A1
    obtain ⟨W, hW⟩ : ∃ W, W = W7 := ⟨_, rfl⟩
    have BW : Hid (Below w.heap.size w W) := by rw [hW]; exact B7.out
    rw [← hW]
    clear hW B7
    have LU := hideIt (updatesOf_any _ ms W (HB.out.below BW.out) M20.out)
    go_wp2_with fail
    refine LU.out.mono ?_
    rintro e x1 ⟨vU, us, rfl, hl5, hd, hru, hbu⟩
    have RU := hideIt (show RdE x1 vU us from hru.rd)
    have D := hideIt (jp_ok hd hl5)
    have LMI : Hid (∀ m ∈ planL (upsL us), miB m = true) := fun m hm => (ok_plan hd hl5 m hm).1
    have LLE := plan_short hl5
    have X1 := hideIt (below_trans BW.out hbu BW.out.size)
    clear hbu hru hd LU BW HB M20
    obtain ⟨aU, cU, rfl, -⟩ := RU.out.shape
    have LJ := hideIt (implJournalPlan_any _ us x1 RU.out (by omega))
    rw [D.out.1, D.out.2] at LJ
    clear D RU
    generalize planL (upsL us) = l at *
    go_wp2_with fail
    refine LJ.out.mono ?_
    rintro e x2 ⟨vP, rfl, hrp, hb2⟩
    have R2 := hideIt (show RdM x2 vP l from hrp.rd)
    have X2 := hideIt (below_trans X1.out hb2 X1.out.size)
    clear hrp hb2 X1 LJ hl5
    obtain ⟨aP, cP, rfl, -, hcellP⟩ := R2.out.shape
    have HCP := hideIt hcellP
    clear hcellP
    have MB : misB l = true := decide_eq_true (fun q hq => LMI.out _ (List.getElem_mem hq))
    have EC : ptC l = 0 := by unfold ptC; rw [if_neg (by omega), if_pos MB]
    have EL : ptL l = l.map miT := by unfold ptL; rw [if_pos ⟨by omega, MB⟩]
    have LP := hideIt (implPlanText_any _ l x2 R2.out (by omega) (G.out.1.below X2.out) (G.out.2.1.below X2.out) (G.out.2.2.1.below X2.out))
    have LQ := hideIt (fun x3 h => specPlanText_any (.slice aP l.length cP) l x3 h (by omega))
    rw [EC, EL] at LP
    rw [EC, EL] at LQ
    clear EC EL MB
    have TLH := hideIt (show (l.map miT).length = l.length from List.length_map ..)
    have TA := hideIt (fun m (h : m < l.length) => show (l.map miT)[m]'(by rw [TLH.out]; exact h) = miT l[m] from List.getElem_map ..)
    generalize l.map miT = ts at *
    go_wp2_with fail
    refine LP.out.mono ?_
    rintro e x3 ⟨vL, rfl, hrl, hb3⟩
    have R3 := hideIt (show RdT x3 vL ts from hrl.rd)
    have b3 := hideIt hb3
    have X3 := hideIt (below_trans X2.out hb3 X2.out.size)
    clear hrl hb3 LP
    obtain ⟨aL, cL, rfl, -, hcellL⟩ := R3.out.shape
    have HCL := hideIt hcellL
    clear hcellL
    go_wp2_with fail
    refine (LQ.out x3 (R2.out.below b3.out)).mono ?_
    rintro e x4 ⟨vM, rfl, hrm, hb4⟩
    have R4 := hideIt (show RdT x4 vM ts from hrm.rd)
    have R34 := hideIt (Rd.below R3.out hb4)
    have b4 := hideIt (below_trans b3.out hb4 b3.out.size)
    have c4 := hideIt hb4
    have X4 := hideIt (below_trans X3.out hb4 X3.out.size)
    clear hrm hb4 LQ X3
    obtain ⟨aM, cM, rfl, -, -⟩ := R4.out.shape
    have LS := hideIt (sameTexts_same _ _ ts x4 R34.out R4.out (by have := TLH.out; omega))
    clear R34 R4
    go_wp2_with fail
    refine LS.out.mono ?_
    rintro e x5 ⟨rfl, hb5⟩
    have b5 := hideIt (below_trans b4.out hb5 b4.out.size)
    have c5 := hideIt (below_trans c4.out hb5 c4.out.size)
    have X5 := hideIt (below_trans X4.out hb5 X4.out.size)
    clear hb5 LS b4 c4 X4
    have TLQ : ((ts.length : Int) != (l.length : Int)) = false := by rw [TLH.out]; simp
    go_wp2_with fail
    go_loopg [20] l.length (fun gk i wr => ∃ m : Nat, m + gk = l.length ∧ i = .int .i64 m ∧ Hid (Below x5.heap.size x5 wr))
    case atStart => exact ⟨0, by omega, rfl, Below.refl _ _⟩
    case round =>
      obtain ⟨m, hm, rfl, BR⟩ := hrel
      have m0 : (0 : Int) ≤ (m : Int) := by omega
      have XR := hideIt (below_trans X5.out BR.out X5.out.size)
      by_cases hlt : m < l.length
      · have m1 : (m : Int) < (l.length : Int) := by omega
        have m2 : (m : Int) < (ts.length : Int) := by have := TLH.out; omega
        obtain ⟨bP, oP, rfl, hbP, hcP⟩ := HCP.out (by omega)
        obtain ⟨bL, oL, rfl, hbL, hcL⟩ := HCL.out (by have := TLH.out; omega)
        obtain ⟨u0, u1, u2⟩ := hcP m hlt
        have v0 := ((below_trans b5.out BR.out b5.out.size).cell (p := ⟨bP, oP + m * 3, none⟩) hbP).trans u0
        have v1 := ((below_trans b5.out BR.out b5.out.size).cell (p := ⟨bP, oP + m * 3 + 1, none⟩) hbP).trans u1
        have v2 := ((below_trans b5.out BR.out b5.out.size).cell (p := ⟨bP, oP + m * 3 + 2, none⟩) hbP).trans u2
        have v3 := ((below_trans c5.out BR.out c5.out.size).cell (p := ⟨bL, oL + m, none⟩) hbL).trans (hcL m (by have := TLH.out; omega))
        rw [TA.out m hlt] at v3
        have LM := hideIt (implMicroText_any l[m] wr (G.out.1.below XR.out) (G.out.2.1.below XR.out) (G.out.2.2.1.below XR.out))
        have e1 : mtS l[m] = miT l[m] := by unfold mtS; rw [if_pos (LMI.out _ (List.getElem_mem hlt))]
        have e2 : mtK l[m] = 0 := by unfold mtK; rw [if_pos (LMI.out _ (List.getElem_mem hlt))]
        rw [e1, e2] at LM
        have hms : l.length - (m + 1) < gk := by omega
        have hmq : m + 1 + (l.length - (m + 1)) = l.length := by omega
        have mb : m ≤ 1000 := by omega
        clear u0 u1 u2 hcP hcL e1 e2 hm
        unfold Mi.v at LM
        generalize miT l[m] = tx at *
        generalize l[m].kind = q0 at *
        generalize l[m].at_ = q1 at *
        generalize l[m].val = q2 at *
        go_wp2_with fail
        refine LM.out.mono ?_
        rintro e y1 ⟨rfl, hby⟩
        have BY := hideIt (below_trans BR.out hby BR.out.size)
        have v4 := (hby.cell (p := ⟨bL, oL + m, none⟩) (by have := (below_trans c5.out BR.out c5.out.size).size; simp only; omega)).trans v3
        clear hby LM v0 v1 v2 v3 XR BR
        go_wp2
        go_roundg (l.length - (m + 1))
        case measure => exact hms
        case rel => exact ⟨m + 1, hmq, by go_num, BY.out⟩
      · have m1 : ¬ (m : Int) < (l.length : Int) := by omega
        clear HCP HCL TA LMI
        go_wp2
        go_ret
        exact ⟨rfl, XR.out⟩
end Go.Proofs.YtjkdmhdehihcbaaGreatDoor
