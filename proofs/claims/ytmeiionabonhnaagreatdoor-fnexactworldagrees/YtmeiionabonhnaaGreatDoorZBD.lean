/- Several texts laid together: FqD, DtD, RdE. -/
import Derived.Test.YtmeiionabonhnaaGreatDoorFqC
import Derived.Test.YtmeiionabonhnaaGreatDoorZAQ
import Derived.Test.YtmeiionabonhnaaGreatDoorZBC
import Derived.Test.YtmeiionabonhnaaGreatDoorZAI
import Derived.Test.YtmeiionabonhnaaGreatDoorZBA
import Derived.Test.YtmeiionabonhnaaGreatDoorZAZ
import Derived.Test.YtmeiionabonhnaaGreatDoorZAF
import Derived.Deep.RegionWith
namespace Go.Proofs.YtmeiionabonhnaaGreatDoor
open Go.RowKit
theorem dev_pm {w : World} {aW aP aS aQ : Option Addr} {cW cP cS cQ : Nat} {ws : List Int} {ps : List St} {es : List Int} {qs : List Se} (h : RdDev w (.agg #[.slice aW ws.length cW, .slice aP ps.length cP, .slice aS es.length cS, .slice aQ qs.length cQ]) ws ps es qs) : RdPm w (.agg #[.slice aW ws.length cW, .slice aP ps.length cP]) ws ps := by
  obtain ⟨_, _, _, _, e, p1, _⟩ := h
  cases e
  exact p1
def noA (cd vl : Int) (nm : List ByteArray) : Bool := decide (cd = 0) && (decide (vl = 0) && decide (nm.length = 0))
def restB (ws : List Int) (ps : List St) (es : List Int) (qs : List Se) : Bool := dvB ws ps es qs && (decide (ps.length = 0) && (decide (qs.length = 0) && decide (ldW ws ps 8 = 0)))
def todB (ps : List St) (qs : List Se) (td : List Mi) : Bool := decide (td.length ≤ 200) && (td.all miB && (decide (ps.length + td.length ≤ 400) && decide (qs.length + td.length ≤ 400)))
def fsB (ws : List Int) (ps : List St) (es : List Int) (qs : List Se) (hs : List Int) (td : List Mi) (cd vl : Int) (nm : List ByteArray) (fr : Bool) : Bool := (pmB ws ps && blkB es qs) && (heatB hs && (todB ps qs td && ((fr || noA cd vl nm) && (decide (0 < td.length) || restB ws ps es qs))))
set_option maxRecDepth 100000 in
set_option maxHeartbeats 8000000 in
theorem specFsOK_any (v : Value) (ws : List Int) (ps : List St) (es : List Int) (qs : List Se) (hs : List Int) (td : List Mi) (cd vl : Int) (nm : List ByteArray) (fr : Bool) (w : World) (h : RdF w v ws ps es qs hs td cd vl nm fr) (hws : ws.length ≤ 1048576) (hps : ps.length ≤ 1048576) (hes : es.length ≤ 1048576) (hqs : qs.length ≤ 1048576) (hhs : hs.length ≤ 1048576) (htd : td.length ≤ 1048576) (_hnm : nm.length ≤ 1048576) :
    Calls Tryz.prog 89 #[v] w fun e w' => e = .returned (.bool (fsB ws ps es qs hs td cd vl nm fr)) ∧ Below w.heap.size w w' := by
  obtain ⟨aW, cW, aP, cP, aS, cS, aQ, cQ, aH, cH, aT, cT, aN, cN, rfl, d1, h1, t1, n1⟩ := h
  obtain ⟨D, eD⟩ : ∃ D, D = (pmB ws ps && blkB es qs) := ⟨_, rfl⟩
  obtain ⟨H, eH⟩ : ∃ H, H = heatB hs := ⟨_, rfl⟩
  obtain ⟨rc, erc⟩ : ∃ rc, rc = riC ws ps := ⟨_, rfl⟩
  obtain ⟨jc, ejc⟩ : ∃ jc, jc = ldW ws ps 8 := ⟨_, rfl⟩
  have LD : Hid (∀ w1, Below w.heap.size w w1 → Calls Tryz.prog 141 #[.agg #[.slice aW ws.length cW, .slice aP ps.length cP, .slice aS es.length cS, .slice aQ qs.length cQ]] w1 fun e w' => e = .returned (.bool D) ∧ Below w1.heap.size w1 w') := fun w1 hb => by rw [eD]; exact specDevicesOK_any _ ws ps es qs w1 (d1.below hb) hws hps hes hqs
  have LH : Hid (∀ w1, Below w.heap.size w w1 → Calls Tryz.prog 142 #[.slice aH hs.length cH] w1 fun e w' => e = .returned (.bool H) ∧ w' = w1) := fun w1 hb => by rw [eH]; exact specHeatOK_any _ hs w1 (Rd.below h1 hb) hhs
  have LR : Hid (∀ w1, Below w.heap.size w w1 → Calls Tryz.prog 144 #[.agg #[.slice aW ws.length cW, .slice aP ps.length cP]] w1 fun e w' => ∃ a b c d f g, e = .returned (.tuple #[.agg #[.slice a b c, .slice d f g], .int .i64 rc]) ∧ Below w1.heap.size w1 w') := fun w1 hb => by
    have p1 := dev_pm (d1.below hb)
    rw [erc]
    refine (specReadImage_any _ ws ps w1 p1 hws hps).mono ?_
    rintro e w2 ⟨v2, rfl, hr, hb2⟩
    obtain ⟨vA, vB, rfl, ⟨-, a, c, rfl, -⟩, ⟨-, d, g, rfl, -⟩⟩ := hr.rd
    exact ⟨a, _, c, d, _, g, rfl, hb2⟩
  have LJ : Hid (D = true → ∀ w1, Below w.heap.size w w1 → Calls Tryz.prog 145 #[.agg #[.slice aW ws.length cW, .slice aP ps.length cP]] w1 fun e w' => e = .returned (.int .i64 jc) ∧ Below w1.heap.size w1 w') := fun hD w1 hb => by
    have p1 := dev_pm (d1.below hb)
    rw [ejc]
    rw [eD] at hD
    simp only [Bool.and_eq_true] at hD
    exact l04Count_any _ ws ps w1 p1 hws hps (by rw [pm_len hD.1]; decide)
  have RT := hideIt t1
  have FB : Hid (fsB ws ps es qs hs td cd vl nm fr = (D && (H && (todB ps qs td && ((fr || noA cd vl nm) && (decide (0 < td.length) || (decide (rc = 0) && (decide (ps.length = 0) && (decide (qs.length = 0) && decide (jc = 0)))))))))) := by
    unfold fsB restB
    rw [← eD, ← eH, ← ejc]
    cases hD : D with
    | false => rfl
    | true =>
      have := (dv_form (eD.symm.trans hD)).1
      rw [this, erc]
      rfl
  generalize fsB ws ps es qs hs td cd vl nm fr = r at *
  clear eD eH erc ejc d1 h1 t1 n1
  obtain ⟨V, hV⟩ : ∃ V, V = w.alloc (.cells #[.slice aW ws.length cW, .slice aP ps.length cP, .slice aS es.length cS, .slice aQ qs.length cQ, .slice aH hs.length cH, .slice aT td.length cT, .int .i64 cd, .int .i64 vl, .slice aN nm.length cN, .bool fr] 75) := ⟨_, rfl⟩
  have BV : Hid (Below w.heap.size w V) := by rw [hV]; exact (Below.refl _ _).alloc (Nat.le_refl _) _
  have XV : Hid (V.heap[w.heap.size]? = some (.cells #[.slice aW ws.length cW, .slice aP ps.length cP, .slice aS es.length cS, .slice aQ qs.length cQ, .slice aH hs.length cH, .slice aT td.length cT, .int .i64 cd, .int .i64 vl, .slice aN nm.length cN, .bool fr] 75 (0, 0))) := by rw [hV]; exact at_new rfl
  have zV : w.heap.size < V.heap.size := lt_box XV.out
  go_enter Tryz.func89, Tryz.ntmps89
  go_upto_region 1 with fail
  rw [← hV]
  clear hV
  obtain ⟨x0, x1, x2, x3⟩ := tenD XV.out
  go_wp2_with fail
  refine (LD.out V BV.out).mono ?_
  rintro e w1 ⟨rfl, hb1⟩
  have B1 := hideIt (below_trans BV.out hb1 BV.out.size)
  have X1 := hideIt (box_below XV.out hb1 zV)
  have z1 : w.heap.size < w1.heap.size := Nat.lt_of_lt_of_le zV hb1.size
  clear hb1 x0 x1 x2 x3 LD BV XV
  cases D with
  | false =>
    obtain rfl := FB.out
    clear FB LH LR LJ RT X1
    go_wp2
    go_ret
    exact ⟨rfl, B1.out⟩
  | true =>
  have x4 := tenH X1.out
  go_wp2_with fail
  refine (LH.out w1 B1.out).mono ?_
  rintro e w' ⟨rfl, hw'⟩
  subst w'
  clear LH x4
  cases H with
  | false =>
    obtain rfl := FB.out
    clear FB LR LJ RT X1
    go_wp2
    go_ret
    exact ⟨rfl, B1.out⟩
  | true =>
  have x5 := tenT X1.out
  by_cases cL : 200 < td.length
  · have q : todB ps qs td = false := by unfold todB; rw [decide_eq_false (by omega)]; rfl
    rw [q] at FB
    obtain rfl := FB.out
    clear FB LR LJ RT X1 q
    have cL' : (200 : Int) < (td.length : Int) := by omega
    go_wp2
    go_ret
    exact ⟨rfl, B1.out⟩
  have hl : td.length ≤ 200 := by omega
  have cL' : ¬ (200 : Int) < (td.length : Int) := by omega
  clear cL
  go_wp2_with fail
  go_loopw [3] (fun i wq => ∃ k : Nat, k ≤ td.length ∧ i = .int .i64 k ∧ Hid (∀ j (hj : j < td.length), j < k → miB td[j] = true) ∧ Hid (Below w.heap.size w wq) ∧ Hid (wq.heap[w.heap.size]? = some (.cells #[.slice aW ws.length cW, .slice aP ps.length cP, .slice aS es.length cS, .slice aQ qs.length cQ, .slice aH hs.length cH, .slice aT td.length cT, .int .i64 cd, .int .i64 vl, .slice aN nm.length cN, .bool fr] 75 (0, 0))) ∧ w.heap.size < wq.heap.size) (fun i _ => td.length - (intOf i).toNat)
  case atStart => exact ⟨0, by omega, rfl, fun j _ h => absurd h (by omega), B1, X1, z1⟩
  case round =>
    obtain ⟨k, hk, rfl, G, B, X, z⟩ := hrel
    clear B1 X1 x5 z1
    have x5 := tenT X.out
    by_cases hlt : k < td.length
    · have hlt' : (k : Int) < (td.length : Int) := by omega
      have hge : (0 : Int) ≤ (k : Int) := by omega
      obtain ⟨-, ao, cap, e, -, hc⟩ := Rd.below RT.out B.out
      cases e
      obtain ⟨b, o, rfl, hbl, hcl⟩ := hc (by omega)
      have c0 := (hcl (k * 3) (by omega)).trans (mis_at0 td k hlt)
      have c1 := (hcl (k * 3 + 1) (by omega)).trans (mis_at1 td k hlt)
      have c2 := (hcl (k * 3 + 2) (by omega)).trans (mis_at2 td k hlt)
      rw [← Nat.add_assoc] at c1 c2
      have LM := hideIt (fun w1 => l04Micro_any td[k] w1)
      obtain ⟨mb, emb⟩ : ∃ mb, mb = miB td[k] := ⟨_, rfl⟩
      rw [← emb] at LM
      have AL : Hid (mb = false → todB ps qs td = false) := fun q => by
        unfold todB
        have : td.all miB = false := by
          apply Bool.eq_false_iff.2
          intro h
          have := List.all_eq_true.1 h td[k] (List.getElem_mem hlt)
          rw [← emb, q] at this
          cases this
        rw [this]
        simp
      have GG : Hid (mb = true → ∀ j (hj : j < td.length), j < k + 1 → miB td[j] = true) := fun q j hj hjk => by
        by_cases e : j = k
        · subst e; rw [← emb]; exact q
        · exact G.out j hj (by omega)
      rw [show Mi.v td[k] = .agg #[.int .i64 td[k].kind, .int .i64 td[k].at_, .int .i64 td[k].val] from rfl] at LM
      generalize td[k] = m at *
      clear hc hcl G emb
      go_wp2_with fail
      refine (LM.out wr).mono ?_
      rintro e w2 ⟨rfl, hb2⟩
      have B2 := hideIt (below_trans B.out hb2 B.out.size)
      have X2 := hideIt (box_below X.out hb2 z)
      have z2 : w.heap.size < w2.heap.size := Nat.lt_of_lt_of_le z hb2.size
      clear hb2 c0 c1 c2 x5 B X LM
      cases mb with
      | false =>
        have q := AL.out (by simp)
        rw [q] at FB
        obtain rfl := FB.out
        clear FB LR LJ RT X2 q
        go_wp2
        go_ret
        exact ⟨rfl, B2.out⟩
      | true =>
        go_wp2
        go_roundw
        case rel => exact ⟨k + 1, by omega, by go_num, GG.out (by simp), B2, X2, z2⟩
        case measure => simp [intOf]; omega
    · have hlt' : ¬ (k : Int) < (td.length : Int) := by omega
      have TA : td.all miB = true := List.all_eq_true.2 (fun m hm => by
        obtain ⟨j, hj, rfl⟩ := List.getElem_of_mem hm
        exact G.out j hj (by omega))
      have TB : Hid (todB ps qs td = (decide (ps.length + td.length ≤ 400) && decide (qs.length + td.length ≤ 400))) := by unfold todB; rw [TA, decide_eq_true hl]; rfl
      rw [TB.out] at FB
      clear TB TA G RT
      simp only [Bool.true_and] at FB
      go_upto_region 8 with fail
      obtain ⟨x6, x7, x8⟩ := tenA X.out
      have x9 := tenB X.out
      have PX : Hid (¬ fr = true → ¬ (cd = 0 ∧ vl = 0 ∧ nm.length = 0) → r = false) := fun q1 q2 => by
        rw [FB.out]
        have : (fr || noA cd vl nm) = false := by
          unfold noA
          simp only [Bool.or_eq_false_iff]
          refine ⟨by simpa using q1, ?_⟩
          apply Bool.eq_false_iff.2
          intro h
          simp only [Bool.and_eq_true, decide_eq_true_eq] at h
          exact q2 ⟨h.1, h.2.1, h.2.2⟩
        rw [this]
        simp
      have PY : Hid ((fr = true ∨ (cd = 0 ∧ vl = 0 ∧ nm.length = 0)) → r = ((decide (ps.length + td.length ≤ 400) && decide (qs.length + td.length ≤ 400)) && (decide (0 < td.length) || (decide (rc = 0) && (decide (ps.length = 0) && (decide (qs.length = 0) && decide (jc = 0))))))) := fun q => by
        rw [FB.out]
        have : (fr || noA cd vl nm) = true := by
          unfold noA
          rcases q with q | ⟨q1, q2, q3⟩
          · rw [q]; rfl
          · rw [q1, q2, q3]; simp
        rw [this, Bool.true_and]
      clear FB
      have REST : Hid (r = r) := rfl
      by_cases cF : fr = true
      · subst cF
        have FB := hideIt (PY.out (.inl rfl))
        clear PX PY
        go_upto_region 10 with fail
        clear x6 x7 x8 x9
        obtain ⟨x0, x1, x2, x3⟩ := tenD X.out
        by_cases e1 : 400 < ps.length + td.length
        · have q : r = false := by rw [FB.out, decide_eq_false (p := ps.length + td.length ≤ 400) (by omega)]; rfl
          subst q
          clear FB LR LJ X
          have e1' : (400 : Int) < (ps.length : Int) + (td.length : Int) := by omega
          go_wp2
          go_ret
          exact ⟨rfl, B.out⟩
        have e1' : ¬ (400 : Int) < (ps.length : Int) + (td.length : Int) := by omega
        by_cases e2 : 400 < qs.length + td.length
        · have q : r = false := by rw [FB.out, decide_eq_false (p := qs.length + td.length ≤ 400) (by omega)]; simp
          subst q
          clear FB LR LJ X
          have e2' : (400 : Int) < (qs.length : Int) + (td.length : Int) := by omega
          go_wp2
          go_ret
          exact ⟨rfl, B.out⟩
        have e2' : ¬ (400 : Int) < (qs.length : Int) + (td.length : Int) := by omega
        rw [decide_eq_true (p := ps.length + td.length ≤ 400) (by omega), decide_eq_true (p := qs.length + td.length ≤ 400) (by omega)] at FB
        simp only [Bool.true_and] at FB
        by_cases e3 : 0 < td.length
        · have q : r = true := by rw [FB.out, decide_eq_true e3]; rfl
          subst q
          clear FB LR LJ X
          have e3' : (0 : Int) < (td.length : Int) := by omega
          go_wp2
          go_ret
          exact ⟨rfl, B.out⟩
        have e3' : ¬ (0 : Int) < (td.length : Int) := by omega
        rw [decide_eq_false e3] at FB
        simp only [Bool.false_or] at FB
        go_wp2_with fail
        refine (LR.out wr B.out).mono ?_
        rintro e w2 ⟨ia, ib, ic, id, ie, ig, rfl, hb2⟩
        have B2 := hideIt (below_trans B.out hb2 B.out.size)
        have X2 := hideIt (box_below X.out hb2 z)
        have z2 : w.heap.size < w2.heap.size := Nat.lt_of_lt_of_le z hb2.size
        clear hb2 x0 x1 x2 x3 x5 B X LR
        obtain ⟨w3, hw3⟩ : ∃ w3, w3 = w2.alloc (.cells #[.slice ia ib ic, .slice id ie ig] 98) := ⟨_, rfl⟩
        have hb3 : Below w2.heap.size w2 w3 := by rw [hw3]; exact (Below.refl _ _).alloc (Nat.le_refl _) _
        have B3 := hideIt (below_trans B2.out hb3 B2.out.size)
        have X3 := hideIt (box_below X2.out hb3 z2)
        go_upto_region 15 with fail
        rw [← hw3]
        clear hw3 hb3 B2 X2
        obtain ⟨x0, x1, x2, x3⟩ := tenD X3.out
        by_cases f1 : rc = 0
        · subst f1
          by_cases f2 : ps.length = 0
          · have f2' : (ps.length : Int) = 0 := by omega
            by_cases f3 : qs.length = 0
            · have f3' : (qs.length : Int) = 0 := by omega
              have q : r = decide (jc = 0) := by rw [FB.out, decide_eq_true f2, decide_eq_true f3]; rfl
              clear FB f2 f3
              go_wp2_with fail
              refine (LJ.out (by simp) w3 B3.out).mono ?_
              rintro e w4 ⟨rfl, hb4⟩
              have B4 := hideIt (below_trans B3.out hb4 B3.out.size)
              clear hb4 B3 X3 x0 x1 x2 x3 LJ
              subst q
              go_wp2
              go_ret
              exact ⟨rfl, B4.out⟩
            · have q : r = false := by rw [FB.out, decide_eq_false f3]; simp
              subst q
              have f3' : ¬ (qs.length : Int) = 0 := by omega
              clear FB LJ X3
              go_wp2
              go_ret
              exact ⟨rfl, B3.out⟩
          · have q : r = false := by rw [FB.out, decide_eq_false f2]; simp
            subst q
            have f2' : ¬ (ps.length : Int) = 0 := by omega
            clear FB LJ X3
            go_wp2
            go_ret
            exact ⟨rfl, B3.out⟩
        · have q : r = false := by rw [FB.out, decide_eq_false f1]; rfl
          subst q
          clear FB LJ X3
          go_wp2
          go_ret
          exact ⟨rfl, B3.out⟩
      have cF' : fr = false := by simpa using cF
      by_cases a1 : cd = 0
      · by_cases a2 : vl = 0
        · by_cases a3 : nm.length = 0
          · have FB := hideIt (PY.out (.inr ⟨a1, a2, a3⟩))
            clear PX PY
            subst a1 a2 cF'
            have a3' : (nm.length : Int) = 0 := by omega
            go_upto_region 10 with fail
            clear x6 x7 x8 x9 a3 a3' REST
            obtain ⟨x0, x1, x2, x3⟩ := tenD X.out
            by_cases e1 : 400 < ps.length + td.length
            · have q : r = false := by rw [FB.out, decide_eq_false (p := ps.length + td.length ≤ 400) (by omega)]; rfl
              subst q
              clear FB LR LJ X
              have e1' : (400 : Int) < (ps.length : Int) + (td.length : Int) := by omega
              go_wp2
              go_ret
              exact ⟨rfl, B.out⟩
            have e1' : ¬ (400 : Int) < (ps.length : Int) + (td.length : Int) := by omega
            by_cases e2 : 400 < qs.length + td.length
            · have q : r = false := by rw [FB.out, decide_eq_false (p := qs.length + td.length ≤ 400) (by omega)]; simp
              subst q
              clear FB LR LJ X
              have e2' : (400 : Int) < (qs.length : Int) + (td.length : Int) := by omega
              go_wp2
              go_ret
              exact ⟨rfl, B.out⟩
            have e2' : ¬ (400 : Int) < (qs.length : Int) + (td.length : Int) := by omega
            rw [decide_eq_true (p := ps.length + td.length ≤ 400) (by omega), decide_eq_true (p := qs.length + td.length ≤ 400) (by omega)] at FB
            simp only [Bool.true_and] at FB
            by_cases e3 : 0 < td.length
            · have q : r = true := by rw [FB.out, decide_eq_true e3]; rfl
              subst q
              clear FB LR LJ X
              have e3' : (0 : Int) < (td.length : Int) := by omega
              go_wp2
              go_ret
              exact ⟨rfl, B.out⟩
            have e3' : ¬ (0 : Int) < (td.length : Int) := by omega
            rw [decide_eq_false e3] at FB
            simp only [Bool.false_or] at FB
            go_wp2_with fail
            refine (LR.out wr B.out).mono ?_
            rintro e w2 ⟨ia, ib, ic, id, ie, ig, rfl, hb2⟩
            have B2 := hideIt (below_trans B.out hb2 B.out.size)
            have X2 := hideIt (box_below X.out hb2 z)
            have z2 : w.heap.size < w2.heap.size := Nat.lt_of_lt_of_le z hb2.size
            clear hb2 x0 x1 x2 x3 x5 B X LR
            obtain ⟨w3, hw3⟩ : ∃ w3, w3 = w2.alloc (.cells #[.slice ia ib ic, .slice id ie ig] 98) := ⟨_, rfl⟩
            have hb3 : Below w2.heap.size w2 w3 := by rw [hw3]; exact (Below.refl _ _).alloc (Nat.le_refl _) _
            have B3 := hideIt (below_trans B2.out hb3 B2.out.size)
            have X3 := hideIt (box_below X2.out hb3 z2)
            go_upto_region 15 with fail
            rw [← hw3]
            clear hw3 hb3 B2 X2
            obtain ⟨x0, x1, x2, x3⟩ := tenD X3.out
            by_cases f1 : rc = 0
            · subst f1
              by_cases f2 : ps.length = 0
              · have f2' : (ps.length : Int) = 0 := by omega
                by_cases f3 : qs.length = 0
                · have f3' : (qs.length : Int) = 0 := by omega
                  have q : r = decide (jc = 0) := by rw [FB.out, decide_eq_true f2, decide_eq_true f3]; rfl
                  clear FB f2 f3
                  go_wp2_with fail
                  refine (LJ.out (by simp) w3 B3.out).mono ?_
                  rintro e w4 ⟨rfl, hb4⟩
                  have B4 := hideIt (below_trans B3.out hb4 B3.out.size)
                  clear hb4 B3 X3 x0 x1 x2 x3 LJ
                  subst q
                  go_wp2
                  go_ret
                  exact ⟨rfl, B4.out⟩
                · have q : r = false := by rw [FB.out, decide_eq_false f3]; simp
                  subst q
                  have f3' : ¬ (qs.length : Int) = 0 := by omega
                  clear FB LJ X3
                  go_wp2
                  go_ret
                  exact ⟨rfl, B3.out⟩
              · have q : r = false := by rw [FB.out, decide_eq_false f2]; simp
                subst q
                have f2' : ¬ (ps.length : Int) = 0 := by omega
                clear FB LJ X3
                go_wp2
                go_ret
                exact ⟨rfl, B3.out⟩
            · have q : r = false := by rw [FB.out, decide_eq_false f1]; rfl
              subst q
              clear FB LJ X3
              go_wp2
              go_ret
              exact ⟨rfl, B3.out⟩
          · obtain rfl := PX.out cF (fun q => a3 q.2.2)
            subst a1 a2 cF'
            have a3' : ¬ (nm.length : Int) = 0 := by omega
            clear PX PY LR LJ X
            go_wp2
            go_ret
            exact ⟨rfl, B.out⟩
        · obtain rfl := PX.out cF (fun q => a2 q.2.1)
          subst a1 cF'
          clear PX PY LR LJ X
          go_wp2
          go_ret
          exact ⟨rfl, B.out⟩
      · obtain rfl := PX.out cF (fun q => a1 q.1)
        subst cF'
        clear PX PY LR LJ X
        go_wp2
        go_ret
        exact ⟨rfl, B.out⟩
end Go.Proofs.YtmeiionabonhnaaGreatDoor

namespace Go.Proofs.YtmeiionabonhnaaGreatDoor
open Go.RowKit
theorem dv_yes {ws : List Int} {ps : List St} {es : List Int} {qs : List Se} (h : dvB ws ps es qs = true) : pmB ws ps = true ∧ blkB es qs = true ∧ dvN ws ps es qs = inosOf (layW ws ps) 16 ∧ dvD ws ps es qs = densOf (layW ws ps) 24 ∧ imgB (inosOf (layW ws ps) 16) (densOf (layW ws ps) 24) = true := by
  have q := h
  unfold dvB at q
  rw [Bool.and_eq_true, Bool.and_eq_true] at q
  obtain ⟨⟨a, b⟩, r⟩ := q
  unfold riB at r
  rw [Bool.and_eq_true, Bool.and_eq_true] at r
  exact ⟨a, b, by unfold dvN; rw [if_pos h], by unfold dvD; rw [if_pos h], r.2.2⟩
end Go.Proofs.YtmeiionabonhnaaGreatDoor

namespace Go.Proofs.YtmeiionabonhnaaGreatDoor
open Go.RowKit
theorem run_arrayAt8 (a : Option Addr) (n cap : Nat) (hn : 8 ≤ n) (w : World) : (Instr.arrayAt 148 (.slice a n cap)).run Tryz.prog w = .ok (.pointer a) w := by
  have h : ¬ n < 8 := by omega
  simp [Instr.arrayAt, run_underlying Tryz.underlying148, h, go_sem]
set_option maxRecDepth 100000 in
set_option maxHeartbeats 2000000 in
theorem readInode_any (b o n c : Nat) (x : Ino) (w : World) (hn : 11 ≤ n) (hc : n ≤ c) (hb : b < w.heap.size) (h : ∀ j, j < 11 → w.cell? ⟨b, o + j, none⟩ = x.cs[j]?) :
    Calls Tryz.prog 230 #[.slice (some ⟨b, o, none⟩) n c] w fun e w' => e = .returned x.v ∧ Below w.heap.size w w' := by
  have BW := hideIt ((Below.refl w.heap.size w).alloc (Nat.le_refl _) (.cells #[.int .i64 0, .int .i64 0, .int .i64 0, .int .i64 0, .int .i64 0, .int .i64 0, .int .i64 0, .int .i64 0, .int .i64 0, .int .i64 0, .int .i64 0] 150))
  have S : Hid (∀ w', Below w.heap.size w w' → w'.cell? ⟨b, o, none⟩ = some (.int .i64 x.kind) ∧ w'.cell? ⟨b, o + 1, none⟩ = some (.int .i64 x.size) ∧ w'.cell? ⟨b, o + 2, none⟩ = some (.int .i64 x.links) ∧ w'.cell? ⟨b, o + 3, none⟩ = some (.int .i64 x.m0) ∧ w'.cell? ⟨b, o + 3 + 1, none⟩ = some (.int .i64 x.m1) ∧ w'.cell? ⟨b, o + 3 + 2, none⟩ = some (.int .i64 x.m2) ∧ w'.cell? ⟨b, o + 3 + 3, none⟩ = some (.int .i64 x.m3) ∧ w'.cell? ⟨b, o + 3 + 4, none⟩ = some (.int .i64 x.m4) ∧ w'.cell? ⟨b, o + 3 + 5, none⟩ = some (.int .i64 x.m5) ∧ w'.cell? ⟨b, o + 3 + 6, none⟩ = some (.int .i64 x.m6) ∧ w'.cell? ⟨b, o + 3 + 7, none⟩ = some (.int .i64 x.m7)) := fun w' hw' =>
    have g := fun j (hj : j < 11) => (hw'.cell (p := ⟨b, o + j, none⟩) hb).trans (h j hj)
    ⟨g 0 (by omega), g 1 (by omega), g 2 (by omega), g 3 (by omega), g 4 (by omega), g 5 (by omega), g 6 (by omega), g 7 (by omega), g 8 (by omega), g 9 (by omega), g 10 (by omega)⟩
  obtain ⟨s0, s1, s2, s3, s4, s5, s6, s7, s8, s9, s10⟩ := S.out _ BW.out
  have i0 : (0 : Int) < (n : Int) := by omega
  have i00 : 0 < n := by omega
  have i1 : (1 : Int) < (n : Int) := by omega
  have i2 : (2 : Int) < (n : Int) := by omega
  have i3 : (11 : Int) ≤ (c : Int) := by omega
  have i4 : ¬ c = 3 := by omega
  have i5 : (3 : Int) ≤ 11 := by omega
  have har := run_arrayAt8 (some ⟨b, o + 3, none⟩) 8 (c - 3) (Nat.le_refl _)
  unfold Ino.v
  clear h hn hc
  go_enter Tryz.func230, Tryz.ntmps230
  go_wp2_with fail
  go_region_held3 (fun w' => w'.cell? ⟨b, o, none⟩ = some (.int .i64 x.kind) ∧ w'.cell? ⟨b, o + 1, none⟩ = some (.int .i64 x.size) ∧ w'.cell? ⟨b, o + 2, none⟩ = some (.int .i64 x.links) ∧ w'.cell? ⟨b, o + 3, none⟩ = some (.int .i64 x.m0) ∧ w'.cell? ⟨b, o + 3 + 1, none⟩ = some (.int .i64 x.m1) ∧ w'.cell? ⟨b, o + 3 + 2, none⟩ = some (.int .i64 x.m2) ∧ w'.cell? ⟨b, o + 3 + 3, none⟩ = some (.int .i64 x.m3) ∧ w'.cell? ⟨b, o + 3 + 4, none⟩ = some (.int .i64 x.m4) ∧ w'.cell? ⟨b, o + 3 + 5, none⟩ = some (.int .i64 x.m5) ∧ w'.cell? ⟨b, o + 3 + 6, none⟩ = some (.int .i64 x.m6) ∧ w'.cell? ⟨b, o + 3 + 7, none⟩ = some (.int .i64 x.m7))
    (exact S.out _ (by repeat (first | with_reducible exact BW.out | with_reducible refine below_allocB ?_ _ | with_reducible exact Below.refl _ _ | with_reducible refine Below.drew ?_)))
    (fail)
  all_goals
    go_wp2
    refine bodyPost_ret (v := .agg #[.int .i64 x.kind, .int .i64 x.size, .int .i64 x.links, .int .i64 x.m0, .int .i64 x.m1, .int .i64 x.m2, .int .i64 x.m3, .int .i64 x.m4, .int .i64 x.m5, .int .i64 x.m6, .int .i64 x.m7]) (by simp [results, Tryz.results230, go_sem]) rfl ⟨rfl, ?_⟩
    repeat (first | with_reducible exact Below.refl _ _ | with_reducible refine below_allocB ?_ _ | with_reducible refine Below.drew ?_)
def denZ (z0 z1 z2 : Int) : Den := if z2 = 0 then ⟨0, ⟨#[]⟩, -1⟩ else ⟨z0, unpS z1, z2 - 1⟩
def denZok (z0 z1 z2 : Int) : Bool := if z2 = 0 then z0 == 0 && z1 == 0 else goodN z1
set_option maxRecDepth 100000 in
set_option maxHeartbeats 2000000 in
theorem readDirent_any (b o n c : Nat) (z0 z1 z2 : Int) (w : World) (hn : 3 ≤ n) (_hc : n ≤ c) (hb : b < w.heap.size) (h0 : w.cell? ⟨b, o, none⟩ = some (.int .i64 z0)) (h1 : w.cell? ⟨b, o + 1, none⟩ = some (.int .i64 z1)) (h2 : w.cell? ⟨b, o + 2, none⟩ = some (.int .i64 z2)) (hF : FD w) (r1 : z1 ≤ 9223372036854775807) (r2 : 0 ≤ z2 ∧ z2 ≤ 9223372036854775807) :
    Calls Tryz.prog 231 #[.slice (some ⟨b, o, none⟩) n c] w fun e w' => (∃ s, e = .returned (.tuple #[.agg #[.int .i64 (denZ z0 z1 z2).dir, .string s, .int .i64 (denZ z0 z1 z2).child], .bool (denZok z0 z1 z2)]) ∧ (denZok z0 z1 z2 = true → s = (denZ z0 z1 z2).name)) ∧ Below w.heap.size w w' := by
  have BW := hideIt ((Below.refl w.heap.size w).alloc (Nat.le_refl _) (.cells #[.int .i64 0, .string ⟨#[]⟩, .int .i64 0] 140))
  have S : Hid (∀ w', Below w.heap.size w w' → w'.cell? ⟨b, o, none⟩ = some (.int .i64 z0) ∧ w'.cell? ⟨b, o + 1, none⟩ = some (.int .i64 z1) ∧ w'.cell? ⟨b, o + 2, none⟩ = some (.int .i64 z2)) := fun w' hw' => ⟨(hw'.cell (p := ⟨b, o, none⟩) hb).trans h0, (hw'.cell (p := ⟨b, o + 1, none⟩) hb).trans h1, (hw'.cell (p := ⟨b, o + 2, none⟩) hb).trans h2⟩
  obtain ⟨s0, s1, s2⟩ := S.out _ BW.out
  have F := hideIt hF
  have i0 : (0 : Int) < (n : Int) := by omega
  have i00 : 0 < n := by omega
  have i1 : (1 : Int) < (n : Int) := by omega
  have i2 : (2 : Int) < (n : Int) := by omega
  clear h0 h1 h2 hF
  by_cases c2 : z2 = 0
  · subst c2
    have E1 : denZ z0 z1 0 = ⟨0, ⟨#[]⟩, -1⟩ := by unfold denZ; rw [if_pos rfl]
    have E2 : denZok z0 z1 0 = (z0 == 0 && z1 == 0) := by unfold denZok; rw [if_pos rfl]
    rw [E1, E2]
    clear E1 E2
    obtain ⟨f0, f1, f2⟩ := FD.cells (F.out.below BW.out)
    by_cases c0 : z0 = 0
    · have q0 : (z0 == 0) = true := by rw [c0]; rfl
      have EQ : Hid ((z0 == 0 && z1 == 0) = (z1 == 0)) := by unfold Hid; rw [q0]; rfl
      rw [EQ.out]
      clear c0 EQ
      go_enter Tryz.func231, Tryz.ntmps231
      go_wp2_with fail
      go_region_held3 (fun w' => (w'.cell? ⟨b, o, none⟩ = some (.int .i64 z0) ∧ w'.cell? ⟨b, o + 1, none⟩ = some (.int .i64 z1) ∧ w'.cell? ⟨b, o + 2, none⟩ = some (.int .i64 0)) ∧ w'.cell? ⟨1, 0, none⟩ = some (.int .i64 0) ∧ w'.cell? ⟨1, 1, none⟩ = some (.string ⟨#[]⟩) ∧ w'.cell? ⟨1, 2, none⟩ = some (.int .i64 (-1)))
        (exact ⟨S.out _ (by repeat (first | with_reducible exact BW.out | with_reducible refine below_allocB ?_ _ | with_reducible exact Below.refl _ _ | with_reducible refine Below.drew ?_)), FD.cells (F.out.below (by repeat (first | with_reducible exact BW.out | with_reducible refine below_allocB ?_ _ | with_reducible exact Below.refl _ _ | with_reducible refine Below.drew ?_)))⟩)
        (fail)
      all_goals
        go_wp2
        refine bodyPost_ret (v := .tuple #[.agg #[.int .i64 0, .string ⟨#[]⟩, .int .i64 (-1)], .bool (z1 == 0)]) (by simp [results, Tryz.results231, go_sem]) rfl ?_
        exact ⟨⟨_, rfl, fun _ => rfl⟩, (by repeat (first | with_reducible exact BW.out | with_reducible exact Below.refl _ _ | with_reducible refine below_allocB ?_ _ | with_reducible refine Below.drew ?_ | refine Below.setCell ?_ (by exact Nat.le_refl _) _))⟩
    · have q0 : (z0 == 0) = false := by rw [beq_eq_false_iff_ne]; exact c0
      have EQ : Hid ((z0 == 0 && z1 == 0) = false) := by unfold Hid; rw [q0]; rfl
      rw [EQ.out]
      clear c0 EQ
      go_enter Tryz.func231, Tryz.ntmps231
      go_wp2_with fail
      go_region
      all_goals
        go_wp2
        refine bodyPost_ret (v := .tuple #[.agg #[.int .i64 0, .string ⟨#[]⟩, .int .i64 (-1)], .bool false]) (by simp [results, Tryz.results231, go_sem]) rfl ?_
        exact ⟨⟨_, rfl, fun _ => rfl⟩, (by repeat (first | with_reducible exact BW.out | with_reducible exact Below.refl _ _ | with_reducible refine below_allocB ?_ _ | with_reducible refine Below.drew ?_ | refine Below.setCell ?_ (by exact Nat.le_refl _) _))⟩
  · have q : (z2 == 0) = false := by rw [beq_eq_false_iff_ne]; exact c2
    have E1 : denZ z0 z1 z2 = ⟨z0, unpS z1, z2 - 1⟩ := by unfold denZ; rw [if_neg c2]
    have E2 : denZok z0 z1 z2 = goodN z1 := by unfold denZok; rw [if_neg c2]
    rw [E1, E2]
    have LU := hideIt (fun w1 => implUnpackName_any z1 w1 r1)
    have EU : Hid ((unpC z1 == 0) = goodN z1) := by
      unfold Hid unpC
      cases goodN z1 <;> rfl
    have wp1 : IntKind.i64.wrap (z2 - 1) = z2 - 1 := by rw [IntKind.wrap_i64]; omega
    rw [← EU.out]
    clear E1 E2 c2 EU
    generalize unpC z1 = uc at *
    generalize unpS z1 = us at *
    go_enter Tryz.func231, Tryz.ntmps231
    go_wp2_with fail
    refine (LU.out _).mono ?_
    rintro e w1 ⟨rfl, hb1⟩
    have B1 := hideIt (below_trans BW.out hb1 BW.out.size)
    have VB : Hid (w1.heap[w.heap.size]? = some (.cells #[.int .i64 0, .string ⟨#[]⟩, .int .i64 0] 140 (0, 0))) := (hb1.block _ (by simp)).trans (at_new rfl)
    clear hb1 s0 s1 s2
    obtain ⟨s0, s1, s2⟩ := S.out _ B1.out
    obtain ⟨t0, t1, t2⟩ := three_cells VB.out
    have u0 := (eight_at (xs := [.int .i64 0, .string ⟨#[]⟩, .int .i64 0]) VB.out 0).2
    have u1 := (eight_at (xs := [.int .i64 0, .string ⟨#[]⟩, .int .i64 0]) VB.out 1).2
    have u2 := (eight_at (xs := [.int .i64 0, .string ⟨#[]⟩, .int .i64 0]) VB.out 2).2
    go_wp2_with fail
    go_region_held3 (fun w' => w'.cell? ⟨b, o, none⟩ = some (.int .i64 z0) ∧ w'.cell? ⟨b, o + 1, none⟩ = some (.int .i64 z1) ∧ w'.cell? ⟨b, o + 2, none⟩ = some (.int .i64 z2))
      (exact S.out _ (by repeat (first | with_reducible exact B1.out | with_reducible refine Below.drew ?_ | refine Below.setCell ?_ (by exact Nat.le_refl _) _)))
      (fail)
    all_goals
      go_wp2
      refine bodyPost_ret (v := .tuple #[.agg #[.int .i64 z0, .string us, .int .i64 (z2 - 1)], .bool (uc == 0)]) (by simp [results, Tryz.results231, go_sem, t0, t1, t2]) rfl ?_
      exact ⟨⟨_, rfl, fun _ => rfl⟩, (by repeat (first | with_reducible exact B1.out | with_reducible refine Below.drew ?_ | refine Below.setCell ?_ (by exact Nat.le_refl _) _))⟩
end Go.Proofs.YtmeiionabonhnaaGreatDoor
