/- Several texts laid together: FqD, JlP, DtD, IgJ, DtH, OpM. -/
import Derived.Test.YtipklbnfobckaaaGreatDoorFqC
import Derived.Test.YtipklbnfobckaaaGreatDoorZAR
import Derived.Test.YtipklbnfobckaaaGreatDoorZBD
import Derived.Test.YtipklbnfobckaaaGreatDoorZAF
import Derived.Test.YtipklbnfobckaaaGreatDoorZBB
import Derived.Test.YtipklbnfobckaaaGreatDoorZAI
import Derived.Test.YtipklbnfobckaaaGreatDoorZBA
import Derived.KernelRfl
namespace Go.Proofs.YtipklbnfobckaaaGreatDoor
open Go.RowKit

theorem dev_pm {w : World} {aW aP aS aQ : Option Addr} {cW cP cS cQ : Nat} {ws : List Int} {ps : List St} {es : List Int} {qs : List Se} (h : RdDev w (.agg #[.slice aW ws.length cW, .slice aP ps.length cP, .slice aS es.length cS, .slice aQ qs.length cQ]) ws ps es qs) : RdPm w (.agg #[.slice aW ws.length cW, .slice aP ps.length cP]) ws ps := by
 obtain ⟨_, _, _, _, e, p1, _⟩ := h
 cases e
 exact p1
def noA (cd vl : Int) (nm : List ByteArray) : Bool := decide (cd = 0) && (decide (vl = 0) && decide (nm.length = 0))
def zpd (ws : List Int) (ps : List St) (es : List Int) (qs : List Se) : Bool := dvB ws ps es qs && (decide (ps.length = 0) && (decide (qs.length = 0) && decide (ldW ws ps 8 = 0)))
def todB (ps : List St) (qs : List Se) (td : List Mi) : Bool := decide (td.length ≤ 200) && (td.all miB && (decide (ps.length + td.length ≤ 400) && decide (qs.length + td.length ≤ 400)))
/-- A file system that is right. -/
def fsB (ws : List Int) (ps : List St) (es : List Int) (qs : List Se) (hs : List Int) (td : List Mi) (cd vl : Int) (nm : List ByteArray) (fr : Bool) : Bool := (pmB ws ps && zeh es qs) && (zcn hs && (todB ps qs td && ((fr || noA cd vl nm) && (decide (0 < td.length) || zpd ws ps es qs))))
set_option maxRecDepth 100000 in
set_option maxHeartbeats 8000000 in
theorem zti (v : Value) (ws : List Int) (ps : List St) (es : List Int) (qs : List Se) (hs : List Int) (td : List Mi) (cd vl : Int) (nm : List ByteArray) (fr : Bool) (w : World) (h : RdF w v ws ps es qs hs td cd vl nm fr) (hws : ws.length ≤ 1048576) (hps : ps.length ≤ 1048576) (hes : es.length ≤ 1048576) (hqs : qs.length ≤ 1048576) (hhs : hs.length ≤ 1048576) (htd : td.length ≤ 1048576) (_hnm : nm.length ≤ 1048576) :
  Calls Tryz.prog 12 #[v] w fun e w' => e = .returned (.bool (fsB ws ps es qs hs td cd vl nm fr)) ∧ Below w.heap.size w w' := by
 obtain ⟨aW, cW, aP, cP, aS, cS, aQ, cQ, aH, cH, aT, cT, aN, cN, rfl, d1, h1, t1, n1⟩ := h
 obtain ⟨D, eD⟩ : ∃ D, D = (pmB ws ps && zeh es qs) := ⟨_, rfl⟩
 obtain ⟨H, eH⟩ : ∃ H, H = zcn hs := ⟨_, rfl⟩
 obtain ⟨rc, erc⟩ : ∃ rc, rc = riC ws ps := ⟨_, rfl⟩
 obtain ⟨jc, ejc⟩ : ∃ jc, jc = ldW ws ps 8 := ⟨_, rfl⟩
 have LD : Hid (∀ w1, Below w.heap.size w w1 → Calls Tryz.prog 41 #[.agg #[.slice aW ws.length cW, .slice aP ps.length cP, .slice aS es.length cS, .slice aQ qs.length cQ]] w1 fun e w' => e = .returned (.bool D) ∧ Below w1.heap.size w1 w') := fun w1 hb => by rw [eD]; exact zje _ ws ps es qs w1 (d1.below hb) hws hps hes hqs
 have LH : Hid (∀ w1, Below w.heap.size w w1 → Calls Tryz.prog 42 #[.slice aH hs.length cH] w1 fun e w' => e = .returned (.bool H) ∧ w' = w1) := fun w1 hb => by rw [eH]; exact zno _ hs w1 (Rd.below h1 hb) hhs
 have LR : Hid (∀ w1, Below w.heap.size w w1 → Calls Tryz.prog 44 #[.agg #[.slice aW ws.length cW, .slice aP ps.length cP]] w1 fun e w' => ∃ a b c d f g, e = .returned (.tuple #[.agg #[.slice a b c, .slice d f g], .int .i64 rc]) ∧ Below w1.heap.size w1 w') := fun w1 hb => by
  have p1 := dev_pm (d1.below hb)
  rw [erc]
  refine (zip _ ws ps w1 p1 hws hps).mono ?_
  rintro e w2 ⟨v2, rfl, hr, hb2⟩
  obtain ⟨vA, vB, rfl, ⟨-, a, c, rfl, -⟩, ⟨-, d, g, rfl, -⟩⟩ := hr.rd
  exact ⟨a, _, c, d, _, g, rfl, hb2⟩
 have LJ : Hid (D = true → ∀ w1, Below w.heap.size w w1 → Calls Tryz.prog 45 #[.agg #[.slice aW ws.length cW, .slice aP ps.length cP]] w1 fun e w' => e = .returned (.int .i64 jc) ∧ Below w1.heap.size w1 w') := fun hD w1 hb => by
  have p1 := dev_pm (d1.below hb)
  rw [ejc]
  rw [eD] at hD
  simp only [Bool.and_eq_true] at hD
  exact zsy _ ws ps w1 p1 hws hps (by rw [pm_len hD.1]; decide)
 have RT := zaa t1
 have FB : Hid (fsB ws ps es qs hs td cd vl nm fr = (D && (H && (todB ps qs td && ((fr || noA cd vl nm) && (decide (0 < td.length) || (decide (rc = 0) && (decide (ps.length = 0) && (decide (qs.length = 0) && decide (jc = 0)))))))))) := by
  unfold fsB zpd
  rw [← eD, ← eH, ← ejc]
  cases hD : D with
  | false => rfl
  | true =>
   have := (dv_form (eD.symm.trans hD)).1
   rw [this, erc]
   rfl
 generalize fsB ws ps es qs hs td cd vl nm fr = r at *
 clear eD eH erc ejc d1 h1 t1 n1
 obtain ⟨V, hV⟩ : ∃ V, V = w.alloc (.cells #[.slice aW ws.length cW, .slice aP ps.length cP, .slice aS es.length cS, .slice aQ qs.length cQ, .slice aH hs.length cH, .slice aT td.length cT, .int .i64 cd, .int .i64 vl, .slice aN nm.length cN, .bool fr] 50) := ⟨_, rfl⟩
 have BV : Hid (Below w.heap.size w V) := by rw [hV]; exact (Below.refl _ _).alloc (Nat.le_refl _) _
 have XV : Hid (V.heap[w.heap.size]? = some (.cells #[.slice aW ws.length cW, .slice aP ps.length cP, .slice aS es.length cS, .slice aQ qs.length cQ, .slice aH hs.length cH, .slice aT td.length cT, .int .i64 cd, .int .i64 vl, .slice aN nm.length cN, .bool fr] 50 (0, 0))) := by rw [hV]; exact zah rfl
 have zV : w.heap.size < V.heap.size := zaj XV.out
 go_enter Tryz.func12, Tryz.ntmps12
 go_upto_region 1 with fail
 rw [← hV]
 clear hV
 obtain ⟨x0, x1, x2, x3⟩ := zuj XV.out
 go_wp2_with fail
 refine (LD.out V BV.out).mono ?_
 rintro e w1 ⟨rfl, hb1⟩
 have B1 := zaa (zab BV.out hb1 BV.out.size)
 have X1 := zaa (zae XV.out hb1 zV)
 have z1 : w.heap.size < w1.heap.size := Nat.lt_of_lt_of_le zV hb1.size
 clear hb1 x0 x1 x2 x3 LD BV XV
 cases D with
 | false =>
  obtain rfl := FB.out
  clear FB LH LR LJ RT X1
  go_wp2
  go_ret
  exact ⟨rfl, B1.out⟩
 | true =>
 have x4 := tenH X1.out
 go_wp2_with fail
 refine (LH.out w1 B1.out).mono ?_
 rintro e w' ⟨rfl, hw'⟩
 subst w'
 clear LH x4
 cases H with
 | false =>
  obtain rfl := FB.out
  clear FB LR LJ RT X1
  go_wp2
  go_ret
  exact ⟨rfl, B1.out⟩
 | true =>
 have x5 := tenT X1.out
 by_cases cL : 200 < td.length
 ·have q : todB ps qs td = false := by unfold todB; rw [decide_eq_false (by omega)]; rfl
  rw [q] at FB
  obtain rfl := FB.out
  clear FB LR LJ RT X1 q
  have cL' : (200 : Int) < (td.length : Int) := by omega
  go_wp2
  go_ret
  exact ⟨rfl, B1.out⟩
 have hl : td.length ≤ 200 := by omega
 have cL' : ¬ (200 : Int) < (td.length : Int) := by omega
 clear cL
 go_wp2_with fail
 go_loopw [3] (fun i wq => ∃ k : Nat, k ≤ td.length ∧ i = .int .i64 k ∧ Hid (∀ j (hj : j < td.length), j < k → miB td[j] = true) ∧ Hid (Below w.heap.size w wq) ∧ Hid (wq.heap[w.heap.size]? = some (.cells #[.slice aW ws.length cW, .slice aP ps.length cP, .slice aS es.length cS, .slice aQ qs.length cQ, .slice aH hs.length cH, .slice aT td.length cT, .int .i64 cd, .int .i64 vl, .slice aN nm.length cN, .bool fr] 50 (0, 0))) ∧ w.heap.size < wq.heap.size) (fun i _ => td.length - (intOf i).toNat)
 case atStart => exact ⟨0, by omega, rfl, fun j _ h => absurd h (by omega), B1, X1, z1⟩
 case round =>
  obtain ⟨k, hk, rfl, G, B, X, z⟩ := hrel
  clear B1 X1 x5 z1
  have x5 := tenT X.out
  by_cases hlt : k < td.length
  ·have hlt' : (k : Int) < (td.length : Int) := by omega
   have hge : (0 : Int) ≤ (k : Int) := by omega
   obtain ⟨-, ao, cap, e, -, hc⟩ := Rd.below RT.out B.out
   cases e
   obtain ⟨b, o, rfl, hbl, hcl⟩ := hc (by omega)
   have c0 := (hcl (k * 3) (by omega)).trans (zjf td k hlt)
   have c1 := (hcl (k * 3 + 1) (by omega)).trans (zjg td k hlt)
   have c2 := (hcl (k * 3 + 2) (by omega)).trans (zjk td k hlt)
   rw [← Nat.add_assoc] at c1 c2
   have LM := zaa (fun w1 => zrp td[k] w1)
   obtain ⟨mb, emb⟩ : ∃ mb, mb = miB td[k] := ⟨_, rfl⟩
   rw [← emb] at LM
   have AL : Hid (mb = false → todB ps qs td = false) := fun q => by
    unfold todB
    have : td.all miB = false := by
     apply Bool.eq_false_iff.2
     intro h
     have := List.all_eq_true.1 h td[k] (List.getElem_mem hlt)
     rw [← emb, q] at this
     cases this
    rw [this]
    simp
   have GG : Hid (mb = true → ∀ j (hj : j < td.length), j < k + 1 → miB td[j] = true) := fun q j hj hjk => by
    by_cases e : j = k
    ·subst e; rw [← emb]; exact q
    ·exact G.out j hj (by omega)
   rw [show Mi.v td[k] = .agg #[.int .i64 td[k].kind, .int .i64 td[k].at_, .int .i64 td[k].val] from rfl] at LM
   generalize td[k] = m at *
   clear hc hcl G emb
   go_wp2_with fail
   refine (LM.out wr).mono ?_
   rintro e w2 ⟨rfl, hb2⟩
   have B2 := zaa (zab B.out hb2 B.out.size)
   have X2 := zaa (zae X.out hb2 z)
   have z2 : w.heap.size < w2.heap.size := Nat.lt_of_lt_of_le z hb2.size
   clear hb2 c0 c1 c2 x5 B X LM
   cases mb with
   | false =>
    have q := AL.out (by simp)
    rw [q] at FB
    obtain rfl := FB.out
    clear FB LR LJ RT X2 q
    go_wp2
    go_ret
    exact ⟨rfl, B2.out⟩
   | true =>
    go_wp2
    go_roundw
    case rel => exact ⟨k + 1, by omega, by go_num, GG.out (by simp), B2, X2, z2⟩
    case measure => simp [intOf]; omega
  ·have hlt' : ¬ (k : Int) < (td.length : Int) := by omega
   have TA : td.all miB = true := List.all_eq_true.2 (fun m hm => by
    obtain ⟨j, hj, rfl⟩ := List.getElem_of_mem hm
    exact G.out j hj (by omega))
   have TB : Hid (todB ps qs td = (decide (ps.length + td.length ≤ 400) && decide (qs.length + td.length ≤ 400))) := by unfold todB; rw [TA, decide_eq_true hl]; rfl
   rw [TB.out] at FB
   clear TB TA G RT
   simp only [Bool.true_and] at FB
   go_upto_region 8 with fail
   obtain ⟨x6, x7, x8⟩ := tenA X.out
   have x9 := tenB X.out
   have PX : Hid (¬ fr = true → ¬ (cd = 0 ∧ vl = 0 ∧ nm.length = 0) → r = false) := fun q1 q2 => by
    rw [FB.out]
    have : (fr || noA cd vl nm) = false := by
     unfold noA
     simp only [Bool.or_eq_false_iff]
     refine ⟨by simpa using q1, ?_⟩
     apply Bool.eq_false_iff.2
     intro h
     simp only [Bool.and_eq_true, decide_eq_true_eq] at h
     exact q2 ⟨h.1, h.2.1, h.2.2⟩
    rw [this]
    simp
   have PY : Hid ((fr = true ∨ (cd = 0 ∧ vl = 0 ∧ nm.length = 0)) → r = ((decide (ps.length + td.length ≤ 400) && decide (qs.length + td.length ≤ 400)) && (decide (0 < td.length) || (decide (rc = 0) && (decide (ps.length = 0) && (decide (qs.length = 0) && decide (jc = 0))))))) := fun q => by
    rw [FB.out]
    have : (fr || noA cd vl nm) = true := by
     unfold noA
     rcases q with q | ⟨q1, q2, q3⟩
     ·rw [q]; rfl
     ·rw [q1, q2, q3]; simp
    rw [this, Bool.true_and]
   clear FB
   have REST : Hid (r = r) := rfl
   by_cases cF : fr = true
   ·subst cF
    have FB := zaa (PY.out (.inl rfl))
    clear PX PY
    go_upto_region 10 with fail
    clear x6 x7 x8 x9
    obtain ⟨x0, x1, x2, x3⟩ := zuj X.out
    by_cases e1 : 400 < ps.length + td.length
    ·have q : r = false := by rw [FB.out, decide_eq_false (p := ps.length + td.length ≤ 400) (by omega)]; rfl
     subst q
     clear FB LR LJ X
     have e1' : (400 : Int) < (ps.length : Int) + (td.length : Int) := by omega
     go_wp2
     go_ret
     exact ⟨rfl, B.out⟩
    have e1' : ¬ (400 : Int) < (ps.length : Int) + (td.length : Int) := by omega
    by_cases e2 : 400 < qs.length + td.length
    ·have q : r = false := by rw [FB.out, decide_eq_false (p := qs.length + td.length ≤ 400) (by omega)]; simp
     subst q
     clear FB LR LJ X
     have e2' : (400 : Int) < (qs.length : Int) + (td.length : Int) := by omega
     go_wp2
     go_ret
     exact ⟨rfl, B.out⟩
    have e2' : ¬ (400 : Int) < (qs.length : Int) + (td.length : Int) := by omega
    rw [decide_eq_true (p := ps.length + td.length ≤ 400) (by omega), decide_eq_true (p := qs.length + td.length ≤ 400) (by omega)] at FB
    simp only [Bool.true_and] at FB
    by_cases e3 : 0 < td.length
    ·have q : r = true := by rw [FB.out, decide_eq_true e3]; rfl
     subst q
     clear FB LR LJ X
     have e3' : (0 : Int) < (td.length : Int) := by omega
     go_wp2
     go_ret
     exact ⟨rfl, B.out⟩
    have e3' : ¬ (0 : Int) < (td.length : Int) := by omega
    rw [decide_eq_false e3] at FB
    simp only [Bool.false_or] at FB
    go_wp2_with fail
    refine (LR.out wr B.out).mono ?_
    rintro e w2 ⟨ia, ib, ic, id, ie, ig, rfl, hb2⟩
    have B2 := zaa (zab B.out hb2 B.out.size)
    have X2 := zaa (zae X.out hb2 z)
    have z2 : w.heap.size < w2.heap.size := Nat.lt_of_lt_of_le z hb2.size
    clear hb2 x0 x1 x2 x3 x5 B X LR
    obtain ⟨w3, hw3⟩ : ∃ w3, w3 = w2.alloc (.cells #[.slice ia ib ic, .slice id ie ig] 83) := ⟨_, rfl⟩
    have hb3 : Below w2.heap.size w2 w3 := by rw [hw3]; exact (Below.refl _ _).alloc (Nat.le_refl _) _
    have B3 := zaa (zab B2.out hb3 B2.out.size)
    have X3 := zaa (zae X2.out hb3 z2)
    go_upto_region 15 with fail
    rw [← hw3]
    clear hw3 hb3 B2 X2
    obtain ⟨x0, x1, x2, x3⟩ := zuj X3.out
    by_cases f1 : rc = 0
    ·subst f1
     by_cases f2 : ps.length = 0
     ·have f2' : (ps.length : Int) = 0 := by omega
      by_cases f3 : qs.length = 0
      ·have f3' : (qs.length : Int) = 0 := by omega
       have q : r = decide (jc = 0) := by rw [FB.out, decide_eq_true f2, decide_eq_true f3]; rfl
       clear FB f2 f3
       go_wp2_with fail
       refine (LJ.out (by simp) w3 B3.out).mono ?_
       rintro e w4 ⟨rfl, hb4⟩
       have B4 := zaa (zab B3.out hb4 B3.out.size)
       clear hb4 B3 X3 x0 x1 x2 x3 LJ
       subst q
       go_wp2
       go_ret
       exact ⟨rfl, B4.out⟩
      ·have q : r = false := by rw [FB.out, decide_eq_false f3]; simp
       subst q
       have f3' : ¬ (qs.length : Int) = 0 := by omega
       clear FB LJ X3
       go_wp2
       go_ret
       exact ⟨rfl, B3.out⟩
     ·have q : r = false := by rw [FB.out, decide_eq_false f2]; simp
      subst q
      have f2' : ¬ (ps.length : Int) = 0 := by omega
      clear FB LJ X3
      go_wp2
      go_ret
      exact ⟨rfl, B3.out⟩
    ·have q : r = false := by rw [FB.out, decide_eq_false f1]; rfl
     subst q
     clear FB LJ X3
     go_wp2
     go_ret
     exact ⟨rfl, B3.out⟩
   have cF' : fr = false := by simpa using cF
   by_cases a1 : cd = 0
   ·by_cases a2 : vl = 0
    ·by_cases a3 : nm.length = 0
     ·have FB := zaa (PY.out (.inr ⟨a1, a2, a3⟩))
      clear PX PY
      subst a1 a2 cF'
      have a3' : (nm.length : Int) = 0 := by omega
      go_upto_region 10 with fail
      clear x6 x7 x8 x9 a3 a3' REST
      obtain ⟨x0, x1, x2, x3⟩ := zuj X.out
      by_cases e1 : 400 < ps.length + td.length
      ·have q : r = false := by rw [FB.out, decide_eq_false (p := ps.length + td.length ≤ 400) (by omega)]; rfl
       subst q
       clear FB LR LJ X
       have e1' : (400 : Int) < (ps.length : Int) + (td.length : Int) := by omega
       go_wp2
       go_ret
       exact ⟨rfl, B.out⟩
      have e1' : ¬ (400 : Int) < (ps.length : Int) + (td.length : Int) := by omega
      by_cases e2 : 400 < qs.length + td.length
      ·have q : r = false := by rw [FB.out, decide_eq_false (p := qs.length + td.length ≤ 400) (by omega)]; simp
       subst q
       clear FB LR LJ X
       have e2' : (400 : Int) < (qs.length : Int) + (td.length : Int) := by omega
       go_wp2
       go_ret
       exact ⟨rfl, B.out⟩
      have e2' : ¬ (400 : Int) < (qs.length : Int) + (td.length : Int) := by omega
      rw [decide_eq_true (p := ps.length + td.length ≤ 400) (by omega), decide_eq_true (p := qs.length + td.length ≤ 400) (by omega)] at FB
      simp only [Bool.true_and] at FB
      by_cases e3 : 0 < td.length
      ·have q : r = true := by rw [FB.out, decide_eq_true e3]; rfl
       subst q
       clear FB LR LJ X
       have e3' : (0 : Int) < (td.length : Int) := by omega
       go_wp2
       go_ret
       exact ⟨rfl, B.out⟩
      have e3' : ¬ (0 : Int) < (td.length : Int) := by omega
      rw [decide_eq_false e3] at FB
      simp only [Bool.false_or] at FB
      go_wp2_with fail
      refine (LR.out wr B.out).mono ?_
      rintro e w2 ⟨ia, ib, ic, id, ie, ig, rfl, hb2⟩
      have B2 := zaa (zab B.out hb2 B.out.size)
      have X2 := zaa (zae X.out hb2 z)
      have z2 : w.heap.size < w2.heap.size := Nat.lt_of_lt_of_le z hb2.size
      clear hb2 x0 x1 x2 x3 x5 B X LR
      obtain ⟨w3, hw3⟩ : ∃ w3, w3 = w2.alloc (.cells #[.slice ia ib ic, .slice id ie ig] 83) := ⟨_, rfl⟩
      have hb3 : Below w2.heap.size w2 w3 := by rw [hw3]; exact (Below.refl _ _).alloc (Nat.le_refl _) _
      have B3 := zaa (zab B2.out hb3 B2.out.size)
      have X3 := zaa (zae X2.out hb3 z2)
      go_upto_region 15 with fail
      rw [← hw3]
      clear hw3 hb3 B2 X2
      obtain ⟨x0, x1, x2, x3⟩ := zuj X3.out
      by_cases f1 : rc = 0
      ·subst f1
       by_cases f2 : ps.length = 0
       ·have f2' : (ps.length : Int) = 0 := by omega
        by_cases f3 : qs.length = 0
        ·have f3' : (qs.length : Int) = 0 := by omega
         have q : r = decide (jc = 0) := by rw [FB.out, decide_eq_true f2, decide_eq_true f3]; rfl
         clear FB f2 f3
         go_wp2_with fail
         refine (LJ.out (by simp) w3 B3.out).mono ?_
         rintro e w4 ⟨rfl, hb4⟩
         have B4 := zaa (zab B3.out hb4 B3.out.size)
         clear hb4 B3 X3 x0 x1 x2 x3 LJ
         subst q
         go_wp2
         go_ret
         exact ⟨rfl, B4.out⟩
        ·have q : r = false := by rw [FB.out, decide_eq_false f3]; simp
         subst q
         have f3' : ¬ (qs.length : Int) = 0 := by omega
         clear FB LJ X3
         go_wp2
         go_ret
         exact ⟨rfl, B3.out⟩
       ·have q : r = false := by rw [FB.out, decide_eq_false f2]; simp
        subst q
        have f2' : ¬ (ps.length : Int) = 0 := by omega
        clear FB LJ X3
        go_wp2
        go_ret
        exact ⟨rfl, B3.out⟩
      ·have q : r = false := by rw [FB.out, decide_eq_false f1]; rfl
       subst q
       clear FB LJ X3
       go_wp2
       go_ret
       exact ⟨rfl, B3.out⟩
     ·obtain rfl := PX.out cF (fun q => a3 q.2.2)
      subst a1 a2 cF'
      have a3' : ¬ (nm.length : Int) = 0 := by omega
      clear PX PY LR LJ X
      go_wp2
      go_ret
      exact ⟨rfl, B.out⟩
    ·obtain rfl := PX.out cF (fun q => a2 q.2.1)
     subst a1 cF'
     clear PX PY LR LJ X
     go_wp2
     go_ret
     exact ⟨rfl, B.out⟩
   ·obtain rfl := PX.out cF (fun q => a1 q.1)
    subst cF'
    clear PX PY LR LJ X
    go_wp2
    go_ret
    exact ⟨rfl, B.out⟩
end Go.Proofs.YtipklbnfobckaaaGreatDoor

namespace Go.Proofs.YtipklbnfobckaaaGreatDoor
open Go.RowKit

/-- A step that is right, and of the memory. -/
def StOK (m : Mi) : Prop := miB m = true ∧ (m.kind = 1 ∨ m.kind = 2 ∨ m.kind = 3)
theorem nl_mem (ks : List Int) : ∀ i, i ≤ ks.length → ∀ m ∈ nl ks i, ∃ k, k < ks.length ∧ m.at_ = ks[k]?.getD 0
 | 0, _, m, h => by cases h
 | i + 1, hi, m, h => by
  rw [nl] at h
  split at h
  ·exact nl_mem ks i (by omega) m h
  ·rcases List.mem_append.1 h with h | h
   ·exact nl_mem ks i (by omega) m h
   ·rw [List.mem_singleton.1 h]; exact ⟨i, by omega, rfl⟩
theorem ok_seg {S : List St} (h : ∀ p ∈ S, (0 ≤ p.at_ ∧ p.at_ < 336) ∧ 0 ≤ p.val ∧ p.val < 1099511627776) : ∀ m ∈ seg S, StOK m := by
 intro m hm
 unfold seg zaw at hm
 rcases List.mem_append.1 hm with hm | hm
 ·obtain ⟨p, hp, rfl⟩ := List.mem_map.1 hm
  have := h p hp
  exact ⟨(zgr 1 p.at_ p.val).2 (.inl ⟨rfl, this⟩), .inl rfl⟩
 ·rcases List.mem_append.1 hm with hm | hm
  ·have e := zov _ _ m hm
   obtain ⟨k, hk, ek⟩ := nl_mem _ _ (Nat.le_refl _) m hm
   have : ∃ p ∈ S, m.at_ = p.at_ := by
    rw [List.length_map] at hk
    exact ⟨S[k], List.getElem_mem hk, by rw [ek, List.getElem?_map, List.getElem?_eq_getElem hk]; rfl⟩
   obtain ⟨p, hp, ep⟩ := this
   rw [e]
   have := h p hp
   exact ⟨(zgr 2 m.at_ 0).2 (.inr (.inl ⟨rfl, by rw [ep]; exact this.1, rfl⟩)), .inr (.inl rfl)⟩
  ·rw [List.mem_singleton.1 hm]
   exact ⟨(zgr 3 0 0).2 (.inr (.inr (.inr ⟨.inl rfl, rfl, rfl⟩))), .inr (.inr rfl)⟩
end Go.Proofs.YtipklbnfobckaaaGreatDoor

namespace Go.Proofs.YtipklbnfobckaaaGreatDoor
open Go.RowKit

theorem zjp {ws : List Int} {ps : List St} {es : List Int} {qs : List Se} (h : dvB ws ps es qs = true) : pmB ws ps = true ∧ zeh es qs = true ∧ dvN ws ps es qs = zau (zbn ws ps) 16 ∧ dvD ws ps es qs = zav (zbn ws ps) 24 ∧ zdm (zau (zbn ws ps) 16) (zav (zbn ws ps) 24) = true := by
 have q := h
 unfold dvB at q
 rw [Bool.and_eq_true, Bool.and_eq_true] at q
 obtain ⟨⟨a, b⟩, r⟩ := q
 unfold riB at r
 rw [Bool.and_eq_true, Bool.and_eq_true] at r
 exact ⟨a, b, by unfold dvN; rw [if_pos h], by unfold dvD; rw [if_pos h], r.2.2⟩

end Go.Proofs.YtipklbnfobckaaaGreatDoor

namespace Go.Proofs.YtipklbnfobckaaaGreatDoor
open Go.RowKit

/-- An inode, one of its pages and its size updated. -/
def wrFs (p : Nat) (e size : Int) : List (Nat × Int) := (3 + p, e) :: (if size ≤ (p : Int) then [(1, (p : Int) + 1)] else [])
theorem wrFs_ups (i p : Nat) (e size : Int) : inoU i (wrFs p e size) = wrU (i : Int) (p : Int) size e := by
 unfold inoU wrU wrFs
 rw [List.map_cons]
 by_cases c : size ≤ (p : Int)
 ·rw [if_pos c, if_pos c]
  show [(⟨48 + 12 * (i : Int) + ((3 + p : Nat) : Int), e⟩ : Se), ⟨48 + 12 * (i : Int) + 1, (p : Int) + 1⟩] = _
  rw [show 48 + 12 * (i : Int) + ((3 + p : Nat) : Int) = 48 + 12 * (i : Int) + (3 + (p : Int)) by omega]
 ·rw [if_neg c, if_neg c]
  show [(⟨48 + 12 * (i : Int) + ((3 + p : Nat) : Int), e⟩ : Se)] = _
  rw [show 48 + 12 * (i : Int) + ((3 + p : Nat) : Int) = 48 + 12 * (i : Int) + (3 + (p : Int)) by omega]
theorem wrFs_11 {p : Nat} {e size : Int} (hp : p < 8) : ∀ f ∈ wrFs p e size, f.1 < 11 := fun f hf => by
 unfold wrFs at hf
 rcases List.mem_cons.1 hf with rfl | hf
 ·show 3 + p < 11; omega
 ·by_cases c : size ≤ (p : Int)
  ·rw [if_pos c, List.mem_singleton] at hf; rw [hf]; show 1 < 11; omega
  ·rw [if_neg c] at hf; cases hf
theorem wrFs_ino (x : Ino) {p : Nat} (hp : p < 8) (e : Int) : inoP x (wrFs p e x.size) = inoM x.kind (if (p : Int) < x.size then x.size else (p : Int) + 1) x.links (x.map.set p e) := by
 have G : ∀ g z, zus (wrFs p e x.size) g z = if g = 1 ∧ x.size ≤ (p : Int) then (p : Int) + 1 else if g = 3 + p then e else z := by
  intro g z
  unfold wrFs
  by_cases c : x.size ≤ (p : Int)
  ·rw [if_pos c]
   show (if 1 = g then (p : Int) + 1 else (if 3 + p = g then e else z)) = _
   repeat' split
   all_goals omega
  ·rw [if_neg c]
   show (if 3 + p = g then e else z) = _
   repeat' split
   all_goals omega
 have M : ∀ j, j < 8 → zus (wrFs p e x.size) (3 + j) (x.map.getD j 0) = (x.map.set p e).getD j 0 := by
  intro j hj
  rw [G, if_neg (fun q => by omega), List.getD_eq_getElem?_getD, List.getD_eq_getElem?_getD, List.getElem?_set]
  by_cases b : j = p
  ·subst b
   rw [if_pos rfl, if_pos rfl, if_pos (by show j < 8; exact hj)]
   rfl
  ·rw [if_neg (by omega), if_neg (fun q => b q.symm)]
 unfold inoP inoM
 congr 1
 ·rw [G, if_neg (fun q => by omega), if_neg (by omega)]
 ·rw [G]
  by_cases c : (p : Int) < x.size
  ·rw [if_neg (fun q => by omega), if_neg (by omega), if_pos c]
  ·rw [if_pos ⟨rfl, by omega⟩, if_neg c]
 ·rw [G, if_neg (fun q => by omega), if_neg (by omega)]
 ·exact M 0 (by omega)
 ·exact M 1 (by omega)
 ·exact M 2 (by omega)
 ·exact M 3 (by omega)
 ·exact M 4 (by omega)
 ·exact M 5 (by omega)
 ·exact M 6 (by omega)
 ·exact M 7 (by omega)
/-- Words behind a page that is let in. -/
theorem wi_write {ls : List Int} {ns : List Ino} {ds : List Den} (h : Wi ls ns ds) {i p : Nat} {e : Int} (hi : i < 16) (k : (zar ns i).kind = 1) (hp : p < 8) (te : zdl e = true) (he : ¬ e = 0) (new : ¬ e ∈ zak ns) :
  UpIn (wrU (i : Int) (p : Int) (zar ns i).size e) ∧ Wi (zhl ls (wrU (i : Int) (p : Int) (zar ns i).size e)) (ns.set i (inoM (zar ns i).kind (if (p : Int) < (zar ns i).size then (zar ns i).size else (p : Int) + 1) (zar ns i).links ((zar ns i).map.set p e))) ds := by
 rw [← wrFs_ups, ← wrFs_ino _ hp]
 exact ⟨inoU_in hi (wrFs_11 hp), wi_ino h hi (wrFs_11 hp) (by rw [wrFs_ino _ hp]; exact img_write h.img hi k hp te he new rfl)⟩
/-- Words behind a page that lies elsewhere: one word. -/
theorem wi_move {ls : List Int} {ns : List Ino} {ds : List Den} (h : Wi ls ns ds) {i p : Nat} {e : Int} (hi : i < 16) (hp : p < 8) (was : ¬ (zar ns i).map.getD p 0 = 0) (te : zdl e = true) (he : ¬ e = 0) (new : ¬ e ∈ zak ns) :
  Wi (zhl ls [⟨48 + 12 * (i : Int) + (3 + (p : Int)), e⟩]) (ns.set i (inoM (zar ns i).kind (zar ns i).size (zar ns i).links ((zar ns i).map.set p e))) ds := by
 obtain ⟨sz, k⟩ := page_size (h.img.ok i hi) hp was
 have q := (wi_write h hi k hp te he new).2
 unfold wrU at q
 rw [if_neg (by omega), if_pos sz] at q
 exact q
/-- What is free is new. -/
theorem zgi {p : Nat → Bool} {n : Nat} (h : 0 ≤ zcg p n) : ∃ k : Nat, k < n ∧ zcg p n = (k : Int) ∧ p k = true := by
 unfold zcg at h ⊢
 cases e : (List.range n).find? p with
 | none => rw [e] at h; exact absurd h (by show ¬ (0 : Int) ≤ -1; omega)
 | some k => exact ⟨k, List.mem_range.1 (List.mem_of_find?_eq_some e), rfl, List.find?_some e⟩
theorem new_of {ns : List Ino} {t : Int} {k : Nat} (ht : 0 ≤ t ∧ t < 4) (h : (!zep (zas (zak ns) t) (k : Int)) = true) : ¬ 4 * (k : Int) + t ∈ zak ns := by
 intro m
 unfold zep zas at h
 rw [Bool.not_eq_true', ← Bool.not_eq_true] at h
 refine h (List.contains_iff_mem.2 (List.mem_map.2 ⟨4 * (k : Int) + t, List.mem_filter.2 ⟨m, ?_⟩, by omega⟩))
 rw [beq_iff_eq]
 omega
end Go.Proofs.YtipklbnfobckaaaGreatDoor

namespace Go.Proofs.YtipklbnfobckaaaGreatDoor
open Go.RowKit

/-- A plan of steps that is told. -/
def zqn (w w' : World) (e : Ending) (r : List Mi × Int) : Prop := ∃ v', e = .returned (.tuple #[v', .int .i64 r.2]) ∧ Row w' 79 3 w.heap.size w'.heap.size v' r.1.length (mis r.1) ∧ Below w.heap.size w w'
theorem zit {w w1 : World} {n : Nat} {c : Int} (B : Below w.heap.size w w1) (e : n = w1.heap.size) : zqn w (w1.alloc (.cells #[] 79)) (.returned (.tuple #[.slice (some ⟨n, 0, none⟩) 0 0, .int .i64 c])) ([], c) := by
 subst e
 exact ⟨_, rfl, (row_none w1 _ _).wide B.size (Nat.le_refl _), B.alloc B.size _⟩
/-- Steps under way. -/
structure MiI (W w : World) (vL : Value) (ls : List Mi) : Prop where
 l : w.ownsRow W.heap.size 79 3 vL ls.length (mis ls)
 b : Below W.heap.size W w
theorem MiI.z {W w : World} {vL : Value} {ls : List Mi} (h : MiI W w vL ls) : W.heap.size ≤ w.heap.size := h.b.size
theorem MiI.below {W w w' : World} {vL : Value} {ls : List Mi} (h : MiI W w vL ls) (hb : Below w.heap.size w w') : MiI W w' vL ls :=
 ⟨((zaf h.l).below hb (Nat.le_refl _)).1, zab h.b hb h.z⟩
theorem MiI.grow {W w w' : World} {vL v' : Value} {ls : List Mi} (h : MiI W w vL ls) (ms : List Mi) (ho : w'.ownsRow W.heap.size 79 3 v' (ls.length + ms.length) (mis ls ++ mis ms)) (hg : w.grownBy w' vL.ownBlock) : MiI W w' v' (ls ++ ms) :=
 ⟨by rw [zjd, List.length_append]; exact ho, h.b.grown hg h.z (fun q hq => (h.l.lt q hq).1)⟩
/-- Steps and updates under way. -/
structure WrI (W w : World) (vL vU : Value) (ls : List Mi) (us : List Se) : Prop where
 l : w.ownsRow W.heap.size 79 3 vL ls.length (mis ls)
 u : w.ownsRow W.heap.size 244 2 vU us.length (ses us)
 b : Below W.heap.size W w
theorem WrI.z {W w : World} {vL vU : Value} {ls : List Mi} {us : List Se} (h : WrI W w vL vU ls us) : W.heap.size ≤ w.heap.size := h.b.size
theorem WrI.below {W w w' : World} {vL vU : Value} {ls : List Mi} {us : List Se} (h : WrI W w vL vU ls us) (hb : Below w.heap.size w w') : WrI W w' vL vU ls us :=
 ⟨((zaf h.l).below hb (Nat.le_refl _)).1, ((zaf h.u).below hb (Nat.le_refl _)).1, zab h.b hb h.z⟩
end Go.Proofs.YtipklbnfobckaaaGreatDoor

namespace Go.Proofs.YtipklbnfobckaaaGreatDoor
open Go.RowKit

/-- Updates to words. -/
def Wv (us : List Se) : Prop := ∀ u ∈ us, 0 ≤ u.val ∧ u.val < 1099511627776
theorem Wv.cons {a x : Int} {us : List Se} (h : 0 ≤ x ∧ x < 1099511627776) (k : Wv us) : Wv (⟨a, x⟩ :: us) := fun u hu => by
 rcases List.mem_cons.1 hu with rfl | q
 ·exact h
 ·exact k u q
end Go.Proofs.YtipklbnfobckaaaGreatDoor
