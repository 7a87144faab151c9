/- Whether addresses add up, and whether some are free: by the model and by the program. -/
import Derived.Test.YtbjjdkemappelaaGreatDoorAdF
namespace Go.Proofs.YtbjjdkemappelaaGreatDoor
open Go.RowKit
def adC (b : Bool) : Int := if b = true then 0 else 1
def fwB (ns : List Ino) : Bool := decide ((usedOf (mapped ns) 1).length < 24) || decide ((usedOf (mapped ns) 2).length < 32)
def fwR (ws : List Int) (ps : List St) (es : List Int) (qs : List Se) : Bool := dvB ws ps es qs && fwB (dvN ws ps es qs)
theorem auditOf_no (v : Value) (ws : List Int) (ps : List St) (es : List Int) (qs : List Se) (w : World) (h : RdDev w v ws ps es qs) (hw : ws.length ≤ 1048576) (hp : ps.length ≤ 1048576) (he : es.length ≤ 1048576) (hq : qs.length ≤ 1048576) (hT : TS w) (hE : ED w) (hF : FD w) (o : dvB ws ps es qs = false) :
    Calls Tryz.prog 40 #[v] w fun e w' => e = .returned (.tuple #[.agg #[.slice none 0 0, .slice none 0 0, .int .i64 0, .int .i64 0, .int .u64 0, .int .u64 0, .int .i64 0, .int .i64 0, .int .u64 0, .int .u64 0], .int .i64 1]) ∧ Below w.heap.size w w' :=
  (auditOf_any v ws ps es qs w h hw hp he hq hT hE hF).mono fun e w' q => by
    rcases q.2 with ⟨-, r⟩ | ⟨r, -⟩
    · exact ⟨r, q.1⟩
    · rw [o] at r; cases r
theorem auditOf_yes (v : Value) (ws : List Int) (ps : List St) (es : List Int) (qs : List Se) (w : World) (h : RdDev w v ws ps es qs) (hw : ws.length ≤ 1048576) (hp : ps.length ≤ 1048576) (he : es.length ≤ 1048576) (hq : qs.length ≤ 1048576) (hT : TS w) (hE : ED w) (hF : FD w) (o : dvB ws ps es qs = true) :
    Calls Tryz.prog 40 #[v] w fun e w' => ∃ a1 c1 a2 c2, e = .returned (.tuple #[.agg #[.slice a1 (dvN ws ps es qs).length c1, .slice a2 (dvD ws ps es qs).length c2, .int .i64 (usedOf (mapped (dvN ws ps es qs)) 1).length, .int .i64 24, .int .u64 (setM (usedOf (mapped (dvN ws ps es qs)) 1)), .int .u64 (othM 24 (setM (usedOf (mapped (dvN ws ps es qs)) 1))), .int .i64 (usedOf (mapped (dvN ws ps es qs)) 2).length, .int .i64 32, .int .u64 (setM (usedOf (mapped (dvN ws ps es qs)) 2)), .int .u64 (othM 32 (setM (usedOf (mapped (dvN ws ps es qs)) 2)))], .int .i64 0]) ∧ RdIm w' (.agg #[.slice a1 (dvN ws ps es qs).length c1, .slice a2 (dvD ws ps es qs).length c2]) (dvN ws ps es qs) (dvD ws ps es qs) ∧ Below w.heap.size w w' :=
  (auditOf_any v ws ps es qs w h hw hp he hq hT hE hF).mono fun e w' q => by
    rcases q.2 with ⟨r, -⟩ | ⟨-, vI, vD, r, i⟩
    · rw [o] at r; cases r
    · obtain ⟨vW, vP, e1, i1, i2⟩ := i
      cases e1
      obtain ⟨a1, c1, rfl, _, _⟩ := i1.shape
      obtain ⟨a2, c2, rfl, _, _⟩ := i2.shape
      exact ⟨a1, c1, a2, c2, r, ⟨_, _, rfl, i1, i2⟩, q.1⟩
theorem dv_free {ws : List Int} {ps : List St} {es : List Int} {qs : List Se} (o : dvB ws ps es qs = true) : popN 64 (othM 24 (setM (usedOf (mapped (dvN ws ps es qs)) 1))) + (usedOf (mapped (dvN ws ps es qs)) 1).length = 24 ∧ popN 64 (othM 32 (setM (usedOf (mapped (dvN ws ps es qs)) 2))) + (usedOf (mapped (dvN ws ps es qs)) 2).length = 32 := by
  have i : imgB (dvN ws ps es qs) (dvD ws ps es qs) = true := by rw [dv_img]; exact o
  obtain ⟨p1, q1⟩ := used_ok i 1 24 (by decide)
  obtain ⟨p2, q2⟩ := used_ok i 2 32 (by decide)
  exact ⟨free_count (by decide) p1 q1, free_count (by decide) p2 q2⟩
set_option maxRecDepth 100000 in
set_option maxHeartbeats 4000000 in
theorem implAccounted_any (v : Value) (ws : List Int) (ps : List St) (es : List Int) (qs : List Se) (w : World) (h : RdDev w v ws ps es qs) (hw : ws.length ≤ 1048576) (hp : ps.length ≤ 1048576) (he : es.length ≤ 1048576) (hq : qs.length ≤ 1048576) (hT : TS w) (hE : ED w) (hF : FD w) :
    Calls Tryz.prog 11 #[v] w fun e w' => e = .returned (.tuple #[.bool (dvB ws ps es qs), .int .i64 (adC (dvB ws ps es qs))]) ∧ Below w.heap.size w w' := by
  have LN := hideIt (fun w1 (hb : Below w.heap.size w w1) o => auditOf_no v ws ps es qs w1 (h.below hb) hw hp he hq (hT.below hb) (hE.below hb) (hF.below hb) o)
  have LY := hideIt (fun w1 (hb : Below w.heap.size w w1) o => auditOf_yes v ws ps es qs w1 (h.below hb) hw hp he hq (hT.below hb) (hE.below hb) (hF.below hb) o)
  obtain ⟨aW, cW, aP, cP, aS, cS, aQ, cQ, rfl, -, -⟩ := h.form
  have BW : Hid (Below w.heap.size w (w.alloc (.cells #[.slice aW ws.length cW, .slice aP ps.length cP, .slice aS es.length cS, .slice aQ qs.length cQ] 41))) := (Below.refl _ _).alloc (Nat.le_refl _) _
  obtain ⟨x0, x1, x2, x3, -, -, -, -⟩ := fourU (at_new (w := w) (o := .cells #[.slice aW ws.length cW, .slice aP ps.length cP, .slice aS es.length cS, .slice aQ qs.length cQ] 41) rfl)
  clear h hT hE hF
  cases ok : dvB ws ps es qs with
  | false =>
    rw [show adC false = 1 from rfl]
    go_enter Tryz.func11, Tryz.ntmps11
    go_wp2_with fail
    refine (LN.out _ BW.out ok).mono ?_
    rintro e w1 ⟨rfl, hb1⟩
    have B1 := hideIt ((below_trans BW.out hb1 BW.out.size).alloc (Nat.le_trans BW.out.size hb1.size) (.cells #[.slice none 0 0, .slice none 0 0, .int .i64 0, .int .i64 0, .int .u64 0, .int .u64 0, .int .i64 0, .int .i64 0, .int .u64 0, .int .u64 0] 93))
    clear hb1 x0 x1 x2 x3
    go_wp2
    go_ret2
    exact ⟨rfl, B1.out⟩
  | true =>
    rw [show adC true = 0 from rfl]
    have LY := hideIt (fun w1 hb => LY.out w1 hb ok)
    obtain ⟨s1, s2⟩ := dv_free ok
    have LP := hideIt (fun w1 => addsUp_p (usedOf (mapped (dvN ws ps es qs)) 1).length (setM (usedOf (mapped (dvN ws ps es qs)) 1)) (othM 24 (setM (usedOf (mapped (dvN ws ps es qs)) 1))) w1 (othM_lt _ _) s1)
    have LB := hideIt (fun w1 => addsUp_s (usedOf (mapped (dvN ws ps es qs)) 2).length (setM (usedOf (mapped (dvN ws ps es qs)) 2)) (othM 32 (setM (usedOf (mapped (dvN ws ps es qs)) 2))) w1 (othM_lt _ _) s2)
    clear s1 s2 ok LN
    rename_i LZ
    clear LZ
    generalize (usedOf (mapped (dvN ws ps es qs)) 1).length = n1 at *
    generalize othM 24 (setM (usedOf (mapped (dvN ws ps es qs)) 1)) = f1 at *
    generalize setM (usedOf (mapped (dvN ws ps es qs)) 1) = m1 at *
    generalize (usedOf (mapped (dvN ws ps es qs)) 2).length = n2 at *
    generalize othM 32 (setM (usedOf (mapped (dvN ws ps es qs)) 2)) = f2 at *
    generalize setM (usedOf (mapped (dvN ws ps es qs)) 2) = m2 at *
    generalize dvN ws ps es qs = dn at *
    generalize dvD ws ps es qs = dd at *
    go_enter Tryz.func11, Tryz.ntmps11
    go_wp2_with fail
    refine (LY.out _ BW.out).mono ?_
    rintro e w1 ⟨a1, c1, a2, c2, rfl, -, hb1⟩
    obtain ⟨w2, hw2⟩ : ∃ w2, w2 = w1.alloc (.cells #[.slice a1 dn.length c1, .slice a2 dd.length c2, .int .i64 n1, .int .i64 24, .int .u64 m1, .int .u64 f1, .int .i64 n2, .int .i64 32, .int .u64 m2, .int .u64 f2] 93) := ⟨_, rfl⟩
    have I2 : Hid (w2.heap[w1.heap.size]? = some (.cells #[.slice a1 dn.length c1, .slice a2 dd.length c2, .int .i64 n1, .int .i64 24, .int .u64 m1, .int .u64 f1, .int .i64 n2, .int .i64 32, .int .u64 m2, .int .u64 f2] 93 (0, 0))) := by rw [hw2]; exact at_new rfl
    have B2 : Hid (Below w.heap.size w w2) := by rw [hw2]; exact (below_trans BW.out hb1 BW.out.size).alloc (Nat.le_trans BW.out.size hb1.size) _
    have hz2 : w1.heap.size < w2.heap.size := by rw [hw2]; simp
    obtain ⟨⟨z0, z1, z2, z3, z4, z5, z6, z7, z8, z9⟩, -⟩ := tenU I2.out
    clear hb1 x0 x1 x2 x3
    go_upto_region 4 with fail
    rw [← hw2]
    clear hw2
    go_wp2_with fail
    refine (LP.out _).mono ?_
    rintro e w3 ⟨rfl, hb3⟩
    obtain ⟨⟨q0, q1, q2, q3, q4, q5, q6, q7, q8, q9⟩, -⟩ := tenU ((hb3.block _ hz2).trans I2.out)
    have B3 := hideIt (below_trans B2.out hb3 B2.out.size)
    clear hb3 z0 z1 z2 z3 z4 z5 z6 z7 z8 z9
    go_wp2_with fail
    refine (LB.out _).mono ?_
    rintro e w4 ⟨rfl, hb4⟩
    have B4 := hideIt (below_trans B3.out hb4 B3.out.size)
    clear hb4 q0 q1 q2 q3 q4 q5 q6 q7 q8 q9
    go_wp2
    go_ret2
    exact ⟨rfl, B4.out⟩
set_option maxRecDepth 100000 in
set_option maxHeartbeats 4000000 in
theorem implFairWrite_any (v : Value) (ws : List Int) (ps : List St) (es : List Int) (qs : List Se) (w : World) (h : RdDev w v ws ps es qs) (hw : ws.length ≤ 1048576) (hp : ps.length ≤ 1048576) (he : es.length ≤ 1048576) (hq : qs.length ≤ 1048576) (hT : TS w) (hE : ED w) (hF : FD w) :
    Calls Tryz.prog 26 #[v] w fun e w' => e = .returned (.tuple #[.bool (fwR ws ps es qs), .int .i64 (adC (dvB ws ps es qs))]) ∧ Below w.heap.size w w' := by
  have LN := hideIt (fun w1 (hb : Below w.heap.size w w1) o => auditOf_no v ws ps es qs w1 (h.below hb) hw hp he hq (hT.below hb) (hE.below hb) (hF.below hb) o)
  have LY := hideIt (fun w1 (hb : Below w.heap.size w w1) o => auditOf_yes v ws ps es qs w1 (h.below hb) hw hp he hq (hT.below hb) (hE.below hb) (hF.below hb) o)
  obtain ⟨aW, cW, aP, cP, aS, cS, aQ, cQ, rfl, -, -⟩ := h.form
  have BW : Hid (Below w.heap.size w (w.alloc (.cells #[.slice aW ws.length cW, .slice aP ps.length cP, .slice aS es.length cS, .slice aQ qs.length cQ] 41))) := (Below.refl _ _).alloc (Nat.le_refl _) _
  obtain ⟨x0, x1, x2, x3, -, -, -, -⟩ := fourU (at_new (w := w) (o := .cells #[.slice aW ws.length cW, .slice aP ps.length cP, .slice aS es.length cS, .slice aQ qs.length cQ] 41) rfl)
  clear h hT hE hF
  cases ok : dvB ws ps es qs with
  | false =>
    rw [show adC false = 1 from rfl, show fwR ws ps es qs = false by unfold fwR; rw [ok]; rfl]
    go_enter Tryz.func26, Tryz.ntmps26
    go_wp2_with fail
    refine (LN.out _ BW.out ok).mono ?_
    rintro e w1 ⟨rfl, hb1⟩
    have B1 := hideIt ((below_trans BW.out hb1 BW.out.size).alloc (Nat.le_trans BW.out.size hb1.size) (.cells #[.slice none 0 0, .slice none 0 0, .int .i64 0, .int .i64 0, .int .u64 0, .int .u64 0, .int .i64 0, .int .i64 0, .int .u64 0, .int .u64 0] 93))
    clear hb1 x0 x1 x2 x3
    go_wp2
    go_ret2
    exact ⟨rfl, B1.out⟩
  | true =>
    rw [show adC true = 0 from rfl, show fwR ws ps es qs = (decide ((usedOf (mapped (dvN ws ps es qs)) 1).length < 24) || decide ((usedOf (mapped (dvN ws ps es qs)) 2).length < 32)) by unfold fwR; rw [ok]; rfl]
    have LY := hideIt (fun w1 hb => LY.out w1 hb ok)
    obtain ⟨s1, s2⟩ := dv_free ok
    have LP := hideIt (fun w1 => hasRoom_p (usedOf (mapped (dvN ws ps es qs)) 1).length (setM (usedOf (mapped (dvN ws ps es qs)) 1)) (othM 24 (setM (usedOf (mapped (dvN ws ps es qs)) 1))) w1 (othM_lt _ _))
    have LB := hideIt (fun w1 => hasRoom_s (usedOf (mapped (dvN ws ps es qs)) 2).length (setM (usedOf (mapped (dvN ws ps es qs)) 2)) (othM 32 (setM (usedOf (mapped (dvN ws ps es qs)) 2))) w1 (othM_lt _ _))
    rw [show decide (0 < popN 64 (othM 24 (setM (usedOf (mapped (dvN ws ps es qs)) 1)))) = decide ((usedOf (mapped (dvN ws ps es qs)) 1).length < 24) from decide_eq_decide.2 (by omega)] at LP
    rw [show decide (0 < popN 64 (othM 32 (setM (usedOf (mapped (dvN ws ps es qs)) 2)))) = decide ((usedOf (mapped (dvN ws ps es qs)) 2).length < 32) from decide_eq_decide.2 (by omega)] at LB
    clear s1 s2 ok LN
    rename_i LZ
    clear LZ
    generalize decide ((usedOf (mapped (dvN ws ps es qs)) 1).length < 24) = b1 at *
    generalize decide ((usedOf (mapped (dvN ws ps es qs)) 2).length < 32) = b2 at *
    generalize (usedOf (mapped (dvN ws ps es qs)) 1).length = n1 at *
    generalize othM 24 (setM (usedOf (mapped (dvN ws ps es qs)) 1)) = f1 at *
    generalize setM (usedOf (mapped (dvN ws ps es qs)) 1) = m1 at *
    generalize (usedOf (mapped (dvN ws ps es qs)) 2).length = n2 at *
    generalize othM 32 (setM (usedOf (mapped (dvN ws ps es qs)) 2)) = f2 at *
    generalize setM (usedOf (mapped (dvN ws ps es qs)) 2) = m2 at *
    generalize dvN ws ps es qs = dn at *
    generalize dvD ws ps es qs = dd at *
    cases b1
    all_goals
      go_enter Tryz.func26, Tryz.ntmps26
      go_wp2_with fail
      refine (LY.out _ BW.out).mono ?_
      rintro e w1 ⟨a1, c1, a2, c2, rfl, -, hb1⟩
      obtain ⟨w2, hw2⟩ : ∃ w2, w2 = w1.alloc (.cells #[.slice a1 dn.length c1, .slice a2 dd.length c2, .int .i64 n1, .int .i64 24, .int .u64 m1, .int .u64 f1, .int .i64 n2, .int .i64 32, .int .u64 m2, .int .u64 f2] 93) := ⟨_, rfl⟩
      have I2 : Hid (w2.heap[w1.heap.size]? = some (.cells #[.slice a1 dn.length c1, .slice a2 dd.length c2, .int .i64 n1, .int .i64 24, .int .u64 m1, .int .u64 f1, .int .i64 n2, .int .i64 32, .int .u64 m2, .int .u64 f2] 93 (0, 0))) := by rw [hw2]; exact at_new rfl
      have B2 : Hid (Below w.heap.size w w2) := by rw [hw2]; exact (below_trans BW.out hb1 BW.out.size).alloc (Nat.le_trans BW.out.size hb1.size) _
      have hz2 : w1.heap.size < w2.heap.size := by rw [hw2]; simp
      obtain ⟨⟨z0, z1, z2, z3, z4, z5, z6, z7, z8, z9⟩, -⟩ := tenU I2.out
      clear hb1 x0 x1 x2 x3
      go_upto_region 4 with fail
      rw [← hw2]
      clear hw2
      go_wp2_with fail
      refine (LP.out _).mono ?_
      rintro e w3 ⟨rfl, hb3⟩
      obtain ⟨⟨q0, q1, q2, q3, q4, q5, q6, q7, q8, q9⟩, -⟩ := tenU ((hb3.block _ hz2).trans I2.out)
      have B3 := hideIt (below_trans B2.out hb3 B2.out.size)
      clear hb3 z0 z1 z2 z3 z4 z5 z6 z7 z8 z9
    · go_wp2_with fail
      refine (LB.out _).mono ?_
      rintro e w4 ⟨rfl, hb4⟩
      have B4 := hideIt (below_trans B3.out hb4 B3.out.size)
      clear hb4 q0 q1 q2 q3 q4 q5 q6 q7 q8 q9
      go_wp2
      go_ret2
      exact ⟨rfl, B4.out⟩
    · go_wp2
      go_ret2
      exact ⟨rfl, B3.out⟩
end Go.Proofs.YtbjjdkemappelaaGreatDoor
