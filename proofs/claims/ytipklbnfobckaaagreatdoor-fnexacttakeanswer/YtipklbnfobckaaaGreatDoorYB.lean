/- Several texts laid together: FqO, FqP. -/
import Derived.Test.YtipklbnfobckaaaGreatDoorYA
namespace Go.Proofs.YtipklbnfobckaaaGreatDoor
open Go.RowKit

/-- A file system of one's own that bears its marks. -/
def RowK (w : World) (lo hi : Nat) (v : Value) (k0 : Int) (n m p q a b : Nat) (cd vl : Int) (c : Nat) (fr : Bool) : Prop :=
  RowF w lo hi v (marks k0 n) (marksS (k0 + n) m) (marks (k0 + n + 3 * m) p) (marksE (k0 + n + 3 * m + p) q) (marks (kD k0 n m p q) a) (marksM (kD k0 n m p q + a) b) cd vl (marksT (kD k0 n m p q + a + 3 * b) c) fr
theorem RowK.mk {w : World} {lo hi : Nat} {v : Value} {k0 : Int} {n m p q a b : Nat} {cd vl : Int} {c : Nat} {fr : Bool} (h : RowK w lo hi v k0 n m p q a b cd vl c fr) : MkF w v k0 n m p q a b cd vl c fr := RowF.rd h
theorem RowK.below {w w' : World} {lo hi : Nat} {v : Value} {k0 : Int} {n m p q a b : Nat} {cd vl : Int} {c : Nat} {fr : Bool} (h : RowK w lo hi v k0 n m p q a b cd vl c fr) {B : Nat} (hb : Below B w w') (hB : hi ≤ B) : RowK w' lo hi v k0 n m p q a b cd vl c fr := RowF.below h hb hB
theorem RowK.outside {w w' : World} {lo hi : Nat} {v : Value} {k0 : Int} {n m p q a b : Nat} {cd vl : Int} {c : Nat} {fr : Bool} (h : RowK w lo hi v k0 n m p q a b cd vl c fr) {lo' hi' : Nat} (ho : Outside lo' hi' w w') (hd : hi ≤ lo' ∨ hi' ≤ lo) (hz : hi ≤ w.heap.size) : RowK w' lo hi v k0 n m p q a b cd vl c fr := RowF.outside h ho hd hz
theorem rdt_marks {w : World} {lo hi : Nat} {v : Value} {k : Int} {n : Nat} (h : Row w 9 1 lo hi v n (strs (marksT k n))) : RdT w v (marksT k n) := by
  have := h.rd
  unfold RdT
  rw [marksT_len]
  exact this
set_option maxRecDepth 100000 in
set_option maxHeartbeats 8000000 in
theorem markFs_row (v : Value) (ws : List Int) (ps : List St) (es : List Int) (qs : List Se) (hs : List Int) (td : List Mi) (cd vl : Int) (nm : List ByteArray) (fr : Bool) (k0 : Int) (lo hi : Nat) (w : World) (h : RowF w lo hi v ws ps es qs hs td cd vl nm fr) (hi1 : hi ≤ w.heap.size) (hws : ws.length ≤ 4194304) (hps : ps.length ≤ 4194304) (hes : es.length ≤ 4194304) (hqs : qs.length ≤ 4194304) (hhs : hs.length ≤ 4194304) (htd : td.length ≤ 4194304) (hnm : nm.length ≤ 4194304) (h0 : 0 ≤ k0) (h1 : k0 ≤ 67108864) :
    Calls Tryz.prog 20 #[v, .int .i64 k0] w fun e w' => e = .returned (.int .i64 (kD k0 ws.length ps.length es.length qs.length + hs.length + 3 * td.length + nm.length)) ∧ RowK w' lo hi v k0 ws.length ps.length es.length qs.length hs.length td.length cd vl nm.length fr ∧ Outside lo hi w w' := by
  obtain ⟨aW, cW, aP, cP, aS, cS, aQ, cQ, aH, cH, aT, cT, aN, cN, e, -⟩ := h.rd
  subst e
  obtain ⟨vW, vP, vS, vQ, vH, vT, vN, ld, ud, lh, uh, lt, ut, ln, un, e, rD, rH, rT, rN, f⟩ := h
  injection e with e
  injection e with e
  simp only [List.cons.injEq] at e
  obtain ⟨rfl, rfl, rfl, rfl, rfl, rfl, -, -, rfl, -⟩ := e
  obtain ⟨d0, d1, f0, f1, t0, t1, n0, n1, dh, dt, dn, ht, hn, tn⟩ := f
  have R0 := hideIt rD
  have R1 := hideIt rH
  have R2 := hideIt rT
  have R3 := hideIt rN
  clear rD rH rT rN
  obtain ⟨V, hV⟩ : ∃ V, V = w.alloc (.cells #[.slice aW ws.length cW, .slice aP ps.length cP, .slice aS es.length cS, .slice aQ qs.length cQ, .slice aH hs.length cH, .slice aT td.length cT, .int .i64 cd, .int .i64 vl, .slice aN nm.length cN, .bool fr] 50) := ⟨_, rfl⟩
  have BV : Below w.heap.size w V := by rw [hV]; exact (Below.refl _ _).alloc (Nat.le_refl _) _
  have XV : Hid (V.heap[w.heap.size]? = some (.cells #[.slice aW ws.length cW, .slice aP ps.length cP, .slice aS es.length cS, .slice aQ qs.length cQ, .slice aH hs.length cH, .slice aT td.length cT, .int .i64 cd, .int .i64 vl, .slice aN nm.length cN, .bool fr] 50 (0, 0))) := by rw [hV]; exact at_new rfl
  have zV : w.heap.size < V.heap.size := lt_box XV.out
  have OV := hideIt (Outside.of_below (lo := lo) (hi := hi) BV)
  have S0 := hideIt (R0.out.below BV (by omega))
  have S1 := hideIt (R1.out.below BV (by omega))
  have S2 := hideIt (R2.out.below BV (by omega))
  have S3 := hideIt (R3.out.below BV (by omega))
  clear BV R0 R1 R2 R3
  go_enter Tryz.func20, Tryz.ntmps20
  go_upto_region 1 with fail
  rw [← hV]
  clear hV
  obtain ⟨x0, x1, x2, x3⟩ := tenD XV.out
  go_wp2_with fail
  refine (markDevices_any _ ws ps es qs k0 ld ud V S0.out (by omega) (by omega) (by omega) (by omega) (by omega) h0 (by omega)).mono ?_
  rintro e w1 ⟨rfl, hr, ho⟩
  have z1 : V.heap.size ≤ w1.heap.size := ho.size
  have X1 := hideIt ((ho.block _ (by omega) (by omega)).trans XV.out)
  have O1 := hideIt (OV.out.trans (ho.mono d0 d1))
  have T0 := hideIt hr
  have T1 := hideIt (S1.out.outside ho (by omega) (by omega))
  have T2 := hideIt (S2.out.outside ho (by omega))
  have T3 := hideIt (S3.out.outside ho (by omega) (by omega))
  clear hr ho S0 S1 S2 S3 XV OV x0 x1 x2 x3
  rw [show (k0 + ws.length + 3 * ps.length + es.length + 2 * qs.length : Int) = kD k0 ws.length ps.length es.length qs.length from rfl]
  obtain ⟨kk, hkk⟩ : ∃ kk : Int, kk = kD k0 ws.length ps.length es.length qs.length := ⟨_, rfl⟩
  rw [← hkk]
  have kk0 : 0 ≤ kk ∧ kk ≤ 268435456 := by rw [hkk]; unfold kD; omega
  have KK := hideIt hkk
  clear hkk
  have x4 := tenH X1.out
  go_wp2_with fail
  refine (markIntS_any _ hs.length (ints hs) kk lh uh w1 T1.out (fun u hu => by simp only [ints, List.mem_map] at hu; obtain ⟨z, -, rfl⟩ := hu; exact ⟨z, rfl⟩) (by omega) (by omega) (by omega)).mono ?_
  rintro e w2 ⟨rfl, hr, hg, -⟩
  have ho := Row.grown_outside T1.out hg
  have z2 : w1.heap.size ≤ w2.heap.size := ho.size
  have X2 := hideIt ((ho.block _ (by omega) (by omega)).trans X1.out)
  have O2 := hideIt (O1.out.trans (ho.mono f0 f1))
  have U0 := hideIt (T0.out.outside ho (by omega) (by omega))
  have U1 := hideIt hr
  have U2 := hideIt (T2.out.outside ho (by omega))
  have U3 := hideIt (T3.out.outside ho (by omega) (by omega))
  clear hr ho hg T0 T1 T2 T3 X1 O1 x4
  have x5 := tenT X2.out
  go_wp2_with fail
  refine (markMicroW_any _ td (kk + hs.length) lt ut w2 U2.out (by omega) (by omega) (by omega)).mono ?_
  rintro e w3 ⟨rfl, hr, ho⟩
  have z3 : w2.heap.size ≤ w3.heap.size := ho.size
  have X3 := hideIt ((ho.block _ (by omega) (by omega)).trans X2.out)
  have O3 := hideIt (O2.out.trans (ho.mono t0 t1))
  have Q0 := hideIt (U0.out.outside ho (by omega) (by omega))
  have Q1 := hideIt (U1.out.outside ho (by omega) (by omega))
  have Q2 := hideIt hr
  have Q3 := hideIt (U3.out.outside ho (by omega) (by omega))
  clear hr ho U0 U1 U2 U3 X2 O2 x5
  obtain ⟨x6, x7, x8⟩ := tenA X3.out
  go_wp2_with fail
  refine (markAnswer_any cd vl _ nm (kk + hs.length + 3 * td.length) ln un w3 Q3.out (by omega) (by omega) (by omega) (by omega)).mono ?_
  rintro e w4 ⟨rfl, hr, wa, hb, hz, hg⟩
  have ho := Row.grown_outside (Q3.out.below hb (by omega)) hg
  have z4 : w3.heap.size ≤ wa.heap.size := hb.size
  have z5 : wa.heap.size ≤ w4.heap.size := ho.size
  have O4 := hideIt ((O3.out.trans (Outside.of_below hb)).trans (ho.mono n0 n1))
  have P0 := hideIt ((Q0.out.below hb (by omega)).outside ho (by omega) (by omega))
  have P1 := hideIt ((Q1.out.below hb (by omega)).outside ho (by omega) (by omega))
  have P2 := hideIt ((Q2.out.below hb (by omega)).outside ho (by omega))
  have P3 := hideIt hr
  clear hr ho hg hb Q0 Q1 Q2 Q3 X3 O3 x6 x7 x8
  go_wp2
  go_ret
  have hk := KK.out
  subst hk
  refine ⟨rfl, ⟨_, _, _, _, _, _, _, ld, ud, lh, uh, lt, ut, ln, un, rfl, P0.out, ?_, P2.out, ?_, ⟨d0, d1, f0, f1, t0, t1, n0, n1, dh, dt, dn, ht, hn, tn⟩⟩, O4.out⟩
  · have := P1.out
    rw [marks_len]
    exact this
  · have := P3.out
    rw [marksT_len]
    exact this
/-- A file system of one's own whose names lie behind all else. -/
def RowN (w : World) (lo mid hi : Nat) (v : Value) (ws : List Int) (ps : List St) (es : List Int) (qs : List Se) (hs : List Int) (td : List Mi) (cd vl : Int) (nm : List ByteArray) (fr : Bool) : Prop :=
  ∃ vW vP vS vQ vH vT vN ld ud lh uh lt ut ln un, v = .agg #[vW, vP, vS, vQ, vH, vT, .int .i64 cd, .int .i64 vl, vN, .bool fr] ∧ RowDev w ld ud (.agg #[vW, vP, vS, vQ]) ws ps es qs ∧ Row w 3 1 lh uh vH hs.length (ints hs) ∧ RowW w lt ut vT td ∧ Row w 9 1 ln un vN nm.length (strs nm) ∧ FarF lo hi ld ud lh uh lt ut ln un ∧ ud ≤ mid ∧ uh ≤ mid ∧ ut ≤ mid ∧ mid ≤ ln ∧ lo ≤ mid ∧ mid ≤ hi
set_option maxRecDepth 100000 in
set_option maxHeartbeats 16000000 in
theorem draftOf_mid (v : Value) (ws : List Int) (ps : List St) (es : List Int) (qs : List Se) (hs : List Int) (td : List Mi) (cd vl : Int) (nm : List ByteArray) (fr : Bool) (w : World) (h : RdF w v ws ps es qs hs td cd vl nm fr) (hws : ws.length ≤ 1048576) (hps : ps.length ≤ 1048576) (hes : es.length ≤ 1048576) (hqs : qs.length ≤ 1048576) (hhs : hs.length ≤ 1048576) (htd : td.length ≤ 1048576) (hnm : nm.length ≤ 1048576) :
    Calls Tryz.prog 62 #[v] w fun e w' => ∃ v' mid, e = .returned v' ∧ RowN w' w.heap.size mid w'.heap.size v' ws ps es qs hs td cd vl nm fr ∧ Below w.heap.size w w' := by
  obtain ⟨aW, cW, aP, cP, aS, cS, aQ, cQ, aH, cH, aT, cT, aN, cN, rfl, d1, h1, t1, n1⟩ := h
  have LD := hideIt (fun w1 (hb : Below w.heap.size w w1) => copyDevices_any _ ws ps es qs w1 (d1.below hb) hws hps hes hqs)
  have LA := hideIt (fun w1 (hb : Below w.heap.size w w1) => copyAnswer_any cd vl aN nm cN w1 (Rd.below n1 hb) hnm)
  have RH : Hid (Rd w 1 (.slice aH hs.length cH) hs.length (ints hs)) := h1
  have RT : Hid (Rd w 3 (.slice aT td.length cT) td.length (mis td)) := t1
  clear d1 h1 t1 n1
  obtain ⟨V, hV⟩ : ∃ V, V = ((w.alloc (.cells #[.slice aW ws.length cW, .slice aP ps.length cP, .slice aS es.length cS, .slice aQ qs.length cQ, .slice aH hs.length cH, .slice aT td.length cT, .int .i64 cd, .int .i64 vl, .slice aN nm.length cN, .bool fr] 50)).alloc (.cells #[.slice none 0 0, .slice none 0 0, .slice none 0 0, .slice none 0 0, .slice none 0 0, .slice none 0 0, .int .i64 0, .int .i64 0, .slice none 0 0, .bool false] 98)) := ⟨_, rfl⟩
  have zV : w.heap.size + 2 ≤ V.heap.size := by rw [hV]; simp <;> omega
  have B_V : Hid (Below w.heap.size w V) := by rw [hV]; exact (((Below.refl _ _).alloc (by simp <;> omega) _).alloc (by simp <;> omega) _)
  have X0_V : Hid (V.heap[w.heap.size]? = some (.cells #[.slice aW ws.length cW, .slice aP ps.length cP, .slice aS es.length cS, .slice aQ qs.length cQ, .slice aH hs.length cH, .slice aT td.length cT, .int .i64 cd, .int .i64 vl, .slice aN nm.length cN, .bool fr] 50 (0, 0))) := by rw [hV]; exact (at_old (at_new rfl))
  have X1_V : Hid (V.heap[w.heap.size + 1]? = some (.cells #[.slice none 0 0, .slice none 0 0, .slice none 0 0, .slice none 0 0, .slice none 0 0, .slice none 0 0, .int .i64 0, .int .i64 0, .slice none 0 0, .bool false] 98 (0, 0))) := by rw [hV]; exact (at_new (by simp))
  go_enter Tryz.func62, Tryz.ntmps62
  go_upto_region 1 with fail
  rw [← hV]
  clear hV
  obtain ⟨c0_0, c0_1, c0_2, c0_3, c0_4, c0_5, c0_6, c0_7, c0_8, c0_9, -⟩ := ten_cells X0_V.out
  have LEV : w.heap.size + 1 ≤ V.heap.size := by omega
  have SK : Hid (∀ w', Below (w.heap.size + 1) V w' → w'.cell? ⟨w.heap.size, 0, none⟩ = some (.slice aW ws.length cW) ∧ w'.cell? ⟨w.heap.size, 1, none⟩ = some (.slice aP ps.length cP) ∧ w'.cell? ⟨w.heap.size, 2, none⟩ = some (.slice aS es.length cS) ∧ w'.cell? ⟨w.heap.size, 3, none⟩ = some (.slice aQ qs.length cQ) ∧ w'.cell? ⟨w.heap.size, 4, none⟩ = some (.slice aH hs.length cH) ∧ w'.cell? ⟨w.heap.size, 5, none⟩ = some (.slice aT td.length cT) ∧ w'.cell? ⟨w.heap.size, 6, none⟩ = some (.int .i64 cd) ∧ w'.cell? ⟨w.heap.size, 7, none⟩ = some (.int .i64 vl) ∧ w'.cell? ⟨w.heap.size, 8, none⟩ = some (.slice aN nm.length cN) ∧ w'.cell? ⟨w.heap.size, 9, none⟩ = some (.bool fr)) := fun w' hb => by
    obtain ⟨a0, a1, a2, a3, a4, a5, a6, a7, a8, a9, -⟩ := ten_cells (box_below X0_V.out hb (Nat.lt_succ_self _))
    exact ⟨a0, a1, a2, a3, a4, a5, a6, a7, a8, a9⟩
  go_region_held3 (fun w' => w'.cell? ⟨w.heap.size, 0, none⟩ = some (.slice aW ws.length cW) ∧ w'.cell? ⟨w.heap.size, 1, none⟩ = some (.slice aP ps.length cP) ∧ w'.cell? ⟨w.heap.size, 2, none⟩ = some (.slice aS es.length cS) ∧ w'.cell? ⟨w.heap.size, 3, none⟩ = some (.slice aQ qs.length cQ) ∧ w'.cell? ⟨w.heap.size, 4, none⟩ = some (.slice aH hs.length cH) ∧ w'.cell? ⟨w.heap.size, 5, none⟩ = some (.slice aT td.length cT) ∧ w'.cell? ⟨w.heap.size, 6, none⟩ = some (.int .i64 cd) ∧ w'.cell? ⟨w.heap.size, 7, none⟩ = some (.int .i64 vl) ∧ w'.cell? ⟨w.heap.size, 8, none⟩ = some (.slice aN nm.length cN) ∧ w'.cell? ⟨w.heap.size, 9, none⟩ = some (.bool fr))
    (exact SK.out _ (by repeat (first | with_reducible exact BD.out.mono LEV | with_reducible exact BC.out.mono LEV | with_reducible exact BB.out.mono LEV | with_reducible exact BA.out.mono LEV | with_reducible exact Below.refl _ _ | with_reducible refine Below.drew ?_ | with_reducible refine Below.setCell ?_ (by exact Nat.le_refl _) _)))
    (first
      | (go_at_call 120; refine (LD.out _ (below_trans B_V.out (by repeat (first | with_reducible exact Below.refl _ _ | with_reducible refine Below.drew ?_)) B_V.out.size)).mono ?_; rintro e wa ⟨va, rfl, hra, hba⟩; have BA : Hid (Below V.heap.size V wa) := belY (by repeat (first | with_reducible exact Below.refl _ _ | with_reducible refine Below.drew ?_)) hba; obtain ⟨iW, jW, iP, jP, iS, jS, iQ, jQ, rfl, -, -⟩ := hra.rd.form; have RA : Hid (RowDev wa V.heap.size wa.heap.size _ ws ps es qs) := hra; clear hra hba)
      | (refine step_append_rd rfl (.const (.slice none 0 0)) (.tmp 7) 22 rfl wa.heap.size 3 (.int .i64 0) 1 8 Tryz.underlying22 info3 rfl (by decide) (.slice none 0 0) 0 [] (by rfl) (World.ownsRow_nil _ _ _ _) (.slice aH hs.length cH) hs.length (ints hs) (by rfl) (by exact Rd.below RH.out (below_trans B_V.out (belY BA.out (by repeat (first | with_reducible exact Below.refl _ _ | with_reducible refine Below.drew ?_))) B_V.out.size)) (ints_one hs) (by first | omega | (simp [maxLen]; omega)) (by first | omega | (simp; omega)) (by exact Nat.le_refl _) ?_; intro vv wb hown0 hgr; have hown : wb.ownsRow wa.heap.size 3 1 vv hs.length (ints hs) := (by simpa using hown0); have hr := own_block hown; obtain ⟨-, iH, jH, hvv, -⟩ := hr.rd; subst hvv; have hbq : Below wa.heap.size wa wb := belY (by repeat (first | with_reducible exact Below.refl _ _ | with_reducible refine Below.drew ?_)) ((Below.refl _ _).grown hgr (Nat.le_refl _) (fun k hk => by cases hk)); have BB : Hid (Below V.heap.size V wb) := belY BA.out hbq; have BB1 := hideIt hbq; have RB : Hid (Row wb 3 1 wa.heap.size wb.heap.size _ hs.length (ints hs)) := hr; have RA1 := hideIt (RA.out.below hbq (Nat.le_refl _)); clear hown hown0 hgr hr hbq)
      | (refine step_append_rd rfl (.const (.slice none 0 0)) (.tmp 10) 47 rfl wb.heap.size 79 (.agg #[.int .i64 0, .int .i64 0, .int .i64 0]) 3 24 Tryz.underlying47 infoMic rfl (by decide) (.slice none 0 0) 0 [] (by rfl) (World.ownsRow_nil _ _ _ _) (.slice aT td.length cT) td.length (mis td) (by rfl) (by exact Rd.below RT.out (below_trans B_V.out (belY BB.out (by repeat (first | with_reducible exact Below.refl _ _ | with_reducible refine Below.drew ?_))) B_V.out.size)) (mis_one td) (by first | omega | (simp [maxLen]; omega)) (by first | omega | (simp; omega)) (by exact Nat.le_refl _) ?_; intro vv wc hown0 hgr; have hown : wc.ownsRow wb.heap.size 79 3 vv td.length (mis td) := (by simpa using hown0); have hr := own_block hown; obtain ⟨-, iT, jT, hvv, -⟩ := hr.rd; subst hvv; have hbq : Below wb.heap.size wb wc := belY (by repeat (first | with_reducible exact Below.refl _ _ | with_reducible refine Below.drew ?_)) ((Below.refl _ _).grown hgr (Nat.le_refl _) (fun k hk => by cases hk)); have BC : Hid (Below V.heap.size V wc) := belY BB.out hbq; have BC1 := hideIt hbq; have RC : Hid (Row wc 79 3 wb.heap.size wc.heap.size _ td.length (mis td)) := hr; have RA2 := hideIt (RA1.out.below hbq BB1.out.size); have RB2 := hideIt (RB.out.below hbq (Nat.le_refl _)); clear hown hown0 hgr hr hbq)
      | (go_at_call 121; refine (LA.out _ (below_trans B_V.out (belY BC.out (by repeat (first | with_reducible exact Below.refl _ _ | with_reducible refine Below.drew ?_))) B_V.out.size)).mono ?_; rintro e wd ⟨vN, rfl, hrd, hbd⟩; have hbq : Below wc.heap.size wc wd := belY (by repeat (first | with_reducible exact Below.refl _ _ | with_reducible refine Below.drew ?_)) hbd; have BD : Hid (Below V.heap.size V wd) := belY BC.out hbq; have BE1 := hideIt hbq; obtain ⟨-, iN, jN, rfl, -⟩ := hrd.rd; have RD : Hid (Row wd 9 1 wc.heap.size wd.heap.size _ nm.length (strs nm)) := hrd; have RA3 := hideIt (RA2.out.below hbq (Nat.le_trans BB1.out.size BC1.out.size)); have RB3 := hideIt (RB2.out.below hbq BC1.out.size); have RC3 := hideIt (RC.out.below hbq (Nat.le_refl _)); have X1d := hideIt (box_below X1_V.out BD.out (lt_box X1_V.out)); obtain ⟨y0, y1, y2, y3, y4, y5, y6, y7, y8, y9, k0, k1, k2, k3, k4, k5, k6, k7, k8, k9⟩ := ten_cells X1d.out; clear hrd hbd hbq))
  all_goals
    have zwa : V.heap.size ≤ wa.heap.size := BA.out.size
    have zwb : wa.heap.size ≤ wb.heap.size := BB1.out.size
    have zwc : wb.heap.size ≤ wc.heap.size := BC1.out.size
    have zwd : V.heap.size ≤ wd.heap.size := BD.out.size
    have zwe : wc.heap.size ≤ wd.heap.size := BE1.out.size
    have B_wd := hideIt (below_trans B_V.out BD.out B_V.out.size)
    have X0_wd := hideIt (box_below X0_V.out BD.out (lt_box X0_V.out))
    have X1_wd := X1d
    have QD_wd := RA3
    have QH_wd := RB3
    have QT_wd := hideIt (RowW.of_row RC3.out)
    have QN_wd := RD
    clear c0_0 c0_1 c0_2 c0_3 c0_4 c0_5 c0_6 c0_7 c0_8 c0_9 SK LD LA RH RT BA BB BC BD BB1 BC1 BE1 RA RA1 RA2 RA3 RB RB2 RB3 RC RC3 RD X0_V X1_V B_V X1d
    obtain ⟨w1, hw1⟩ : ∃ w1, w1 = ((((((((((wd.setCell ⟨w.heap.size + 1, 0, none⟩ (.slice iW ws.length jW)).setCell ⟨w.heap.size + 1, 1, none⟩ (.slice iP ps.length jP)).setCell ⟨w.heap.size + 1, 2, none⟩ (.slice iS es.length jS)).setCell ⟨w.heap.size + 1, 3, none⟩ (.slice iQ qs.length jQ)).setCell ⟨w.heap.size + 1, 4, none⟩ (.slice iH hs.length jH)).setCell ⟨w.heap.size + 1, 5, none⟩ (.slice iT td.length jT)).setCell ⟨w.heap.size + 1, 6, none⟩ (.int .i64 cd)).setCell ⟨w.heap.size + 1, 7, none⟩ (.int .i64 vl)).setCell ⟨w.heap.size + 1, 8, none⟩ (.slice iN nm.length jN)).setCell ⟨w.heap.size + 1, 9, none⟩ (.bool fr)) := ⟨_, rfl⟩
    have Ow1 : Outside (w.heap.size + 1) (w.heap.size + 1 + 1) wd w1 := by
      rw [hw1]
      repeat (refine Outside.setCell ?_ (by simp only; omega) (by simp only; omega) _)
      exact Outside.refl _ _ _
    have zw1 : wd.heap.size ≤ w1.heap.size ∧ w1.heap.size ≤ wd.heap.size := by rw [hw1]; simp [World.setCell]
    have B_w1 := hideIt (B_wd.out.trans (Ow1.below (B := w.heap.size) (by omega) B_wd.out.size))
    have X0_w1 := hideIt ((Ow1.block (w.heap.size) (lt_box X0_wd.out) (by omega)).trans X0_wd.out)
    have X1_w1 : Hid (w1.heap[w.heap.size + 1]? = some (.cells #[.slice iW ws.length jW, .slice iP ps.length jP, .slice iS es.length jS, .slice iQ qs.length jQ, .slice iH hs.length jH, .slice iT td.length jT, .int .i64 cd, .int .i64 vl, .slice iN nm.length jN, .bool fr] 98 (0, 0))) := by rw [hw1]; exact (ten_set9 (ten_set8 (ten_set7 (ten_set6 (ten_set5 (ten_set4 (ten_set3 (ten_set2 (ten_set1 (ten_set0 X1_wd.out _) _) _) _) _) _) _) _) _) _)
    have QD_w1 := hideIt (QD_wd.out.outside Ow1 (by omega) (by omega))
    have QH_w1 := hideIt (QH_wd.out.outside Ow1 (by omega) (by omega))
    have QT_w1 := hideIt (QT_wd.out.outside Ow1 (by omega))
    have QN_w1 := hideIt (QN_wd.out.outside Ow1 (by omega) (by omega))
    clear Ow1
    go_wp2
    refine bodyPost_ret (v := .agg #[.slice iW ws.length jW, .slice iP ps.length jP, .slice iS es.length jS, .slice iQ qs.length jQ, .slice iH hs.length jH, .slice iT td.length jT, .int .i64 cd, .int .i64 vl, .slice iN nm.length jN, .bool fr]) (by simp [results, Tryz.results62, go_sem, y0, y1, y2, y3, y4, y5, y6, y7, y8, y9]) rfl ?_
    rw [← hw1]
    exact ⟨_, wc.heap.size, rfl, ⟨_, _, _, _, _, _, _, _, _, _, _, _, _, _, _, rfl, QD_w1.out, QH_w1.out, QT_w1.out, QN_w1.out, ⟨by omega, by omega, by omega, by omega, by omega, by omega, by omega, by omega, by omega, by omega, by omega, by omega, by omega, by omega⟩, by omega, by omega, by omega, by omega, by omega, by omega⟩, B_w1.out⟩
end Go.Proofs.YtipklbnfobckaaaGreatDoor

namespace Go.Proofs.YtipklbnfobckaaaGreatDoor
open Go.RowKit

/-- A file system, an answer that lies behind it, a code. -/
def AzRow (w w' : World) (e : Ending) (R : Az) : Prop := ∃ v' vN lo1 hi1 lo2 hi2, e = .returned (.tuple #[v', .agg #[.int .i64 R.cd, .int .i64 R.vl, vN], .int .i64 R.c]) ∧ RowF w' lo1 hi1 v' R.f.ws R.f.ps R.f.es R.f.qs R.f.hs R.f.td R.f.cd R.f.vl R.f.nm R.f.fr ∧ Row w' 9 1 lo2 hi2 vN R.nm.length (strs R.nm) ∧ (w.heap.size ≤ lo1 ∧ lo1 ≤ hi1 ∧ hi1 ≤ lo2 ∧ lo2 ≤ hi2 ∧ hi2 ≤ w'.heap.size) ∧ Below w.heap.size w w'
set_option maxRecDepth 100000 in
set_option maxHeartbeats 16000000 in
theorem takeAnswer_any {aW aP aS aQ aH aT aN : Option Addr} {cW cP cS cQ cH cT cN : Nat} {ws : List Int} {ps : List St} {es : List Int} {qs : List Se} {hs : List Int} {td : List Mi} {cd vl : Int} {nm : List ByteArray} {fr : Bool} (b : Nat) (w : World) (hx : w.heap[b]? = some (.cells #[.slice aW ws.length cW, .slice aP ps.length cP, .slice aS es.length cS, .slice aQ qs.length cQ, .slice aH hs.length cH, .slice aT td.length cT, .int .i64 cd, .int .i64 vl, .slice aN nm.length cN, .bool fr] 98 (0, 0))) :
    Calls Tryz.prog 82 #[.pointer (some ⟨b, 0, none⟩)] w fun e w' => e = .returned (.agg #[.int .i64 cd, .int .i64 vl, .slice aN nm.length cN]) ∧ w'.heap[b]? = some (.cells #[.slice aW ws.length cW, .slice aP ps.length cP, .slice aS es.length cS, .slice aQ qs.length cQ, .slice aH hs.length cH, .slice aT td.length cT, .int .i64 0, .int .i64 0, .slice none 0 0, .bool false] 98 (0, 0)) ∧ Outside b (b + 1) w w' := by
  have ltb := lt_box hx
  have X := hideIt hx
  clear hx
  obtain ⟨V, hV⟩ : ∃ V, V = (w.alloc (.cells #[.int .i64 0, .int .i64 0, .slice none 0 0] 48)).alloc (.cells #[.int .i64 cd, .int .i64 vl, .slice aN nm.length cN] 48) := ⟨_, rfl⟩
  have BV : Below w.heap.size w V := by rw [hV]; exact ((Below.refl _ _).alloc (Nat.le_refl _) _).alloc (by simp) _
  have zV : w.heap.size + 2 ≤ V.heap.size := by rw [hV]; simp
  have YV : Hid (V.heap[w.heap.size]? = some (.cells #[.int .i64 0, .int .i64 0, .slice none 0 0] 48 (0, 0))) := by rw [hV]; exact at_old (at_new rfl)
  have ZV : Hid (V.heap[w.heap.size + 1]? = some (.cells #[.int .i64 cd, .int .i64 vl, .slice aN nm.length cN] 48 (0, 0))) := by rw [hV]; exact at_new (by simp)
  have XV := hideIt (box_below X.out BV ltb)
  have OV := hideIt (Outside.of_below (lo := b) (hi := b + 1) BV)
  have XA := hideIt (at_old (o := .cells #[.int .i64 0, .int .i64 0, .slice none 0 0] 48) X.out)
  obtain ⟨x6, x7, x8⟩ := tenA XA.out
  clear BV X
  go_enter Tryz.func82, Tryz.ntmps82
  go_upto_region 2 with fail
  rw [← hV]
  clear hV x6 x7 x8 XA
  obtain ⟨w1, hw1⟩ : ∃ w1, w1 = (((V.setCell ⟨b, 6, none⟩ (.int .i64 0)).setCell ⟨b, 7, none⟩ (.int .i64 0)).setCell ⟨b, 8, none⟩ (.slice none 0 0)).setCell ⟨b, 9, none⟩ (.bool false) := ⟨_, rfl⟩
  have O1 : Outside b (b + 1) V w1 := by
    rw [hw1]
    repeat (refine Outside.setCell ?_ (by simp only; omega) (by simp only; omega) _)
    exact Outside.refl _ _ _
  have z1 : V.heap.size ≤ w1.heap.size := O1.size
  have X1 : Hid (w1.heap[b]? = some (.cells #[.slice aW ws.length cW, .slice aP ps.length cP, .slice aS es.length cS, .slice aQ qs.length cQ, .slice aH hs.length cH, .slice aT td.length cT, .int .i64 0, .int .i64 0, .slice none 0 0, .bool false] 98 (0, 0))) := by rw [hw1]; exact ten_set9 (ten_set8 (ten_set7 (ten_set6 XV.out _) _) _) _
  have Y1 := hideIt ((O1.block w.heap.size (by omega) (by omega)).trans YV.out)
  have Z1 := hideIt ((O1.block (w.heap.size + 1) (by omega) (by omega)).trans ZV.out)
  have OO := hideIt (OV.out.trans O1)
  obtain ⟨-, -, -, -, -, -, d6, d7, d8, d9, -, -, -, -, -, -, g6, g7, g8, g9⟩ := ten_cells XV.out
  go_upto_region 3 with fail
  rw [← hw1]
  clear hw1 d6 d7 d8 d9 g6 g7 g8 g9 XV YV ZV OV O1
  obtain ⟨y0, y1, y2, y3, y4, y5⟩ := tri3 Y1.out
  obtain ⟨u0, u1, u2, -⟩ := tri3 Z1.out
  go_wp2
  refine bodyPost_ret (v := .agg #[.int .i64 cd, .int .i64 vl, .slice aN nm.length cN]) (by simp [results, Tryz.results82, go_sem, y0, y1, y2]) rfl ?_
  have OW : Outside w.heap.size (w.heap.size + 1) w1 (((w1.setCell ⟨w.heap.size, 0, none⟩ (.int .i64 cd)).setCell ⟨w.heap.size, 1, none⟩ (.int .i64 vl)).setCell ⟨w.heap.size, 2, none⟩ (.slice aN nm.length cN)) := by
    repeat (refine Outside.setCell ?_ (by simp only; omega) (by simp only; omega) _)
    exact Outside.refl _ _ _
  refine ⟨rfl, (OW.block b (by omega) (by omega)).trans X1.out, ?_⟩
  exact ⟨OW.os.trans OO.out.os, OW.tape.trans OO.out.tape, OW.output.trans OO.out.output, Nat.le_trans OO.out.size OW.size, fun k hk hd => (OW.block k (Nat.lt_of_lt_of_le hk OO.out.size) (by omega)).trans (OO.out.block k hk hd)⟩
set_option maxRecDepth 100000 in
set_option maxHeartbeats 16000000 in
theorem implTakeAnswer_any (v : Value) (ws : List Int) (ps : List St) (es : List Int) (qs : List Se) (hs : List Int) (td : List Mi) (cd vl : Int) (nm : List ByteArray) (fr : Bool) (w : World) (h : RdF w v ws ps es qs hs td cd vl nm fr) (hws : ws.length ≤ 1048576) (hps : ps.length ≤ 1048576) (hes : es.length ≤ 1048576) (hqs : qs.length ≤ 1048576) (hhs : hs.length ≤ 1048576) (htd : td.length ≤ 1048576) (hnm : nm.length ≤ 1048576) (hS : SB w) (hT : TS w) (hE : ED w) (hF : FD w) :
    Calls Tryz.prog 29 #[v] w fun e w' => AzRow w w' e (takR ws ps es qs hs td cd vl nm fr) := by
  have LF := hideIt (fun w1 (hb : Below w.heap.size w w1) => implFsOK_any v ws ps es qs hs td cd vl nm fr w1 (h.below hb) hws hps hes hqs hhs htd hnm (hS.below hb) (hT.below hb) (hE.below hb) (hF.below hb))
  have LDR := hideIt (fun w1 (hb : Below w.heap.size w w1) => draftOf_mid v ws ps es qs hs td cd vl nm fr w1 (h.below hb) hws hps hes hqs hhs htd hnm)
  obtain ⟨aW, cW, aP, cP, aS, cS, aQ, cQ, aH, cH, aT, cT, aN, cN, rfl, -⟩ := id h
  clear h
  by_cases y : fsB ws ps es qs hs td cd vl nm fr = true
  · simp only [y] at LF
    have eR0 : Hid (takR ws ps es qs hs td cd vl nm fr = takI ws ps es qs hs td cd vl nm fr) := if_pos y
    clear hS hT hE hF y
    obtain ⟨V, hV⟩ : ∃ V, V = (((w.alloc (.cells #[.slice aW ws.length cW, .slice aP ps.length cP, .slice aS es.length cS, .slice aQ qs.length cQ, .slice aH hs.length cH, .slice aT td.length cT, .int .i64 cd, .int .i64 vl, .slice aN nm.length cN, .bool fr] 50)).alloc (.cells #[.slice none 0 0, .slice none 0 0, .slice none 0 0, .slice none 0 0, .slice none 0 0, .slice none 0 0, .int .i64 0, .int .i64 0, .slice none 0 0, .bool false] 50)).alloc (.cells #[.int .i64 0, .int .i64 0, .slice none 0 0] 48)) := ⟨_, rfl⟩
    have zV : w.heap.size + 3 ≤ V.heap.size := by rw [hV]; simp <;> omega
    have B_V : Hid (Below w.heap.size w V) := by rw [hV]; exact ((((Below.refl _ _).alloc (by simp <;> omega) _).alloc (by simp <;> omega) _).alloc (by simp <;> omega) _)
    have X0_V : Hid (V.heap[w.heap.size]? = some (.cells #[.slice aW ws.length cW, .slice aP ps.length cP, .slice aS es.length cS, .slice aQ qs.length cQ, .slice aH hs.length cH, .slice aT td.length cT, .int .i64 cd, .int .i64 vl, .slice aN nm.length cN, .bool fr] 50 (0, 0))) := by rw [hV]; exact (at_old (at_old (at_new rfl)))
    have X1_V : Hid (V.heap[w.heap.size + 1]? = some (.cells #[.slice none 0 0, .slice none 0 0, .slice none 0 0, .slice none 0 0, .slice none 0 0, .slice none 0 0, .int .i64 0, .int .i64 0, .slice none 0 0, .bool false] 50 (0, 0))) := by rw [hV]; exact (at_old (at_new (by simp)))
    have X2_V : Hid (V.heap[w.heap.size + 1 + 1]? = some (.cells #[.int .i64 0, .int .i64 0, .slice none 0 0] 48 (0, 0))) := by rw [hV]; exact (at_new (by simp))
    go_enter Tryz.func29, Tryz.ntmps29
    go_upto_region 1 with fail
    rw [← hV]
    clear hV
    obtain ⟨c0_0, c0_1, c0_2, c0_3, c0_4, c0_5, c0_6, c0_7, c0_8, c0_9, -⟩ := ten_cells X0_V.out
    go_wp2_with fail
    refine (LF.out V B_V.out).mono ?_
    rintro e w1 ⟨rfl, hb⟩
    clear c0_0 c0_1 c0_2 c0_3 c0_4 c0_5 c0_6 c0_7 c0_8 c0_9
    have zw1 : V.heap.size ≤ w1.heap.size := hb.size
    have B_w1 := hideIt (below_trans B_V.out hb B_V.out.size)
    have X0_w1 := hideIt (box_below X0_V.out hb (lt_box X0_V.out))
    have X1_w1 := hideIt (box_below X1_V.out hb (lt_box X1_V.out))
    have X2_w1 := hideIt (box_below X2_V.out hb (lt_box X2_V.out))
    clear B_V hb X0_V X1_V X2_V
    clear LF
    obtain ⟨c0_0, c0_1, c0_2, c0_3, c0_4, c0_5, c0_6, c0_7, c0_8, c0_9, -⟩ := ten_cells X0_w1.out
    go_wp2_with fail
    refine (LDR.out w1 B_w1.out).mono ?_
    rintro e w2 ⟨v', mid, rfl, hr, hb⟩
    obtain ⟨vW, vP, vS, vQ, vH, vT, vN, ld, ud, lh, uh, lt, ut, ln, un, rfl, qD, qH, qT, qN, qf, e1, e2, e3, e4, e5, e6⟩ := hr
    obtain ⟨iW, jW, iP, jP, iS, jS, iQ, jQ, ei, -, -⟩ := qD.rd.form
    cases ei
    obtain ⟨-, iH, jH, rfl, -⟩ := qH.rd
    obtain ⟨-, iT, jT, rfl, -⟩ := id qT.1
    obtain ⟨-, iN, jN, rfl, -⟩ := qN.rd
    obtain ⟨q1, q2, q3, q4, q5, q6, q7, q8, q9, q10, q11, q12, q13, q14⟩ := qf
    clear LDR
    clear c0_0 c0_1 c0_2 c0_3 c0_4 c0_5 c0_6 c0_7 c0_8 c0_9
    have zw2 : w1.heap.size ≤ w2.heap.size := hb.size
    have B_w2 := hideIt (below_trans B_w1.out hb B_w1.out.size)
    have X0_w2 := hideIt (box_below X0_w1.out hb (lt_box X0_w1.out))
    have X1_w2 := hideIt (box_below X1_w1.out hb (lt_box X1_w1.out))
    have X2_w2 := hideIt (box_below X2_w1.out hb (lt_box X2_w1.out))
    clear B_w1 hb X0_w1 X1_w1 X2_w1
    have QD_w2 := hideIt qD
    have QH_w2 := hideIt qH
    have QT_w2 := hideIt qT
    have QN_w2 := hideIt qN
    clear qD qH qT qN
    obtain ⟨w3, hw3⟩ : ∃ w3, w3 = (w2.alloc (.cells #[.slice iW ws.length jW, .slice iP ps.length jP, .slice iS es.length jS, .slice iQ qs.length jQ, .slice iH hs.length jH, .slice iT td.length jT, .int .i64 cd, .int .i64 vl, .slice iN nm.length jN, .bool fr] 98)) := ⟨_, rfl⟩
    have hb : Below w2.heap.size w2 w3 := by rw [hw3]; exact ((Below.refl _ _).alloc (by simp <;> omega) _)
    obtain ⟨bX, hbX⟩ : ∃ bX : Nat, bX = w2.heap.size := ⟨_, rfl⟩
    have X3_w3 : Hid (w3.heap[bX]? = some (.cells #[.slice iW ws.length jW, .slice iP ps.length jP, .slice iS es.length jS, .slice iQ qs.length jQ, .slice iH hs.length jH, .slice iT td.length jT, .int .i64 cd, .int .i64 vl, .slice iN nm.length jN, .bool fr] 98 (0, 0))) := by rw [hw3, hbX]; exact (at_new rfl)
    have pbX : w2.heap.size + 0 ≤ bX ∧ bX ≤ w2.heap.size + 0 ∧ bX < w3.heap.size := ⟨Nat.le_of_eq hbX.symm, Nat.le_of_eq hbX, lt_box X3_w3.out⟩
    have zw3 : w2.heap.size ≤ w3.heap.size := hb.size
    have B_w3 := hideIt (below_trans B_w2.out hb B_w2.out.size)
    have X0_w3 := hideIt (box_below X0_w2.out hb (lt_box X0_w2.out))
    have X1_w3 := hideIt (box_below X1_w2.out hb (lt_box X1_w2.out))
    have X2_w3 := hideIt (box_below X2_w2.out hb (lt_box X2_w2.out))
    have QD_w3 := hideIt (QD_w2.out.below hb (by omega))
    have QH_w3 := hideIt (QH_w2.out.below hb (by omega))
    have QT_w3 := hideIt (QT_w2.out.below hb (by omega))
    have QN_w3 := hideIt (QN_w2.out.below hb (by omega))
    clear B_w2 hb X0_w2 X1_w2 X2_w2 QD_w2 QH_w2 QT_w2 QN_w2
    go_upto_region 4 with fail
    rw [← hw3]
    rw [← hbX]
    clear hw3 hbX
    go_wp2_with fail
    refine (hasTodo_any bX w3 X3_w3.out).mono ?_
    rintro e w' ⟨rfl, hw'⟩
    subst w'
    by_cases pos : 0 < td.length
    · rw [decide_eq_true pos]
      have eR : Hid (takR ws ps es qs hs td cd vl nm fr = ⟨⟨ws, ps, es, qs, hs, td, cd, vl, nm, fr⟩, 0, 0, [], 15⟩) := by unfold Hid; rw [eR0.out]; unfold takI; rw [if_pos pos]
      obtain ⟨c3_0, c3_1, c3_2, c3_3, c3_4, c3_5, c3_6, c3_7, c3_8, c3_9, -⟩ := ten_cells X3_w3.out
      obtain ⟨dr0, dr1, dr2, dr3, dr4, dr5, dr6, dr7, dr8, dr9, gr0, gr1, gr2, gr3, gr4, gr5, gr6, gr7, gr8, gr9⟩ := ten_cells X1_w3.out
      obtain ⟨ds0, ds1, ds2, gs0, gs1, gs2⟩ := tri3 X2_w3.out
      obtain ⟨w4, hw4⟩ : ∃ w4, w4 = ((((((((((w3.setCell ⟨w.heap.size + 1, 0, none⟩ (.slice iW ws.length jW)).setCell ⟨w.heap.size + 1, 1, none⟩ (.slice iP ps.length jP)).setCell ⟨w.heap.size + 1, 2, none⟩ (.slice iS es.length jS)).setCell ⟨w.heap.size + 1, 3, none⟩ (.slice iQ qs.length jQ)).setCell ⟨w.heap.size + 1, 4, none⟩ (.slice iH hs.length jH)).setCell ⟨w.heap.size + 1, 5, none⟩ (.slice iT td.length jT)).setCell ⟨w.heap.size + 1, 6, none⟩ (.int .i64 cd)).setCell ⟨w.heap.size + 1, 7, none⟩ (.int .i64 vl)).setCell ⟨w.heap.size + 1, 8, none⟩ (.slice iN nm.length jN)).setCell ⟨w.heap.size + 1, 9, none⟩ (.bool fr)) := ⟨_, rfl⟩
      have Ow4 : Outside (w.heap.size + 1) (w.heap.size + 1 + 1) w3 w4 := by
        rw [hw4]
        repeat (refine Outside.setCell ?_ (by simp only; omega) (by simp only; omega) _)
        exact Outside.refl _ _ _
      have zw4 : w3.heap.size ≤ w4.heap.size ∧ w4.heap.size ≤ w3.heap.size := by rw [hw4]; simp [World.setCell]
      have B_w4 := hideIt (B_w3.out.trans (Ow4.below (B := w.heap.size) (by omega) B_w3.out.size))
      have X0_w4 := hideIt ((Ow4.block (w.heap.size) (lt_box X0_w3.out) (by omega)).trans X0_w3.out)
      have X2_w4 := hideIt ((Ow4.block (w.heap.size + 1 + 1) (lt_box X2_w3.out) (by omega)).trans X2_w3.out)
      have X3_w4 := hideIt ((Ow4.block (bX) (lt_box X3_w3.out) (by omega)).trans X3_w3.out)
      have X1_w4 : Hid (w4.heap[w.heap.size + 1]? = some (.cells #[.slice iW ws.length jW, .slice iP ps.length jP, .slice iS es.length jS, .slice iQ qs.length jQ, .slice iH hs.length jH, .slice iT td.length jT, .int .i64 cd, .int .i64 vl, .slice iN nm.length jN, .bool fr] 50 (0, 0))) := by rw [hw4]; exact (ten_set9 (ten_set8 (ten_set7 (ten_set6 (ten_set5 (ten_set4 (ten_set3 (ten_set2 (ten_set1 (ten_set0 X1_w3.out _) _) _) _) _) _) _) _) _) _)
      have QD_w4 := hideIt (QD_w3.out.outside Ow4 (by omega) (by omega))
      have QH_w4 := hideIt (QH_w3.out.outside Ow4 (by omega) (by omega))
      have QT_w4 := hideIt (QT_w3.out.outside Ow4 (by omega))
      have QN_w4 := hideIt (QN_w3.out.outside Ow4 (by omega) (by omega))
      clear Ow4
      obtain ⟨w5, hw5⟩ : ∃ w5, w5 = (((w4.setCell ⟨w.heap.size + 1 + 1, 0, none⟩ (.int .i64 0)).setCell ⟨w.heap.size + 1 + 1, 1, none⟩ (.int .i64 0)).setCell ⟨w.heap.size + 1 + 1, 2, none⟩ (.slice none 0 0)) := ⟨_, rfl⟩
      have Ow5 : Outside (w.heap.size + 1 + 1) (w.heap.size + 1 + 1 + 1) w4 w5 := by
        rw [hw5]
        repeat (refine Outside.setCell ?_ (by simp only; omega) (by simp only; omega) _)
        exact Outside.refl _ _ _
      have zw5 : w4.heap.size ≤ w5.heap.size ∧ w5.heap.size ≤ w4.heap.size := by rw [hw5]; simp [World.setCell]
      have B_w5 := hideIt (B_w4.out.trans (Ow5.below (B := w.heap.size) (by omega) B_w4.out.size))
      have X0_w5 := hideIt ((Ow5.block (w.heap.size) (lt_box X0_w4.out) (by omega)).trans X0_w4.out)
      have X1_w5 := hideIt ((Ow5.block (w.heap.size + 1) (lt_box X1_w4.out) (by omega)).trans X1_w4.out)
      have X3_w5 := hideIt ((Ow5.block (bX) (lt_box X3_w4.out) (by omega)).trans X3_w4.out)
      have X2_w5 : Hid (w5.heap[w.heap.size + 1 + 1]? = some (.cells #[.int .i64 0, .int .i64 0, .slice none 0 0] 48 (0, 0))) := by rw [hw5]; exact (tr3_set2 (tr3_set1 (tr3_set0 X2_w4.out _) _) _)
      have QD_w5 := hideIt (QD_w4.out.outside Ow5 (by omega) (by omega))
      have QH_w5 := hideIt (QH_w4.out.outside Ow5 (by omega) (by omega))
      have QT_w5 := hideIt (QT_w4.out.outside Ow5 (by omega))
      have QN_w5 := hideIt (QN_w4.out.outside Ow5 (by omega) (by omega))
      clear Ow5
      go_wp2
      refine bodyPost_ret (v := .tuple #[.agg #[.slice iW ws.length jW, .slice iP ps.length jP, .slice iS es.length jS, .slice iQ qs.length jQ, .slice iH hs.length jH, .slice iT td.length jT, .int .i64 cd, .int .i64 vl, .slice iN nm.length jN, .bool fr], .agg #[.int .i64 0, .int .i64 0, .slice none 0 0], .int .i64 15]) (by simp [results, Tryz.results29, go_sem, dr0, dr1, dr2, dr3, dr4, dr5, dr6, dr7, dr8, dr9, ds0, ds1, ds2]) rfl ?_
      rw [← hw4, ← hw5, eR.out]
      refine ⟨_, _, w.heap.size, w5.heap.size, w5.heap.size, w5.heap.size, rfl, ⟨_, _, _, _, _, _, _, _, _, _, _, _, _, _, _, rfl, QD_w5.out, QH_w5.out, QT_w5.out, QN_w5.out, ?_⟩, Row.nil _ _ _ _ _, by omega, B_w5.out⟩
      exact ⟨by omega, by omega, by omega, by omega, by omega, by omega, by omega, by omega, by omega, by omega, by omega, by omega, by omega, by omega⟩
    rw [decide_eq_false pos]
    cases hfr : fr with
    | false =>
      subst hfr
      have eR : Hid (takR ws ps es qs hs td cd vl nm false = ⟨⟨ws, ps, es, qs, hs, td, cd, vl, nm, false⟩, 0, 0, [], 5⟩) := by unfold Hid; rw [eR0.out]; unfold takI; rw [if_neg pos]; rfl
      obtain ⟨c3_0, c3_1, c3_2, c3_3, c3_4, c3_5, c3_6, c3_7, c3_8, c3_9, -⟩ := ten_cells X3_w3.out
      obtain ⟨dr0, dr1, dr2, dr3, dr4, dr5, dr6, dr7, dr8, dr9, gr0, gr1, gr2, gr3, gr4, gr5, gr6, gr7, gr8, gr9⟩ := ten_cells X1_w3.out
      obtain ⟨ds0, ds1, ds2, gs0, gs1, gs2⟩ := tri3 X2_w3.out
      obtain ⟨w4, hw4⟩ : ∃ w4, w4 = ((((((((((w3.setCell ⟨w.heap.size + 1, 0, none⟩ (.slice iW ws.length jW)).setCell ⟨w.heap.size + 1, 1, none⟩ (.slice iP ps.length jP)).setCell ⟨w.heap.size + 1, 2, none⟩ (.slice iS es.length jS)).setCell ⟨w.heap.size + 1, 3, none⟩ (.slice iQ qs.length jQ)).setCell ⟨w.heap.size + 1, 4, none⟩ (.slice iH hs.length jH)).setCell ⟨w.heap.size + 1, 5, none⟩ (.slice iT td.length jT)).setCell ⟨w.heap.size + 1, 6, none⟩ (.int .i64 cd)).setCell ⟨w.heap.size + 1, 7, none⟩ (.int .i64 vl)).setCell ⟨w.heap.size + 1, 8, none⟩ (.slice iN nm.length jN)).setCell ⟨w.heap.size + 1, 9, none⟩ (.bool false)) := ⟨_, rfl⟩
      have Ow4 : Outside (w.heap.size + 1) (w.heap.size + 1 + 1) w3 w4 := by
        rw [hw4]
        repeat (refine Outside.setCell ?_ (by simp only; omega) (by simp only; omega) _)
        exact Outside.refl _ _ _
      have zw4 : w3.heap.size ≤ w4.heap.size ∧ w4.heap.size ≤ w3.heap.size := by rw [hw4]; simp [World.setCell]
      have B_w4 := hideIt (B_w3.out.trans (Ow4.below (B := w.heap.size) (by omega) B_w3.out.size))
      have X0_w4 := hideIt ((Ow4.block (w.heap.size) (lt_box X0_w3.out) (by omega)).trans X0_w3.out)
      have X2_w4 := hideIt ((Ow4.block (w.heap.size + 1 + 1) (lt_box X2_w3.out) (by omega)).trans X2_w3.out)
      have X3_w4 := hideIt ((Ow4.block (bX) (lt_box X3_w3.out) (by omega)).trans X3_w3.out)
      have X1_w4 : Hid (w4.heap[w.heap.size + 1]? = some (.cells #[.slice iW ws.length jW, .slice iP ps.length jP, .slice iS es.length jS, .slice iQ qs.length jQ, .slice iH hs.length jH, .slice iT td.length jT, .int .i64 cd, .int .i64 vl, .slice iN nm.length jN, .bool false] 50 (0, 0))) := by rw [hw4]; exact (ten_set9 (ten_set8 (ten_set7 (ten_set6 (ten_set5 (ten_set4 (ten_set3 (ten_set2 (ten_set1 (ten_set0 X1_w3.out _) _) _) _) _) _) _) _) _) _)
      have QD_w4 := hideIt (QD_w3.out.outside Ow4 (by omega) (by omega))
      have QH_w4 := hideIt (QH_w3.out.outside Ow4 (by omega) (by omega))
      have QT_w4 := hideIt (QT_w3.out.outside Ow4 (by omega))
      have QN_w4 := hideIt (QN_w3.out.outside Ow4 (by omega) (by omega))
      clear Ow4
      obtain ⟨w5, hw5⟩ : ∃ w5, w5 = (((w4.setCell ⟨w.heap.size + 1 + 1, 0, none⟩ (.int .i64 0)).setCell ⟨w.heap.size + 1 + 1, 1, none⟩ (.int .i64 0)).setCell ⟨w.heap.size + 1 + 1, 2, none⟩ (.slice none 0 0)) := ⟨_, rfl⟩
      have Ow5 : Outside (w.heap.size + 1 + 1) (w.heap.size + 1 + 1 + 1) w4 w5 := by
        rw [hw5]
        repeat (refine Outside.setCell ?_ (by simp only; omega) (by simp only; omega) _)
        exact Outside.refl _ _ _
      have zw5 : w4.heap.size ≤ w5.heap.size ∧ w5.heap.size ≤ w4.heap.size := by rw [hw5]; simp [World.setCell]
      have B_w5 := hideIt (B_w4.out.trans (Ow5.below (B := w.heap.size) (by omega) B_w4.out.size))
      have X0_w5 := hideIt ((Ow5.block (w.heap.size) (lt_box X0_w4.out) (by omega)).trans X0_w4.out)
      have X1_w5 := hideIt ((Ow5.block (w.heap.size + 1) (lt_box X1_w4.out) (by omega)).trans X1_w4.out)
      have X3_w5 := hideIt ((Ow5.block (bX) (lt_box X3_w4.out) (by omega)).trans X3_w4.out)
      have X2_w5 : Hid (w5.heap[w.heap.size + 1 + 1]? = some (.cells #[.int .i64 0, .int .i64 0, .slice none 0 0] 48 (0, 0))) := by rw [hw5]; exact (tr3_set2 (tr3_set1 (tr3_set0 X2_w4.out _) _) _)
      have QD_w5 := hideIt (QD_w4.out.outside Ow5 (by omega) (by omega))
      have QH_w5 := hideIt (QH_w4.out.outside Ow5 (by omega) (by omega))
      have QT_w5 := hideIt (QT_w4.out.outside Ow5 (by omega))
      have QN_w5 := hideIt (QN_w4.out.outside Ow5 (by omega) (by omega))
      clear Ow5
      go_wp2
      refine bodyPost_ret (v := .tuple #[.agg #[.slice iW ws.length jW, .slice iP ps.length jP, .slice iS es.length jS, .slice iQ qs.length jQ, .slice iH hs.length jH, .slice iT td.length jT, .int .i64 cd, .int .i64 vl, .slice iN nm.length jN, .bool false], .agg #[.int .i64 0, .int .i64 0, .slice none 0 0], .int .i64 5]) (by simp [results, Tryz.results29, go_sem, dr0, dr1, dr2, dr3, dr4, dr5, dr6, dr7, dr8, dr9, ds0, ds1, ds2]) rfl ?_
      rw [← hw4, ← hw5, eR.out]
      refine ⟨_, _, w.heap.size, w5.heap.size, w5.heap.size, w5.heap.size, rfl, ⟨_, _, _, _, _, _, _, _, _, _, _, _, _, _, _, rfl, QD_w5.out, QH_w5.out, QT_w5.out, QN_w5.out, ?_⟩, Row.nil _ _ _ _ _, by omega, B_w5.out⟩
      exact ⟨by omega, by omega, by omega, by omega, by omega, by omega, by omega, by omega, by omega, by omega, by omega, by omega, by omega, by omega⟩
    | true =>
      subst hfr
      have eR : Hid (takR ws ps es qs hs td cd vl nm true = ⟨⟨ws, ps, es, qs, hs, td, 0, 0, [], false⟩, cd, vl, nm, 0⟩) := by unfold Hid; rw [eR0.out]; unfold takI; rw [if_neg pos]; rfl
      obtain ⟨-, -, -, -, -, -, -, -, -, c3_9, -⟩ := ten_cells X3_w3.out
      go_wp2_with fail
      refine (takeAnswer_any bX w3 X3_w3.out).mono ?_
      rintro e w4 ⟨rfl, hbx, ho⟩
      clear c3_9
      have zw4 : w3.heap.size ≤ w4.heap.size := ho.size
      have B_w4 := hideIt (B_w3.out.trans (ho.below (B := w.heap.size) (by omega) B_w3.out.size))
      have X0_w4 := hideIt ((ho.block (w.heap.size) (lt_box X0_w3.out) (by omega)).trans X0_w3.out)
      have X1_w4 := hideIt ((ho.block (w.heap.size + 1) (lt_box X1_w3.out) (by omega)).trans X1_w3.out)
      have X2_w4 := hideIt ((ho.block (w.heap.size + 1 + 1) (lt_box X2_w3.out) (by omega)).trans X2_w3.out)
      have X3_w4 := hideIt hbx
      have QD_w4 := hideIt (QD_w3.out.outside ho (by omega) (by omega))
      have QH_w4 := hideIt (QH_w3.out.outside ho (by omega) (by omega))
      have QN_w4 := hideIt (QN_w3.out.outside ho (by omega) (by omega))
      have QT_w4 := hideIt (QT_w3.out.outside ho (by omega))
      clear ho hbx B_w3 X0_w3 X1_w3 X2_w3 X3_w3 QD_w3 QH_w3 QT_w3 QN_w3
      obtain ⟨w5, hw5⟩ : ∃ w5, w5 = (w4.alloc (.cells #[.int .i64 cd, .int .i64 vl, .slice iN nm.length jN] 48)) := ⟨_, rfl⟩
      have hb : Below w4.heap.size w4 w5 := by rw [hw5]; exact ((Below.refl _ _).alloc (by simp <;> omega) _)
      obtain ⟨bA, hbA⟩ : ∃ bA : Nat, bA = w4.heap.size := ⟨_, rfl⟩
      have X4_w5 : Hid (w5.heap[bA]? = some (.cells #[.int .i64 cd, .int .i64 vl, .slice iN nm.length jN] 48 (0, 0))) := by rw [hw5, hbA]; exact (at_new rfl)
      have pbA : w4.heap.size + 0 ≤ bA ∧ bA ≤ w4.heap.size + 0 ∧ bA < w5.heap.size := ⟨Nat.le_of_eq hbA.symm, Nat.le_of_eq hbA, lt_box X4_w5.out⟩
      have zw5 : w4.heap.size ≤ w5.heap.size := hb.size
      have B_w5 := hideIt (below_trans B_w4.out hb B_w4.out.size)
      have X0_w5 := hideIt (box_below X0_w4.out hb (lt_box X0_w4.out))
      have X1_w5 := hideIt (box_below X1_w4.out hb (lt_box X1_w4.out))
      have X2_w5 := hideIt (box_below X2_w4.out hb (lt_box X2_w4.out))
      have X3_w5 := hideIt (box_below X3_w4.out hb (lt_box X3_w4.out))
      have QD_w5 := hideIt (QD_w4.out.below hb (by omega))
      have QH_w5 := hideIt (QH_w4.out.below hb (by omega))
      have QT_w5 := hideIt (QT_w4.out.below hb (by omega))
      have QN_w5 := hideIt (QN_w4.out.below hb (by omega))
      clear B_w4 hb X0_w4 X1_w4 X2_w4 X3_w4 QD_w4 QH_w4 QT_w4 QN_w4
      go_upto_region 9 with fail
      rw [← hw5]
      rw [← hbA]
      clear hw5 hbA
      obtain ⟨c3_0, c3_1, c3_2, c3_3, c3_4, c3_5, c3_6, c3_7, c3_8, c3_9, -⟩ := ten_cells X3_w5.out
      obtain ⟨c4_0, c4_1, c4_2, -⟩ := tri3 X4_w5.out
      obtain ⟨dr0, dr1, dr2, dr3, dr4, dr5, dr6, dr7, dr8, dr9, gr0, gr1, gr2, gr3, gr4, gr5, gr6, gr7, gr8, gr9⟩ := ten_cells X1_w5.out
      obtain ⟨ds0, ds1, ds2, gs0, gs1, gs2⟩ := tri3 X2_w5.out
      have na : ¬ bA = bX := by omega
      have nb : ¬ bX = bA := by omega
      obtain ⟨w6, hw6⟩ : ∃ w6, w6 = ((((((((((w5.setCell ⟨w.heap.size + 1, 0, none⟩ (.slice iW ws.length jW)).setCell ⟨w.heap.size + 1, 1, none⟩ (.slice iP ps.length jP)).setCell ⟨w.heap.size + 1, 2, none⟩ (.slice iS es.length jS)).setCell ⟨w.heap.size + 1, 3, none⟩ (.slice iQ qs.length jQ)).setCell ⟨w.heap.size + 1, 4, none⟩ (.slice iH hs.length jH)).setCell ⟨w.heap.size + 1, 5, none⟩ (.slice iT td.length jT)).setCell ⟨w.heap.size + 1, 6, none⟩ (.int .i64 0)).setCell ⟨w.heap.size + 1, 7, none⟩ (.int .i64 0)).setCell ⟨w.heap.size + 1, 8, none⟩ (.slice none 0 0)).setCell ⟨w.heap.size + 1, 9, none⟩ (.bool false)) := ⟨_, rfl⟩
      have Ow6 : Outside (w.heap.size + 1) (w.heap.size + 1 + 1) w5 w6 := by
        rw [hw6]
        repeat (refine Outside.setCell ?_ (by simp only; omega) (by simp only; omega) _)
        exact Outside.refl _ _ _
      have zw6 : w5.heap.size ≤ w6.heap.size ∧ w6.heap.size ≤ w5.heap.size := by rw [hw6]; simp [World.setCell]
      have B_w6 := hideIt (B_w5.out.trans (Ow6.below (B := w.heap.size) (by omega) B_w5.out.size))
      have X0_w6 := hideIt ((Ow6.block (w.heap.size) (lt_box X0_w5.out) (by omega)).trans X0_w5.out)
      have X2_w6 := hideIt ((Ow6.block (w.heap.size + 1 + 1) (lt_box X2_w5.out) (by omega)).trans X2_w5.out)
      have X3_w6 := hideIt ((Ow6.block (bX) (lt_box X3_w5.out) (by omega)).trans X3_w5.out)
      have X4_w6 := hideIt ((Ow6.block (bA) (lt_box X4_w5.out) (by omega)).trans X4_w5.out)
      have X1_w6 : Hid (w6.heap[w.heap.size + 1]? = some (.cells #[.slice iW ws.length jW, .slice iP ps.length jP, .slice iS es.length jS, .slice iQ qs.length jQ, .slice iH hs.length jH, .slice iT td.length jT, .int .i64 0, .int .i64 0, .slice none 0 0, .bool false] 50 (0, 0))) := by rw [hw6]; exact (ten_set9 (ten_set8 (ten_set7 (ten_set6 (ten_set5 (ten_set4 (ten_set3 (ten_set2 (ten_set1 (ten_set0 X1_w5.out _) _) _) _) _) _) _) _) _) _)
      have QD_w6 := hideIt (QD_w5.out.outside Ow6 (by omega) (by omega))
      have QH_w6 := hideIt (QH_w5.out.outside Ow6 (by omega) (by omega))
      have QT_w6 := hideIt (QT_w5.out.outside Ow6 (by omega))
      have QN_w6 := hideIt (QN_w5.out.outside Ow6 (by omega) (by omega))
      clear Ow6
      obtain ⟨w7, hw7⟩ : ∃ w7, w7 = (((w6.setCell ⟨w.heap.size + 1 + 1, 0, none⟩ (.int .i64 cd)).setCell ⟨w.heap.size + 1 + 1, 1, none⟩ (.int .i64 vl)).setCell ⟨w.heap.size + 1 + 1, 2, none⟩ (.slice iN nm.length jN)) := ⟨_, rfl⟩
      have Ow7 : Outside (w.heap.size + 1 + 1) (w.heap.size + 1 + 1 + 1) w6 w7 := by
        rw [hw7]
        repeat (refine Outside.setCell ?_ (by simp only; omega) (by simp only; omega) _)
        exact Outside.refl _ _ _
      have zw7 : w6.heap.size ≤ w7.heap.size ∧ w7.heap.size ≤ w6.heap.size := by rw [hw7]; simp [World.setCell]
      have B_w7 := hideIt (B_w6.out.trans (Ow7.below (B := w.heap.size) (by omega) B_w6.out.size))
      have X0_w7 := hideIt ((Ow7.block (w.heap.size) (lt_box X0_w6.out) (by omega)).trans X0_w6.out)
      have X1_w7 := hideIt ((Ow7.block (w.heap.size + 1) (lt_box X1_w6.out) (by omega)).trans X1_w6.out)
      have X3_w7 := hideIt ((Ow7.block (bX) (lt_box X3_w6.out) (by omega)).trans X3_w6.out)
      have X4_w7 := hideIt ((Ow7.block (bA) (lt_box X4_w6.out) (by omega)).trans X4_w6.out)
      have X2_w7 : Hid (w7.heap[w.heap.size + 1 + 1]? = some (.cells #[.int .i64 cd, .int .i64 vl, .slice iN nm.length jN] 48 (0, 0))) := by rw [hw7]; exact (tr3_set2 (tr3_set1 (tr3_set0 X2_w6.out _) _) _)
      have QD_w7 := hideIt (QD_w6.out.outside Ow7 (by omega) (by omega))
      have QH_w7 := hideIt (QH_w6.out.outside Ow7 (by omega) (by omega))
      have QT_w7 := hideIt (QT_w6.out.outside Ow7 (by omega))
      have QN_w7 := hideIt (QN_w6.out.outside Ow7 (by omega) (by omega))
      clear Ow7
      go_wp2_with fail
      go_region
      all_goals
        go_wp2_with fail
        rw [← hw6, ← hw7]
        refine bodyPost_ret (v := .tuple #[.agg #[.slice iW ws.length jW, .slice iP ps.length jP, .slice iS es.length jS, .slice iQ qs.length jQ, .slice iH hs.length jH, .slice iT td.length jT, .int .i64 0, .int .i64 0, .slice none 0 0, .bool false], .agg #[.int .i64 cd, .int .i64 vl, .slice iN nm.length jN], .int .i64 0]) (by simp [results, Tryz.results29, go_sem, hw7, hw6, dr0, dr1, dr2, dr3, dr4, dr5, dr6, dr7, dr8, dr9, ds0, ds1, ds2]) rfl ?_
        rw [eR.out]
        refine ⟨_, _, w.heap.size, mid, mid, w7.heap.size, rfl, ⟨_, _, _, _, _, _, _, ld, ud, lh, uh, lt, ut, w.heap.size, w.heap.size, rfl, QD_w7.out.below (Below.refl _ _).drew (by omega), QH_w7.out.below (Below.refl _ _).drew (by omega), QT_w7.out.below (Below.refl _ _).drew (by omega), Row.nil _ _ _ w.heap.size w.heap.size, ?_⟩, (QN_w7.out.below (Below.refl _ _).drew (by omega)).wide (by omega) (by omega), (show w.heap.size ≤ w.heap.size ∧ w.heap.size ≤ mid ∧ mid ≤ mid ∧ mid ≤ w7.heap.size ∧ w7.heap.size ≤ w7.heap.size by omega), B_w7.out.drew⟩
        exact ⟨by omega, by omega, by omega, by omega, by omega, by omega, by omega, by omega, by omega, by omega, by omega, by omega, by omega, by omega⟩
  · have y' : fsB ws ps es qs hs td cd vl nm fr = false := by simpa using y
    simp only [y'] at LF
    clear y' LDR hS hT hE hF
    obtain ⟨V, hV⟩ : ∃ V, V = (((w.alloc (.cells #[.slice aW ws.length cW, .slice aP ps.length cP, .slice aS es.length cS, .slice aQ qs.length cQ, .slice aH hs.length cH, .slice aT td.length cT, .int .i64 cd, .int .i64 vl, .slice aN nm.length cN, .bool fr] 50)).alloc (.cells #[.slice none 0 0, .slice none 0 0, .slice none 0 0, .slice none 0 0, .slice none 0 0, .slice none 0 0, .int .i64 0, .int .i64 0, .slice none 0 0, .bool false] 50)).alloc (.cells #[.int .i64 0, .int .i64 0, .slice none 0 0] 48)) := ⟨_, rfl⟩
    have zV : w.heap.size + 3 ≤ V.heap.size := by rw [hV]; simp <;> omega
    have B_V : Hid (Below w.heap.size w V) := by rw [hV]; exact ((((Below.refl _ _).alloc (by simp <;> omega) _).alloc (by simp <;> omega) _).alloc (by simp <;> omega) _)
    have X0_V : Hid (V.heap[w.heap.size]? = some (.cells #[.slice aW ws.length cW, .slice aP ps.length cP, .slice aS es.length cS, .slice aQ qs.length cQ, .slice aH hs.length cH, .slice aT td.length cT, .int .i64 cd, .int .i64 vl, .slice aN nm.length cN, .bool fr] 50 (0, 0))) := by rw [hV]; exact (at_old (at_old (at_new rfl)))
    have X1_V : Hid (V.heap[w.heap.size + 1]? = some (.cells #[.slice none 0 0, .slice none 0 0, .slice none 0 0, .slice none 0 0, .slice none 0 0, .slice none 0 0, .int .i64 0, .int .i64 0, .slice none 0 0, .bool false] 50 (0, 0))) := by rw [hV]; exact (at_old (at_new (by simp)))
    have X2_V : Hid (V.heap[w.heap.size + 1 + 1]? = some (.cells #[.int .i64 0, .int .i64 0, .slice none 0 0] 48 (0, 0))) := by rw [hV]; exact (at_new (by simp))
    go_enter Tryz.func29, Tryz.ntmps29
    go_upto_region 1 with fail
    rw [← hV]
    clear hV
    obtain ⟨c0_0, c0_1, c0_2, c0_3, c0_4, c0_5, c0_6, c0_7, c0_8, c0_9, -⟩ := ten_cells X0_V.out
    go_wp2_with fail
    refine (LF.out V B_V.out).mono ?_
    rintro e w1 ⟨rfl, hb⟩
    clear c0_0 c0_1 c0_2 c0_3 c0_4 c0_5 c0_6 c0_7 c0_8 c0_9
    have zw1 : V.heap.size ≤ w1.heap.size := hb.size
    have B_w1 := hideIt (below_trans B_V.out hb B_V.out.size)
    have X0_w1 := hideIt (box_below X0_V.out hb (lt_box X0_V.out))
    have X1_w1 := hideIt (box_below X1_V.out hb (lt_box X1_V.out))
    have X2_w1 := hideIt (box_below X2_V.out hb (lt_box X2_V.out))
    clear B_V hb X0_V X1_V X2_V
    clear LF
    obtain ⟨dr0, dr1, dr2, dr3, dr4, dr5, dr6, dr7, dr8, dr9, gr0, gr1, gr2, gr3, gr4, gr5, gr6, gr7, gr8, gr9⟩ := ten_cells X1_w1.out
    obtain ⟨ds0, ds1, ds2, gs0, gs1, gs2⟩ := tri3 X2_w1.out
    obtain ⟨w2, hw2⟩ : ∃ w2, w2 = ((((((((((w1.setCell ⟨w.heap.size + 1, 0, none⟩ (.slice none 0 0)).setCell ⟨w.heap.size + 1, 1, none⟩ (.slice none 0 0)).setCell ⟨w.heap.size + 1, 2, none⟩ (.slice none 0 0)).setCell ⟨w.heap.size + 1, 3, none⟩ (.slice none 0 0)).setCell ⟨w.heap.size + 1, 4, none⟩ (.slice none 0 0)).setCell ⟨w.heap.size + 1, 5, none⟩ (.slice none 0 0)).setCell ⟨w.heap.size + 1, 6, none⟩ (.int .i64 0)).setCell ⟨w.heap.size + 1, 7, none⟩ (.int .i64 0)).setCell ⟨w.heap.size + 1, 8, none⟩ (.slice none 0 0)).setCell ⟨w.heap.size + 1, 9, none⟩ (.bool false)) := ⟨_, rfl⟩
    have Ow2 : Outside (w.heap.size + 1) (w.heap.size + 1 + 1) w1 w2 := by
      rw [hw2]
      repeat (refine Outside.setCell ?_ (by simp only; omega) (by simp only; omega) _)
      exact Outside.refl _ _ _
    have zw2 : w1.heap.size ≤ w2.heap.size ∧ w2.heap.size ≤ w1.heap.size := by rw [hw2]; simp [World.setCell]
    have B_w2 := hideIt (B_w1.out.trans (Ow2.below (B := w.heap.size) (by omega) B_w1.out.size))
    have X0_w2 := hideIt ((Ow2.block (w.heap.size) (lt_box X0_w1.out) (by omega)).trans X0_w1.out)
    have X2_w2 := hideIt ((Ow2.block (w.heap.size + 1 + 1) (lt_box X2_w1.out) (by omega)).trans X2_w1.out)
    have X1_w2 : Hid (w2.heap[w.heap.size + 1]? = some (.cells #[.slice none 0 0, .slice none 0 0, .slice none 0 0, .slice none 0 0, .slice none 0 0, .slice none 0 0, .int .i64 0, .int .i64 0, .slice none 0 0, .bool false] 50 (0, 0))) := by rw [hw2]; exact (ten_set9 (ten_set8 (ten_set7 (ten_set6 (ten_set5 (ten_set4 (ten_set3 (ten_set2 (ten_set1 (ten_set0 X1_w1.out _) _) _) _) _) _) _) _) _) _)
    clear Ow2
    obtain ⟨w3, hw3⟩ : ∃ w3, w3 = (((w2.setCell ⟨w.heap.size + 1 + 1, 0, none⟩ (.int .i64 0)).setCell ⟨w.heap.size + 1 + 1, 1, none⟩ (.int .i64 0)).setCell ⟨w.heap.size + 1 + 1, 2, none⟩ (.slice none 0 0)) := ⟨_, rfl⟩
    have Ow3 : Outside (w.heap.size + 1 + 1) (w.heap.size + 1 + 1 + 1) w2 w3 := by
      rw [hw3]
      repeat (refine Outside.setCell ?_ (by simp only; omega) (by simp only; omega) _)
      exact Outside.refl _ _ _
    have zw3 : w2.heap.size ≤ w3.heap.size ∧ w3.heap.size ≤ w2.heap.size := by rw [hw3]; simp [World.setCell]
    have B_w3 := hideIt (B_w2.out.trans (Ow3.below (B := w.heap.size) (by omega) B_w2.out.size))
    have X0_w3 := hideIt ((Ow3.block (w.heap.size) (lt_box X0_w2.out) (by omega)).trans X0_w2.out)
    have X1_w3 := hideIt ((Ow3.block (w.heap.size + 1) (lt_box X1_w2.out) (by omega)).trans X1_w2.out)
    have X2_w3 : Hid (w3.heap[w.heap.size + 1 + 1]? = some (.cells #[.int .i64 0, .int .i64 0, .slice none 0 0] 48 (0, 0))) := by rw [hw3]; exact (tr3_set2 (tr3_set1 (tr3_set0 X2_w2.out _) _) _)
    clear Ow3
    go_wp2
    refine bodyPost_ret (v := .tuple #[.agg #[.slice none 0 0, .slice none 0 0, .slice none 0 0, .slice none 0 0, .slice none 0 0, .slice none 0 0, .int .i64 0, .int .i64 0, .slice none 0 0, .bool false], .agg #[.int .i64 0, .int .i64 0, .slice none 0 0], .int .i64 1]) (by simp [results, Tryz.results29, go_sem, dr0, dr1, dr2, dr3, dr4, dr5, dr6, dr7, dr8, dr9, ds0, ds1, ds2]) rfl ?_
    rw [← hw2, ← hw3]
    rw [show takR ws ps es qs hs td cd vl nm fr = ⟨zz, 0, 0, [], 1⟩ from if_neg y]
    exact ⟨_, _, w.heap.size, w.heap.size, w.heap.size, w.heap.size, rfl, RowF.zero _ _, Row.nil _ _ _ _ _, by omega, B_w3.out⟩
end Go.Proofs.YtipklbnfobckaaaGreatDoor

