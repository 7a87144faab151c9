/- The plan to remove: by the model. -/
import Derived.Test.YtbbmljakfbhnpaaGreatDoorZBA
import Derived.Deep.RegionHeld3
namespace Go.Proofs.YtbbmljakfbhnpaaGreatDoor
open Go.RowKit

theorem UpI.wide {w w3 w1 : World} {v : Value} {L : List Se} (h : UpI w3 w1 v L) (B : Below w.heap.size w w3) : UpI w w1 v L := ⟨((zac h.l).wide B.size (Nat.le_refl _)).1, zab B h.b B.size⟩
theorem namesD_pos {ps : List Den} {d : Int} (h : ¬ zbo ps d = []) : 0 < (sorted (zbo ps d)).length := by
 rw [zpi]
 exact List.length_pos_iff.2 h
theorem namesD_nil {ps : List Den} {d : Int} (h : zbo ps d = []) : (sorted (zbo ps d)).length = 0 := by
 rw [zpi, h]
 rfl

set_option maxRecDepth 100000 in
set_option maxHeartbeats 16000000 in
theorem zqt (v : Value) (ws : List Ino) (ps : List Den) (s : ByteArray) (w : World) (h : RdIm w v ws ps) (hi : zfm ws ps = true) (hs : s.size ≤ 65536) :
  Calls Tryz.prog 219 #[v, .string s] w fun e w' => zrd w w' e (rmI ws ps s) := by
 have LP := zaa (fun w1 (hb : Below w.heap.size w w1) => zdh v ws ps s w1 (h.below hb) hi hs)
 have LE := zaa (fun d nm w1 (hb : Below w.heap.size w w1) => zdx v ws ps d nm w1 (h.below hb) (by have := (zax hi).2.1; omega))
 have LN := zaa (fun d w1 (hb : Below w.heap.size w w1) => zkq v ws ps d w1 (h.below hb) (by have := (zax hi).2.1; omega))
 have EL := zaa (show rmI ws ps s = if (paI ws ps s).2.2 = 0 then rmN ws ps (paI ws ps s).1 (paI ws ps s).2.1 else ([], (paI ws ps s).2.2) from rfl)
 have EN := zaa (fun d nm => show rmN ws ps d nm = match zbz ps d nm with | none => ([], 5) | some k => rmC ws ps k from rfl)
 have EC := zaa (fun k => show rmC ws ps k = if zak ws (zat ps k) = 2 ∧ ¬ zbo ps (zat ps k) = [] then ([], 11) else (rmU (k : Int) (zat ps k) (zed ws (zat ps k)), 0) from rfl)
 have CR := zaa (fun d nm k e => zfu hi (d := d) (nm := nm) (k := k) e)
 have LR := zaa (fun i h0 => zow hi (i := i) h0)
 obtain ⟨l16, l24, _⟩ := zax hi
 have L16 := zaa l16
 have L24 := zaa l24
 obtain ⟨vW, vP, rfl, h1, h2⟩ := h
 obtain ⟨aW, cW, rfl, _, hcW⟩ := h1.shape
 obtain ⟨aP, cP, rfl, _, hcP⟩ := h2.shape
 obtain ⟨bW, oW, rfl, hblW, hcellW⟩ := hcW (by omega)
 obtain ⟨bP, oP, rfl, hblP, hcellP⟩ := hcP (by omega)
 have HW := zaa hcellW
 have HP := zaa hcellP
 clear h1 h2 hi hs hcW hcP hcellW hcellP l16 l24
 have CA : Hid (∀ w', Below (w.alloc (.cells #[.slice (some ⟨bW, oW, none⟩) ws.length cW, .slice (some ⟨bP, oP, none⟩) ps.length cP] 26)).heap.size (w.alloc (.cells #[.slice (some ⟨bW, oW, none⟩) ws.length cW, .slice (some ⟨bP, oP, none⟩) ps.length cP] 26)) w' → w'.cell? ⟨w.heap.size, 0, none⟩ = some (.slice (some ⟨bW, oW, none⟩) ws.length cW) ∧ w'.cell? ⟨w.heap.size, 1, none⟩ = some (.slice (some ⟨bP, oP, none⟩) ps.length cP)) := fun w' hb => by
  have : w'.heap[w.heap.size]? = some (.cells #[.slice (some ⟨bW, oW, none⟩) ws.length cW, .slice (some ⟨bP, oP, none⟩) ps.length cP] 26 (0, 0)) := (hb.block _ (by simp)).trans (zag rfl)
  exact ⟨(zad this).1, (zad this).2.1⟩
 have BW : Hid (Below w.heap.size w (w.alloc (.cells #[.slice (some ⟨bW, oW, none⟩) ws.length cW, .slice (some ⟨bP, oP, none⟩) ps.length cP] 26))) := (Below.refl _ _).alloc (Nat.le_refl _) _
 obtain ⟨x0, x1⟩ := CA.out _ (Below.refl _ _)
 obtain ⟨W, hW⟩ : ∃ W, W = w.alloc (.cells #[.slice (some ⟨bW, oW, none⟩) ws.length cW, .slice (some ⟨bP, oP, none⟩) ps.length cP] 26) := ⟨_, rfl⟩
 rw [← hW] at CA BW
 have hz : w.heap.size < W.heap.size := by rw [hW]; simp
 generalize rmI ws ps s = res at *
 generalize paI ws ps s = pr at *
 obtain ⟨pd, pn, pc⟩ := pr
 simp only at EL LP
 go_enter Tryz.func219, Tryz.ntmps219
 go_wp2_with fail
 rw [← hW]
 clear hW x0 x1
 refine (LP.out _ BW.out).mono ?_
 rintro e w1 ⟨rfl, hb1⟩
 have A1 := zaa hb1
 have B1 := zaa (zab BW.out hb1 BW.out.size)
 obtain ⟨x0, x1⟩ := CA.out _ hb1
 clear hb1 LP
 by_cases c : pc = 0
 case neg =>
  rw [if_neg c] at EL
  obtain rfl := EL.out
  have q : (pc != 0) = true := by rw [bne_iff_ne]; exact c
  clear EL c x0 x1
  go_wp2
  go_ret2
  exact zcl B1.out
 rw [if_pos c] at EL
 subst c
 rw [EN.out] at EL
 have LE2 := zaa (fun w1 hb => LE.out pd pn w1 hb)
 clear EN LE
 cases he : zbz ps pd pn with
 | none =>
  rw [he] at EL
  obtain rfl := EL.out
  have e1 := (zmp (ps := ps) (d := pd) (nm := pn)).1 he
  generalize zka ps pd pn = ei at *
  clear EL he
  go_wp2_with fail
  refine (LE2.out _ B1.out).mono ?_
  rintro e w2 ⟨rfl, hb2⟩
  have B2 := zaa (zab B1.out hb2 B1.out.size)
  clear hb2 x0 x1
  have e2 : ei < 0 := by omega
  clear e1
  go_wp2
  go_ret2
  exact zcl B2.out
 | some k =>
 rw [he] at EL
 have EL2 : Hid (res = rmC ws ps k) := EL.out
 rw [EC.out] at EL2
 rw [zsh he] at LE2
 obtain ⟨k1, k2⟩ := CR.out _ _ _ he
 have lr := LR.out _ k2
 have HPk := zaa (fun w' (hb : Below w.heap.size w w') => ((hb.cell (p := ⟨bP, oP + k * 3 + 2, none⟩) hblP).trans (HP.out k k1).2.2).trans (by rw [← zdt k1]))
 have LNk := zaa (fun w1 hb => LN.out (zat ps k) w1 hb)
 have KN := zaa (@namesD_pos ps (zat ps k))
 have KM := zaa (@namesD_nil ps (zat ps k))
 obtain ⟨i, hi'⟩ : ∃ i : Nat, zat ps k = (i : Int) := ⟨(zat ps k).toNat, by omega⟩
 rw [hi'] at EL2 lr HPk LNk KN KM
 have i1 : i < ws.length := by have := L16.out; omega
 have CI := zaa (HW.out i i1)
 rw [← zcm i1, ← zjd i1] at CI
 have k24 : k < 24 := by have := L24.out; omega
 have i16 : i < 16 := by omega
 have kl : (k : Int) < (ps.length : Int) := by omega
 have il : (i : Int) < (ws.length : Int) := by omega
 have k0 : (0 : Int) ≤ (k : Int) := by omega
 have i0 : (0 : Int) ≤ (i : Int) := by omega
 clear EL EC CR LR he HP HW LN hi' k2 hblP L16 L24
 generalize ws[i] = xi at *
 generalize zak ws (i : Int) = kd at *
 generalize zed ws (i : Int) = lk at *
 generalize zbo ps (i : Int) = nms at *
 go_wp2_with fail
 refine (LE2.out _ B1.out).mono ?_
 rintro e w2 ⟨rfl, hb2⟩
 have A2 := zaa (zab A1.out hb2 A1.out.size)
 have B2 := zaa (zab B1.out hb2 B1.out.size)
 have z2 : W.heap.size ≤ w2.heap.size := A2.out.size
 clear x0 x1 hb2 A1 B1 LE2
 obtain ⟨x0, x1⟩ := CA.out _ A2.out
 have y0 := HPk.out _ B2.out
 obtain ⟨c0, c1, c2, c3, c4, c5, c6, c7, c8, c9, c10⟩ := CI.out
 have d0 := (B2.out.cell (p := ⟨bW, oW + i * 11, none⟩) hblW).trans c0
 have d1 := (B2.out.cell (p := ⟨bW, oW + i * 11 + 1, none⟩) hblW).trans c1
 have d2 := (B2.out.cell (p := ⟨bW, oW + i * 11 + 2, none⟩) hblW).trans c2
 have d3 := (B2.out.cell (p := ⟨bW, oW + i * 11 + 3, none⟩) hblW).trans c3
 have d4 := (B2.out.cell (p := ⟨bW, oW + i * 11 + 4, none⟩) hblW).trans c4
 have d5 := (B2.out.cell (p := ⟨bW, oW + i * 11 + 5, none⟩) hblW).trans c5
 have d6 := (B2.out.cell (p := ⟨bW, oW + i * 11 + 6, none⟩) hblW).trans c6
 have d7 := (B2.out.cell (p := ⟨bW, oW + i * 11 + 7, none⟩) hblW).trans c7
 have d8 := (B2.out.cell (p := ⟨bW, oW + i * 11 + 8, none⟩) hblW).trans c8
 have d9 := (B2.out.cell (p := ⟨bW, oW + i * 11 + 9, none⟩) hblW).trans c9
 have d10 := (B2.out.cell (p := ⟨bW, oW + i * 11 + 10, none⟩) hblW).trans c10
 clear c0 c1 c2 c3 c4 c5 c6 c7 c8 c9 c10 CI
 have AX := zaa (A2.out.alloc A2.out.size (.cells #[.int .i64 kd, .int .i64 xi.size, .int .i64 lk, .int .i64 xi.m0, .int .i64 xi.m1, .int .i64 xi.m2, .int .i64 xi.m3, .int .i64 xi.m4, .int .i64 xi.m5, .int .i64 xi.m6, .int .i64 xi.m7] 44))
 have BX := zaa (B2.out.alloc B2.out.size (.cells #[.int .i64 kd, .int .i64 xi.size, .int .i64 lk, .int .i64 xi.m0, .int .i64 xi.m1, .int .i64 xi.m2, .int .i64 xi.m3, .int .i64 xi.m4, .int .i64 xi.m5, .int .i64 xi.m6, .int .i64 xi.m7] 44))
 have VX : Hid ((w2.alloc (.cells #[.int .i64 kd, .int .i64 xi.size, .int .i64 lk, .int .i64 xi.m0, .int .i64 xi.m1, .int .i64 xi.m2, .int .i64 xi.m3, .int .i64 xi.m4, .int .i64 xi.m5, .int .i64 xi.m6, .int .i64 xi.m7] 44)).heap[w2.heap.size]? = some (.cells #[.int .i64 kd, .int .i64 xi.size, .int .i64 lk, .int .i64 xi.m0, .int .i64 xi.m1, .int .i64 xi.m2, .int .i64 xi.m3, .int .i64 xi.m4, .int .i64 xi.m5, .int .i64 xi.m6, .int .i64 xi.m7] 44 (0, 0))) := zag rfl
 have EU := zaa (show rmU (k : Int) (i : Int) lk = enL (k : Int) freeD ++ (if 1 < lk then [⟨48 + 12 * (i : Int) + 2, lk - 1⟩] else wrL (i : Int) zgq 8) from rfl)
 generalize rmU (k : Int) (i : Int) lk = ru at *
 have LA := zaa (fun w1 => zdy (k : Int) freeD w1 (by omega) (by decide) (.inl rfl))
 rw [show freeD.v = .agg #[.int .i64 0, .string ⟨#[]⟩, .int .i64 (-1)] from rfl] at LA
 have l3 : (enL (k : Int) freeD).length ≤ 3 := Nat.le_refl _
 generalize enL (k : Int) freeD = EN at *
 have LW := zaa (fun w1 => zkl (i : Int) zgq w1 (by omega))
 rw [show zgq.v = .agg #[.int .i64 0, .int .i64 0, .int .i64 0, .int .i64 0, .int .i64 0, .int .i64 0, .int .i64 0, .int .i64 0, .int .i64 0, .int .i64 0, .int .i64 0] from rfl] at LW
 have l11 : (wrL (i : Int) zgq 8).length ≤ 11 := by rw [zob]; omega
 generalize wrL (i : Int) zgq 8 = WL at *
 have wpl : IntKind.i64.wrap (lk - 1) = lk - 1 := by rw [IntKind.wrap_i64]; omega
 have CASES : (kd = 2 ∧ ¬ nms = []) ∨ ((kd = 2 ∧ nms = []) ∨ ¬ kd = 2) := by
  by_cases q : kd = 2
  ·by_cases r : nms = []
   ·exact .inr (.inl ⟨q, r⟩)
   ·exact .inl ⟨q, r⟩
  ·exact .inr (.inr q)
 rcases CASES with ⟨q, r⟩ | CASES
 ·rw [if_pos ⟨q, r⟩] at EL2
  obtain rfl := EL2.out
  have KN2 := KN.out r
  have q1 : (kd == 2) = true := by rw [q]; rfl
  clear EL2 q KM LA LW EU r KN
  generalize (sorted nms).length = nl at *
  have nlp : (nl : Int) > 0 := by omega
  obtain ⟨x0', x1'⟩ := CA.out _ AX.out
  go_wp2_with fail
  refine (LNk.out _ BX.out).mono ?_
  rintro e w3 ⟨v3, rfl, hr3, hb3⟩
  have B3 := zaa (zab BX.out hb3 BX.out.size)
  obtain ⟨-, aL, cL, hvL, -⟩ := hr3.rd
  subst hvL
  clear hr3 hb3 x0 x1 x0' x1' y0 d0 d1 d2 d3 d4 d5 d6 d7 d8 d9 d10
  go_wp2
  go_ret2
  exact zcl B3.out
 have EL3 : Hid (res = (ru, 0)) := EL2.out.trans (if_neg (by rintro ⟨a, b⟩; rcases CASES with ⟨_, r⟩ | r; exact b r; exact r a))
 clear EL2
 obtain rfl := EL3.out
 clear EL3
 rcases CASES with ⟨q, r⟩ | q
 case' inl =>
  have KM2 := KM.out r
  have q1 : (kd == 2) = true := by rw [q]; rfl
  clear q KM r KN
  generalize (sorted nms).length = nl at *
  subst KM2
  obtain ⟨x0', x1'⟩ := CA.out _ AX.out
  go_wp2_with fail
  refine (LNk.out _ BX.out).mono ?_
  rintro e w3 ⟨v3, rfl, hr3, hb3⟩
  have A3 := zaa (zab AX.out hb3 AX.out.size)
  have B3 := zaa (zab BX.out hb3 BX.out.size)
  have V3 := zaa ((hb3.block w2.heap.size (by simp)).trans VX.out)
  obtain ⟨-, aL, cL, hvL, -⟩ := hr3.rd
  subst hvL
  clear hr3 hb3 x0 x1 x0' x1' y0 d0 d1 d2 d3 d4 d5 d6 d7 d8 d9 d10 A2 B2 AX BX VX q1
  go_wp2_with fail
 case' inr =>
  have q1 : (kd == 2) = false := by rw [beq_eq_false_iff_ne]; exact q
  clear q KM KN
  go_wp2_with fail
  obtain ⟨w3, hw3⟩ : ∃ w3, w3 = w2.alloc (.cells #[.int .i64 kd, .int .i64 xi.size, .int .i64 lk, .int .i64 xi.m0, .int .i64 xi.m1, .int .i64 xi.m2, .int .i64 xi.m3, .int .i64 xi.m4, .int .i64 xi.m5, .int .i64 xi.m6, .int .i64 xi.m7] 44) := ⟨_, rfl⟩
  rw [← hw3]
  rw [← hw3] at AX BX VX
  have A3 := AX
  have B3 := BX
  have V3 := VX
  clear hw3 AX BX VX x0 x1 y0 d0 d1 d2 d3 d4 d5 d6 d7 d8 d9 d10 A2 B2 q1
 all_goals
  have SK : Hid (∀ w', Below w3.heap.size w3 w' → w'.cell? ⟨w2.heap.size, 2, none⟩ = some (.int .i64 lk)) := fun w' hb => (zao (xs := [.int .i64 kd, .int .i64 xi.size, .int .i64 lk, .int .i64 xi.m0, .int .i64 xi.m1, .int .i64 xi.m2, .int .i64 xi.m3, .int .i64 xi.m4, .int .i64 xi.m5, .int .i64 xi.m6, .int .i64 xi.m7]) ((hb.block _ ((Array.getElem?_eq_some_iff.1 V3.out).1)).trans V3.out) 2).1
  clear V3 CA LNk
  refine (LA.out _).mono ?_
  rintro e w4 ⟨v4, rfl, hr4, hb4⟩
  have J4 : Hid (UpI w3 w4 v4 EN) := ⟨hr4.1, hb4⟩
  obtain ⟨-, aE, cE, hvE, -⟩ := hr4.rd
  subst hvE
  have y2 := SK.out _ hb4
  clear hr4 hb4 LA
  by_cases r : 1 < lk
  ·rw [if_pos r] at EU
   have r1 : lk > 1 := r
   have JA := zaa (J4.out.below ((Below.refl _ _).alloc (Nat.le_refl _) (.cells #[.int .i64 (48 + 12 * (i : Int) + 2), .int .i64 (lk - 1)] 47)))
   have JB := zaa ((J4.out.below ((Below.refl w4.heap.size w4).drew)).below ((Below.refl _ _).alloc (Nat.le_refl _) (.cells #[.int .i64 (48 + 12 * (i : Int) + 2), .int .i64 (lk - 1)] 47)))
   have RA := zaa (zhm w4 (48 + 12 * (i : Int) + 2) (lk - 1))
   have RB := zaa (zhm w4.drew (48 + 12 * (i : Int) + 2) (lk - 1))
   have fr : 0 ≤ (i : Int) ∧ (i : Int) < 16 := by omega
   clear LW r
   go_wp2_with fail
   go_region_held3 (fun w' => w'.cell? ⟨w2.heap.size, 2, none⟩ = some (.int .i64 lk))
    (first | exact SK.out _ G.out.b | exact SK.out _ J4.out.b | exact SK.out _ J4.out.b.drew | exact SK.out _ JA.out.b | exact SK.out _ JB.out.b)
    (first
     | (go_at_call 87; refine (zaz _ _ _ fr (by omega)).mono ?_; rintro e w' ⟨rfl, hw'⟩; subst w')
     | (refine zam rfl (.tmp 59) (.tmp 66) 39 rfl w3.heap.size 47 (.agg #[.int .i64 0, .int .i64 0]) 2 16 Tryz.underlying39 zjg rfl (by decide) _ EN.length (ses EN) rfl (by first | exact JA.out.l | exact JB.out.l) _ 1 (ses [⟨48 + 12 * (i : Int) + 2, lk - 1⟩]) rfl (by first | exact RA.out | exact RB.out) (zef _) (by simp [maxLen]; omega) (by omega) (by first | exact JA.out.z | exact JB.out.z) ?_; intro vN wN hownN hgrN; have G := (by first | exact zaa (JA.out.grow [⟨48 + 12 * (i : Int) + 2, lk - 1⟩] hownN hgrN) | exact zaa (JB.out.grow [⟨48 + 12 * (i : Int) + 2, lk - 1⟩] hownN hgrN) : Hid (UpI w3 wN vN (EN ++ [⟨48 + 12 * (i : Int) + 2, lk - 1⟩]))); clear hownN hgrN))
   all_goals
    rw [← EU.out] at G
    have G2 := zaa (G.out.wide B3.out)
    obtain ⟨-, aN, cN, hvN, -⟩ := (zac G2.out.l).rd
    subst hvN
    clear J4 JA JB RA RB y2 SK G
    go_wp2
    go_ret2
    exact pl_row 0 G2.out
  ·rw [if_neg r] at EU
   have r1 : ¬ lk > 1 := r
   clear r SK
   go_wp2_with fail
   refine (LW.out _).mono ?_
   rintro e w5 ⟨v5, rfl, hr5, hb5⟩
   have J5 := zaa (J4.out.below hb5)
   have R5 := zaa hr5.rd
   obtain ⟨-, aF, cF, hvF, -⟩ := hr5.rd
   subst hvF
   have z5 : w3.heap.size ≤ w5.heap.size := J5.out.z
   clear hr5 hb5 J4 LW y2
   go_wp2_with (at_builtin; refine zae _ rfl (.tmp 68) (.tmp 71) 39 rfl w3.heap.size 47 (.agg #[.int .i64 0, .int .i64 0]) 2 16 Tryz.underlying39 zjg rfl (by decide) _ _ _ rfl J5.out.l _ _ _ rfl R5.out (zef _) (by simp [maxLen]; omega) (by omega) z5 ?_)
   intro vN wN hownN hgrN
   have G := zaa (J5.out.grow WL hownN hgrN)
   rw [← EU.out] at G
   have G2 := zaa (G.out.wide B3.out)
   obtain ⟨-, aN, cN, hvN, -⟩ := (zac G2.out.l).rd
   subst hvN
   clear hownN hgrN J5 R5 G
   go_wp2
   go_ret2
   exact pl_row 0 G2.out

end Go.Proofs.YtbbmljakfbhnpaaGreatDoor
