/- A file's other name leads to the same inode; directories have one name: the walk of the law. -/
import Derived.Test.YtpakbbdlhlkogaaGreatDoorNmM
import Derived.Test.YtpakbbdlhlkogaaGreatDoorZBP
import Derived.Test.YtpakbbdlhlkogaaGreatDoorZBQ
import Derived.Test.YtpakbbdlhlkogaaGreatDoorPlR
import Derived.Test.YtpakbbdlhlkogaaGreatDoorZBS
import Derived.BigQuiet
namespace Go.Proofs.YtpakbbdlhlkogaaGreatDoor
open Go.RowKit
theorem idle_pmL (f : FV) (w : World) (h : FsIdle w (.agg #[.slice f.a0 f.n0 f.c0, .slice f.a1 f.n1 f.c1, .slice f.a2 f.n2 f.c2, .slice f.a3 f.n3 f.c3, .slice f.a4 f.n4 f.c4, .slice f.a5 f.n5 f.c5, .int .i64 f.x, .int .i64 f.y, .slice f.a8 f.n8 f.c8, .bool f.z])) : ∃ ws es ns ds, Idle ws es ns ds ∧ RdPm w (.agg #[.slice f.a0 f.n0 f.c0, .slice f.a1 f.n1 f.c1]) ws [] := by
 obtain ⟨ws, es, ns, ds, hs, ⟨aW, cW, aP, cP, aS, cS, aQ, cQ, aH, cH, aT, cT, aN, cN, ev, a, b, c, d⟩, hi, hh⟩ := h
 simp only [Value.agg.injEq, Array.mk.injEq, List.cons.injEq, Value.slice.injEq, and_true] at ev
 obtain ⟨⟨e1, e2, e3⟩, ⟨e4, e5, e6⟩, -⟩ := ev
 rw [e1, e2, e3, e4, e5, e6]
 refine ⟨ws, es, ns, ds, hi, ?_⟩
 obtain ⟨_, _, _, _, e1, q, _⟩ := a
 simp only [Value.agg.injEq, Array.mk.injEq, List.cons.injEq, and_true] at e1
 obtain ⟨rfl, rfl, -, -⟩ := e1
 exact q
theorem idle_RML {ws es : List Int} {ns : List Ino} {ds : List Den} (h : Idle ws es ns ds) : (∀ k (h : k < ns.length), ns[k].R) ∧ ∀ k (h : k < ds.length), ds[k].name.size ≤ maxLen := by
 have q := yabl h.pm 16
 have r := zok (zcr ws []) 24
 rw [show zbi (zcr ws []) 16 = ns from h.wi.inos] at q
 rw [show zbp (zcr ws []) 24 = ds from h.wi.dens] at r
 exact ⟨q, r⟩
theorem idle_riL {ws es : List Int} {ns : List Ino} {ds : List Den} (h : Idle ws es ns ds) : riC ws [] = 0 ∧ riN ws [] = ns ∧ riD ws [] = ds := by
 have c : riC ws [] = 0 := by unfold riC; rw [if_pos h.pm, if_pos (show riB (zcr ws []) = true from h.wi.ri)]
 exact ⟨c, by unfold riN; rw [if_pos c]; exact h.wi.inos, by unfold riD; rw [if_pos c]; exact h.wi.dens⟩
theorem implReadImage_R {ls es : List Int} {ns ns' : List Ino} {ds ds' : List Den} {us : List Se} (h : Idle ls es ns ds) (c : riC (zbe ls us) [] = 0) (e1 : riN (zbe ls us) [] = ns') (e2 : riD (zbe ls us) [] = ds') (_a : auW ls [] us = zbe ls us) : (∀ k (h : k < ns'.length), ns'[k].R) ∧ ∀ k (h : k < ds'.length), ds'[k].name.size ≤ maxLen := by
 have pw : pmB (zbe ls us) [] = true := by
  unfold riC at c
  by_cases q : pmB (zbe ls us) [] = true
  ·exact q
  ·rw [if_neg q] at c; cases c
 have _ := h
 have q := yabl pw 16
 have r := zok (zcr (zbe ls us) []) 24
 unfold riN at e1
 unfold riD at e2
 rw [if_pos c] at e1 e2
 rw [← e1, ← e2]
 exact ⟨q, r⟩
set_option maxRecDepth 100000 in
set_option maxHeartbeats 64000000 in
theorem fnLink_law (vA vB : Value) (cs ms : List Int) (w : World) (hA : RdB w vA cs) (hB : RdB w vB ms) (hT : TS w) (hE : ED w) (hF : FD w) :
  Calls Tryz.prog 4 #[vA, vB] w fun e w' => e = .returned (.bool true) ∧ Below w.heap.size w w' := by
 obtain ⟨aA, cA, rfl, _⟩ := hA.shape
 obtain ⟨aB, cB, rfl, _⟩ := hB.shape
 have HA := zaa hA
 have HB := zaa hB
 have GT := zaa (And.intro hT (And.intro hE hF))
 clear hA hB hT hE hF
 by_cases c1 : 1048576 < cs.length
 ·go_enter Tryz.func4, Tryz.ntmps4
  go_wp2
  go_ret
  exact ⟨rfl, Below.refl _ _⟩
 by_cases c2 : 1048576 < ms.length
 ·go_enter Tryz.func4, Tryz.ntmps4
  go_wp2
  go_ret
  exact ⟨rfl, Below.refl _ _⟩
 go_enter Tryz.func4, Tryz.ntmps4
 go_wp2_with fail
 refine (yalg _ cs w HA.out (by omega)).mono ?_
 rintro e w1 ⟨f, rfl, hi, hb1⟩
 obtain ⟨ws, es, ns, ds, I, pm⟩ := idle_pmL f w1 hi
 have q1 := zxv f w1
 obtain ⟨W1, hW1⟩ : ∃ W1, W1 = w1.alloc (.cells #[.slice f.a0 f.n0 f.c0, .slice f.a1 f.n1 f.c1, .slice f.a2 f.n2 f.c2, .slice f.a3 f.n3 f.c3] 31) := ⟨_, rfl⟩
 have A1 : Hid (Below w1.heap.size w1 W1) := by rw [hW1]; exact (Below.refl _ _).alloc (Nat.le_refl _) _
 have B1 := zaa (zab hb1 A1.out hb1.size)
 have M1 : Hid (W1.heap[w1.heap.size]? = some (.cells #[.slice f.a0 f.n0 f.c0, .slice f.a1 f.n1 f.c1, .slice f.a2 f.n2 f.c2, .slice f.a3 f.n3 f.c3] 31 (0, 0))) := by rw [hW1]; exact zah rfl
 have PM := zaa (RdPm.below pm A1.out)
 have HI := zaa I
 have HZ := zaa (show cs.length ≤ 1048576 ∧ ms.length ≤ 1048576 by omega)
 clear hi hb1 pm I
 go_upto_region 4 with fail
 rw [← hW1]
 clear hW1 q1 c1 c2
 obtain ⟨mb, hmb⟩ : ∃ mb, mb = w1.heap.size := ⟨_, rfl⟩
 rw [← hmb] at M1
 rw [← hmb]
 clear hmb A1
 have KR : Hid (Calls Tryz.prog 7 #[.agg #[.slice f.a0 f.n0 f.c0, .slice f.a1 f.n1 f.c1]] W1 fun e w' => ∃ v', e = .returned (.tuple #[v', .int .i64 0]) ∧ RdIm w' v' ns ds ∧ Below W1.heap.size W1 w') := by
  have l := HI.out.wi.len
  have q := zef _ ws [] W1 PM.out (by omega) (by simp) (GT.out.1.below B1.out) (GT.out.2.1.below B1.out) (GT.out.2.2.below B1.out)
  rw [(idle_riL HI.out).1, (idle_riL HI.out).2.1, (idle_riL HI.out).2.2] at q
  refine q.mono ?_
  rintro e w' ⟨v', rfl, r, hb⟩
  exact ⟨v', rfl, r.rd, hb⟩
 obtain ⟨y0, y1, y2, y3, -⟩ := zaq M1.out
 go_wp2_with fail
 refine KR.out.mono ?_
 rintro e w2 ⟨v2, rfl, hr2, hb2⟩
 have R2 := zaa hr2
 obtain ⟨vI, vD, rfl, h1, h2⟩ := hr2
 have l16 := HI.out.wi.img.l16
 have l24 := HI.out.wi.img.l24
 obtain ⟨aW, cW, rfl, _, hcW⟩ := h1.shape
 obtain ⟨aP, cP, rfl, _, _⟩ := h2.shape
 obtain ⟨bW, oW, rfl, hblW, hcellW⟩ := hcW (by omega)
 obtain ⟨W2, hW2⟩ : ∃ W2, W2 = w2.alloc (.cells #[.slice (some ⟨bW, oW, none⟩) ns.length cW, .slice aP ds.length cP] 42) := ⟨_, rfl⟩
 have A2 : Hid (Below w2.heap.size w2 W2) := by rw [hW2]; exact (Below.refl _ _).alloc (Nat.le_refl _) _
 have H2 := zaa (zab hb2 A2.out hb2.size)
 have B2 := zaa (zab B1.out H2.out B1.out.size)
 have M2 : Hid (W2.heap[w2.heap.size]? = some (.cells #[.slice (some ⟨bW, oW, none⟩) ns.length cW, .slice aP ds.length cP] 42 (0, 0))) := by rw [hW2]; exact zah rfl
 have RI := zaa (R2.out.below A2.out)
 have PW := zaa (RdPm.below PM.out H2.out)
 have MD : Hid (∀ w', Below W2.heap.size W2 w' → w'.heap[mb]? = some (.cells #[.slice f.a0 f.n0 f.c0, .slice f.a1 f.n1 f.c1, .slice f.a2 f.n2 f.c2, .slice f.a3 f.n3 f.c3] 31 (0, 0))) := fun w' hb => by
  have e1 := zdy M1.out H2.out (zpk M1.out)
  exact zdy e1 hb (zpk e1)
 have GW : Hid (TS W2 ∧ ED W2 ∧ FD W2) := ⟨GT.out.1.below B2.out, GT.out.2.1.below B2.out, GT.out.2.2.below B2.out⟩
 have HK : Hid (∀ k (h : k < ns.length) w', Below W2.heap.size W2 w' → w'.cell? ⟨bW, oW + k * 11 + 2, none⟩ = some (.int .i64 ns[k].links)) := fun k h w' hb' => by
  have hb : Below w2.heap.size w2 w' := zab A2.out hb' A2.out.size
  obtain ⟨-, -, a2, -⟩ := hcellW k h
  exact (hb.cell (p := ⟨bW, oW + k * 11 + 2, none⟩) hblW).trans a2
 have GR := zaa (idle_RML HI.out)
 have L16 := zaa l16
 have L24 := zaa l24
 have IM := zaa HI.out.img
 clear h1 h2 hcW hcellW hblW hb2 R2 KR y0 y1 y2 y3 M1 PM GT l16 l24
 go_upto_region 5 with fail
 rw [← hW2]
 clear hW2
 obtain ⟨ib, hib⟩ : ∃ ib, ib = w2.heap.size := ⟨_, rfl⟩
 rw [← hib] at M2
 rw [← hib]
 clear hib A2 H2
 have MB : Hid (∀ w', Below W2.heap.size W2 w' → w'.heap[ib]? = some (.cells #[.slice (some ⟨bW, oW, none⟩) ns.length cW, .slice aP ds.length cP] 42 (0, 0))) := fun w' hb => zdy M2.out hb (zpk M2.out)
 clear M2
 go_wp2_with fail
 refine (yacu _ cs W2 (HA.out.below B2.out) HZ.out.1).mono ?_
 rintro e w3 ⟨s, rfl, hs, hb3⟩
 have J2 := zaa hb3
 have sz := hs.size
 clear hb3 hs HA
 go_wp2_with fail
 refine (yacu _ ms w3 (HB.out.below (zab B2.out J2.out B2.out.size)) HZ.out.2).mono ?_
 rintro e w4 ⟨t, rfl, ht, hb4⟩
 have J3 := zaa (zab J2.out hb4 J2.out.size)
 have HT := zaa ht
 have tz := ht.size
 clear hb4 ht HB HZ J2
 have eM : Hid (lnR ns ds s t = lnI ns ds s t) := by unfold Hid lnR; rw [if_neg (by omega), if_neg (by omega), if_pos IM.out]
 have PI := zaa (fun w' (hb : Below W2.heap.size W2 w') => implPlanLink_any (.agg #[.slice (some ⟨bW, oW, none⟩) ns.length cW, .slice aP ds.length cP]) ns ds s t w' (RI.out.below hb) (by have := L16.out; omega) (by have := L24.out; omega) (GW.out.1.below hb) (GW.out.2.1.below hb) (GW.out.2.2.below hb) GR.out.1 GR.out.2)
 have PS := zaa (fun w' (hb : Below W2.heap.size W2 w') => yadt (.agg #[.slice (some ⟨bW, oW, none⟩) ns.length cW, .slice aP ds.length cP]) ns ds s t w' (RI.out.below hb) (by have := L16.out; omega) (by have := L24.out; omega) GR.out.1 GR.out.2)
 simp only [eM.out, zhj] at PI PS
 clear eM RI
 by_cases bz : (lnI ns ds s t).2 = 0
 case neg =>
  rw [yavu bz] at PI PS
  generalize (lnI ns ds s t).2 = b at *
  obtain ⟨us, eu⟩ : ∃ us : List Se, us = [] := ⟨_, rfl⟩
  rw [← eu] at PI PS
  have ul : us.length ≤ 0 := by rw [eu]; simp
  have ue := zaa eu
  have d1 : (b == 0) = false := by rw [beq_eq_false_iff_ne]; exact bz
  clear HI PW HK MD GW GR L16 L24 IM eu HT
  obtain ⟨x0, x1, -, -⟩ := zac (MB.out _ J3.out)
  go_wp2_with fail
  refine (PI.out _ J3.out).mono ?_
  rintro e u1 ⟨v1, rfl, hr1, hb1⟩
  have J4 := zaa (zab J3.out hb1 J3.out.size)
  have L1 : Hid (RdE u1 v1 us) := hr1.rd
  obtain ⟨aL, cL, hv1, -, -⟩ := L1.out.shape
  subst hv1
  clear hr1 hb1 x0 x1 PI
  obtain ⟨x0, x1, -, -⟩ := zac (MB.out _ J4.out)
  go_wp2_with fail
  refine (PS.out _ J4.out).mono ?_
  rintro e u2 ⟨v2, rfl, hr2, hb2⟩
  have J5 := zaa (zab J4.out hb2 J4.out.size)
  have L2 : Hid (RdE u2 v2 us) := hr2.rd
  obtain ⟨aM, cM, hv2, -, -⟩ := L2.out.shape
  subst hv2
  have L1b : Hid (RdE u2 _ us) := Rd.below L1.out hb2
  clear hr2 hb2 x0 x1 PS L1
  go_wp2_with fail
  refine (zgz _ _ us u2 L1b.out L2.out (by omega)).mono ?_
  rintro e u4 ⟨rfl, hb4⟩
  have J7 := zaa (zab J5.out hb4 J5.out.size)
  have L1d : Hid (RdE u4 _ us) := Rd.below L1b.out hb4
  clear hb4 L1b L2 J4 J5 J3
  have BF := zaa (zab B2.out J7.out B2.out.size)
  have u0 := ue.out
  subst u0
  go_wp2
  go_ret
  exact ⟨rfl, BF.out⟩
 obtain ⟨us, eU⟩ : ∃ us, lnI ns ds s t = (us, 0) := ⟨(lnI ns ds s t).1, Prod.ext rfl bz⟩
 obtain ⟨u16, a1, a2, a3, r1, i, k, ⟨i1, i16⟩, ki, x, r2, r3, r4, r5, r6⟩ := yavj HI.out HT.out eU
 rw [eU] at PI PS
 simp only at PI PS
 have hil : i < ns.length := by have := L16.out; omega
 have N1 : Hid ((ns.set i (zcz (zal ns i))).length = 16) := by unfold Hid; rw [List.length_set]; exact L16.out
 have N2 : Hid ((ds.set k x).length = 24) := by unfold Hid; rw [List.length_set]; exact L24.out
 have NI : Hid (∀ h : i < (ns.set i (zcz (zal ns i))).length, (ns.set i (zcz (zal ns i)))[i] = zcz ns[i]) := fun h => by rw [List.getElem_set_self, zbn hil]
 have KD : Hid (ns[i].kind = 1) := by rw [zbn hil] at ki; exact ki
 have LB : Hid (0 ≤ ns[i].links ∧ ns[i].links ≤ 24) := by
  have q := (zcp (HI.out.wi.img.ok i i16)).2.2.1
  rw [zbn hil] at q
  exact q
 have KA : Hid (∀ w' vL, Below W2.heap.size W2 w' → RdE w' vL us → Calls Tryz.prog 13 #[.agg #[.slice f.a0 f.n0 f.c0, .slice f.a1 f.n1 f.c1], vL] w' fun e w2 => ∃ v', e = .returned (.tuple #[v', .int .i64 0]) ∧ RdPm w2 v' (zbe ws us) [] ∧ Below w'.heap.size w' w2) := fun w' vL hb hl => by
  have l := HI.out.wi.len
  have q := zeu _ vL ws [] us w' (RdPm.below PW.out hb) hl (by omega) (by simp) (by omega)
  rw [a1, a2, a3] at q
  refine q.mono ?_
  rintro e w2 ⟨v', rfl, r, hb2⟩
  exact ⟨v', rfl, r.rd, hb2⟩
 have KX : Hid (∀ w' vv, Below W2.heap.size W2 w' → RdPm w' vv (zbe ws us) [] → Calls Tryz.prog 7 #[vv] w' fun e w2 => ∃ v', e = .returned (.tuple #[v', .int .i64 0]) ∧ RdIm w2 v' (ns.set i (zcz (zal ns i))) (ds.set k x) ∧ Below w'.heap.size w' w2) := fun w' vv hb hr => by
  have l : (zbe ws us).length ≤ 1048576 := by rw [zdx, HI.out.wi.len]; omega
  have q := zef vv _ [] w' hr l (by simp) (GW.out.1.below hb) (GW.out.2.1.below hb) (GW.out.2.2.below hb)
  rw [r1, r2, r3] at q
  refine q.mono ?_
  rintro e w2 ⟨v', rfl, r, hb2⟩
  exact ⟨v', rfl, r.rd, hb2⟩
 have RR : Hid ((∀ j (h : j < (ns.set i (zcz (zal ns i))).length), (ns.set i (zcz (zal ns i)))[j].R) ∧ ∀ j (h : j < (ds.set k x).length), (ds.set k x)[j].name.size ≤ maxLen) := by
  have q := implReadImage_R HI.out r1 r2 r3 a2
  exact q
 have LK : Hid (∀ w' vv p, (p = s ∨ p = t) → Below W2.heap.size W2 w' → RdIm w' vv (ns.set i (zcz (zal ns i))) (ds.set k x) → Calls Tryz.prog 11 #[vv, .string p] w' fun e w2 => e = .returned (.tuple #[.int .i64 (i : Int), .int .i64 0]) ∧ Below w'.heap.size w' w2) := fun w' vv p hp hb hr => by
  have q := zir vv _ _ p w' hr (by have := N1.out; omega) (by have := N2.out; omega) (GW.out.1.below hb) (GW.out.2.1.below hb) (GW.out.2.2.below hb) RR.out.1 RR.out.2
  have e1 : lkR (ns.set i (zcz (zal ns i))) (ds.set k x) p = ((i : Int), 0) := by
   unfold lkR
   rcases hp with rfl | rfl
   ·rw [if_neg (by omega), if_pos r4, r5]
   ·rw [if_neg (by omega), if_pos r4, r6]
  rw [e1] at q
  exact q
 have ul := u16
 clear HI PW GW GR IM a1 a2 a3 r1 r2 r3 r4 r5 r6 L24 RR bz eU HT ki
 generalize ns.set i (zcz (zal ns i)) = ns' at *
 generalize ds.set k x = ds' at *
 generalize zbe ws us = ws' at *
 obtain ⟨x0, x1, -, -⟩ := zac (MB.out _ J3.out)
 go_wp2_with fail
 refine (PI.out _ J3.out).mono ?_
 rintro e u1 ⟨v1, rfl, hr1, hb1⟩
 have J4 := zaa (zab J3.out hb1 J3.out.size)
 have L1 : Hid (RdE u1 v1 us) := hr1.rd
 obtain ⟨aL, cL, hv1, -, -⟩ := L1.out.shape
 subst hv1
 clear hr1 hb1 x0 x1 PI
 obtain ⟨x0, x1, -, -⟩ := zac (MB.out _ J4.out)
 go_wp2_with fail
 refine (PS.out _ J4.out).mono ?_
 rintro e u2 ⟨v2, rfl, hr2, hb2⟩
 have J5 := zaa (zab J4.out hb2 J4.out.size)
 have L2 : Hid (RdE u2 v2 us) := hr2.rd
 obtain ⟨aM, cM, hv2, -, -⟩ := L2.out.shape
 subst hv2
 have L1b : Hid (RdE u2 _ us) := Rd.below L1.out hb2
 clear hr2 hb2 x0 x1 PS L1
 go_wp2_with fail
 refine (zgz _ _ us u2 L1b.out L2.out (by omega)).mono ?_
 rintro e u4 ⟨rfl, hb4⟩
 have J7 := zaa (zab J5.out hb4 J5.out.size)
 have L1d : Hid (RdE u4 _ us) := Rd.below L1b.out hb4
 clear hb4 L1b L2 J4 J5 J3
 obtain ⟨y0, y1, y2, y3, -⟩ := zaq (MD.out _ J7.out)
 go_wp2_with fail
 refine (KA.out _ _ J7.out L1d.out).mono ?_
 rintro e u5 ⟨v5, rfl, hr5, hb5⟩
 have J8 := zaa (zab J7.out hb5 J7.out.size)
 have P5 := zaa hr5
 obtain ⟨vW5, vP5, rfl, p51, p52⟩ := hr5
 obtain ⟨-, g1, g2, hv51, -⟩ := p51
 obtain ⟨-, g3, g4, hv52, -⟩ := p52
 subst hv51
 subst hv52
 obtain ⟨W5, hW5⟩ : ∃ W5, W5 = u5.alloc (.cells #[.slice g1 ws'.length g2, .slice g3 ([] : List St).length g4] 26) := ⟨_, rfl⟩
 have A5 : Hid (Below u5.heap.size u5 W5) := by rw [hW5]; exact (Below.refl _ _).alloc (Nat.le_refl _) _
 have S5 : Hid (W5.heap[u5.heap.size]? = some (.cells #[.slice g1 ws'.length g2, .slice g3 ([] : List St).length g4] 26 (0, 0))) := by rw [hW5]; exact zah rfl
 have J9 := zaa (zab J8.out A5.out J8.out.size)
 have P5w := zaa (RdPm.below P5.out A5.out)
 simp only [List.length_nil] at hW5 S5 P5w
 clear hb5 y0 y1 y2 y3 J7 J8 P5 A5 KA L1d
 go_upto_region 14 with fail
 rw [← hW5]
 clear hW5
 obtain ⟨z0, z1, -, -⟩ := zac S5.out
 go_wp2_with fail
 refine (KX.out _ _ J9.out P5w.out).mono ?_
 rintro e u6 ⟨v6, rfl, hr6, hb6⟩
 have J10 := zaa (zab J9.out hb6 J9.out.size)
 have R6 := zaa hr6
 obtain ⟨vI6, vD6, rfl, h61, h62⟩ := hr6
 obtain ⟨a6, k6, rfl, _, hc6⟩ := h61.shape
 obtain ⟨a7, k7, rfl, _, _⟩ := h62.shape
 obtain ⟨b6, o6, rfl, hbl6, hcell6⟩ := hc6 (by have := N1.out; omega)
 have hi6 : i < ns'.length := by have := N1.out; omega
 obtain ⟨e0, e1, e2, -⟩ := hcell6 i hi6
 rw [NI.out hi6] at e0 e1 e2
 obtain ⟨W6, hW6⟩ : ∃ W6, W6 = u6.alloc (.cells #[.slice (some ⟨b6, o6, none⟩) ns'.length k6, .slice a7 ds'.length k7] 42) := ⟨_, rfl⟩
 have A6 : Hid (Below u6.heap.size u6 W6) := by rw [hW6]; exact (Below.refl _ _).alloc (Nat.le_refl _) _
 have S6 : Hid (W6.heap[u6.heap.size]? = some (.cells #[.slice (some ⟨b6, o6, none⟩) ns'.length k6, .slice a7 ds'.length k7] 42 (0, 0))) := by rw [hW6]; exact zah rfl
 have J11 := zaa (zab J10.out A6.out J10.out.size)
 have f0 := (A6.out.cell (p := ⟨b6, o6 + i * 11, none⟩) hbl6).trans e0
 have f1 := (A6.out.cell (p := ⟨b6, o6 + i * 11 + 1, none⟩) hbl6).trans e1
 have f2 := (A6.out.cell (p := ⟨b6, o6 + i * 11 + 2, none⟩) hbl6).trans e2
 have R6w := zaa (R6.out.below A6.out)
 clear R6 hb6 z0 z1 S5 J9 P5w KX hc6 hcell6 hbl6 h61 h62 e0 e1 e2 J10 A6
 go_upto_region 15 with fail
 rw [← hW6]
 clear hW6
 obtain ⟨y0, y1, -, -⟩ := zac S6.out
 have F0 : Hid (∀ w', Below W6.heap.size W6 w' → w'.cell? ⟨b6, o6 + i * 11, none⟩ = some (.int .i64 (zcz ns[i]).kind) ∧ w'.cell? ⟨b6, o6 + i * 11 + 2, none⟩ = some (.int .i64 (zcz ns[i]).links)) := fun w' hb => ⟨(hb.cell (p := ⟨b6, o6 + i * 11, none⟩) (World.block_lt_of_cell? _ _ f0)).trans f0, (hb.cell (p := ⟨b6, o6 + i * 11 + 2, none⟩) (World.block_lt_of_cell? _ _ f2)).trans f2⟩
 clear f0 f1 f2
 go_wp2_with fail
 refine (LK.out _ _ s (.inl rfl) J11.out R6w.out).mono ?_
 rintro e u7 ⟨rfl, hb7⟩
 have J12 := zaa (zab J11.out hb7 J11.out.size)
 have S7 := zaa (zdy S6.out hb7 (zpk S6.out))
 have R7 := zaa (R6w.out.below hb7)
 have Z7 := zaa hb7
 clear hb7 y0 y1 S6 R6w J11
 obtain ⟨y0, y1, -, -⟩ := zac S7.out
 go_wp2_with fail
 refine (LK.out _ _ t (.inr rfl) J12.out R7.out).mono ?_
 rintro e u8 ⟨rfl, hb8⟩
 have J13 := zaa (zab J12.out hb8 J12.out.size)
 have S8 := zaa (zdy S7.out hb8 (zpk S7.out))
 have Z8 := zaa (zab Z7.out hb8 Z7.out.size)
 clear hb8 y0 y1 S7 R7 J12 Z7 LK
 obtain ⟨f0, f2⟩ := F0.out _ Z8.out
 obtain ⟨x0, x1, -, -⟩ := zac (MB.out _ J13.out)
 obtain ⟨y0, y1, -, -⟩ := zac S8.out
 have h2 := HK.out i hil _ J13.out
 have k1 : (i : Int) > 0 := by omega
 have k1' : (0 : Int) < (i : Int) := by omega
 have k3 : (0 : Int) ≤ (i : Int) := by omega
 have k4 : (i : Int) < (ns.length : Int) := by omega
 have k5 : (i : Int) < (ns'.length : Int) := by have := N1.out; omega
 have BF := zaa (zab B2.out J13.out B2.out.size)
 have BN : Hid (∀ n, Below w.heap.size w (u8.drewN n)) := fun n => Below.drewN'' BF.out n
 have lb := LB.out
 have kd := KD.out
 generalize ns[i] = x at *
 unfold zcz at f0 f2
 simp only at f0 f2
 rw [kd] at f0
 have g0 : IntKind.i64.wrap (x.links + 1) = x.links + 1 := by rw [IntKind.wrap_i64]; omega
 have g2 : (x.links + 1 == x.links + 1) = true := by simp
 have g3 : ((i : Int) == (i : Int)) = true := by simp
 have g4 : decide ((0 : Int) < (i : Int)) = true := decide_eq_true k1'
 have g5 : decide (0 < i) = true := decide_eq_true (by omega)
 have g6 : decide ((i : Int) < (ns'.length : Int)) = true := decide_eq_true k5
 have g7 : decide (i < ns'.length) = true := decide_eq_true (by omega)
 have g8 : 0 < i := by omega
 have g9 : i < ns'.length := by omega
 clear NI N1 N2 HK MB MD J13 S8 F0 Z8 i1 i16 hil hi6 L16 LB KD lb kd
 go_wp2_with fail
 go_quiet (fail)
 go_wp2
 go_ret
 exact ⟨rfl, BN.out _⟩
end Go.Proofs.YtpakbbdlhlkogaaGreatDoor
