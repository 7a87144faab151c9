/- Only what is there, and directories that are empty, are removed; a file with another name stays: the walk of the law. -/
import Derived.Test.YtpakbbdlhlkogaaGreatDoorZBF
import Derived.Test.YtpakbbdlhlkogaaGreatDoorZBP
import Derived.Test.YtpakbbdlhlkogaaGreatDoorZBQ
import Derived.Test.YtpakbbdlhlkogaaGreatDoorPlP
import Derived.Test.YtpakbbdlhlkogaaGreatDoorZBS
import Derived.BigQuiet
namespace Go.Proofs.YtpakbbdlhlkogaaGreatDoor
open Go.RowKit
theorem idle_pm (f : FV) (w : World) (h : FsIdle w (.agg #[.slice f.a0 f.n0 f.c0, .slice f.a1 f.n1 f.c1, .slice f.a2 f.n2 f.c2, .slice f.a3 f.n3 f.c3, .slice f.a4 f.n4 f.c4, .slice f.a5 f.n5 f.c5, .int .i64 f.x, .int .i64 f.y, .slice f.a8 f.n8 f.c8, .bool f.z])) : ∃ ws es ns ds, Idle ws es ns ds ∧ RdPm w (.agg #[.slice f.a0 f.n0 f.c0, .slice f.a1 f.n1 f.c1]) ws [] := by
 obtain ⟨ws, es, ns, ds, hs, ⟨aW, cW, aP, cP, aS, cS, aQ, cQ, aH, cH, aT, cT, aN, cN, ev, a, b, c, d⟩, hi, hh⟩ := h
 simp only [Value.agg.injEq, Array.mk.injEq, List.cons.injEq, Value.slice.injEq, and_true] at ev
 obtain ⟨⟨e1, e2, e3⟩, ⟨e4, e5, e6⟩, -⟩ := ev
 rw [e1, e2, e3, e4, e5, e6]
 refine ⟨ws, es, ns, ds, hi, ?_⟩
 obtain ⟨_, _, _, _, e1, q, _⟩ := a
 simp only [Value.agg.injEq, Array.mk.injEq, List.cons.injEq, and_true] at e1
 obtain ⟨rfl, rfl, -, -⟩ := e1
 exact q
theorem idle_RM {ws es : List Int} {ns : List Ino} {ds : List Den} (h : Idle ws es ns ds) : (∀ k (h : k < ns.length), ns[k].R) ∧ ∀ k (h : k < ds.length), ds[k].name.size ≤ maxLen := by
 have q := yabl h.pm 16
 have r := zok (zcr ws []) 24
 rw [show zbi (zcr ws []) 16 = ns from h.wi.inos] at q
 rw [show zbp (zcr ws []) 24 = ds from h.wi.dens] at r
 exact ⟨q, r⟩
theorem idle_ri {ws es : List Int} {ns : List Ino} {ds : List Den} (h : Idle ws es ns ds) : riC ws [] = 0 ∧ riN ws [] = ns ∧ riD ws [] = ds := by
 have c : riC ws [] = 0 := by unfold riC; rw [if_pos h.pm, if_pos (show riB (zcr ws []) = true from h.wi.ri)]
 exact ⟨c, by unfold riN; rw [if_pos c]; exact h.wi.inos, by unfold riD; rw [if_pos c]; exact h.wi.dens⟩
set_option maxRecDepth 100000 in
set_option maxHeartbeats 64000000 in
theorem fnRemove_law (vA vB : Value) (cs ms : List Int) (w : World) (hA : RdB w vA cs) (hB : RdB w vB ms) (hT : TS w) (hE : ED w) (hF : FD w) :
  Calls Tryz.prog 3 #[vA, vB] w fun e w' => e = .returned (.bool true) ∧ Below w.heap.size w w' := by
 obtain ⟨aA, cA, rfl, _⟩ := hA.shape
 obtain ⟨aB, cB, rfl, _⟩ := hB.shape
 have HA := zaa hA
 have HB := zaa hB
 have GT := zaa (And.intro hT (And.intro hE hF))
 clear hA hB hT hE hF
 by_cases c1 : 1048576 < cs.length
 ·go_enter Tryz.func3, Tryz.ntmps3
  go_wp2
  go_ret
  exact ⟨rfl, Below.refl _ _⟩
 by_cases c2 : 1048576 < ms.length
 ·go_enter Tryz.func3, Tryz.ntmps3
  go_wp2
  go_ret
  exact ⟨rfl, Below.refl _ _⟩
 go_enter Tryz.func3, Tryz.ntmps3
 go_wp2_with fail
 refine (yalg _ cs w HA.out (by omega)).mono ?_
 rintro e w1 ⟨f, rfl, hi, hb1⟩
 obtain ⟨ws, es, ns, ds, I, pm⟩ := idle_pm f w1 hi
 have q1 := zxv f w1
 obtain ⟨W1, hW1⟩ : ∃ W1, W1 = w1.alloc (.cells #[.slice f.a0 f.n0 f.c0, .slice f.a1 f.n1 f.c1, .slice f.a2 f.n2 f.c2, .slice f.a3 f.n3 f.c3] 31) := ⟨_, rfl⟩
 have A1 : Hid (Below w1.heap.size w1 W1) := by rw [hW1]; exact (Below.refl _ _).alloc (Nat.le_refl _) _
 have B1 := zaa (zab hb1 A1.out hb1.size)
 have M1 : Hid (W1.heap[w1.heap.size]? = some (.cells #[.slice f.a0 f.n0 f.c0, .slice f.a1 f.n1 f.c1, .slice f.a2 f.n2 f.c2, .slice f.a3 f.n3 f.c3] 31 (0, 0))) := by rw [hW1]; exact zah rfl
 have PM := zaa (RdPm.below pm A1.out)
 have HI := zaa I
 have HZ := zaa (show ms.length ≤ 1048576 by omega)
 clear hi hb1 pm I
 go_upto_region 4 with fail
 rw [← hW1]
 clear hW1 q1 c1 c2
 obtain ⟨mb, hmb⟩ : ∃ mb, mb = w1.heap.size := ⟨_, rfl⟩
 rw [← hmb] at M1
 rw [← hmb]
 clear hmb A1
 have KR : Hid (Calls Tryz.prog 7 #[.agg #[.slice f.a0 f.n0 f.c0, .slice f.a1 f.n1 f.c1]] W1 fun e w' => ∃ v', e = .returned (.tuple #[v', .int .i64 0]) ∧ RdIm w' v' ns ds ∧ Below W1.heap.size W1 w') := by
  have l := HI.out.wi.len
  have q := zef _ ws [] W1 PM.out (by omega) (by simp) (GT.out.1.below B1.out) (GT.out.2.1.below B1.out) (GT.out.2.2.below B1.out)
  rw [(idle_ri HI.out).1, (idle_ri HI.out).2.1, (idle_ri HI.out).2.2] at q
  refine q.mono ?_
  rintro e w' ⟨v', rfl, r, hb⟩
  exact ⟨v', rfl, r.rd, hb⟩
 obtain ⟨y0, y1, y2, y3, -⟩ := zaq M1.out
 go_wp2_with fail
 refine KR.out.mono ?_
 rintro e w2 ⟨v2, rfl, hr2, hb2⟩
 have R2 := zaa hr2
 obtain ⟨vI, vD, rfl, h1, h2⟩ := hr2
 have l16 := HI.out.wi.img.l16
 have l24 := HI.out.wi.img.l24
 obtain ⟨aW, cW, rfl, _, hcW⟩ := h1.shape
 obtain ⟨aP, cP, rfl, _, _⟩ := h2.shape
 obtain ⟨bW, oW, rfl, hblW, hcellW⟩ := hcW (by omega)
 obtain ⟨W2, hW2⟩ : ∃ W2, W2 = w2.alloc (.cells #[.slice (some ⟨bW, oW, none⟩) ns.length cW, .slice aP ds.length cP] 42) := ⟨_, rfl⟩
 have A2 : Hid (Below w2.heap.size w2 W2) := by rw [hW2]; exact (Below.refl _ _).alloc (Nat.le_refl _) _
 have H2 := zaa (zab hb2 A2.out hb2.size)
 have B2 := zaa (zab B1.out H2.out B1.out.size)
 have M2 : Hid (W2.heap[w2.heap.size]? = some (.cells #[.slice (some ⟨bW, oW, none⟩) ns.length cW, .slice aP ds.length cP] 42 (0, 0))) := by rw [hW2]; exact zah rfl
 have RI := zaa (R2.out.below A2.out)
 have PW := zaa (RdPm.below PM.out H2.out)
 have MD : Hid (∀ w', Below W2.heap.size W2 w' → w'.heap[mb]? = some (.cells #[.slice f.a0 f.n0 f.c0, .slice f.a1 f.n1 f.c1, .slice f.a2 f.n2 f.c2, .slice f.a3 f.n3 f.c3] 31 (0, 0))) := fun w' hb => by
  have e1 := zdy M1.out H2.out (zpk M1.out)
  exact zdy e1 hb (zpk e1)
 have GW : Hid (TS W2 ∧ ED W2 ∧ FD W2) := ⟨GT.out.1.below B2.out, GT.out.2.1.below B2.out, GT.out.2.2.below B2.out⟩
 have HK : Hid (∀ k (h : k < ns.length) w', Below W2.heap.size W2 w' → w'.cell? ⟨bW, oW + k * 11 + 1, none⟩ = some (.int .i64 ns[k].size) ∧ w'.cell? ⟨bW, oW + k * 11 + 2, none⟩ = some (.int .i64 ns[k].links)) := fun k h w' hb' => by
  have hb : Below w2.heap.size w2 w' := zab A2.out hb' A2.out.size
  obtain ⟨-, a1, a2, -⟩ := hcellW k h
  exact ⟨(hb.cell (p := ⟨bW, oW + k * 11 + 1, none⟩) hblW).trans a1, (hb.cell (p := ⟨bW, oW + k * 11 + 2, none⟩) hblW).trans a2⟩
 have GR := zaa (idle_RM HI.out)
 have L16 := zaa l16
 have L24 := zaa l24
 have IM := zaa HI.out.img
 clear h1 h2 hcW hcellW hblW hb2 R2 KR y0 y1 y2 y3 M1 PM HA GT l16 l24
 go_upto_region 5 with fail
 rw [← hW2]
 clear hW2
 obtain ⟨ib, hib⟩ : ∃ ib, ib = w2.heap.size := ⟨_, rfl⟩
 rw [← hib] at M2
 rw [← hib]
 clear hib A2 H2
 have MB : Hid (∀ w', Below W2.heap.size W2 w' → w'.heap[ib]? = some (.cells #[.slice (some ⟨bW, oW, none⟩) ns.length cW, .slice aP ds.length cP] 42 (0, 0))) := fun w' hb => zdy M2.out hb (zpk M2.out)
 clear M2
 go_wp2_with fail
 refine (yacu _ ms W2 (HB.out.below B2.out) HZ.out).mono ?_
 rintro e w3 ⟨s, rfl, hs, hb3⟩
 have J3 := zaa hb3
 have HS := zaa hs
 have sz := hs.size
 clear hb3 hs HB HZ
 have eM : Hid (rmR ns ds s = rmI ns ds s) := by unfold Hid rmR; rw [if_neg (by omega), if_pos IM.out]
 have eK : Hid (lkR ns ds s = lkI ns ds s) := by unfold Hid lkR; rw [if_neg (by omega), if_pos IM.out]
 have PI := zaa (fun w' (hb : Below W2.heap.size W2 w') => zkg (.agg #[.slice (some ⟨bW, oW, none⟩) ns.length cW, .slice aP ds.length cP]) ns ds s w' (RI.out.below hb) (by have := L16.out; omega) (by have := L24.out; omega) (GW.out.1.below hb) (GW.out.2.1.below hb) (GW.out.2.2.below hb) GR.out.1 GR.out.2)
 have PS := zaa (fun w' (hb : Below W2.heap.size W2 w') => zzq (.agg #[.slice (some ⟨bW, oW, none⟩) ns.length cW, .slice aP ds.length cP]) ns ds s w' (RI.out.below hb) (by have := L16.out; omega) (by have := L24.out; omega) GR.out.1 GR.out.2)
 have LK := zaa (fun w' (hb : Below W2.heap.size W2 w') => zir (.agg #[.slice (some ⟨bW, oW, none⟩) ns.length cW, .slice aP ds.length cP]) ns ds s w' (RI.out.below hb) (by have := L16.out; omega) (by have := L24.out; omega) (GW.out.1.below hb) (GW.out.2.1.below hb) (GW.out.2.2.below hb) GR.out.1 GR.out.2)
 simp only [eM.out, eK.out, zhj] at PI PS LK
 have TD := yavs (ws := ns) (ps := ds) HS.out
 clear eM eK RI GR sz HS
 rcases TD with ⟨n1, n2, n3, n4⟩ | ⟨n1, n2, n3⟩ | ⟨-, us, d, nm, k, n1, n2, n3, n4⟩
 ·rw [n4] at PI PS
  generalize (rmI ns ds s).2 = b at *
  generalize (lkI ns ds s).2 = c at *
  generalize (lkI ns ds s).1 = kk at *
  obtain ⟨us, eu⟩ : ∃ us : List Se, us = [] := ⟨_, rfl⟩
  rw [← eu] at PI PS
  have ul : us.length ≤ 0 := by rw [eu]; simp
  have ue := zaa eu
  have d1 : (b == 0) = false := by rw [beq_eq_false_iff_ne]; exact n2
  have d2 : (b == 11) = false := by rw [beq_eq_false_iff_ne]; exact n3
  have d3 : (c == 0) = false := by rw [beq_eq_false_iff_ne]; exact n1
  clear HI PW HK MD GW L16 L24 IM n4 eu
  obtain ⟨x0, x1, -, -⟩ := zac (MB.out _ J3.out)
  go_wp2_with fail
  refine (PI.out _ J3.out).mono ?_
  rintro e u1 ⟨v1, rfl, hr1, hb1⟩
  have J4 := zaa (zab J3.out hb1 J3.out.size)
  have L1 : Hid (RdE u1 v1 us) := hr1.rd
  obtain ⟨aL, cL, hv1, -, -⟩ := L1.out.shape
  subst hv1
  clear hr1 hb1 x0 x1 PI
  obtain ⟨x0, x1, -, -⟩ := zac (MB.out _ J4.out)
  go_wp2_with fail
  refine (PS.out _ J4.out).mono ?_
  rintro e u2 ⟨v2, rfl, hr2, hb2⟩
  have J5 := zaa (zab J4.out hb2 J4.out.size)
  have L2 : Hid (RdE u2 v2 us) := hr2.rd
  obtain ⟨aM, cM, hv2, -, -⟩ := L2.out.shape
  subst hv2
  have L1b : Hid (RdE u2 _ us) := Rd.below L1.out hb2
  clear hr2 hb2 x0 x1 PS L1
  obtain ⟨x0, x1, -, -⟩ := zac (MB.out _ J5.out)
  go_wp2_with fail
  refine (LK.out _ J5.out).mono ?_
  rintro e u3 ⟨rfl, hb3⟩
  have J6 := zaa (zab J5.out hb3 J5.out.size)
  have L1c : Hid (RdE u3 _ us) := Rd.below L1b.out hb3
  have L2c : Hid (RdE u3 _ us) := Rd.below L2.out hb3
  clear hb3 x0 x1 LK L1b L2
  go_wp2_with fail
  refine (zgz _ _ us u3 L1c.out L2c.out (by omega)).mono ?_
  rintro e u4 ⟨rfl, hb4⟩
  have J7 := zaa (zab J6.out hb4 J6.out.size)
  have L1d : Hid (RdE u4 _ us) := Rd.below L1c.out hb4
  clear hb4 L1c L2c J4 J5 J6 J3
  have BF := zaa (zab B2.out J7.out B2.out.size)
  have u0 := ue.out
  subst u0
  go_wp2
  go_ret
  exact ⟨rfl, BF.out⟩
 ·rw [n2, n3] at PI PS
  rw [n1] at LK
  generalize (lkI ns ds s).1 = kk at *
  obtain ⟨us, eu⟩ : ∃ us : List Se, us = [] := ⟨_, rfl⟩
  rw [← eu] at PI PS
  have ul : us.length ≤ 0 := by rw [eu]; simp
  have ue := zaa eu
  clear HI PW HK MD GW L16 L24 IM n1 n2 n3 eu
  obtain ⟨x0, x1, -, -⟩ := zac (MB.out _ J3.out)
  go_wp2_with fail
  refine (PI.out _ J3.out).mono ?_
  rintro e u1 ⟨v1, rfl, hr1, hb1⟩
  have J4 := zaa (zab J3.out hb1 J3.out.size)
  have L1 : Hid (RdE u1 v1 us) := hr1.rd
  obtain ⟨aL, cL, hv1, -, -⟩ := L1.out.shape
  subst hv1
  clear hr1 hb1 x0 x1 PI
  obtain ⟨x0, x1, -, -⟩ := zac (MB.out _ J4.out)
  go_wp2_with fail
  refine (PS.out _ J4.out).mono ?_
  rintro e u2 ⟨v2, rfl, hr2, hb2⟩
  have J5 := zaa (zab J4.out hb2 J4.out.size)
  have L2 : Hid (RdE u2 v2 us) := hr2.rd
  obtain ⟨aM, cM, hv2, -, -⟩ := L2.out.shape
  subst hv2
  have L1b : Hid (RdE u2 _ us) := Rd.below L1.out hb2
  clear hr2 hb2 x0 x1 PS L1
  obtain ⟨x0, x1, -, -⟩ := zac (MB.out _ J5.out)
  go_wp2_with fail
  refine (LK.out _ J5.out).mono ?_
  rintro e u3 ⟨rfl, hb3⟩
  have J6 := zaa (zab J5.out hb3 J5.out.size)
  have L1c : Hid (RdE u3 _ us) := Rd.below L1b.out hb3
  have L2c : Hid (RdE u3 _ us) := Rd.below L2.out hb3
  clear hb3 x0 x1 LK L1b L2
  go_wp2_with fail
  refine (zgz _ _ us u3 L1c.out L2c.out (by omega)).mono ?_
  rintro e u4 ⟨rfl, hb4⟩
  have J7 := zaa (zab J6.out hb4 J6.out.size)
  have L1d : Hid (RdE u4 _ us) := Rd.below L1c.out hb4
  clear hb4 L1c L2c J4 J5 J6 J3
  have BF := zaa (zab B2.out J7.out B2.out.size)
  have u0 := ue.out
  subst u0
  go_wp2
  go_ret
  exact ⟨rfl, BF.out⟩
 ·obtain ⟨u16, a1, a2, a3, r1, i, ci, i1, i16, r2, r3⟩ := yark HI.out n1 n2 n3
  rw [n1] at PI PS
  rw [n4, ci] at LK
  simp only at PI PS LK
  have hil : i < ns.length := by have := L16.out; omega
  have KA : Hid (∀ w' vL, Below W2.heap.size W2 w' → RdE w' vL us → Calls Tryz.prog 13 #[.agg #[.slice f.a0 f.n0 f.c0, .slice f.a1 f.n1 f.c1], vL] w' fun e w2 => ∃ v', e = .returned (.tuple #[v', .int .i64 0]) ∧ RdPm w2 v' (zbe ws us) [] ∧ Below w'.heap.size w' w2) := fun w' vL hb hl => by
   have l := HI.out.wi.len
   have q := zeu _ vL ws [] us w' (RdPm.below PW.out hb) hl (by omega) (by simp) (by omega)
   rw [a1, a2, a3] at q
   refine q.mono ?_
   rintro e w2 ⟨v', rfl, r, hb2⟩
   exact ⟨v', rfl, r.rd, hb2⟩
  have KX : Hid (∀ w' vv, Below W2.heap.size W2 w' → RdPm w' vv (zbe ws us) [] → Calls Tryz.prog 7 #[vv] w' fun e w2 => ∃ v', e = .returned (.tuple #[v', .int .i64 0]) ∧ RdIm w2 v' (ns.set i (zbz (zal ns i))) (ds.set k freeD) ∧ Below w'.heap.size w' w2) := fun w' vv hb hr => by
   have l : (zbe ws us).length ≤ 1048576 := by rw [zdx, HI.out.wi.len]; omega
   have q := zef vv _ [] w' hr l (by simp) (GW.out.1.below hb) (GW.out.2.1.below hb) (GW.out.2.2.below hb)
   rw [r1, r2, r3] at q
   refine q.mono ?_
   rintro e w2 ⟨v', rfl, r, hb2⟩
   exact ⟨v', rfl, r.rd, hb2⟩
  have ul := u16
  have LB : Hid (0 ≤ ns[i].links ∧ ns[i].links ≤ 24) := by
   have q := (zcp (HI.out.wi.img.ok i i16)).2.2.1
   rw [zbn hil] at q
   exact q
  have NL : Hid ((ns.set i (zbz (zal ns i))).length = 16) := by unfold Hid; rw [List.length_set]; exact L16.out
  have NI : Hid (∀ h : i < (ns.set i (zbz (zal ns i))).length, (ns.set i (zbz (zal ns i)))[i] = zbz ns[i]) := fun h => by rw [List.getElem_set_self, zbn hil]
  clear HI PW GW IM n1 n2 n3 n4 a1 a2 a3 r1 r2 r3 L24
  generalize ns.set i (zbz (zal ns i)) = ns' at *
  generalize ds.set k freeD = ds' at *
  generalize zbe ws us = ws' at *
  obtain ⟨x0, x1, -, -⟩ := zac (MB.out _ J3.out)
  go_wp2_with fail
  refine (PI.out _ J3.out).mono ?_
  rintro e u1 ⟨v1, rfl, hr1, hb1⟩
  have J4 := zaa (zab J3.out hb1 J3.out.size)
  have L1 : Hid (RdE u1 v1 us) := hr1.rd
  obtain ⟨aL, cL, hv1, -, -⟩ := L1.out.shape
  subst hv1
  clear hr1 hb1 x0 x1 PI
  obtain ⟨x0, x1, -, -⟩ := zac (MB.out _ J4.out)
  go_wp2_with fail
  refine (PS.out _ J4.out).mono ?_
  rintro e u2 ⟨v2, rfl, hr2, hb2⟩
  have J5 := zaa (zab J4.out hb2 J4.out.size)
  have L2 : Hid (RdE u2 v2 us) := hr2.rd
  obtain ⟨aM, cM, hv2, -, -⟩ := L2.out.shape
  subst hv2
  have L1b : Hid (RdE u2 _ us) := Rd.below L1.out hb2
  clear hr2 hb2 x0 x1 PS L1
  obtain ⟨x0, x1, -, -⟩ := zac (MB.out _ J5.out)
  go_wp2_with fail
  refine (LK.out _ J5.out).mono ?_
  rintro e u3 ⟨rfl, hb3⟩
  have J6 := zaa (zab J5.out hb3 J5.out.size)
  have L1c : Hid (RdE u3 _ us) := Rd.below L1b.out hb3
  have L2c : Hid (RdE u3 _ us) := Rd.below L2.out hb3
  clear hb3 x0 x1 LK L1b L2
  go_wp2_with fail
  refine (zgz _ _ us u3 L1c.out L2c.out (by omega)).mono ?_
  rintro e u4 ⟨rfl, hb4⟩
  have J7 := zaa (zab J6.out hb4 J6.out.size)
  have L1d : Hid (RdE u4 _ us) := Rd.below L1c.out hb4
  clear hb4 L1c L2c J4 J5 J6 J3
  obtain ⟨y0, y1, y2, y3, -⟩ := zaq (MD.out _ J7.out)
  go_wp2_with fail
  refine (KA.out _ _ J7.out L1d.out).mono ?_
  rintro e u5 ⟨v5, rfl, hr5, hb5⟩
  have J8 := zaa (zab J7.out hb5 J7.out.size)
  have P5 := zaa hr5
  obtain ⟨vW5, vP5, rfl, p51, p52⟩ := hr5
  obtain ⟨-, g1, g2, hv51, -⟩ := p51
  obtain ⟨-, g3, g4, hv52, -⟩ := p52
  subst hv51
  subst hv52
  obtain ⟨W5, hW5⟩ : ∃ W5, W5 = u5.alloc (.cells #[.slice g1 ws'.length g2, .slice g3 ([] : List St).length g4] 26) := ⟨_, rfl⟩
  have A5 : Hid (Below u5.heap.size u5 W5) := by rw [hW5]; exact (Below.refl _ _).alloc (Nat.le_refl _) _
  have S5 : Hid (W5.heap[u5.heap.size]? = some (.cells #[.slice g1 ws'.length g2, .slice g3 ([] : List St).length g4] 26 (0, 0))) := by rw [hW5]; exact zah rfl
  have J9 := zaa (zab J8.out A5.out J8.out.size)
  have P5w := zaa (RdPm.below P5.out A5.out)
  simp only [List.length_nil] at hW5 S5 P5w
  clear hb5 y0 y1 y2 y3 J7 J8 P5 A5 KA L1d
  go_upto_region 14 with fail
  rw [← hW5]
  clear hW5
  obtain ⟨z0, z1, -, -⟩ := zac S5.out
  go_wp2_with fail
  refine (KX.out _ _ J9.out P5w.out).mono ?_
  rintro e u6 ⟨v6, rfl, hr6, hb6⟩
  have J10 := zaa (zab J9.out hb6 J9.out.size)
  obtain ⟨vI6, vD6, rfl, h61, h62⟩ := hr6
  obtain ⟨a6, k6, rfl, _, hc6⟩ := h61.shape
  obtain ⟨a7, k7, rfl, _, _⟩ := h62.shape
  obtain ⟨b6, o6, rfl, hbl6, hcell6⟩ := hc6 (by have := NL.out; omega)
  have hi6 : i < ns'.length := by have := NL.out; omega
  obtain ⟨e0, e1, e2, -⟩ := hcell6 i hi6
  rw [NI.out hi6] at e0 e1 e2
  obtain ⟨W6, hW6⟩ : ∃ W6, W6 = u6.alloc (.cells #[.slice (some ⟨b6, o6, none⟩) ns'.length k6, .slice a7 ds'.length k7] 42) := ⟨_, rfl⟩
  have A6 : Hid (Below u6.heap.size u6 W6) := by rw [hW6]; exact (Below.refl _ _).alloc (Nat.le_refl _) _
  have S6 : Hid (W6.heap[u6.heap.size]? = some (.cells #[.slice (some ⟨b6, o6, none⟩) ns'.length k6, .slice a7 ds'.length k7] 42 (0, 0))) := by rw [hW6]; exact zah rfl
  have J11 := zaa (zab J10.out A6.out J10.out.size)
  have f0 := (A6.out.cell (p := ⟨b6, o6 + i * 11, none⟩) hbl6).trans e0
  have f1 := (A6.out.cell (p := ⟨b6, o6 + i * 11 + 1, none⟩) hbl6).trans e1
  have f2 := (A6.out.cell (p := ⟨b6, o6 + i * 11 + 2, none⟩) hbl6).trans e2
  clear hb6 z0 z1 S5 J9 P5w KX hc6 hcell6 hbl6 h61 h62 e0 e1 e2 J10 A6
  go_upto_region 15 with fail
  rw [← hW6]
  clear hW6
  obtain ⟨x0, x1, -, -⟩ := zac (MB.out _ J11.out)
  obtain ⟨y0, y1, -, -⟩ := zac S6.out
  obtain ⟨h1, h2⟩ := HK.out i hil _ J11.out
  have k1 : ¬ (i : Int) < 1 := by omega
  have k2 : ¬ (i : Int) ≥ (ns'.length : Int) := by have := NL.out; omega
  have k3 : (0 : Int) ≤ (i : Int) := by omega
  have k4 : (i : Int) < (ns.length : Int) := by omega
  have k5 : (i : Int) < (ns'.length : Int) := by omega
  have BF := zaa (zab B2.out J11.out B2.out.size)
  have BN : Hid (∀ n, Below w.heap.size w (W6.drewN n)) := fun n => Below.drewN'' BF.out n
  generalize ns[i] = x at *
  clear NI NL HK MB MD J11 S6 i1 i16 hil hi6 L16
  by_cases lk : 1 < x.links
  ·have c1 : (1 : Int) < x.links := lk
   unfold zbz at f0 f1 f2
   rw [if_pos lk] at f0 f1 f2
   simp only at f0 f1 f2
   have lb := LB.out
   have g0 : IntKind.i64.wrap (x.links - 1) = x.links - 1 := by rw [IntKind.wrap_i64]; omega
   have g1 : decide (x.links - 1 = x.links - 1) = true := decide_eq_true rfl
   have g2 : (x.links - 1 == x.links - 1) = true := by simp
   have g3 : (x.size == x.size) = true := by simp
   go_wp2_with fail
   go_quiet (fail)
   go_wp2
   go_ret
   exact ⟨rfl, BN.out _⟩
  ·have c1 : ¬ (1 : Int) < x.links := lk
   unfold zbz at f0 f1 f2
   rw [if_neg lk] at f0 f1 f2
   go_wp2
   go_ret
   exact ⟨rfl, BF.out⟩
end Go.Proofs.YtpakbbdlhlkogaaGreatDoor
