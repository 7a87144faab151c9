/- Several texts laid together: LawImage, OpenI. -/
import Derived.Test.YtbbmljakfbhnpaaGreatDoorZBL
import Derived.Test.YtbbmljakfbhnpaaGreatDoorZBX
import Derived.Test.YtbbmljakfbhnpaaGreatDoorNdB
import Derived.Test.YtbbmljakfbhnpaaGreatDoorZAK
import Derived.Deep.RegionHeld3
import Derived.Test.YtbbmljakfbhnpaaGreatDoorZAD
import Derived.Test.YtbbmljakfbhnpaaGreatDoorZAF
import Derived.Test.YtbbmljakfbhnpaaGreatDoorZAG
import Derived.Test.YtbbmljakfbhnpaaGreatDoorZAX
import Derived.Lib.LaidTab
import Derived.Lib.SmallJoins
namespace Go.Proofs.YtbbmljakfbhnpaaGreatDoor
open Go.RowKit

theorem Outside.drewO {lo hi : Nat} {a w : World} (h : Outside lo hi a w) : Outside lo hi a w.drew := Outside.drewN h 1
theorem ImI.drewI {g pb cap : Nat} {W wr : World} {ls : List Int} (h : ImI g pb cap W ls wr) : ImI g pb cap W ls wr.drew := h.below ((Below.refl _ _).drew)
set_option maxRecDepth 100000 in
set_option maxHeartbeats 64000000 in
theorem zwr (vA vB : Value) (cs ms : List Int) (w : World) (hA : RdB w vA cs) (hB : RdB w vB ms) (hT : TS w) (hE : ED w) (hF : FD w) :
  Calls Tryz.prog 3 #[vA, vB] w fun e w' => e = .returned (.bool true) ∧ Below w.heap.size w w' := by
 obtain ⟨aA, cA, rfl, _⟩ := hA.shape
 obtain ⟨aB, cB, rfl, _⟩ := hB.shape
 have HA := zaa hA
 have GT := zaa (And.intro hT (And.intro hE hF))
 clear hA hB hT hE hF
 by_cases c1 : 1048576 < cs.length
 ·go_enter Tryz.func3, Tryz.ntmps3
  go_wp2
  go_ret
  exact ⟨rfl, Below.refl _ _⟩
 by_cases c2 : 1048576 < ms.length
 ·go_enter Tryz.func3, Tryz.ntmps3
  go_wp2
  go_ret
  exact ⟨rfl, Below.refl _ _⟩
 go_enter Tryz.func3, Tryz.ntmps3
 go_wp2_with fail
 refine (zwl _ cs w HA.out (by omega)).mono ?_
 rintro e w1 ⟨v1, ws, es, ns, ds, rfl, hi, hr1, hb1⟩
 have R1 := zaa hr1
 have HI := zaa hi
 have IM := zaa hi.img
 have IMG := zaa hi.wi.img
 have L16 := zaa hi.wi.img.l16
 have L24 := zaa hi.wi.img.l24
 obtain ⟨vI, vD, rfl, h1, h2⟩ := hr1
 obtain ⟨aW, cW, rfl, _, hcW⟩ := h1.shape
 obtain ⟨aP, cP, rfl, _, hcP⟩ := h2.shape
 obtain ⟨bW, oW, rfl, hblW, hcellW⟩ := hcW (by have := L16.out; omega)
 obtain ⟨bP, oP, rfl, hblP, hcellP⟩ := hcP (by have := L24.out; omega)
 obtain ⟨W1, hW1⟩ : ∃ W1, W1 = w1.alloc (.cells #[.slice (some ⟨bW, oW, none⟩) ns.length cW, .slice (some ⟨bP, oP, none⟩) ds.length cP] 26) := ⟨_, rfl⟩
 have A1 : Hid (Below w1.heap.size w1 W1) := by rw [hW1]; exact (Below.refl _ _).alloc (Nat.le_refl _) _
 have B1 := zaa (zab hb1 A1.out hb1.size)
 have M1 : Hid (W1.heap[w1.heap.size]? = some (.cells #[.slice (some ⟨bW, oW, none⟩) ns.length cW, .slice (some ⟨bP, oP, none⟩) ds.length cP] 26 (0, 0))) := by rw [hW1]; exact zag rfl
 have GR := zaa (idle_RG hi)
 go_upto_region 4 with fail
 rw [← hW1]
 clear hW1 c1 c2
 obtain ⟨mb, hmb⟩ : ∃ mb, mb = w1.heap.size := ⟨_, rfl⟩
 rw [← hmb] at M1
 rw [← hmb]
 clear hmb
 go_wp2_with fail
 refine (zjf W1 (GT.out.1.below B1.out) (GT.out.2.1.below B1.out)).mono ?_
 rintro e u2 ⟨v2, rfl, hr2, hb2⟩
 have RD2 := zaa hr2.rd
 obtain ⟨d1, d2, d3, d4, d5, d6, d7, d8, rfl, -, -⟩ := hr2.rd.form
 obtain ⟨W2, hW2⟩ : ∃ W2, W2 = u2.alloc (.cells #[.slice d1 ndW.length d2, .slice d3 0 d4, .slice d5 zs32.length d6, .slice d7 0 d8] 36) := ⟨_, rfl⟩
 have A2 : Hid (Below u2.heap.size u2 W2) := by rw [hW2]; exact (Below.refl _ _).alloc (Nat.le_refl _) _
 have D2 : Hid (W2.heap[u2.heap.size]? = some (.cells #[.slice d1 ndW.length d2, .slice d3 0 d4, .slice d5 zs32.length d6, .slice d7 0 d8] 36 (0, 0))) := by rw [hW2]; exact zag rfl
 have H2 := zaa (zab hb2 A2.out hb2.size)
 have B2 := zaa (zab B1.out H2.out B1.out.size)
 have G2 := zaa (zab A1.out H2.out A1.out.size)
 have RI := zaa (R1.out.below G2.out)
 have RW2 := zaa (RD2.out.below A2.out)
 have GW : Hid (TS W2 ∧ ED W2 ∧ FD W2) := ⟨GT.out.1.below B2.out, GT.out.2.1.below B2.out, GT.out.2.2.below B2.out⟩
 have MB : Hid (∀ w', Below W2.heap.size W2 w' → w'.heap[mb]? = some (.cells #[.slice (some ⟨bW, oW, none⟩) ns.length cW, .slice (some ⟨bP, oP, none⟩) ds.length cP] 26 (0, 0))) := fun w' hb => by
  have e1 := zjc M1.out H2.out (zoo M1.out)
  exact zjc e1 hb (zoo e1)
 have CI : Hid (∀ k (h : k < ns.length) w', Below W2.heap.size W2 w' → w'.cell? ⟨bW, oW + k * 11, none⟩ = some (.int .i64 ns[k].kind) ∧ w'.cell? ⟨bW, oW + k * 11 + 1, none⟩ = some (.int .i64 ns[k].size) ∧ w'.cell? ⟨bW, oW + k * 11 + 2, none⟩ = some (.int .i64 ns[k].links) ∧ w'.cell? ⟨bW, oW + k * 11 + 3, none⟩ = some (.int .i64 ns[k].m0) ∧ w'.cell? ⟨bW, oW + k * 11 + 4, none⟩ = some (.int .i64 ns[k].m1) ∧ w'.cell? ⟨bW, oW + k * 11 + 5, none⟩ = some (.int .i64 ns[k].m2) ∧ w'.cell? ⟨bW, oW + k * 11 + 6, none⟩ = some (.int .i64 ns[k].m3) ∧ w'.cell? ⟨bW, oW + k * 11 + 7, none⟩ = some (.int .i64 ns[k].m4) ∧ w'.cell? ⟨bW, oW + k * 11 + 8, none⟩ = some (.int .i64 ns[k].m5) ∧ w'.cell? ⟨bW, oW + k * 11 + 9, none⟩ = some (.int .i64 ns[k].m6) ∧ w'.cell? ⟨bW, oW + k * 11 + 10, none⟩ = some (.int .i64 ns[k].m7)) := fun k h w' hb' => by
  have hb : Below w1.heap.size w1 w' := zab G2.out hb' G2.out.size
  obtain ⟨p0, p1, p2, p3, p4, p5, p6, p7, p8, p9, p10⟩ := hcellW k h
  exact ⟨(hb.cell (p := ⟨bW, oW + k * 11, none⟩) hblW).trans p0, (hb.cell (p := ⟨bW, oW + k * 11 + 1, none⟩) hblW).trans p1, (hb.cell (p := ⟨bW, oW + k * 11 + 2, none⟩) hblW).trans p2, (hb.cell (p := ⟨bW, oW + k * 11 + 3, none⟩) hblW).trans p3, (hb.cell (p := ⟨bW, oW + k * 11 + 4, none⟩) hblW).trans p4, (hb.cell (p := ⟨bW, oW + k * 11 + 5, none⟩) hblW).trans p5, (hb.cell (p := ⟨bW, oW + k * 11 + 6, none⟩) hblW).trans p6, (hb.cell (p := ⟨bW, oW + k * 11 + 7, none⟩) hblW).trans p7, (hb.cell (p := ⟨bW, oW + k * 11 + 8, none⟩) hblW).trans p8, (hb.cell (p := ⟨bW, oW + k * 11 + 9, none⟩) hblW).trans p9, (hb.cell (p := ⟨bW, oW + k * 11 + 10, none⟩) hblW).trans p10⟩
 have CD : Hid (∀ k (h : k < ds.length) w', Below W2.heap.size W2 w' → w'.cell? ⟨bP, oP + k * 3, none⟩ = some (.int .i64 ds[k].dir) ∧ w'.cell? ⟨bP, oP + k * 3 + 1, none⟩ = some (.string ds[k].name) ∧ w'.cell? ⟨bP, oP + k * 3 + 2, none⟩ = some (.int .i64 ds[k].child)) := fun k h w' hb' => by
  have hb : Below w1.heap.size w1 w' := zab G2.out hb' G2.out.size
  obtain ⟨p0, p1, p2⟩ := hcellP k h
  exact ⟨(hb.cell (p := ⟨bP, oP + k * 3, none⟩) hblP).trans p0, (hb.cell (p := ⟨bP, oP + k * 3 + 1, none⟩) hblP).trans p1, (hb.cell (p := ⟨bP, oP + k * 3 + 2, none⟩) hblP).trans p2⟩
 have WR : Hid (RdI W2 (.slice d1 ndW.length d2) ndW) := by
  obtain ⟨e1, e2, e3, e4, e5, e6, e7, e8, ev, q, -⟩ := RW2.out.form
  simp only [Value.agg.injEq, Array.mk.injEq, List.cons.injEq, and_true] at ev
  obtain ⟨f1, -, -, -⟩ := ev
  obtain ⟨qW, qP, eq, q1, -⟩ := q
  simp only [Value.agg.injEq, Array.mk.injEq, List.cons.injEq, and_true] at eq
  rw [f1, eq.1]
  exact q1
 clear hi h1 h2 hcW hcP hcellW hcellP hblW hblP hb1 R1 HA GT hr2 hb2 RD2 RW2 M1 A1 G2 H2 A2
 go_upto_region 5 with fail
 rw [← hW2]
 clear hW2
 have HO : Hid ((W2.alloc (.cells #[] 3)).ownsRow W2.heap.size 3 1 (.slice (some ⟨W2.heap.size, 0, none⟩) 0 0) 0 []) := by
  unfold Hid; simpa using World.ownsRow_lit (base := W2.heap.size) (e := 3) (size := 1) W2 #[] 0 (by simp) (by simp) rfl
 have XA := zaa (zaj (o := .cells #[] 3) D2.out)
 obtain ⟨y0, y1, y2, y3, -⟩ := zan XA.out
 have SR := zaa (Rd.below WR.out ((Below.refl _ _).alloc (Nat.le_refl _) (.cells #[] 3)))
 have n336 : ndW.length ≤ 336 := Nat.le_of_eq zjw
 go_wp2_with (at_builtin; refine zae _ rfl (.tmp 33) (.tmp 36) 28 rfl W2.heap.size 3 (.int .i64 0) 1 8 Tryz.underlying28 zjk rfl (by decide) _ 0 [] rfl HO.out _ ndW.length (zco ndW) rfl SR.out (zev ndW) (by first | omega | (simp [maxLen]; omega)) (by first | omega | (simp; omega)) (by simp) ?_)
 intro vv w3 hown0 hgr
 have hown : w3.ownsRow W2.heap.size 3 1 vv 336 (zco ndW) := by
  rw [zjw] at hown0
  exact hown0
 obtain ⟨g, cap, WG, WL, evv, hrow⟩ : ∃ g cap, W2.heap.size ≤ g ∧ g < w3.heap.size ∧ vv = .slice (some ⟨g, 0, none⟩) 336 cap ∧ Row w3 3 1 g (g + 1) vv 336 (zco ndW) := by
  have hr := zac hown
  rcases hown.2 with ⟨-, q⟩ | ⟨g, cap, cur, q, q1, q2, -⟩
  ·cases q
  ·subst q
   exact ⟨g, cap, q1, (hr.at).2.2.2.1, rfl, hr.narrow⟩
 subst evv
 have B3 : Hid (Below W2.heap.size W2 w3) := ((Below.refl _ _).alloc (Nat.le_refl _) _).grown hgr (by simp) (fun k hk => by simp [Value.ownBlock] at hk; omega)
 have R3 := zaa hrow
 obtain ⟨W3, hW3⟩ : ∃ W3, W3 = w3.alloc (.cells #[.slice (some ⟨g, 0, none⟩) 336 cap, .slice none 0 0] 31) := ⟨_, rfl⟩
 have hb3 : Below w3.heap.size w3 W3 := by rw [hW3]; exact (Below.refl _ _).alloc (Nat.le_refl _) _
 obtain ⟨pb, hpb⟩ : ∃ pb, pb = w3.heap.size := ⟨_, rfl⟩
 have PG : g < pb := by omega
 have JS : Hid (ImI g pb cap W2 (zet ndW ns 0) W3) := ⟨zab B3.out hb3 B3.out.size, R3.out.below hb3 (by omega), by rw [hW3, hpb]; exact zag rfl⟩
 clear hown hown0 hgr hrow y0 y1 y2 y3 XA HO SR WR D2 B3 R3 hb3 WL n336
 go_upto_region 6 with fail
 rw [← hW3, ← hpb]
 clear hW3 hpb
 obtain ⟨p0, p1, -, -⟩ := zad JS.out.2.2
 obtain ⟨x0, x1, -, -⟩ := zad (MB.out _ JS.out.1)
 have KO := zaa (zgk _ ns ds W3 (RI.out.below JS.out.1) (by have := L16.out; omega) (by have := L24.out; omega) (GW.out.1.below JS.out.1) (GW.out.2.1.below JS.out.1) (GW.out.2.2.below JS.out.1) GR.out.1 GR.out.2)
 rw [IM.out] at KO
 go_wp2_with fail
 refine KO.out.mono ?_
 rintro e w4 ⟨rfl, hb4⟩
 replace JS := zaa (JS.out.below hb4)
 clear hb4 KO p0 p1 x0 x1 IM
 go_wp2_with fail
 go_loopw [8] (fun vi wr => ∃ i : Nat, i ≤ 16 ∧ vi = .int .i64 (i : Int) ∧ Hid (ImI g pb cap W2 (zet ndW ns i) wr)) (fun vi _ => 16 - (intOf vi).toNat)
 case atStart => exact ⟨0, Nat.zero_le _, rfl, JS⟩
 case round =>
  obtain ⟨i, hi, rfl, J0⟩ := hrel
  rename World => wr
  obtain ⟨x0, x1, -, -⟩ := zad (MB.out _ J0.out.1)
  by_cases ci : i < 16
  case neg =>
   have ck : ¬ (i : Int) < (ns.length : Int) := by have := L16.out; omega
   have ei : i = 16 := by omega
   rw [ei] at J0
   clear ei
   have JD : Hid (ImI g pb cap W2 (zgp (zet ndW ns 16) ds 0) wr) := J0
   clear CI J0
   go_wp2_with fail
   clear x0 x1 ck hi ci
   go_loopw [14] (fun vi wr => ∃ i : Nat, i ≤ 24 ∧ vi = .int .i64 (i : Int) ∧ Hid (ImI g pb cap W2 (zgp (zet ndW ns 16) ds i) wr)) (fun vi _ => 24 - (intOf vi).toNat)
   case atStart => exact ⟨0, Nat.zero_le _, rfl, JD⟩
   case round =>
    obtain ⟨i, hi, rfl, J0⟩ := hrel
    rename World => wr
    obtain ⟨x0, x1, -, -⟩ := zad (MB.out _ J0.out.1)
    by_cases ci : i < 24
    case neg =>
     have ck : ¬ (i : Int) < (ds.length : Int) := by have := L24.out; omega
     have ei : i = 24 := by omega
     rw [ei] at J0
     clear ei
     have FR := zaa (fill_read HI.out)
     have RP : Hid (∀ w', Below wr.heap.size wr w' → RdPm w' (.agg #[.slice (some ⟨g, 0, none⟩) 336 cap, .slice none 0 0]) (zgp (zet ndW ns 16) ds 24) []) := fun w' hb => by
      have r := (J0.out.below hb).2.1.rd
      refine ⟨_, _, rfl, ?_, (Row.nil w' 136 3 0 0).rd⟩
      unfold RdI
      rw [FR.out.1]
      exact r
     obtain ⟨FC, FN, FDd⟩ := FR.out.2
     have KR : Hid (Calls Tryz.prog 14 #[.agg #[.slice (some ⟨g, 0, none⟩) 336 cap, .slice none 0 0]] wr fun e w' => ∃ v', e = .returned (.tuple #[v', .int .i64 0]) ∧ RdIm w' v' ns ds ∧ Below wr.heap.size wr w') := by
      have q := zjr _ _ [] wr (RP.out wr (Below.refl _ _)) (by rw [FR.out.1]; omega) (by simp) (GW.out.1.below J0.out.1) (GW.out.2.1.below J0.out.1) (GW.out.2.2.below J0.out.1)
      rw [FC, FN, FDd] at q
      refine q.mono ?_
      rintro e w' ⟨v', rfl, r, hb⟩
      exact ⟨v', rfl, r.rd, hb⟩
     obtain ⟨p0, p1, -, -⟩ := zad J0.out.2.2
     clear FC FN FDd FR RP CD
     go_wp2_with fail
     clear x0 x1
     refine KR.out.mono ?_
     rintro e u1 ⟨v1, rfl, hr1, hb1⟩
     have R1 := zaa hr1
     have J1 := zaa (zab J0.out.1 hb1 J0.out.1.size)
     obtain ⟨vI1, vD1, rfl, h11, h12⟩ := hr1
     obtain ⟨-, g1, g2, hv11, -⟩ := h11
     obtain ⟨-, g3, g4, hv12, -⟩ := h12
     subst hv11
     subst hv12
     obtain ⟨W4, hW4⟩ : ∃ W4, W4 = u1.alloc (.cells #[.slice g1 ns.length g2, .slice g3 ds.length g4] 26) := ⟨_, rfl⟩
     have A4 : Hid (Below u1.heap.size u1 W4) := by rw [hW4]; exact (Below.refl _ _).alloc (Nat.le_refl _) _
     have S4 : Hid (W4.heap[u1.heap.size]? = some (.cells #[.slice g1 ns.length g2, .slice g3 ds.length g4] 26 (0, 0))) := by rw [hW4]; exact zag rfl
     have J4 := zaa (zab J1.out A4.out J1.out.size)
     have R4 := zaa (R1.out.below A4.out)
     clear hb1 KR p0 p1 R1 J0 J1 A4
     go_upto_region 31 with fail
     rw [← hW4]
     clear hW4
     obtain ⟨x0, x1, -, -⟩ := zad (MB.out _ J4.out)
     obtain ⟨y0, y1, -, -⟩ := zad S4.out
     go_wp2_with fail
     refine (zok _ _ ns ds W4 R4.out (RI.out.below J4.out) (by have := L16.out; omega) (by have := L24.out; omega)).mono ?_
     rintro e u5 ⟨rfl, hb5⟩
     have BG := zaa (zab B2.out (zab J4.out hb5 J4.out.size) B2.out.size)
     clear hb5
     go_wp2
     go_ret
     exact ⟨rfl, BG.out⟩
    have hl : i < ds.length := by have := L24.out; omega
    have ck : (i : Int) < (ds.length : Int) := by omega
    have ck0 : (0 : Int) ≤ (i : Int) := by omega
    obtain ⟨eC, eL⟩ := du_yes IMG.out ci hl
    obtain ⟨l, el⟩ : ∃ l, l = enL (i : Int) (zaq ds i) := ⟨_, rfl⟩
    rw [← el] at eL
    have AT : Hid (∀ k (h : k < l.length), 0 ≤ l[k].at_ ∧ l[k].at_ < 336) := fun k h => enL_at ci _ _ (by rw [← el]; exact List.getElem_mem h)
    have NX : Hid (zbx (zgp (zet ndW ns 16) ds i) l = zgp (zet ndW ns 16) ds (i + 1)) := by rw [el]; rfl
    have l12 : l.length ≤ 12 := by rw [el]; simp [enL]
    have K1 := zaa (fun w' (hb : Below W2.heap.size W2 w') => zgl (i : Int) ds[i] w' (GW.out.2.2.below hb) (GR.out.2 i hl))
    have K2 := zaa (fun w' : World => zgw (i : Int) ds[i] w' (GR.out.2 i hl))
    rw [eC, eL] at K1 K2
    obtain ⟨c0, c1, c2⟩ := CD.out i hl _ J0.out.1
    clear eC eL el
    go_wp2_with fail
    refine (K1.out _ J0.out.1).mono ?_
    rintro e u1 ⟨v1, rfl, hr1, hb1⟩
    have J1 := zaa (J0.out.below hb1)
    have z0 := J0.out.2.1.at
    have zp := zoo J0.out.2.2
    have RU1 : Hid (RdE u1 v1 l) := hr1.rd
    obtain ⟨aL, cL, hv1, -, hcL⟩ := RU1.out.shape
    subst hv1
    have UB : Hid (∀ b o, aL = some ⟨b, o, none⟩ → wr.heap.size ≤ b) := fun b o e => (hr1.1.lt b (by rw [e]; rfl)).1
    clear hr1 hb1 x0 x1 c0 c1 c2 K1 hcL
    obtain ⟨x0, x1, -, -⟩ := zad (MB.out _ J1.out.1)
    obtain ⟨c0, c1, c2⟩ := CD.out i hl _ J1.out.1
    go_wp2_with fail
    refine (K2.out u1).mono ?_
    rintro e u2 ⟨v2, rfl, hr2, hb2⟩
    have J2 := zaa (J1.out.below hb2)
    have RU2 : Hid (RdE u2 v2 l) := hr2.rd
    have RV2 : Hid (RdE u2 _ l) := Rd.below RU1.out hb2
    obtain ⟨aM, cM, hv2, -, -⟩ := RU2.out.shape
    subst hv2
    clear hr2 hb2 x0 x1 c0 c1 c2 K2 RU1
    go_wp2_with fail
    refine (zgg _ _ l u2 RV2.out RU2.out (by omega)).mono ?_
    rintro e u3 ⟨rfl, hb3⟩
    have J3 := zaa (J2.out.below hb3)
    have RU3 : Hid (RdE u3 _ l) := Rd.below RV2.out hb3
    have LC : Hid (∀ k (h : k < l.length), ∃ b o, aL = some ⟨b, o, none⟩ ∧ ∀ w', Outside g (g + 1) u3 w' → w'.cell? ⟨b, o + k * 2, none⟩ = some (.int .i64 l[k].at_) ∧ w'.cell? ⟨b, o + k * 2 + 1, none⟩ = some (.int .i64 l[k].val)) := fun k h => by
     obtain ⟨ao, cp, eq, -, hc⟩ := RU3.out.shape
     cases eq
     obtain ⟨b, o, e1, hbl, q⟩ := hc (by omega)
     obtain ⟨q0, q1⟩ := q k h
     have hge := UB.out b o e1
     refine ⟨b, o, e1, fun w' ho => ?_⟩
     have hbk := ho.block b hbl (by omega)
     exact ⟨(World.cell?_of_block (a := ⟨b, o + k * 2, none⟩) hbk).trans q0, (World.cell?_of_block (a := ⟨b, o + k * 2 + 1, none⟩) hbk).trans q1⟩
    clear hb3 RV2 RU2 RU3 UB z0 zp
    generalize hLS : zgp (zet ndW ns 16) ds i = LS at *
    clear hLS J0 J1 J2
    go_wp2_with fail
    go_loopw [19] (fun vk wy => ∃ k : Nat, k ≤ l.length ∧ vk = .int .i64 (k : Int) ∧ Hid (ImI g pb cap W2 (zbx LS (l.take k)) wy ∧ Outside g (g + 1) u3 wy)) (fun vk _ => l.length - (intOf vk).toNat)
    case atStart => exact ⟨0, Nat.zero_le _, rfl, J3.out, Outside.refl _ _ _⟩
    case round =>
     obtain ⟨k, hk, rfl, JY⟩ := hrel
     rename World => wy
     by_cases cj : k < l.length
     case neg =>
      have cj' : ¬ (k : Int) < (l.length : Int) := by omega
      have J9 := JY.out.1
      rw [show k = l.length by omega, upd_all, NX.out] at J9
      have J8 := zaa J9
      clear J9
      go_wp2
      go_roundw
      case rel => exact ⟨i + 1, by omega, by go_num, J8⟩
      case measure => first | (simp [intOf]; done) | (simp [intOf]; omega)
     have cj' : (k : Int) < (l.length : Int) := by omega
     have j0 : (0 : Int) ≤ (k : Int) := by omega
     obtain ⟨bU, oU, rfl, hc⟩ := LC.out k cj
     obtain ⟨a0, a1⟩ := AT.out k cj
     have UT := zaa (upd_take LS cj)
     obtain ⟨zn, ez⟩ : ∃ zn : Nat, l[k].at_ = (zn : Int) := ⟨l[k].at_.toNat, by omega⟩
     have zlt : zn < 336 := by omega
     rw [ez] at hc UT
     rw [Int.toNat_natCast] at UT
     have JP := zaa (fun u : Int => JY.out.1.put WG PG zn u)
     have RW := JY.out.1.2.1.at
     obtain ⟨-, -, -, -, fz, cz⟩ := RW
     have f0 := fz zn
     have c0 := cz zn (by omega)
     obtain ⟨zo, ezo⟩ : ∃ zo : Int, (zco (zbx LS (l.take k)))[zn]? = some (.int .i64 zo) := by
      have ln : zn < (zbx LS (l.take k)).length := by rw [← zda, JY.out.1.2.1.len]; omega
      unfold zco
      rw [List.getElem?_map, List.getElem?_eq_getElem ln]
      exact ⟨_, rfl⟩
     rw [ezo] at c0
     have KE : Hid (∀ w', Outside g (g + 1) wy w' → w'.cell? ⟨pb, 0, none⟩ = some (.slice (some ⟨g, 0, none⟩) 336 cap) ∧ w'.cell? ⟨bU, oU + k * 2, none⟩ = some (.int .i64 (zn : Int)) ∧ w'.cell? ⟨bU, oU + k * 2 + 1, none⟩ = some (.int .i64 l[k].val)) := fun w' ho => by
      have e1 := (ho.block pb (zoo JY.out.1.2.2) (by omega)).trans JY.out.1.2.2
      exact ⟨(zad e1).1, (hc w' (JY.out.2.trans ho)).1, (hc w' (JY.out.2.trans ho)).2⟩
     have OY := zaa (fun u : Int => JY.out.2.setCell (a := ⟨g, zn, none⟩) (Nat.le_refl _) (Nat.lt_succ_self _) (.int .i64 u))
     generalize l[k].val = zv at *
     have zi : (zn : Int) < 336 := by omega
     have zi0 : (0 : Int) ≤ (zn : Int) := by omega
     have QY := zaa (And.intro (JP.out zv) (OY.out zv))
     rw [← UT.out] at QY
     obtain ⟨r0, r1, r2⟩ := KE.out _ (Outside.refl _ _ _)
     clear hc fz cz ezo ez JP OY UT JY LC AT a0 a1
     go_wp2_with fail
     go_region_held3 (fun w' => w'.cell? ⟨pb, 0, none⟩ = some (.slice (some ⟨g, 0, none⟩) 336 cap) ∧ w'.cell? ⟨bU, oU + k * 2, none⟩ = some (.int .i64 (zn : Int)) ∧ w'.cell? ⟨bU, oU + k * 2 + 1, none⟩ = some (.int .i64 zv))
      (exact KE.out _ (by repeat (first | with_reducible exact Outside.refl _ _ _ | with_reducible refine Outside.drewO ?_ | with_reducible refine Outside.setCell ?_ (by exact Nat.le_refl _) (by exact Nat.lt_succ_self _) _)))
      (fail)
     all_goals
      go_wp2
      go_roundw
      case rel => exact ⟨k + 1, by omega, by go_num, ⟨QY.out.1.drewI, QY.out.2.drewO⟩⟩
      case measure => first | (simp [intOf]; done) | (simp [intOf]; omega)
  have hl : i < ns.length := by have := L16.out; omega
  have ck : (i : Int) < (ns.length : Int) := by omega
  have ck0 : (0 : Int) ≤ (i : Int) := by omega
  obtain ⟨eC, eL⟩ := iu_yes IMG.out ci hl
  obtain ⟨l, el⟩ : ∃ l, l = wrL (i : Int) (zal ns i) 8 := ⟨_, rfl⟩
  rw [← el] at eL
  have AT : Hid (∀ k (h : k < l.length), 0 ≤ l[k].at_ ∧ l[k].at_ < 336) := fun k h => wrL_at ci _ _ (by rw [← el]; exact List.getElem_mem h)
  have NX : Hid (zbx (zet ndW ns i) l = zet ndW ns (i + 1)) := by rw [el]; rfl
  have l12 : l.length ≤ 12 := by rw [el]; simp [zob]
  have K1 := zaa (fun w' (hb : Below W2.heap.size W2 w') => zec (i : Int) ns[i] w' (GW.out.1.below hb) (GW.out.2.1.below hb) (GR.out.1 i hl))
  have K2 := zaa (fun w' : World => zhe (i : Int) ns[i] w' (GR.out.1 i hl))
  rw [eC, eL] at K1 K2
  obtain ⟨c0, c1, c2, c3, c4, c5, c6, c7, c8, c9, c10⟩ := CI.out i hl _ J0.out.1
  clear eC eL el
  go_wp2_with fail
  refine (K1.out _ J0.out.1).mono ?_
  rintro e u1 ⟨v1, rfl, hr1, hb1⟩
  have J1 := zaa (J0.out.below hb1)
  have z0 := J0.out.2.1.at
  have zp := zoo J0.out.2.2
  have RU1 : Hid (RdE u1 v1 l) := hr1.rd
  obtain ⟨aL, cL, hv1, -, hcL⟩ := RU1.out.shape
  subst hv1
  have UB : Hid (∀ b o, aL = some ⟨b, o, none⟩ → wr.heap.size ≤ b) := fun b o e => (hr1.1.lt b (by rw [e]; rfl)).1
  clear hr1 hb1 x0 x1 c0 c1 c2 c3 c4 c5 c6 c7 c8 c9 c10 K1 hcL
  obtain ⟨x0, x1, -, -⟩ := zad (MB.out _ J1.out.1)
  obtain ⟨c0, c1, c2, c3, c4, c5, c6, c7, c8, c9, c10⟩ := CI.out i hl _ J1.out.1
  go_wp2_with fail
  refine (K2.out u1).mono ?_
  rintro e u2 ⟨v2, rfl, hr2, hb2⟩
  have J2 := zaa (J1.out.below hb2)
  have RU2 : Hid (RdE u2 v2 l) := hr2.rd
  have RV2 : Hid (RdE u2 _ l) := Rd.below RU1.out hb2
  obtain ⟨aM, cM, hv2, -, -⟩ := RU2.out.shape
  subst hv2
  clear hr2 hb2 x0 x1 c0 c1 c2 c3 c4 c5 c6 c7 c8 c9 c10 K2 RU1
  go_wp2_with fail
  refine (zgg _ _ l u2 RV2.out RU2.out (by omega)).mono ?_
  rintro e u3 ⟨rfl, hb3⟩
  have J3 := zaa (J2.out.below hb3)
  have RU3 : Hid (RdE u3 _ l) := Rd.below RV2.out hb3
  have LC : Hid (∀ k (h : k < l.length), ∃ b o, aL = some ⟨b, o, none⟩ ∧ ∀ w', Outside g (g + 1) u3 w' → w'.cell? ⟨b, o + k * 2, none⟩ = some (.int .i64 l[k].at_) ∧ w'.cell? ⟨b, o + k * 2 + 1, none⟩ = some (.int .i64 l[k].val)) := fun k h => by
   obtain ⟨ao, cp, eq, -, hc⟩ := RU3.out.shape
   cases eq
   obtain ⟨b, o, e1, hbl, q⟩ := hc (by omega)
   obtain ⟨q0, q1⟩ := q k h
   have hge := UB.out b o e1
   refine ⟨b, o, e1, fun w' ho => ?_⟩
   have hbk := ho.block b hbl (by omega)
   exact ⟨(World.cell?_of_block (a := ⟨b, o + k * 2, none⟩) hbk).trans q0, (World.cell?_of_block (a := ⟨b, o + k * 2 + 1, none⟩) hbk).trans q1⟩
  clear hb3 RV2 RU2 RU3 UB z0 zp
  generalize hLS : zet ndW ns i = LS at *
  clear hLS J0 J1 J2
  go_wp2_with fail
  go_loopw [13] (fun vk wy => ∃ k : Nat, k ≤ l.length ∧ vk = .int .i64 (k : Int) ∧ Hid (ImI g pb cap W2 (zbx LS (l.take k)) wy ∧ Outside g (g + 1) u3 wy)) (fun vk _ => l.length - (intOf vk).toNat)
  case atStart => exact ⟨0, Nat.zero_le _, rfl, J3.out, Outside.refl _ _ _⟩
  case round =>
   obtain ⟨k, hk, rfl, JY⟩ := hrel
   rename World => wy
   by_cases cj : k < l.length
   case neg =>
    have cj' : ¬ (k : Int) < (l.length : Int) := by omega
    have J9 := JY.out.1
    rw [show k = l.length by omega, upd_all, NX.out] at J9
    have J8 := zaa J9
    clear J9
    go_wp2
    go_roundw
    case rel => exact ⟨i + 1, by omega, by go_num, J8⟩
    case measure => first | (simp [intOf]; done) | (simp [intOf]; omega)
   have cj' : (k : Int) < (l.length : Int) := by omega
   have j0 : (0 : Int) ≤ (k : Int) := by omega
   obtain ⟨bU, oU, rfl, hc⟩ := LC.out k cj
   obtain ⟨a0, a1⟩ := AT.out k cj
   have UT := zaa (upd_take LS cj)
   obtain ⟨zn, ez⟩ : ∃ zn : Nat, l[k].at_ = (zn : Int) := ⟨l[k].at_.toNat, by omega⟩
   have zlt : zn < 336 := by omega
   rw [ez] at hc UT
   rw [Int.toNat_natCast] at UT
   have JP := zaa (fun u : Int => JY.out.1.put WG PG zn u)
   have RW := JY.out.1.2.1.at
   obtain ⟨-, -, -, -, fz, cz⟩ := RW
   have f0 := fz zn
   have c0 := cz zn (by omega)
   obtain ⟨zo, ezo⟩ : ∃ zo : Int, (zco (zbx LS (l.take k)))[zn]? = some (.int .i64 zo) := by
    have ln : zn < (zbx LS (l.take k)).length := by rw [← zda, JY.out.1.2.1.len]; omega
    unfold zco
    rw [List.getElem?_map, List.getElem?_eq_getElem ln]
    exact ⟨_, rfl⟩
   rw [ezo] at c0
   have KE : Hid (∀ w', Outside g (g + 1) wy w' → w'.cell? ⟨pb, 0, none⟩ = some (.slice (some ⟨g, 0, none⟩) 336 cap) ∧ w'.cell? ⟨bU, oU + k * 2, none⟩ = some (.int .i64 (zn : Int)) ∧ w'.cell? ⟨bU, oU + k * 2 + 1, none⟩ = some (.int .i64 l[k].val)) := fun w' ho => by
    have e1 := (ho.block pb (zoo JY.out.1.2.2) (by omega)).trans JY.out.1.2.2
    exact ⟨(zad e1).1, (hc w' (JY.out.2.trans ho)).1, (hc w' (JY.out.2.trans ho)).2⟩
   have OY := zaa (fun u : Int => JY.out.2.setCell (a := ⟨g, zn, none⟩) (Nat.le_refl _) (Nat.lt_succ_self _) (.int .i64 u))
   generalize l[k].val = zv at *
   have zi : (zn : Int) < 336 := by omega
   have zi0 : (0 : Int) ≤ (zn : Int) := by omega
   have QY := zaa (And.intro (JP.out zv) (OY.out zv))
   rw [← UT.out] at QY
   obtain ⟨r0, r1, r2⟩ := KE.out _ (Outside.refl _ _ _)
   clear hc fz cz ezo ez JP OY UT JY LC AT a0 a1
   go_wp2_with fail
   go_region_held3 (fun w' => w'.cell? ⟨pb, 0, none⟩ = some (.slice (some ⟨g, 0, none⟩) 336 cap) ∧ w'.cell? ⟨bU, oU + k * 2, none⟩ = some (.int .i64 (zn : Int)) ∧ w'.cell? ⟨bU, oU + k * 2 + 1, none⟩ = some (.int .i64 zv))
    (exact KE.out _ (by repeat (first | with_reducible exact Outside.refl _ _ _ | with_reducible refine Outside.drewO ?_ | with_reducible refine Outside.setCell ?_ (by exact Nat.le_refl _) (by exact Nat.lt_succ_self _) _)))
    (fail)
   all_goals
    go_wp2
    go_roundw
    case rel => exact ⟨k + 1, by omega, by go_num, ⟨QY.out.1.drewI, QY.out.2.drewO⟩⟩
    case measure => first | (simp [intOf]; done) | (simp [intOf]; omega)
end Go.Proofs.YtbbmljakfbhnpaaGreatDoor

namespace Go.Proofs.YtbbmljakfbhnpaaGreatDoor
open Go.ChangeShapes Go.WideShapes Go.ChangeAt Go.RowKit Go.Joins

/-- An array of numbers that reads as these numbers holds them, cell for cell. -/
theorem zjb {H : Type} {enc : TypeId × Value → H} {P : Program} {w : World} {base : Nat} {sp : Nat → Bool} {held : Bool} {fuel : Nat} {t e : TypeId} {n : Nat} {cs : List Value} {zs : List Int} {p : List MemPlace}
  (ht : P.underlying t = some (.array n e)) (he : P.underlying e = some (.int .i64)) (hce : P.cellsOf e = 1) (hct : P.cellsOf t = n)
  (h : DataW.trod enc P w base sp held fuel t cs = some (.agg (zs.map fun z => .lit (.int .i64 z)), p)) : cs = zs.map (Value.int .i64) := by
 cases fuel with
 | zero => simp [DataW.trod] at h
 | succ fuel =>
  simp only [DataW.trod, ht, hce, hct, Nat.mul_one] at h
  split at h
  ·rename_i hl
   obtain ⟨xs, hm, hx⟩ := Option.map_eq_some_iff.1 h
   have hxs : xs.map (·.1) = zs.map fun z => (DataW.lit (.int .i64 z) : DataW H) := by
    have := congrArg Prod.fst hx
    simpa using this
   have hxl : xs.length = n := by simpa using Lib.mapM_length hm
   have hzl : zs.length = n := by
    have := congrArg List.length hxs
    simp at this
    omega
   apply List.ext_getElem?
   intro i
   by_cases hi : i < n
   ·obtain ⟨b, hb, hf⟩ := Lib.mapM_at hm i i (by simp [hi])
    obtain ⟨z, hc, rfl, _⟩ := DataW.trod_int he hf
    have h1 : cs[i]? = some (.int .i64 z) := by
     have := congrArg (·[0]?) hc
     simpa [List.getElem?_take, List.getElem?_drop] using this
    have h2 : (xs.map (·.1))[i]? = some (DataW.lit (.int .i64 z) : DataW H) := by simp [hb]
    rw [hxs] at h2
    simp only [List.getElem?_map, Option.map_eq_some_iff, DataW.lit.injEq, Lit.int.injEq] at h2
    obtain ⟨z', hz', e⟩ := h2
    simp [h1, hz', e.2]
   ·rw [List.getElem?_eq_none (by omega), List.getElem?_eq_none (by simp; omega)]
  ·cases h

theorem cellsIno' : Tryz.prog.cellsOf 44 = 11 := by kernel_rfl

theorem cells8 : Tryz.prog.cellsOf 42 = 8 := by kernel_rfl

theorem cellsDen' : Tryz.prog.cellsOf 50 = 3 := by kernel_rfl

theorem cells9 : Tryz.prog.cellsOf 9 = 1 := by kernel_rfl

section

variable {H : Type} {enc : TypeId × Value → H} {W : World} {base : Nat} {sp : Nat → Bool} {held : Bool} {fuel : Nat} {v : Value} {y : DataW H × List MemPlace}

end

section

variable {H : Type} {enc : TypeId × Value → H} {W : World} {sp : Nat → Bool} {held : Bool} {r : Reach} {b0 : Nat} {v : Value} {d : DataW H} {p : List MemPlace}

end

section

variable {H : Type} {enc : TypeId × Value → H} {w : World} {base : Nat} {sp : Nat → Bool} {held : Bool} {fuel : Nat} {cs : List Value} {p : List MemPlace}

theorem cells_ts (h : DataW.trod enc Tryz.prog w base sp held fuel 90 cs = some (.agg [.lit (.int .i64 1), .lit (.int .i64 24), .lit (.int .i64 32)], p)) : cs = [.int .i64 1, .int .i64 24, .int .i64 32] :=
 zjb (zs := [1, 24, 32]) Tryz.underlying90 Tryz.underlying3 cells3 (show Tryz.prog.cellsOf 90 = 3 by kernel_rfl) h

set_option maxRecDepth 100000 in
theorem cells_ed (h : DataW.trod enc Tryz.prog w base sp held fuel 44 cs = some (.agg [.lit (.int .i64 2), .lit (.int .i64 0), .lit (.int .i64 1), .agg [.lit (.int .i64 0), .lit (.int .i64 0), .lit (.int .i64 0), .lit (.int .i64 0), .lit (.int .i64 0), .lit (.int .i64 0), .lit (.int .i64 0), .lit (.int .i64 0)]], p)) :
  cs = [.int .i64 2, .int .i64 0, .int .i64 1, .int .i64 0, .int .i64 0, .int .i64 0, .int .i64 0, .int .i64 0, .int .i64 0, .int .i64 0, .int .i64 0] := by
 obtain ⟨y0, y1, y2, y3, n, hx, hl, t0, t1, t2, t3⟩ := trod_struct4 Tryz.underlying44 h
 obtain ⟨z0, e0, hy0, _⟩ := DataW.trod_int Tryz.underlying3 t0
 obtain ⟨z1, e1, hy1, _⟩ := DataW.trod_int Tryz.underlying3 t1
 obtain ⟨z2, e2, hy2, _⟩ := DataW.trod_int Tryz.underlying3 t2
 obtain ⟨y3a, y3b⟩ := y3
 subst hy0 hy1 hy2
 simp only [Prod.mk.injEq, DataW.agg.injEq, List.cons.injEq, DataW.lit.injEq, Lit.int.injEq, true_and, and_true] at hx
 obtain ⟨⟨g0, g1, g2, g3⟩, _⟩ := hx
 subst g3
 have A := zjb (zs := [0, 0, 0, 0, 0, 0, 0, 0]) Tryz.underlying42 Tryz.underlying3 cells3 cells8 t3
 rw [cellsIno'] at hl
 simp only [cells3, cells8] at e0 e1 e2 A
 match cs, hl with
 | [c0, c1, c2, c3, c4, c5, c6, c7, c8, c9, c10], _ =>
  simp at e0 e1 e2 A
  rw [e0, e1, e2, ← g0, ← g1, ← g2, A.1, A.2.1, A.2.2.1, A.2.2.2.1, A.2.2.2.2.1, A.2.2.2.2.2.1, A.2.2.2.2.2.2.1, A.2.2.2.2.2.2.2]

set_option maxRecDepth 100000 in
theorem cells_fd (h : DataW.trod enc Tryz.prog w base sp held fuel 50 cs = some (.agg [.lit (.int .i64 0), .lit (.string []), .lit (.int .i64 (-1))], p)) : cs = [.int .i64 0, .string ⟨#[]⟩, .int .i64 (-1)] := by
 obtain ⟨y0, y1, y2, n, hx, hl, t0, t1, t2⟩ := Deep.trod_struct3 Tryz.underlying50 h
 obtain ⟨z0, e0, hy0, _⟩ := DataW.trod_int Tryz.underlying3 t0
 obtain ⟨s, e1, hy1, _⟩ := DataW.trod_string Tryz.underlying9 t1
 obtain ⟨z2, e2, hy2, _⟩ := DataW.trod_int Tryz.underlying3 t2
 subst hy0 hy1 hy2
 simp only [Prod.mk.injEq, DataW.agg.injEq, List.cons.injEq, DataW.lit.injEq, Lit.int.injEq, Lit.string.injEq, true_and, and_true] at hx
 obtain ⟨⟨g0, g1, g2⟩, _⟩ := hx
 rw [cellsDen'] at hl
 simp only [cells3, cells9] at e0 e1 e2
 match cs, hl with
 | [c0, c1, c2], _ =>
  simp at e0 e1 e2
  have hs : s = ⟨#[]⟩ := by
   obtain ⟨⟨l⟩⟩ := s
   have g1' : ([] : List UInt8) = l := g1
   rw [← g1']
  rw [e0, e1, e2, ← g0, ← g2, hs]

end
end Go.Proofs.YtbbmljakfbhnpaaGreatDoor
