/- The law of SameModel: the walk. -/
import Derived.Test.YtmeiionabonhnaaGreatDoorTrSb
import Derived.Test.YtmeiionabonhnaaGreatDoorTrSd
import Derived.Test.YtmeiionabonhnaaGreatDoorZBR
import Derived.Test.YtmeiionabonhnaaGreatDoorZBM
import Derived.Test.YtmeiionabonhnaaGreatDoorOrdT
namespace Go.Proofs.YtmeiionabonhnaaGreatDoor
open Go.RowKit
set_option maxRecDepth 100000 in
set_option maxHeartbeats 8000000 in
theorem sameModel_law (va vb : Value) (ta tb : List Th) (pa pb : List Den) (w : World) (ha : RdMd w va ta pa) (hb : RdMd w vb tb pb) (hna : ta.length ≤ maxLen) (hnb : tb.length ≤ maxLen) (hpa : pa.length ≤ maxLen) (hpb : pb.length ≤ maxLen) (hga : ∀ k (hk : k < ta.length), ta[k].pages.length ≤ maxLen) (hgb : ∀ k (hk : k < tb.length), tb[k].pages.length ≤ maxLen) (hsa : ∀ k (h : k < pa.length), pa[k].name.size ≤ maxLen) (hsb : ∀ k (h : k < pb.length), pb[k].name.size ≤ maxLen) (hT : TS w) (hE : ED w) (hF : FD w) (hQ : PT w) :
    Calls Tryz.prog 4 #[va, vb] w fun e w' => e = .returned (.bool true) ∧ Below w.heap.size w w' := by
  have HA := hideIt ha
  have HB := hideIt hb
  obtain ⟨aA, cA, dA, eA, rfl⟩ := ha.form
  obtain ⟨aB, cB, dB, eB, rfl⟩ := hb.form
  clear ha hb
  have SZA := hideIt (fun w1 (hb : Below w.heap.size w w1) => szModel_any _ ta pa 1048576 w1 (HA.out.below hb) hna hga hpa hsa (by omega) (by omega))
  have SZB := hideIt (fun (l : Int) (h0 : 0 ≤ l) (h1 : l ≤ 1048576) w1 (hb : Below w.heap.size w w1) => szModel_any _ tb pb l w1 (HB.out.below hb) hnb hgb hpb hsb h0 h1)
  obtain ⟨V, hV⟩ : ∃ V, V = (w.alloc (.cells #[.slice aA ta.length cA, .slice dA pa.length eA] 25)).alloc (.cells #[.slice aB tb.length cB, .slice dB pb.length eB] 25) := ⟨_, rfl⟩
  have BV : Hid (Below w.heap.size w V) := by rw [hV]; exact ((Below.refl _ _).alloc (Nat.le_refl _) _).alloc (by simp) _
  have XA : Hid (V.heap[w.heap.size]? = some (.cells #[.slice aA ta.length cA, .slice dA pa.length eA] 25 (0, 0))) := by rw [hV]; exact at_old (at_new rfl)
  have XB : Hid (V.heap[w.heap.size + 1]? = some (.cells #[.slice aB tb.length cB, .slice dB pb.length eB] 25 (0, 0))) := by
    rw [hV]
    have := at_new (w := w.alloc (.cells #[.slice aA ta.length cA, .slice dA pa.length eA] 25)) (o := .cells #[.slice aB tb.length cB, .slice dB pb.length eB] 25) rfl
    rw [World.size_alloc] at this
    exact this
  have zB : w.heap.size + 1 < V.heap.size := (Array.getElem?_eq_some_iff.1 XB.out).1
  have CA : Hid (∀ w', Below V.heap.size V w' → (w'.cell? ⟨w.heap.size, 0, none⟩ = some (.slice aA ta.length cA) ∧ w'.cell? ⟨w.heap.size, 1, none⟩ = some (.slice dA pa.length eA)) ∧ w'.cell? ⟨w.heap.size + 1, 0, none⟩ = some (.slice aB tb.length cB) ∧ w'.cell? ⟨w.heap.size + 1, 1, none⟩ = some (.slice dB pb.length eB)) := fun w' hb => by
    obtain ⟨a, b, _, _⟩ := two_cells ((hb.block w.heap.size (by omega)).trans XA.out)
    obtain ⟨c, d, _, _⟩ := two_cells ((hb.block (w.heap.size + 1) zB).trans XB.out)
    exact ⟨⟨a, b⟩, c, d⟩
  clear XA XB
  have FB : Hid (∀ w', Below V.heap.size V w' → Below w.heap.size w w') := fun w' hb => below_trans BV.out hb (by omega)
  have RA : Hid (∀ w', Below V.heap.size V w' → RdMd w' (.agg #[.slice aA ta.length cA, .slice dA pa.length eA]) ta pa) := fun w' hb => HA.out.below (FB.out w' hb)
  have RB : Hid (∀ w', Below V.heap.size V w' → RdMd w' (.agg #[.slice aB tb.length cB, .slice dB pb.length eB]) tb pb) := fun w' hb => HB.out.below (FB.out w' hb)
  have IC0 := hideIt (fun (qa : ta.length ≤ 1048576) (qb : tb.length ≤ 1048576) (ra : pa.length ≤ 1048576) (rb : pb.length ≤ 1048576) va vb w1 (hb : Below w.heap.size w w1) h1 h2 => implSameModel_any va vb ta tb pa pb w1 h1 h2 qa qb ra rb hsa hsb (hT.below hb) (hE.below hb) (hF.below hb) (hQ.below hb))
  have SC0 := hideIt (fun (qa : ta.length ≤ 1048576) (qb : tb.length ≤ 1048576) (ra : pa.length ≤ 1048576) (rb : pb.length ≤ 1048576) va vb w1 h1 h2 => specSameModel_any va vb ta tb pa pb w1 h1 h2 qa qb ra rb hsa hsb)
  generalize smB ta tb pa pb = ans at *
  generalize smC ta tb pa pb = cd at *
  clear hsa hsb hT hE hF hga hgb hQ hna hnb hpa hpb HA HB
  have B_0 : Hid (Below V.heap.size V V) := Below.refl _ _
  go_enter Tryz.func4, Tryz.ntmps4
  go_upto_region 2 with fail
  rw [← hV]
  clear hV
  obtain ⟨⟨p0, p1⟩, p2, p3⟩ := id (CA.out V B_0.out)
  go_wp2_with fail
  refine (SZA.out V BV.out).mono ?_
  rintro e w1 ⟨r, rfl, hq, hq1, hb1⟩
  have hz1 : V.heap.size ≤ w1.heap.size := hb1.size
  have B_1 := hideIt (below_trans B_0.out hb1 (by omega))
  have HQA := hideIt hq
  clear B_0 SZA hq hb1 p0 p1 p2 p3
  obtain ⟨⟨p0, p1⟩, p2, p3⟩ := id (CA.out w1 B_1.out)
  by_cases c0 : r < 0
  · have BF := hideIt (FB.out _ B_1.out)
    clear p0 p1 p2 p3 IC0 SC0 HQA
    go_wp2
    go_ret
    exact ⟨rfl, BF.out⟩
  obtain ⟨⟨-, hpA⟩, hrA⟩ := HQA.out (by omega)
  have hqa := (HQA.out (by omega)).1.1
  go_wp2_with fail
  refine (SZB.out r (by omega) hrA w1 (FB.out _ B_1.out)).mono ?_
  rintro e w2 ⟨r2, rfl, hq, hq2, hb2⟩
  have hz2 : w1.heap.size ≤ w2.heap.size := hb2.size
  have B_2 := hideIt (below_trans B_1.out hb2 (by omega))
  have HQB := hideIt hq
  clear B_1 SZB hq hb2 p0 p1 p2 p3
  by_cases c1 : r2 < 0
  · have BF := hideIt (FB.out _ B_2.out)
    clear IC0 SC0 HQA HQB hqa hpA
    go_wp2
    go_ret
    exact ⟨rfl, BF.out⟩
  have hqb := (HQB.out (by omega)).1.1
  have hpB := (HQB.out (by omega)).1.2
  have hlA : ta.length ≤ 1048576 := by omega
  have hlB : tb.length ≤ 1048576 := by omega
  have GA : Hid (∀ k (hk : k < ta.length), ta[k].pages.length ≤ 1048576) := fun k hk => by
    have := totT_le hk
    omega
  have GB : Hid (∀ k (hk : k < tb.length), tb[k].pages.length ≤ 1048576) := fun k hk => by
    have := totT_le hk
    omega
  have GA2 : Hid (∀ k (hk : k < ta.length), ta[k].pages.length ≤ 2147483648) := fun k hk => Nat.le_trans (GA.out k hk) (by decide)
  have GB2 : Hid (∀ k (hk : k < tb.length), tb[k].pages.length ≤ 2147483648) := fun k hk => Nat.le_trans (GB.out k hk) (by decide)
  have IC := hideIt (IC0.out hlA hlB hpA hpB)
  have SC := hideIt (SC0.out hlA hlB hpA hpB)
  have TA := hideIt (fun w1 (hb : Below V.heap.size V w1) => toModel_any _ ta pa w1 (RA.out w1 hb) hlA GA.out hpA)
  have TB := hideIt (fun w1 (hb : Below V.heap.size V w1) => toModel_any _ tb pb w1 (RB.out w1 hb) hlB GB.out hpB)
  clear IC0 SC0 hqa hqb HQA HQB hq1 hq2 hrA
  obtain ⟨⟨p0, p1⟩, p2, p3⟩ := id (CA.out w2 B_2.out)
  go_upto_region 8 with fail
  refine wp_region_T 9 (fun w' => (w'.cell? ⟨w.heap.size, 0, none⟩ = some (.slice aA ta.length cA) ∧ w'.cell? ⟨w.heap.size, 1, none⟩ = some (.slice dA pa.length eA)) ∧ w'.cell? ⟨w.heap.size + 1, 0, none⟩ = some (.slice aB tb.length cB) ∧ w'.cell? ⟨w.heap.size + 1, 1, none⟩ = some (.slice dB pb.length eB)) (by kernel_rfl) ⟨⟨p0, p1⟩, p2, p3⟩ (fun hS => ?_)
  clear p0 p1 p2 p3
  refine wpAnyT_take (i := 0) (v := .agg #[.slice aA ta.length cA, .slice dA pa.length eA]) [0] rfl (by kernel_rfl) (fun _ _ _ h => h) hS rfl (fun w' hSw => by obtain ⟨⟨h0, h1⟩, h2, h3⟩ := hSw; go_simp) ?_
  try simp only [Act.put]
  refine wpAnyT_take (i := 2) (v := .agg #[.slice aB tb.length cB, .slice dB pb.length eB]) [2] rfl (by kernel_rfl) (fun _ _ _ h => h) hS rfl (fun w' hSw => by obtain ⟨⟨h0, h1⟩, h2, h3⟩ := hSw; go_simp) ?_
  try simp only [Act.put]
  refine wpAnyT_one (i := 1) rfl (by kernel_rfl) (fun K hK => ?_)
  go_simp
  go_at_call 9
  refine (TA.out _ (below_trans B_2.out ((Below.refl _ _).drew) (by omega))).mono ?_
  rintro e wt ⟨vt, rfl, hrt, hbt⟩
  have BF : Hid (Below V.heap.size V wt) := below_trans B_2.out (below_trans ((Below.refl _ _).drew) hbt (Nat.le_refl _)) (by omega)
  have RTA := hideIt hrt.rd
  obtain ⟨vWt, vPt, rfl, hIt, hSt⟩ := hrt.rd
  obtain ⟨aWt, cWt, rfl⟩ := hIt.form
  obtain ⟨aPt, cPt, rfl, _⟩ := hSt.shape
  have zF := BF.out.size
  have S1 := CA.out wt BF.out
  refine hK.out _ _ (fun _ => S1) ?_
  clear hIt hSt hrt hbt hK K hS
  try simp only [Act.put]
  refine wpAnyT_one (i := 3) rfl (by kernel_rfl) (fun K hK => ?_)
  go_simp
  go_at_call 9
  refine (TB.out _ (by first | exact BF.out | exact BF.out.drew)).mono ?_
  rintro e wu ⟨vu, rfl, hru, hbu⟩
  have hbu2 : Below wt.heap.size wt wu := by first | exact hbu | exact below_trans ((Below.refl _ _).drew) hbu (Nat.le_refl _)
  have BG : Hid (Below V.heap.size V wu) := below_trans BF.out hbu2 zF
  have RTA2 := hideIt (RTA.out.below hbu2)
  have RTB := hideIt hru.rd
  obtain ⟨vWu, vPu, rfl, hIu, hSu⟩ := hru.rd
  obtain ⟨aWu, cWu, rfl⟩ := hIu.form
  obtain ⟨aPu, cPu, rfl, _⟩ := hSu.shape
  have zG := BG.out.size
  have S2 := CA.out wu BG.out
  refine hK.out _ _ (fun _ => S2) ?_
  clear hIu hSu hru hbu hbu2 hK K S1 BF RTA zF
  try simp only [Act.put]
  refine wpAnyT_one (i := 4) rfl (by kernel_rfl) (fun K hK => ?_)
  go_simp
  go_at_call 16
  refine (SC.out _ _ _ (by first | exact RTA2.out | exact RTA2.out.below ((Below.refl _ _).drew)) (by first | exact RTB.out | exact RTB.out.below ((Below.refl _ _).drew))).mono ?_
  rintro e w3 ⟨rfl, hbv⟩
  have hbv2 : Below wu.heap.size wu w3 := by first | exact hbv | exact below_trans ((Below.refl _ _).drew) hbv (Nat.le_refl _)
  have B_3 : Hid (Below V.heap.size V w3) := below_trans BG.out hbv2 zG
  have S3 := CA.out w3 B_3.out
  refine hK.out _ _ (fun _ => S3) ?_
  clear hbv hbv2 hK K S2 BG RTA2 RTB zG
  try simp only [Act.put]
  refine wpAnyT_one (i := 5) rfl (by kernel_rfl) (fun K hK => ?_)
  go_simp
  refine hK.out _ _ (fun _ => S3) ?_
  clear hK K
  try simp only [Act.put]
  refine wpAnyT_take (i := 6) (v := .bool ans) [6] rfl (by kernel_rfl) (fun _ _ _ h => h) S3 rfl (fun w' hSw => by go_simp) ?_
  try simp only [Act.put]
  refine wpAnyT_take (i := 7) (v := .int .i64 cd) [7] rfl (by kernel_rfl) (fun _ _ _ h => h) S3 rfl (fun w' hSw => by go_simp) ?_
  try simp only [Act.put]
  refine wpAnyT_one (i := 8) rfl (by kernel_rfl) (fun K hK => ?_)
  go_simp
  refine hK.out _ _ (fun _ => S3) ?_
  clear hK K
  try simp only [Act.put]
  refine wpAnyT_one (i := 9) rfl (by kernel_rfl) (fun K hK => ?_)
  go_simp
  refine hK.out _ _ (fun h => absurd rfl h) ?_
  clear hK K
  try simp only [Act.put]
  refine wpAnyT_done (by kernel_rfl) ?_ _
  clear SC S3
  have hz3 : V.heap.size ≤ w3.heap.size := B_3.out.size
  clear B_2
  obtain ⟨⟨p0, p1⟩, p2, p3⟩ := id (CA.out w3 B_3.out)
  go_wp2_with fail
  refine (TA.out w3 B_3.out).mono ?_
  rintro e w4 ⟨v4, rfl, hr4, hb4⟩
  have hz4 : w3.heap.size ≤ w4.heap.size := hb4.size
  have B_4 := hideIt (below_trans B_3.out hb4 (by omega))
  have RX_4 := hideIt hr4.rd
  obtain ⟨vW4, vP4, rfl, hI4, hS4⟩ := hr4.rd
  obtain ⟨aW4, cW4, rfl⟩ := hI4.form
  obtain ⟨aP4, cP4, rfl, _⟩ := hS4.shape
  clear hI4 hS4 hb4 hr4 B_3 p0 p1 p2 p3
  obtain ⟨w5, hA5⟩ : ∃ w5 : World, w5 = w4.alloc (.cells #[.slice aW4 ta.length cW4, .slice aP4 pa.length cP4] 33) := ⟨_, rfl⟩
  have hb5 : Below w4.heap.size w4 w5 := by rw [hA5]; exact (Below.refl _ _).alloc (Nat.le_refl _) _
  have VX_5 : Hid (w5.heap[w4.heap.size]? = some (.cells #[.slice aW4 ta.length cW4, .slice aP4 pa.length cP4] 33 (0, 0))) := by rw [hA5]; exact at_new rfl
  have hl5 : w4.heap.size < w5.heap.size := (Array.getElem?_eq_some_iff.1 VX_5.out).1
  have hz5 : w4.heap.size ≤ w5.heap.size := hb5.size
  have B_5 := hideIt (below_trans B_4.out hb5 (by omega))
  have RX_5 := hideIt (RX_4.out.below hb5)
  clear B_4 hb5 RX_4
  go_upto_region 10 with fail
  rw [← hA5]
  clear hA5
  obtain ⟨⟨p0, p1⟩, p2, p3⟩ := id (CA.out w5 B_5.out)
  go_wp2_with fail
  refine (TB.out w5 B_5.out).mono ?_
  rintro e w6 ⟨v6, rfl, hr6, hb6⟩
  have hz6 : w5.heap.size ≤ w6.heap.size := hb6.size
  have B_6 := hideIt (below_trans B_5.out hb6 (by omega))
  have RX_6 := hideIt (RX_5.out.below hb6)
  have VX_6 := hideIt ((hb6.block _ (by omega)).trans VX_5.out)
  have RY_6 := hideIt hr6.rd
  obtain ⟨vW6, vP6, rfl, hI6, hS6⟩ := hr6.rd
  obtain ⟨aW6, cW6, rfl⟩ := hI6.form
  obtain ⟨aP6, cP6, rfl, _⟩ := hS6.shape
  clear hI6 hS6 hb6 hr6 B_5 RX_5 VX_5 p0 p1 p2 p3
  obtain ⟨w7, hA7⟩ : ∃ w7 : World, w7 = w6.alloc (.cells #[.slice aW6 tb.length cW6, .slice aP6 pb.length cP6] 33) := ⟨_, rfl⟩
  have hb7 : Below w6.heap.size w6 w7 := by rw [hA7]; exact (Below.refl _ _).alloc (Nat.le_refl _) _
  have VY_7 : Hid (w7.heap[w6.heap.size]? = some (.cells #[.slice aW6 tb.length cW6, .slice aP6 pb.length cP6] 33 (0, 0))) := by rw [hA7]; exact at_new rfl
  have hl7 : w6.heap.size < w7.heap.size := (Array.getElem?_eq_some_iff.1 VY_7.out).1
  have hz7 : w6.heap.size ≤ w7.heap.size := hb7.size
  have B_7 := hideIt (below_trans B_6.out hb7 (by omega))
  have RX_7 := hideIt (RX_6.out.below hb7)
  have RY_7 := hideIt (RY_6.out.below hb7)
  have VX_7 := hideIt ((hb7.block _ (by omega)).trans VX_6.out)
  clear B_6 hb7 RX_6 RY_6 VX_6
  go_upto_region 11 with fail
  rw [← hA7]
  clear hA7
  obtain ⟨x0, x1, _, _⟩ := two_cells VX_7.out
  obtain ⟨y0, y1, _, _⟩ := two_cells VY_7.out
  go_wp2_with fail
  refine (IC.out _ _ w7 (FB.out _ B_7.out) RX_7.out RY_7.out).mono ?_
  rintro e w8 ⟨rfl, hb8⟩
  have hz8 : w7.heap.size ≤ w8.heap.size := hb8.size
  have B_8 := hideIt (below_trans B_7.out hb8 (by omega))
  have RX_8 := hideIt (RX_7.out.below hb8)
  have RY_8 := hideIt (RY_7.out.below hb8)
  have VX_8 := hideIt ((hb8.block _ (by omega)).trans VX_7.out)
  have VY_8 := hideIt ((hb8.block _ (by omega)).trans VY_7.out)
  clear B_7 RX_7 RY_7 VX_7 VY_7 hb8 x0 x1 y0 y1 IC
  obtain ⟨y0, y1, _, _⟩ := two_cells VX_8.out
  obtain ⟨⟨p0, p1⟩, p2, p3⟩ := id (CA.out w8 B_8.out)
  have SK : Hid (∀ w', Below w8.heap.size w8 w' → (w'.cell? ⟨w4.heap.size, 0, none⟩ = some (.slice aW4 ta.length cW4) ∧ w'.cell? ⟨w4.heap.size, 1, none⟩ = some (.slice aP4 pa.length cP4)) ∧ (w'.cell? ⟨w.heap.size, 0, none⟩ = some (.slice aA ta.length cA) ∧ w'.cell? ⟨w.heap.size, 1, none⟩ = some (.slice dA pa.length eA)) ∧ w'.cell? ⟨w.heap.size + 1, 0, none⟩ = some (.slice aB tb.length cB) ∧ w'.cell? ⟨w.heap.size + 1, 1, none⟩ = some (.slice dB pb.length eB)) := fun w' hb => ⟨by obtain ⟨a, b, _, _⟩ := two_cells ((hb.block _ (by omega)).trans VX_8.out); exact ⟨a, b⟩, CA.out w' (below_trans B_8.out hb (by omega))⟩
  go_upto_region 14 with fail
  go_cut [52] (fun s wx => s = .bool false ∧ Below w8.heap.size w8 wx)
  case first =>
    go_region_held3 (fun w' => (w'.cell? ⟨w4.heap.size, 0, none⟩ = some (.slice aW4 ta.length cW4) ∧ w'.cell? ⟨w4.heap.size, 1, none⟩ = some (.slice aP4 pa.length cP4)) ∧ (w'.cell? ⟨w.heap.size, 0, none⟩ = some (.slice aA ta.length cA) ∧ w'.cell? ⟨w.heap.size, 1, none⟩ = some (.slice dA pa.length eA)) ∧ w'.cell? ⟨w.heap.size + 1, 0, none⟩ = some (.slice aB tb.length cB) ∧ w'.cell? ⟨w.heap.size + 1, 1, none⟩ = some (.slice dB pb.length eB))
      (exact SK.out _ (by repeat (first | exact BE.out | exact BF.out | exact Below.refl _ _ | refine Below.drew ?_)))
      (first
        | (go_at_call 9; refine (TA.out _ (below_trans B_8.out (by repeat (first | exact Below.refl _ _ | refine Below.drew ?_)) (by omega))).mono ?_; rintro e wt ⟨vt, rfl, hrt, hbt⟩; have BF : Hid (Below w8.heap.size w8 wt) := (by first | exact hbt | exact below_trans (by repeat (first | exact Below.refl _ _ | refine Below.drew ?_)) hbt (Nat.le_refl _)); obtain ⟨vWt, vPt, rfl, hIt, hSt⟩ := hrt.rd; obtain ⟨aWt, cWt, rfl⟩ := hIt.form; obtain ⟨aPt, cPt, rfl, _⟩ := hSt.shape; have RT := hideIt hrt.rd; clear hIt hSt hrt hbt)
        | (go_at_call 12; refine (eqModel_same _ _ ta pa _ (RX_8.out.below (below_trans BF.out (by repeat (first | exact Below.refl _ _ | refine Below.drew ?_)) BF.out.size)) (RT.out.below (by repeat (first | exact Below.refl _ _ | refine Below.drew ?_))) (by omega) GA2.out (by omega)).mono ?_; rintro e wu ⟨rfl, hbu⟩; have BE : Hid (Below w8.heap.size w8 wu) := below_trans BF.out (by first | exact hbu | exact below_trans (by repeat (first | exact Below.refl _ _ | refine Below.drew ?_)) hbu (Nat.le_refl _)) BF.out.size; clear hbu))
    all_goals
      go_wp2_with fail
      go_meet
      exact ⟨rfl, (by repeat (first | exact BE.out | refine Below.drew ?_))⟩
  case rest =>
  obtain ⟨rfl, hb9⟩ := hcut
  rename World => w9
  clear y0 y1 p0 p1 p2 p3 SK
  have hz9 : w8.heap.size ≤ w9.heap.size := hb9.size
  have B_9 := hideIt (below_trans B_8.out hb9 (by omega))
  have RY_9 := hideIt (RY_8.out.below hb9)
  have VY_9 := hideIt ((hb9.block _ (by omega)).trans VY_8.out)
  clear RX_8 RY_8 VX_8 VY_8 hb9 B_8
  obtain ⟨y0, y1, _, _⟩ := two_cells VY_9.out
  obtain ⟨⟨p0, p1⟩, p2, p3⟩ := id (CA.out w9 B_9.out)
  have SK : Hid (∀ w', Below w9.heap.size w9 w' → (w'.cell? ⟨w6.heap.size, 0, none⟩ = some (.slice aW6 tb.length cW6) ∧ w'.cell? ⟨w6.heap.size, 1, none⟩ = some (.slice aP6 pb.length cP6)) ∧ (w'.cell? ⟨w.heap.size, 0, none⟩ = some (.slice aA ta.length cA) ∧ w'.cell? ⟨w.heap.size, 1, none⟩ = some (.slice dA pa.length eA)) ∧ w'.cell? ⟨w.heap.size + 1, 0, none⟩ = some (.slice aB tb.length cB) ∧ w'.cell? ⟨w.heap.size + 1, 1, none⟩ = some (.slice dB pb.length eB)) := fun w' hb => ⟨by obtain ⟨a, b, _, _⟩ := two_cells ((hb.block _ (by omega)).trans VY_9.out); exact ⟨a, b⟩, CA.out w' (below_trans B_9.out hb (by omega))⟩
  go_upto_region 16 with fail
  go_cut [57] (fun s wx => s = .bool false ∧ Below w9.heap.size w9 wx)
  case first =>
    go_region_held3 (fun w' => (w'.cell? ⟨w6.heap.size, 0, none⟩ = some (.slice aW6 tb.length cW6) ∧ w'.cell? ⟨w6.heap.size, 1, none⟩ = some (.slice aP6 pb.length cP6)) ∧ (w'.cell? ⟨w.heap.size, 0, none⟩ = some (.slice aA ta.length cA) ∧ w'.cell? ⟨w.heap.size, 1, none⟩ = some (.slice dA pa.length eA)) ∧ w'.cell? ⟨w.heap.size + 1, 0, none⟩ = some (.slice aB tb.length cB) ∧ w'.cell? ⟨w.heap.size + 1, 1, none⟩ = some (.slice dB pb.length eB))
      (exact SK.out _ (by repeat (first | exact BE.out | exact BF.out | exact Below.refl _ _ | refine Below.drew ?_)))
      (first
        | (go_at_call 9; refine (TB.out _ (below_trans B_9.out (by repeat (first | exact Below.refl _ _ | refine Below.drew ?_)) (by omega))).mono ?_; rintro e wt ⟨vt, rfl, hrt, hbt⟩; have BF : Hid (Below w9.heap.size w9 wt) := (by first | exact hbt | exact below_trans (by repeat (first | exact Below.refl _ _ | refine Below.drew ?_)) hbt (Nat.le_refl _)); obtain ⟨vWt, vPt, rfl, hIt, hSt⟩ := hrt.rd; obtain ⟨aWt, cWt, rfl⟩ := hIt.form; obtain ⟨aPt, cPt, rfl, _⟩ := hSt.shape; have RT := hideIt hrt.rd; clear hIt hSt hrt hbt)
        | (go_at_call 12; refine (eqModel_same _ _ tb pb _ (RY_9.out.below (below_trans BF.out (by repeat (first | exact Below.refl _ _ | refine Below.drew ?_)) BF.out.size)) (RT.out.below (by repeat (first | exact Below.refl _ _ | refine Below.drew ?_))) (by omega) GB2.out (by omega)).mono ?_; rintro e wu ⟨rfl, hbu⟩; have BE : Hid (Below w9.heap.size w9 wu) := below_trans BF.out (by first | exact hbu | exact below_trans (by repeat (first | exact Below.refl _ _ | refine Below.drew ?_)) hbu (Nat.le_refl _)) BF.out.size; clear hbu))
    all_goals
      go_wp2_with fail
      go_meet
      exact ⟨rfl, (by repeat (first | exact BE.out | refine Below.drew ?_))⟩
  case rest =>
  obtain ⟨rfl, hb10⟩ := hcut
  rename World => w10
  clear y0 y1 p0 p1 p2 p3 SK
  have hz10 : w9.heap.size ≤ w10.heap.size := hb10.size
  have B_10 := hideIt (below_trans B_9.out hb10 (by omega))
  clear RY_9 VY_9 hb10 B_9
  go_wp2
  go_ret
  exact ⟨rfl, FB.out _ B_10.out⟩
end Go.Proofs.YtmeiionabonhnaaGreatDoor
