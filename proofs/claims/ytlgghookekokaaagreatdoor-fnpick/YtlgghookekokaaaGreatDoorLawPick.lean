/- Of the faster tier the coldest page is picked, of the slower one the hottest: the walk of the law. -/
import Derived.Test.YtlgghookekokaaaGreatDoorZBT
import Derived.Test.YtlgghookekokaaaGreatDoorTrL
import Derived.Test.YtlgghookekokaaaGreatDoorZBF
namespace Go.Proofs.YtlgghookekokaaaGreatDoor
open Go.RowKit

theorem idle_R {ws es : List Int} {ns : List Ino} {ds : List Den} (h : Idle ws es ns ds) : (∀ k (h : k < ns.length), ns[k].R) ∧ ∀ k (h : k < ds.length), ds[k].name.size ≤ maxLen := by
  have q := inosOf_R h.pm 16
  have r := densOf_name (layW ws []) 24
  rw [show inosOf (layW ws []) 16 = ns from h.wi.inos] at q
  rw [show densOf (layW ws []) 24 = ds from h.wi.dens] at r
  exact ⟨q, r⟩
/-- A page that is picked is the best one of its tier. -/
theorem pk_best (ns : List Ino) (hs : List Int) (t : Int) (ht : t = 1 ∨ t = 2) (hot : Bool) (n : Nat) : (pkN ns hs t hot n = -1 ∧ ∀ j, j < n → ¬ pgE ns j % 4 = t) ∨ ∃ q : Nat, pkN ns hs t hot n = (q : Int) ∧ q < n ∧ pgE ns q % 4 = t ∧ ∀ j, j < n → pgE ns j % 4 = t → (hot = true → hs.getD j 0 ≤ hs.getD q 0) ∧ (hot = false → hs.getD q 0 ≤ hs.getD j 0) := by
  induction n with
  | zero => exact .inl ⟨rfl, fun j hj => absurd hj (Nat.not_lt_zero _)⟩
  | succ n ih =>
    have e1 : pkN ns hs t hot (n + 1) = pkS ns hs t hot (pkN ns hs t hot n) n := rfl
    rw [e1]
    by_cases c : pgE ns n % 4 = t
    case neg =>
      rw [pkS_no (.inr c)]
      rcases ih with ⟨a, b⟩ | ⟨q, a, b, d, e⟩
      · refine .inl ⟨a, fun j hj => ?_⟩
        rcases Nat.lt_succ_iff_lt_or_eq.1 hj with h | rfl
        · exact b j h
        · exact c
      · refine .inr ⟨q, a, by omega, d, fun j hj hq => ?_⟩
        rcases Nat.lt_succ_iff_lt_or_eq.1 hj with h | rfl
        · exact e j h hq
        · exact absurd hq c
    have c' : ¬ (pgE ns n = 0 ∨ ¬ pgE ns n % 4 = t) := by
      rintro (h | h)
      · rw [h] at c; omega
      · exact h c
    rcases ih with ⟨a, b⟩ | ⟨q, a, b, d, e⟩
    · rw [a, pkS_take c' (.inl (by decide))]
      refine .inr ⟨n, rfl, Nat.lt_succ_self _, c, fun j hj hq => ?_⟩
      rcases Nat.lt_succ_iff_lt_or_eq.1 hj with h | rfl
      · exact absurd hq (b j h)
      · exact ⟨fun _ => Int.le_refl _, fun _ => Int.le_refl _⟩
    · rw [a]
      have tq : ((q : Int)).toNat = q := Int.toNat_natCast q
      by_cases x : (hot = true ∧ hs.getD q 0 < hs.getD n 0) ∨ (hot = false ∧ hs.getD n 0 < hs.getD q 0)
      · rw [pkS_take c' (.inr (by rw [tq]; exact x))]
        refine .inr ⟨n, rfl, Nat.lt_succ_self _, c, fun j hj hq => ?_⟩
        rcases Nat.lt_succ_iff_lt_or_eq.1 hj with h | rfl
        · obtain ⟨u, v⟩ := e j h hq
          rcases x with ⟨x1, x2⟩ | ⟨x1, x2⟩
          · refine ⟨fun _ => ?_, fun y => ?_⟩
            · have := u x1; omega
            · rw [x1] at y; cases y
          · refine ⟨fun y => ?_, fun _ => ?_⟩
            · rw [x1] at y; cases y
            · have := v x1; omega
        · exact ⟨fun _ => Int.le_refl _, fun _ => Int.le_refl _⟩
      · rw [pkS_not c' (by rw [tq]; exact fun h => h.elim (by omega) x)]
        refine .inr ⟨q, rfl, by omega, d, fun j hj hq => ?_⟩
        rcases Nat.lt_succ_iff_lt_or_eq.1 hj with h | rfl
        · exact e j h hq
        · refine ⟨fun y => ?_, fun y => ?_⟩
          · exact Int.not_lt.1 (fun z => x (.inl ⟨y, z⟩))
          · exact Int.not_lt.1 (fun z => x (.inr ⟨y, z⟩))
/-- What is told: none of the tier, or the best. -/
theorem pc_best (ns : List Ino) (ds : List Den) (hs : List Int) (t : Int) (ht : t = 1 ∨ t = 2) (hot : Bool) (hi : imgB ns ds = true) (hh : heatB hs = true) : (pcR ns ds hs t hot = (0, 0, 5) ∧ ∀ j, j < 128 → ¬ pgE ns j % 4 = t) ∨ ∃ a b : Nat, a < 16 ∧ b < 8 ∧ pcR ns ds hs t hot = ((a : Int), (b : Int), 0) ∧ pgE ns (8 * a + b) % 4 = t ∧ ∀ j, j < 128 → pgE ns j % 4 = t → (hot = true → hs.getD j 0 ≤ hs.getD (8 * a + b) 0) ∧ (hot = false → hs.getD (8 * a + b) 0 ≤ hs.getD j 0) := by
  have l := (heat_parts hh).1
  have e : pcR ns ds hs t hot = if pkN ns hs t hot 128 < 0 then (0, 0, 5) else (pkN ns hs t hot 128 / 8, pkN ns hs t hot 128 % 8, 0) := by
    unfold pcR
    rw [if_neg (by omega)]
    unfold pcI
    rw [if_pos ⟨hi, hh⟩]
  rcases pk_best ns hs t ht hot 128 with ⟨a, b⟩ | ⟨q, a, b, d, f⟩
  · refine .inl ⟨?_, b⟩
    rw [e, a, if_pos (by decide)]
  · have eq : 8 * (q / 8) + q % 8 = q := by omega
    refine .inr ⟨q / 8, q % 8, by omega, by omega, ?_, by rw [eq]; exact d, by rw [eq]; exact f⟩
    rw [e, a, if_neg (by omega)]
    rfl
/-- Whether a tier has a page among the first ones. -/
def noT (ns : List Ino) (t : Int) (m : Nat) (c : Nat) : Prop := c ≤ m ∧ (c = 0 ↔ ∀ j, j < m → ¬ pgE ns j % 4 = t)
theorem noT_zero (ns : List Ino) (t : Int) : noT ns t 0 0 := ⟨Nat.le_refl _, fun _ _ hj => absurd hj (Nat.not_lt_zero _), fun _ => rfl⟩
theorem noT_skip {ns : List Ino} {t : Int} {m c : Nat} (h : noT ns t m c) (n : ¬ pgE ns m % 4 = t) : noT ns t (m + 1) c := by
  refine ⟨by have := h.1; omega, h.2.trans ⟨fun a j hj => ?_, fun a j hj => a j (by omega)⟩⟩
  rcases Nat.lt_succ_iff_lt_or_eq.1 hj with q | rfl
  · exact a j q
  · exact n
theorem noT_more {ns : List Ino} {t : Int} {m c : Nat} (h : noT ns t m c) (n : pgE ns m % 4 = t) : noT ns t (m + 1) (c + 1) :=
  ⟨by have := h.1; omega, fun e => by omega, fun a => absurd n (a m (Nat.lt_succ_self _))⟩

set_option maxRecDepth 100000 in
set_option maxHeartbeats 32000000 in
theorem fnPick_law (vA vB : Value) (cs bs : List Int) (w : World) (hA : RdB w vA cs) (hB : RdB w vB bs) (hT : TS w) (hE : ED w) (hF : FD w) :
    Calls Tryz.prog 7 #[vA, vB] w fun e w' => e = .returned (.bool true) ∧ Below w.heap.size w w' := by
  obtain ⟨aA, cA, rfl, _⟩ := hA.shape
  obtain ⟨aB, cB, rfl, _⟩ := hB.shape
  have HA := hideIt hA
  have HB := hideIt hB
  have GT := hideIt (And.intro hT (And.intro hE hF))
  clear hA hB hT hE hF
  by_cases c1 : 1048576 < cs.length
  · go_enter Tryz.func7, Tryz.ntmps7
    go_wp2
    go_ret
    exact ⟨rfl, Below.refl _ _⟩
  by_cases c2 : 1048576 < bs.length
  · go_enter Tryz.func7, Tryz.ntmps7
    go_wp2
    go_ret
    exact ⟨rfl, Below.refl _ _⟩
  go_enter Tryz.func7, Tryz.ntmps7
  go_wp2_with fail
  refine (imageOf_any _ cs w HA.out (by omega)).mono ?_
  rintro e w1 ⟨v1, ws, es, ns, ds, rfl, hi, hr1, hb1⟩
  have IM := hideIt hi.img
  have R1 := hideIt hr1
  obtain ⟨vI, vD, rfl, h1, h2⟩ := hr1
  obtain ⟨l16, l24, _⟩ := pimg_all hi.img
  have L16 := hideIt l16
  have L24 := hideIt l24
  obtain ⟨aW, cW, rfl, _, hcW⟩ := h1.shape
  obtain ⟨aP, cP, rfl, _, hcP⟩ := h2.shape
  obtain ⟨bW, oW, rfl, hblW, hcellW⟩ := hcW (by omega)
  obtain ⟨W1, hW1⟩ : ∃ W1, W1 = w1.alloc (.cells #[.slice (some ⟨bW, oW, none⟩) ns.length cW, .slice aP ds.length cP] 26) := ⟨_, rfl⟩
  have A1 : Hid (Below w1.heap.size w1 W1) := by rw [hW1]; exact (Below.refl _ _).alloc (Nat.le_refl _) _
  have B1 := hideIt (below_trans hb1 A1.out hb1.size)
  have M1 : Hid (W1.heap[w1.heap.size]? = some (.cells #[.slice (some ⟨bW, oW, none⟩) ns.length cW, .slice aP ds.length cP] 26 (0, 0))) := by rw [hW1]; exact at_new rfl
  have R1' := hideIt (R1.out.below A1.out)
  have hblV : Hid (bW < W1.heap.size) := Nat.lt_of_lt_of_le hblW A1.out.size
  have HM : Hid (∀ k, k < 16 → ∀ w', Below W1.heap.size W1 w' → ∀ j, j < 8 → w'.cell? ⟨bW, oW + k * 11 + 3 + j, none⟩ = some (.int .i64 ((inoAt ns k).map.getD j 0))) := fun k hk w' hb' j hj => by
    have hb : Below w1.heap.size w1 w' := below_trans A1.out hb' A1.out.size
    rw [inoAt_of (by have := L16.out; omega : k < ns.length)]
    obtain ⟨a0, a1, a2, a3, a4, a5, a6, a7, a8, a9, a10⟩ := hcellW k (by omega)
    rcases (show j = 0 ∨ j = 1 ∨ j = 2 ∨ j = 3 ∨ j = 4 ∨ j = 5 ∨ j = 6 ∨ j = 7 by omega) with rfl | rfl | rfl | rfl | rfl | rfl | rfl | rfl
    · exact (hb.cell (p := ⟨bW, oW + k * 11 + 3, none⟩) hblW).trans a3
    · exact (hb.cell (p := ⟨bW, oW + k * 11 + 4, none⟩) hblW).trans a4
    · exact (hb.cell (p := ⟨bW, oW + k * 11 + 5, none⟩) hblW).trans a5
    · exact (hb.cell (p := ⟨bW, oW + k * 11 + 6, none⟩) hblW).trans a6
    · exact (hb.cell (p := ⟨bW, oW + k * 11 + 7, none⟩) hblW).trans a7
    · exact (hb.cell (p := ⟨bW, oW + k * 11 + 8, none⟩) hblW).trans a8
    · exact (hb.cell (p := ⟨bW, oW + k * 11 + 9, none⟩) hblW).trans a9
    · exact (hb.cell (p := ⟨bW, oW + k * 11 + 10, none⟩) hblW).trans a10
  have TI := hideIt (fun k (hk : k < 16) j => tie_at hi.img hk j)
  have GR : Hid ((∀ k (h : k < ns.length), ns[k].R) ∧ ∀ k (h : k < ds.length), ds[k].name.size ≤ maxLen) := idle_R hi
  clear h1 h2 hcW hcP hcellW l16 l24 hi hb1 R1
  go_upto_region 4 with fail
  rw [← hW1]
  clear hW1
  generalize w1.heap.size = mb at *
  go_wp2_with fail
  refine (heatOf_any _ bs W1 (HB.out.below B1.out) (by omega)).mono ?_
  rintro e w2 ⟨v2, hs, rfl, hheat, hr2, hb2⟩
  have rh : RdI w2 v2 hs := by
    unfold RdI
    rw [(heat_parts hheat).1]
    exact hr2.rd
  have L128 := hideIt (heat_parts hheat).1
  have HH0 := hideIt hheat
  have RH := hideIt rh
  obtain ⟨aH, cH, rfl, _, hcH⟩ := rh.shape
  obtain ⟨bH, oH, rfl, hblH, hcellH⟩ := hcH (by have := L128.out; omega)
  have X2 := hideIt hb2
  have HH : Hid (∀ k, k < 128 → ∀ w', Below w2.heap.size w2 w' → w'.cell? ⟨bH, oH + k, none⟩ = some (.int .i64 (hs.getD k 0))) := fun k hk w' hb => by
    have q : k < hs.length := by have := L128.out; omega
    rw [List.getD_eq_getElem?_getD, List.getElem?_eq_getElem q]
    exact (hb.cell (p := ⟨bH, oH + k, none⟩) hblH).trans (hcellH k q)
  have M2 := hideIt ((hb2.block _ (Array.getElem?_eq_some_iff.1 M1.out).1).trans M1.out)
  have R2 := hideIt (R1'.out.below hb2)
  have Bw := hideIt (below_trans B1.out hb2 B1.out.size)
  have B2 := hideIt (Below.refl w2.heap.size w2)
  have GW : Hid (TS w2 ∧ ED w2 ∧ FD w2) := ⟨GT.out.1.below Bw.out, GT.out.2.1.below Bw.out, GT.out.2.2.below Bw.out⟩
  have K3 := hideIt (fun w' (hb : Below w2.heap.size w2 w') => implPickCold_any _ _ ns ds hs w' (R2.out.below hb) (by have := L16.out; omega) (by have := L24.out; omega) GR.out.1 GR.out.2 (Rd.below RH.out hb) (by have := L128.out; omega) (GW.out.1.below hb) (GW.out.2.1.below hb) (GW.out.2.2.below hb))
  have K4 := hideIt (fun w' (hb : Below w2.heap.size w2 w') => implPickHot_any _ _ ns ds hs w' (R2.out.below hb) (by have := L16.out; omega) (by have := L24.out; omega) GR.out.1 GR.out.2 (Rd.below RH.out hb) (by have := L128.out; omega) (GW.out.1.below hb) (GW.out.2.1.below hb) (GW.out.2.2.below hb))
  have K5 := hideIt (fun w' (hb : Below w2.heap.size w2 w') => specPickCold_any _ _ ns ds hs w' (R2.out.below hb) (by have := L16.out; omega) (by have := L24.out; omega) GR.out.1 GR.out.2 (Rd.below RH.out hb) (by have := L128.out; omega))
  have K6 := hideIt (fun w' (hb : Below w2.heap.size w2 w') => specPickHot_any _ _ ns ds hs w' (R2.out.below hb) (by have := L16.out; omega) (by have := L24.out; omega) GR.out.1 GR.out.2 (Rd.below RH.out hb) (by have := L128.out; omega))
  have PC := hideIt (pc_best ns ds hs 1 (.inl rfl) false IM.out HH0.out)
  have PH := hideIt (pc_best ns ds hs 2 (.inr rfl) true IM.out HH0.out)
  generalize pcR ns ds hs 1 false = RC at *
  generalize pcR ns ds hs 2 true = RT at *
  obtain ⟨i, k, a⟩ := RC
  obtain ⟨x, y, b⟩ := RT
  simp only at K3 K4 K5 K6
  clear rh hcH hcellH hr2 hheat hb2 M1 R1' A1 B1 GT GW HA HB R2 RH
  obtain ⟨x0, x1, -, -⟩ := two_cells M2.out
  go_wp2_with fail
  refine (K3.out _ B2.out).mono ?_
  rintro e w3 ⟨rfl, hb3⟩
  have B3 := hideIt (below_trans B2.out hb3 B2.out.size)
  have M3 := hideIt ((hb3.block _ (Array.getElem?_eq_some_iff.1 M2.out).1).trans M2.out)
  clear x0 x1 hb3 B2 M2 K3
  obtain ⟨x0, x1, -, -⟩ := two_cells M3.out
  go_wp2_with fail
  refine (K4.out _ B3.out).mono ?_
  rintro e w4 ⟨rfl, hb4⟩
  have B4 := hideIt (below_trans B3.out hb4 B3.out.size)
  have M4 := hideIt ((hb4.block _ (Array.getElem?_eq_some_iff.1 M3.out).1).trans M3.out)
  clear x0 x1 hb4 B3 M3 K4
  obtain ⟨x0, x1, -, -⟩ := two_cells M4.out
  go_wp2_with fail
  refine (K5.out _ B4.out).mono ?_
  rintro e w5 ⟨rfl, hb5⟩
  have B5 := hideIt (below_trans B4.out hb5 B4.out.size)
  have M5 := hideIt ((hb5.block _ (Array.getElem?_eq_some_iff.1 M4.out).1).trans M4.out)
  clear x0 x1 hb5 B4 M4 K5
  obtain ⟨x0, x1, -, -⟩ := two_cells M5.out
  go_wp2_with fail
  refine (K6.out _ B5.out).mono ?_
  rintro e w6 ⟨rfl, hb6⟩
  have B6 := hideIt (below_trans B5.out hb6 B5.out.size)
  have M6 := hideIt ((hb6.block _ (Array.getElem?_eq_some_iff.1 M5.out).1).trans M5.out)
  clear x0 x1 hb6 B5 M5 K6
  have PA : Hid (noT ns 1 0 0 ∧ noT ns 2 0 0) := ⟨noT_zero _ _, noT_zero _ _⟩
  rcases PC.out with ⟨pe, nc⟩ | ⟨ai, ki, ai16, ki8, pe, pq, pb⟩
  · rcases PH.out with ⟨he, nh⟩ | ⟨xi, yi, xi16, yi8, he, hq, hb⟩
    · simp only [Prod.mk.injEq] at pe he
      obtain ⟨rfl, rfl, rfl⟩ := pe
      obtain ⟨rfl, rfl, rfl⟩ := he
      have NC := hideIt nc
      clear nc
      have NH := hideIt nh
      clear nh
      clear PC PH
      go_wp2_with fail
      go_loopw [19, 20, 21] (fun c d n wr => ∃ (cc dd m : Nat), m ≤ 128 ∧ c = .int .i64 (cc : Int) ∧ d = .int .i64 (dd : Int) ∧ n = .int .i64 (m : Int) ∧ Hid (noT ns 1 m cc ∧ noT ns 2 m dd) ∧ Hid (Below w6.heap.size w6 wr)) (fun _ _ n _ => 128 - (intOf n).toNat)
      case atStart => exact ⟨0, 0, 0, by omega, rfl, rfl, rfl, PA, Below.refl _ _⟩
      case round =>
        obtain ⟨cc, dd, m, hm, rfl, rfl, rfl, NN, J⟩ := hrel
        obtain ⟨x0, x1, -, -⟩ := two_cells ((J.out.block _ (Array.getElem?_eq_some_iff.1 M6.out).1).trans M6.out)
        have cb : cc ≤ m := NN.out.1.1
        have db : dd ≤ m := NN.out.2.1
        have JB := hideIt (below_trans B6.out J.out B6.out.size)
        have m0 : (0 : Int) ≤ (m : Int) := by omega
        by_cases hlt : m < 128
        case neg =>
          obtain rfl : m = 128 := by omega
          have mh : ¬ (128 : Int) < (hs.length : Int) := by have := L128.out; omega
          have BF := hideIt (below_trans Bw.out JB.out Bw.out.size)
          obtain rfl : cc = 0 := NN.out.1.2.2 NC.out
          obtain rfl : dd = 0 := NN.out.2.2.2 NH.out
          clear NN HH HM TI JB
          go_wp2
          go_ret
          exact ⟨rfl, BF.out⟩
        have mh : (m : Int) < (hs.length : Int) := by have := L128.out; omega
        obtain ⟨a, b, ha, hb8, hab⟩ : ∃ a b : Nat, a < 16 ∧ b < 8 ∧ m = 8 * a + b := ⟨m / 8, m % 8, by omega, by omega, by omega⟩
        have PE : pgE ns m = (inoAt ns a).map.getD b 0 := by
          unfold pgE
          rw [hab, show (8 * a + b) / 8 = a by omega, show (8 * a + b) % 8 = b by omega]
        have e0' := HM.out a ha wr (below_trans X2.out JB.out X2.out.size) b hb8
        obtain ⟨z0, z1⟩ := tie_small (TI.out a ha b)
        rw [← PE] at e0' z0 z1
        have hm0 := HH.out m hlt wr JB.out
        have tq : Int.tdiv (m : Int) 8 = (a : Int) := by rw [Int.tdiv_eq_ediv_of_nonneg (by omega)]; omega
        have tr : Int.tmod (m : Int) 8 = (b : Int) := by rw [Int.tmod_eq_emod_of_nonneg (by omega)]; omega
        have a0 : (0 : Int) ≤ (a : Int) := by omega
        have a1 : (a : Int) < (ns.length : Int) := by have := L16.out; omega
        have b0 : (0 : Int) ≤ (b : Int) := by omega
        have b1 : (b : Int) < 8 := by omega
        obtain ⟨e0, he0⟩ : ∃ e0, e0 = pgE ns m := ⟨_, rfl⟩
        rw [← he0] at e0' z0 z1
        have te : Int.tmod e0 4 = e0 % 4 := Int.tmod_eq_emod_of_nonneg z0
        clear HM TI PE hab
        by_cases c' : e0 % 4 = 1
        · have c : pgE ns m % 4 = 1 := by rw [← he0]; exact c'
          clear he0
          exact absurd c (NC.out m hlt)
        by_cases c'' : e0 % 4 = 2
        · have c : pgE ns m % 4 = 2 := by rw [← he0]; exact c''
          have c' := c''
          clear he0
          exact absurd c (NH.out m hlt)
        have NX : Hid (noT ns 1 (m + 1) cc ∧ noT ns 2 (m + 1) dd) := ⟨noT_skip NN.out.1 (by rw [← he0]; exact c'), noT_skip NN.out.2 (by rw [← he0]; exact c'')⟩
        have q1 : (e0 % 4 == 1) = false := by rw [beq_eq_false_iff_ne]; exact c'
        have q2 : (e0 % 4 == 2) = false := by rw [beq_eq_false_iff_ne]; exact c''
        clear HH JB NN he0 c' c'' hm0
        go_wp2
        go_roundw
        case rel => exact ⟨cc, dd, m + 1, by omega, rfl, rfl, by go_num, NX, J⟩
        case measure => simp [intOf]; omega
    · simp only [Prod.mk.injEq] at pe he
      obtain ⟨rfl, rfl, rfl⟩ := pe
      obtain ⟨rfl, rfl, rfl⟩ := he
      have NC := hideIt nc
      clear nc
      have BH : Hid (∀ j, j < 128 → pgE ns j % 4 = 2 → hs.getD j 0 ≤ hs.getD (8 * xi + yi) 0) := fun j h1 h2 => (hb j h1 h2).1 (by trivial)
      have QH := hideIt hq
      clear hb hq
      clear PC PH
      go_wp2_with fail
      go_loopw [19, 20, 21] (fun c d n wr => ∃ (cc dd m : Nat), m ≤ 128 ∧ c = .int .i64 (cc : Int) ∧ d = .int .i64 (dd : Int) ∧ n = .int .i64 (m : Int) ∧ Hid (noT ns 1 m cc ∧ noT ns 2 m dd) ∧ Hid (Below w6.heap.size w6 wr)) (fun _ _ n _ => 128 - (intOf n).toNat)
      case atStart => exact ⟨0, 0, 0, by omega, rfl, rfl, rfl, PA, Below.refl _ _⟩
      case round =>
        obtain ⟨cc, dd, m, hm, rfl, rfl, rfl, NN, J⟩ := hrel
        obtain ⟨x0, x1, -, -⟩ := two_cells ((J.out.block _ (Array.getElem?_eq_some_iff.1 M6.out).1).trans M6.out)
        have cb : cc ≤ m := NN.out.1.1
        have db : dd ≤ m := NN.out.2.1
        have JB := hideIt (below_trans B6.out J.out B6.out.size)
        have m0 : (0 : Int) ≤ (m : Int) := by omega
        by_cases hlt : m < 128
        case neg =>
          obtain rfl : m = 128 := by omega
          have mh : ¬ (128 : Int) < (hs.length : Int) := by have := L128.out; omega
          have BF := hideIt (below_trans Bw.out JB.out Bw.out.size)
          obtain rfl : cc = 0 := NN.out.1.2.2 NC.out
          have kd : ((dd : Int) == 0) = false := by rw [beq_eq_false_iff_ne]; intro h; exact NN.out.2.2.1 (by omega) _ (by omega) QH.out
          clear NN HH HM TI JB
          go_wp2
          go_ret
          exact ⟨rfl, BF.out⟩
        have mh : (m : Int) < (hs.length : Int) := by have := L128.out; omega
        obtain ⟨a, b, ha, hb8, hab⟩ : ∃ a b : Nat, a < 16 ∧ b < 8 ∧ m = 8 * a + b := ⟨m / 8, m % 8, by omega, by omega, by omega⟩
        have PE : pgE ns m = (inoAt ns a).map.getD b 0 := by
          unfold pgE
          rw [hab, show (8 * a + b) / 8 = a by omega, show (8 * a + b) % 8 = b by omega]
        have e0' := HM.out a ha wr (below_trans X2.out JB.out X2.out.size) b hb8
        obtain ⟨z0, z1⟩ := tie_small (TI.out a ha b)
        rw [← PE] at e0' z0 z1
        have hm0 := HH.out m hlt wr JB.out
        have tq : Int.tdiv (m : Int) 8 = (a : Int) := by rw [Int.tdiv_eq_ediv_of_nonneg (by omega)]; omega
        have tr : Int.tmod (m : Int) 8 = (b : Int) := by rw [Int.tmod_eq_emod_of_nonneg (by omega)]; omega
        have a0 : (0 : Int) ≤ (a : Int) := by omega
        have a1 : (a : Int) < (ns.length : Int) := by have := L16.out; omega
        have b0 : (0 : Int) ≤ (b : Int) := by omega
        have b1 : (b : Int) < 8 := by omega
        obtain ⟨e0, he0⟩ : ∃ e0, e0 = pgE ns m := ⟨_, rfl⟩
        rw [← he0] at e0' z0 z1
        have te : Int.tmod e0 4 = e0 % 4 := Int.tmod_eq_emod_of_nonneg z0
        clear HM TI PE hab
        by_cases c' : e0 % 4 = 1
        · have c : pgE ns m % 4 = 1 := by rw [← he0]; exact c'
          clear he0
          exact absurd c (NC.out m hlt)
        by_cases c'' : e0 % 4 = 2
        · have c : pgE ns m % 4 = 2 := by rw [← he0]; exact c''
          have c' := c''
          clear he0
          have q1 : (e0 % 4 == 1) = false := by rw [c']; rfl
          have q2 : (e0 % 4 == 2) = true := by rw [c']; rfl
          obtain ⟨q, hqe⟩ : ∃ q : Nat, q = 8 * xi + yi := ⟨_, rfl⟩
          have q128 : q < 128 := by omega
          have eq8 : 8 * (xi : Int) + (yi : Int) = (q : Int) := by omega
          have hq0 := HH.out q q128 wr JB.out
          have d5 : hs.getD q 0 ≤ hs.getD m 0 ∨ hs.getD m 0 ≤ hs.getD q 0 := Int.le_total _ _
          have d4' : Hid (hs.getD m 0 ≤ hs.getD q 0) := by rw [hqe]; exact BH.out m hlt c
          clear d5
          generalize hs.getD q 0 = zq at *
          generalize hs.getD m 0 = zm at *
          have d4 : decide (zm > zq) = false := decide_eq_false (by have := d4'.out; omega)
          have qh0 : (0 : Int) ≤ (q : Int) := by omega
          have qh : (q : Int) < (hs.length : Int) := by have := L128.out; omega
          have NX := hideIt (And.intro (noT_skip NN.out.1 (by omega)) (noT_more NN.out.2 c))
          clear HH JB hqe NN d4' c
          go_wp2_with fail
          go_quiet (fail)
          go_wp2
          go_roundw
          case rel => exact ⟨cc, dd + 1, m + 1, by omega, by go_num, by go_num, by go_num, NX, below_drewP J.out _⟩
          case measure => simp [intOf]; omega
        have NX : Hid (noT ns 1 (m + 1) cc ∧ noT ns 2 (m + 1) dd) := ⟨noT_skip NN.out.1 (by rw [← he0]; exact c'), noT_skip NN.out.2 (by rw [← he0]; exact c'')⟩
        have q1 : (e0 % 4 == 1) = false := by rw [beq_eq_false_iff_ne]; exact c'
        have q2 : (e0 % 4 == 2) = false := by rw [beq_eq_false_iff_ne]; exact c''
        clear HH JB NN he0 c' c'' hm0
        go_wp2
        go_roundw
        case rel => exact ⟨cc, dd, m + 1, by omega, rfl, rfl, by go_num, NX, J⟩
        case measure => simp [intOf]; omega
  · rcases PH.out with ⟨he, nh⟩ | ⟨xi, yi, xi16, yi8, he, hq, hb⟩
    · simp only [Prod.mk.injEq] at pe he
      obtain ⟨rfl, rfl, rfl⟩ := pe
      obtain ⟨rfl, rfl, rfl⟩ := he
      have BC : Hid (∀ j, j < 128 → pgE ns j % 4 = 1 → hs.getD (8 * ai + ki) 0 ≤ hs.getD j 0) := fun j h1 h2 => (pb j h1 h2).2 (by trivial)
      have QC := hideIt pq
      clear pb pq
      have NH := hideIt nh
      clear nh
      clear PC PH
      go_wp2_with fail
      go_loopw [19, 20, 21] (fun c d n wr => ∃ (cc dd m : Nat), m ≤ 128 ∧ c = .int .i64 (cc : Int) ∧ d = .int .i64 (dd : Int) ∧ n = .int .i64 (m : Int) ∧ Hid (noT ns 1 m cc ∧ noT ns 2 m dd) ∧ Hid (Below w6.heap.size w6 wr)) (fun _ _ n _ => 128 - (intOf n).toNat)
      case atStart => exact ⟨0, 0, 0, by omega, rfl, rfl, rfl, PA, Below.refl _ _⟩
      case round =>
        obtain ⟨cc, dd, m, hm, rfl, rfl, rfl, NN, J⟩ := hrel
        obtain ⟨x0, x1, -, -⟩ := two_cells ((J.out.block _ (Array.getElem?_eq_some_iff.1 M6.out).1).trans M6.out)
        have cb : cc ≤ m := NN.out.1.1
        have db : dd ≤ m := NN.out.2.1
        have JB := hideIt (below_trans B6.out J.out B6.out.size)
        have m0 : (0 : Int) ≤ (m : Int) := by omega
        by_cases hlt : m < 128
        case neg =>
          obtain rfl : m = 128 := by omega
          have mh : ¬ (128 : Int) < (hs.length : Int) := by have := L128.out; omega
          have BF := hideIt (below_trans Bw.out JB.out Bw.out.size)
          have kc : ((cc : Int) == 0) = false := by rw [beq_eq_false_iff_ne]; intro h; exact NN.out.1.2.1 (by omega) _ (by omega) QC.out
          obtain rfl : dd = 0 := NN.out.2.2.2 NH.out
          clear NN HH HM TI JB
          go_wp2
          go_ret
          exact ⟨rfl, BF.out⟩
        have mh : (m : Int) < (hs.length : Int) := by have := L128.out; omega
        obtain ⟨a, b, ha, hb8, hab⟩ : ∃ a b : Nat, a < 16 ∧ b < 8 ∧ m = 8 * a + b := ⟨m / 8, m % 8, by omega, by omega, by omega⟩
        have PE : pgE ns m = (inoAt ns a).map.getD b 0 := by
          unfold pgE
          rw [hab, show (8 * a + b) / 8 = a by omega, show (8 * a + b) % 8 = b by omega]
        have e0' := HM.out a ha wr (below_trans X2.out JB.out X2.out.size) b hb8
        obtain ⟨z0, z1⟩ := tie_small (TI.out a ha b)
        rw [← PE] at e0' z0 z1
        have hm0 := HH.out m hlt wr JB.out
        have tq : Int.tdiv (m : Int) 8 = (a : Int) := by rw [Int.tdiv_eq_ediv_of_nonneg (by omega)]; omega
        have tr : Int.tmod (m : Int) 8 = (b : Int) := by rw [Int.tmod_eq_emod_of_nonneg (by omega)]; omega
        have a0 : (0 : Int) ≤ (a : Int) := by omega
        have a1 : (a : Int) < (ns.length : Int) := by have := L16.out; omega
        have b0 : (0 : Int) ≤ (b : Int) := by omega
        have b1 : (b : Int) < 8 := by omega
        obtain ⟨e0, he0⟩ : ∃ e0, e0 = pgE ns m := ⟨_, rfl⟩
        rw [← he0] at e0' z0 z1
        have te : Int.tmod e0 4 = e0 % 4 := Int.tmod_eq_emod_of_nonneg z0
        clear HM TI PE hab
        by_cases c' : e0 % 4 = 1
        · have c : pgE ns m % 4 = 1 := by rw [← he0]; exact c'
          clear he0
          have q1 : (e0 % 4 == 1) = true := by rw [c']; rfl
          have q2 : (e0 % 4 == 2) = false := by rw [c']; rfl
          obtain ⟨q, hqe⟩ : ∃ q : Nat, q = 8 * ai + ki := ⟨_, rfl⟩
          have q128 : q < 128 := by omega
          have eq8 : 8 * (ai : Int) + (ki : Int) = (q : Int) := by omega
          have hq0 := HH.out q q128 wr JB.out
          have d5 : hs.getD q 0 ≤ hs.getD m 0 ∨ hs.getD m 0 ≤ hs.getD q 0 := Int.le_total _ _
          have d4' : Hid (hs.getD q 0 ≤ hs.getD m 0) := by rw [hqe]; exact BC.out m hlt c
          clear d5
          generalize hs.getD q 0 = zq at *
          generalize hs.getD m 0 = zm at *
          have d4 : decide (zm < zq) = false := decide_eq_false (by have := d4'.out; omega)
          have qh0 : (0 : Int) ≤ (q : Int) := by omega
          have qh : (q : Int) < (hs.length : Int) := by have := L128.out; omega
          have NX := hideIt (And.intro (noT_more NN.out.1 c) (noT_skip NN.out.2 (by omega)))
          clear HH JB hqe NN d4' c
          go_wp2_with fail
          go_quiet (fail)
          go_wp2
          go_roundw
          case rel => exact ⟨cc + 1, dd, m + 1, by omega, by go_num, by go_num, by go_num, NX, below_drewP J.out _⟩
          case measure => simp [intOf]; omega
        by_cases c'' : e0 % 4 = 2
        · have c : pgE ns m % 4 = 2 := by rw [← he0]; exact c''
          have c' := c''
          clear he0
          exact absurd c (NH.out m hlt)
        have NX : Hid (noT ns 1 (m + 1) cc ∧ noT ns 2 (m + 1) dd) := ⟨noT_skip NN.out.1 (by rw [← he0]; exact c'), noT_skip NN.out.2 (by rw [← he0]; exact c'')⟩
        have q1 : (e0 % 4 == 1) = false := by rw [beq_eq_false_iff_ne]; exact c'
        have q2 : (e0 % 4 == 2) = false := by rw [beq_eq_false_iff_ne]; exact c''
        clear HH JB NN he0 c' c'' hm0
        go_wp2
        go_roundw
        case rel => exact ⟨cc, dd, m + 1, by omega, rfl, rfl, by go_num, NX, J⟩
        case measure => simp [intOf]; omega
    · simp only [Prod.mk.injEq] at pe he
      obtain ⟨rfl, rfl, rfl⟩ := pe
      obtain ⟨rfl, rfl, rfl⟩ := he
      have BC : Hid (∀ j, j < 128 → pgE ns j % 4 = 1 → hs.getD (8 * ai + ki) 0 ≤ hs.getD j 0) := fun j h1 h2 => (pb j h1 h2).2 (by trivial)
      have QC := hideIt pq
      clear pb pq
      have BH : Hid (∀ j, j < 128 → pgE ns j % 4 = 2 → hs.getD j 0 ≤ hs.getD (8 * xi + yi) 0) := fun j h1 h2 => (hb j h1 h2).1 (by trivial)
      have QH := hideIt hq
      clear hb hq
      clear PC PH
      go_wp2_with fail
      go_loopw [19, 20, 21] (fun c d n wr => ∃ (cc dd m : Nat), m ≤ 128 ∧ c = .int .i64 (cc : Int) ∧ d = .int .i64 (dd : Int) ∧ n = .int .i64 (m : Int) ∧ Hid (noT ns 1 m cc ∧ noT ns 2 m dd) ∧ Hid (Below w6.heap.size w6 wr)) (fun _ _ n _ => 128 - (intOf n).toNat)
      case atStart => exact ⟨0, 0, 0, by omega, rfl, rfl, rfl, PA, Below.refl _ _⟩
      case round =>
        obtain ⟨cc, dd, m, hm, rfl, rfl, rfl, NN, J⟩ := hrel
        obtain ⟨x0, x1, -, -⟩ := two_cells ((J.out.block _ (Array.getElem?_eq_some_iff.1 M6.out).1).trans M6.out)
        have cb : cc ≤ m := NN.out.1.1
        have db : dd ≤ m := NN.out.2.1
        have JB := hideIt (below_trans B6.out J.out B6.out.size)
        have m0 : (0 : Int) ≤ (m : Int) := by omega
        by_cases hlt : m < 128
        case neg =>
          obtain rfl : m = 128 := by omega
          have mh : ¬ (128 : Int) < (hs.length : Int) := by have := L128.out; omega
          have BF := hideIt (below_trans Bw.out JB.out Bw.out.size)
          have kc : ((cc : Int) == 0) = false := by rw [beq_eq_false_iff_ne]; intro h; exact NN.out.1.2.1 (by omega) _ (by omega) QC.out
          have kd : ((dd : Int) == 0) = false := by rw [beq_eq_false_iff_ne]; intro h; exact NN.out.2.2.1 (by omega) _ (by omega) QH.out
          clear NN HH HM TI JB
          go_wp2
          go_ret
          exact ⟨rfl, BF.out⟩
        have mh : (m : Int) < (hs.length : Int) := by have := L128.out; omega
        obtain ⟨a, b, ha, hb8, hab⟩ : ∃ a b : Nat, a < 16 ∧ b < 8 ∧ m = 8 * a + b := ⟨m / 8, m % 8, by omega, by omega, by omega⟩
        have PE : pgE ns m = (inoAt ns a).map.getD b 0 := by
          unfold pgE
          rw [hab, show (8 * a + b) / 8 = a by omega, show (8 * a + b) % 8 = b by omega]
        have e0' := HM.out a ha wr (below_trans X2.out JB.out X2.out.size) b hb8
        obtain ⟨z0, z1⟩ := tie_small (TI.out a ha b)
        rw [← PE] at e0' z0 z1
        have hm0 := HH.out m hlt wr JB.out
        have tq : Int.tdiv (m : Int) 8 = (a : Int) := by rw [Int.tdiv_eq_ediv_of_nonneg (by omega)]; omega
        have tr : Int.tmod (m : Int) 8 = (b : Int) := by rw [Int.tmod_eq_emod_of_nonneg (by omega)]; omega
        have a0 : (0 : Int) ≤ (a : Int) := by omega
        have a1 : (a : Int) < (ns.length : Int) := by have := L16.out; omega
        have b0 : (0 : Int) ≤ (b : Int) := by omega
        have b1 : (b : Int) < 8 := by omega
        obtain ⟨e0, he0⟩ : ∃ e0, e0 = pgE ns m := ⟨_, rfl⟩
        rw [← he0] at e0' z0 z1
        have te : Int.tmod e0 4 = e0 % 4 := Int.tmod_eq_emod_of_nonneg z0
        clear HM TI PE hab
        by_cases c' : e0 % 4 = 1
        · have c : pgE ns m % 4 = 1 := by rw [← he0]; exact c'
          clear he0
          have q1 : (e0 % 4 == 1) = true := by rw [c']; rfl
          have q2 : (e0 % 4 == 2) = false := by rw [c']; rfl
          obtain ⟨q, hqe⟩ : ∃ q : Nat, q = 8 * ai + ki := ⟨_, rfl⟩
          have q128 : q < 128 := by omega
          have eq8 : 8 * (ai : Int) + (ki : Int) = (q : Int) := by omega
          have hq0 := HH.out q q128 wr JB.out
          have d5 : hs.getD q 0 ≤ hs.getD m 0 ∨ hs.getD m 0 ≤ hs.getD q 0 := Int.le_total _ _
          have d4' : Hid (hs.getD q 0 ≤ hs.getD m 0) := by rw [hqe]; exact BC.out m hlt c
          clear d5
          generalize hs.getD q 0 = zq at *
          generalize hs.getD m 0 = zm at *
          have d4 : decide (zm < zq) = false := decide_eq_false (by have := d4'.out; omega)
          have qh0 : (0 : Int) ≤ (q : Int) := by omega
          have qh : (q : Int) < (hs.length : Int) := by have := L128.out; omega
          have NX := hideIt (And.intro (noT_more NN.out.1 c) (noT_skip NN.out.2 (by omega)))
          clear HH JB hqe NN d4' c
          go_wp2_with fail
          go_quiet (fail)
          go_wp2
          go_roundw
          case rel => exact ⟨cc + 1, dd, m + 1, by omega, by go_num, by go_num, by go_num, NX, below_drewP J.out _⟩
          case measure => simp [intOf]; omega
        by_cases c'' : e0 % 4 = 2
        · have c : pgE ns m % 4 = 2 := by rw [← he0]; exact c''
          have c' := c''
          clear he0
          have q1 : (e0 % 4 == 1) = false := by rw [c']; rfl
          have q2 : (e0 % 4 == 2) = true := by rw [c']; rfl
          obtain ⟨q, hqe⟩ : ∃ q : Nat, q = 8 * xi + yi := ⟨_, rfl⟩
          have q128 : q < 128 := by omega
          have eq8 : 8 * (xi : Int) + (yi : Int) = (q : Int) := by omega
          have hq0 := HH.out q q128 wr JB.out
          have d5 : hs.getD q 0 ≤ hs.getD m 0 ∨ hs.getD m 0 ≤ hs.getD q 0 := Int.le_total _ _
          have d4' : Hid (hs.getD m 0 ≤ hs.getD q 0) := by rw [hqe]; exact BH.out m hlt c
          clear d5
          generalize hs.getD q 0 = zq at *
          generalize hs.getD m 0 = zm at *
          have d4 : decide (zm > zq) = false := decide_eq_false (by have := d4'.out; omega)
          have qh0 : (0 : Int) ≤ (q : Int) := by omega
          have qh : (q : Int) < (hs.length : Int) := by have := L128.out; omega
          have NX := hideIt (And.intro (noT_skip NN.out.1 (by omega)) (noT_more NN.out.2 c))
          clear HH JB hqe NN d4' c
          go_wp2_with fail
          go_quiet (fail)
          go_wp2
          go_roundw
          case rel => exact ⟨cc, dd + 1, m + 1, by omega, by go_num, by go_num, by go_num, NX, below_drewP J.out _⟩
          case measure => simp [intOf]; omega
        have NX : Hid (noT ns 1 (m + 1) cc ∧ noT ns 2 (m + 1) dd) := ⟨noT_skip NN.out.1 (by rw [← he0]; exact c'), noT_skip NN.out.2 (by rw [← he0]; exact c'')⟩
        have q1 : (e0 % 4 == 1) = false := by rw [beq_eq_false_iff_ne]; exact c'
        have q2 : (e0 % 4 == 2) = false := by rw [beq_eq_false_iff_ne]; exact c''
        clear HH JB NN he0 c' c'' hm0
        go_wp2
        go_roundw
        case rel => exact ⟨cc, dd, m + 1, by omega, rfl, rfl, by go_num, NX, J⟩
        case measure => simp [intOf]; omega
end Go.Proofs.YtlgghookekokaaaGreatDoor
