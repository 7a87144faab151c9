/- The law of the journal without a crash: the walk. -/
import Derived.Test.YtenadnlgjobmdabDoorJlM
import Derived.Deep.DeepCutAuto
namespace Go.Proofs.YtenadnlgjobmdabDoor
open Go.RowKit

/-- The end of a list. -/
theorem rd_drop {w : World} {b o n c : Nat} {zs : List Int} {m : Nat} (h : RdI w (.slice (some ⟨b, o, none⟩) n c) zs) (hn : zs.length = n) (hm : m < n) : RdI w (.slice (some ⟨b, o + m, none⟩) (n - m) (c - m)) (zs.drop m) := by
  subst hn
  obtain ⟨ao, cap, e, hc, hcell⟩ := h.shape
  cases e
  obtain ⟨b', o', e', hb, hcl⟩ := hcell (by omega)
  cases e'
  refine ⟨by rw [ints_len, Nat.mul_one], some ⟨b, o + m, none⟩, c - m, by rw [List.length_drop], ⟨by rw [List.length_drop]; omega, fun e => by cases e⟩, fun _ => ⟨b, o + m, rfl, hb, fun j hj => ?_⟩⟩
  rw [List.length_drop, Nat.mul_one] at hj
  rw [ints_at _ j (by rw [List.length_drop]; omega), List.getElem_drop]
  have := hcl (m + j) (by omega)
  rw [← Nat.add_assoc] at this
  exact this
theorem rd_some {w : World} {ao : Option Addr} {n c : Nat} {zs : List Int} (h : RdI w (.slice ao n c) zs) (hn : 0 < n) : ∃ b o, ao = some ⟨b, o, none⟩ ∧ n ≤ c := by
  obtain ⟨_, ao', cap, e, h2, h3⟩ := h
  injection e with e1 e2 e3
  subst e1 e2 e3
  obtain ⟨b, o, rfl, _⟩ := h3 (by omega)
  exact ⟨b, o, rfl, h2.1⟩
theorem row_drew {w : World} {e : TypeId} {size lo hi : Nat} {v : Value} {n : Nat} {xs : List Value} (h : Row w e size lo hi v n xs) : Row w.drew e size lo hi v n xs := h.same (fun _ _ _ => rfl)
theorem layE_take (us : List Se) (k : Nat) (hk : k < us.length) (ws : List Int) : layE ws (us.take (k + 1)) = (layE ws (us.take k)).set us[k].at_.toNat us[k].val := by
  rw [List.take_succ_eq_append_getElem hk, layE_snoc]

set_option maxRecDepth 100000 in
set_option maxHeartbeats 8000000 in
theorem fnJournal_law (vA vB : Value) (ks bs : List Int) (w : World) (hS : SB w) (ha : RdB w vA ks) (hb : RdB w vB bs) (hla : ks.length ≤ maxLen) (hlb : bs.length ≤ maxLen) :
    Calls Tryd.prog 3 #[vA, vB] w fun e w' => e = .returned (.bool true) ∧ Below w.heap.size w w' := by
  have HA := hideIt ha
  have HS := hideIt hS
  obtain ⟨aA, cA, rfl, _⟩ := ha.shape
  obtain ⟨aB, cB, rfl, _⟩ := hb.shape
  simp only [maxLen] at hla hlb
  clear ha hb hS
  by_cases c1 : 1048576 < ks.length
  · go_enter Tryd.func3, Tryd.ntmps3
    go_wp2
    go_ret
    exact ⟨rfl, Below.refl _ _⟩
  by_cases c2 : 1048576 < bs.length
  · go_enter Tryd.func3, Tryd.ntmps3
    go_wp2
    go_ret
    exact ⟨rfl, Below.refl _ _⟩
  have k336 := run_make336
  go_enter Tryd.func3, Tryd.ntmps3
  go_wp2_with fail
  refine (updatesOf_any _ ks w HA.out (by omega)).mono ?_
  rintro e w1 ⟨v1, us, rfl, hul, hd, hr1, hb1⟩
  have D := hideIt hd
  have JP := hideIt (jp_ok hd hul)
  have hpl := plan_short hul
  obtain ⟨F, eF, pF, dF⟩ := plan_done hd hul
  have EF := hideIt eF
  have PF := hideIt pF
  have DF := hideIt dF
  have hF := (pmB_iff.1 pF).1
  have HF := hideIt hF
  have JC := hideIt (jc_zero pF dF.1)
  have DU := hideIt (done_due hd hF dF)
  have R1 := hideIt hr1.rd
  have B1 := hideIt hb1
  have hz1 : w.heap.size ≤ w1.heap.size := hb1.size
  obtain ⟨aU, cU, rfl, _, hcU⟩ := (show RdE w1 v1 us from hr1.rd).shape
  have CU := hideIt hcU
  clear hd eF pF dF hF hr1 hb1 hcU
  generalize planL (upsL us) = pl at *
  go_wp2_with fail
  refine (implJournalPlan_any _ us _ R1.out (by omega)).mono ?_
  rw [JP.out.1, JP.out.2]
  rintro e w2 ⟨v2, rfl, hr2, hb2⟩
  obtain ⟨a2, c2, rfl⟩ := RdM.form hr2.rd (n := pl.length) rfl
  have L2 := hideIt hr2.rd
  have R2 := hideIt (Rd.below R1.out hb2)
  have B2 := hideIt (below_trans B1.out hb2 hz1)
  have K2 := hideIt hb2
  have hz2 : w1.heap.size ≤ w2.heap.size := hb2.size
  clear hr2 hb2
  go_wp2_with fail
  refine (specJournalPlan_any _ us _ R2.out (by omega)).mono ?_
  rw [JP.out.1, JP.out.2]
  rintro e w3 ⟨v3, rfl, hr3, hb3⟩
  obtain ⟨a3, c3, rfl⟩ := RdM.form hr3.rd (n := pl.length) rfl
  have M3 := hideIt hr3.rd
  have L3 := hideIt (Rd.below L2.out hb3)
  have B3 := hideIt (below_trans B2.out hb3 (by omega))
  have K3 := hideIt (below_trans K2.out hb3 (by omega))
  have hz3 : w2.heap.size ≤ w3.heap.size := hb3.size
  clear hr3 hb3 L2 R2 B2 K2
  go_wp2_with fail
  refine (blank_any _).mono ?_
  rintro e w4 ⟨v4, rfl, hr4, hb4⟩
  have Q4 := hideIt hr4.rd
  have M4 := hideIt (Rd.below M3.out hb4)
  have L4 := hideIt (Rd.below L3.out hb4)
  have B4 := hideIt (below_trans B3.out hb4 (by omega))
  have K4 := hideIt (below_trans K3.out hb4 (by omega))
  have hz4 : w3.heap.size ≤ w4.heap.size := hb4.size
  obtain ⟨e1, f1, e2, f2, e3, f3, e4, f4, rfl, -, -⟩ := hr4.rd.form
  clear hr4 hb4 M3 L3 B3 K3
  go_wp2_with fail
  refine (implMicrosDo_any _ _ pl zs336 [] zs32 [] _ (HS.out.below B4.out) Q4.out L4.out (by rw [zs336_len]; omega) (by simp) (by rw [zs32_len]; omega) (by simp) (by omega)).mono ?_
  rw [EF.out]
  rintro e w5 ⟨v5, rfl, hr5, hb5⟩
  have hz5 : w4.heap.size ≤ w5.heap.size := hb5.size
  obtain ⟨vW, vP, vS, vQ, rfl, hPm, hBlk⟩ := hr5.rd
  have P5 := hideIt hPm
  obtain ⟨_, _, e0, hI, hS5⟩ := hPm
  cases e0
  obtain ⟨bW, gW, rfl⟩ := RdI.form hI HF.out
  obtain ⟨bP, gP, rfl⟩ := RdS.form hS5 (n := 0) rfl
  have I5 := hideIt hI
  have M5 := hideIt (Rd.below M4.out hb5)
  have L5 := hideIt (Rd.below L4.out hb5)
  have B5 := hideIt (below_trans B4.out hb5 (by omega))
  have K5 := hideIt (below_trans K4.out hb5 (by omega))
  obtain ⟨_, _, e0, hI2, hS2⟩ := hBlk
  cases e0
  obtain ⟨bS, gS, rfl⟩ := RdI.form hI2 zs32_len
  obtain ⟨bQ, gQ, rfl⟩ := RdE.form hS2 (n := 0) rfl
  clear hr5 hb5 hI hS5 M4 L4 B4 K4 hI2 hS2 Q4
  have V5 : Hid ((w5.alloc (.cells #[.slice bW 336 gW, .slice bP 0 gP, .slice bS 32 gS, .slice bQ 0 gQ] 36)).heap[w5.heap.size]? = some (.cells #[.slice bW 336 gW, .slice bP 0 gP, .slice bS 32 gS, .slice bQ 0 gQ] 36 (0, 0))) := at_new rfl
  have hb6 : Below w5.heap.size w5 (w5.alloc (.cells #[.slice bW 336 gW, .slice bP 0 gP, .slice bS 32 gS, .slice bQ 0 gQ] 36)) := (Below.refl _ _).alloc (Nat.le_refl _) _
  go_wp2_with fail
  refine (sameMicros_same _ _ pl _ (Rd.below L5.out hb6) (Rd.below M5.out hb6) (by omega)).mono ?_
  rintro e w7 ⟨rfl, hb7⟩
  have V7 := hideIt ((hb7.block w5.heap.size (by simp)).trans V5.out)
  have b57 := below_trans hb6 hb7 (by simp)
  have P7 := hideIt (P5.out.below b57)
  have I7 := hideIt (Rd.below I5.out b57)
  have B7 := hideIt (below_trans B5.out b57 (by omega))
  have K7 := hideIt (below_trans K5.out b57 (by omega))
  have hz7 : w5.heap.size < w7.heap.size := by have := hb7.size; simp at this; omega
  obtain ⟨x0, x1, x2, x3, -, -, -, -⟩ := four_cells V7.out
  clear hb6 hb7 b57 V5 P5 I5 M5 L5 B5 K5
  go_wp2_with fail
  refine (implJournalCount_any _ F _ P7.out (by have := HF.out; omega)).mono ?_
  rw [JC.out.1, JC.out.2]
  rintro e w8 ⟨rfl, hb8⟩
  have V8 := hideIt ((hb8.block _ hz7).trans V7.out)
  have I8 := hideIt (Rd.below I7.out hb8)
  have B8 := hideIt (below_trans B7.out hb8 (by omega))
  have K8 := hideIt (below_trans K7.out hb8 (by omega))
  have hz8 : w7.heap.size ≤ w8.heap.size := hb8.size
  clear hb8 V7 I7 P7 B7 K7 x0 x1 x2 x3
  have START : Hid (Row (w8.alloc (.cells nought336 3)) 3 1 w8.heap.size (w8.heap.size + 1) (.slice (some ⟨w8.heap.size, 0, none⟩) 336 336) 336 (ints (layE zs336 (us.take 0))) ∧ Below w8.heap.size w8 (w8.alloc (.cells nought336 3))) := by
    have := row_n336 (w := w8.alloc (.cells nought336 3)) (b := w8.heap.size) (at_new rfl) (Nat.le_refl _)
    rw [zs336_len] at this
    exact ⟨this, (Below.refl _ _).alloc (Nat.le_refl _) _⟩
  go_wp2
  clear k336
  go_loopw [15] (fun i wr => ∃ k : Nat, k ≤ us.length ∧ i = .int .i64 k ∧ Hid (Row wr 3 1 w8.heap.size (w8.heap.size + 1) (.slice (some ⟨w8.heap.size, 0, none⟩) 336 336) 336 (ints (layE zs336 (us.take k))) ∧ Below w8.heap.size w8 wr)) (fun i _ => us.length - (intOf i).toNat)
  case atStart => exact ⟨0, by omega, rfl, START⟩
  case round =>
    obtain ⟨k, hk, rfl, I⟩ := hrel
    clear START
    obtain ⟨-, -, -, hzr, hfz, hce⟩ := I.out.1.at
    by_cases hlt : k < us.length
    · obtain ⟨bU, oU, rfl, hbU, hcell⟩ := CU.out (by omega)
      obtain ⟨c0, c1⟩ := hcell k hlt
      have BK := below_trans K8.out I.out.2 (by omega)
      have d0 := (BK.cell (p := ⟨bU, oU + k * 2, none⟩) hbU).trans c0
      have d1 := (BK.cell (p := ⟨bU, oU + k * 2 + 1, none⟩) hbU).trans c1
      have p0 := (D.out us[k] (List.getElem_mem hlt)).1
      have LT := hideIt (layE_take us k hlt zs336)
      have g0 := hfz us[k].at_.toNat
      have g1 : wr.cell? ⟨w8.heap.size, us[k].at_.toNat, none⟩ = some (.int .i64 ((layE zs336 (us.take k))[us[k].at_.toNat]?.getD 0)) := by
        have hl : us[k].at_.toNat < (layE zs336 (us.take k)).length := by rw [layE_len, zs336_len]; omega
        rw [hce _ (by omega), ints_at _ _ hl, List.getElem?_eq_getElem hl]
        rfl
      have k0 : (0 : Int) ≤ (k : Int) := by omega
      have k1 : (k : Int) < (us.length : Int) := by omega
      obtain ⟨p1, p2⟩ := p0
      have hx : us[k].at_ < 336 := p2
      have ST := hideIt (I.out.1.stored us[k].at_.toNat (.int .i64 us[k].val))
      clear c0 c1 hcell hfz hce BK
      generalize us[k].at_ = a at *
      generalize us[k].val = x at *
      have a0 : 0 ≤ a := by omega
      go_wp2
      go_region
      go_wp2
      go_roundw
      case rel =>
        refine ⟨k + 1, by omega, by go_num, row_drew ?_, (I.out.2.setCell (Nat.le_refl _) _).drew⟩
        have := ST.out
        rw [ints_set, ← LT.out] at this
        exact this
      case measure => simp [intOf]; omega
    · obtain rfl : k = us.length := by omega
      have IR := hideIt (Rd.below I8.out I.out.2)
      obtain ⟨bw, ow, rfl, hgW⟩ := rd_some IR.out (by omega)
      have RA := hideIt (rd_drop IR.out HF.out (m := 48) (by omega))
      have RB : Hid (RdI wr (.slice (some ⟨w8.heap.size, 0 + 48, none⟩) (336 - 48) (336 - 48)) (F.drop 48)) := by
        have h1 : RdI wr (.slice (some ⟨w8.heap.size, 0, none⟩) 336 336) (layE zs336 us) := by
          have := I.out.1.rd
          rw [List.take_length] at this
          unfold RdI
          rw [layE_len, zs336_len]
          exact this
        have := rd_drop h1 (by rw [layE_len, zs336_len]) (m := 48) (by omega)
        rw [← DU.out] at this
        exact this
      obtain ⟨x0, x1, x2, x3, -, -, -, -⟩ := four_cells ((I.out.2.block _ (by omega)).trans V8.out)
      have BF := hideIt (below_trans B8.out I.out.2 (by omega))
      have hFl : (F.drop 48).length ≤ 336 := by rw [List.length_drop, HF.out]; omega
      simp only [Nat.zero_add, Nat.reduceSub] at RA RB
      clear D JP EF PF DF HF JC DU R1 B1 CU V8 I8 B8 K8 IR hfz hce
      generalize F.drop 48 = FD at *
      have RA : Hid (RdI wr (.slice (if gW = 48 then some ⟨bw, ow, none⟩ else some ⟨bw, ow + 48, none⟩) 288 (gW - 48)) FD) := by rw [if_neg (by omega)]; exact RA.out
      go_upto_region 15 with fail
      go_region_held3 (fun w' => w'.cell? ⟨w5.heap.size, 0, none⟩ = some (.slice (some ⟨bw, ow, none⟩) 336 gW) ∧ w'.cell? ⟨w5.heap.size, 1, none⟩ = some (.slice bP 0 gP)) (first | exact ⟨x0, x1⟩ | exact ⟨y0, y1⟩)
        (first | (go_at_call 14; refine (sameIntsE_same _ _ FD _ (by first | exact RA.out | exact Rd.below RA.out ((Below.refl _ _).drew)) (by first | exact RB.out | exact Rd.below RB.out ((Below.refl _ _).drew)) (by omega)).mono ?_; rintro e w9 ⟨rfl, hb9⟩; have B9 : Hid (Below w.heap.size w w9) := (by first | exact below_trans BF.out hb9 (by have := BF.out.size; omega) | exact below_trans BF.out.drew hb9 (by have := BF.out.size; exact this)); obtain ⟨y0, y1, -, -⟩ := (show w9.cell? ⟨w5.heap.size, 0, none⟩ = some (.slice (some ⟨bw, ow, none⟩) 336 gW) ∧ w9.cell? ⟨w5.heap.size, 1, none⟩ = some (.slice bP 0 gP) ∧ True ∧ True from ⟨(hb9.cell (p := ⟨w5.heap.size, 0, none⟩) (show w5.heap.size < wr.heap.size by omega)).trans x0, (hb9.cell (p := ⟨w5.heap.size, 1, none⟩) (show w5.heap.size < wr.heap.size by omega)).trans x1, trivial, trivial⟩); clear hb9))
      all_goals
        go_wp2
        go_ret
        exact ⟨rfl, B9.out⟩
end Go.Proofs.YtenadnlgjobmdabDoor
