/- The journal's plan: by the model. -/
import Derived.Test.YtgnfbiohjdepcaaGreatDoorZAY
namespace Go.Proofs.YtgnfbiohjdepcaaGreatDoor
open Go.RowKit
theorem jrn_snoc (u : St) : ∀ (l : List St) (i : Nat), jrn i (l ++ [u]) = jrn i l ++ [⟨9 + 2 * ((i + l.length : Nat) : Int), u.at_, false⟩, ⟨9 + 2 * ((i + l.length : Nat) : Int) + 1, u.val, false⟩]
  | [], i => by simp [jrn]
  | x :: l, i => by
    rw [List.cons_append, jrn, jrn_snoc u l (i + 1), jrn, show i + 1 + l.length = i + (x :: l).length by simp; omega]
    rfl
theorem jrn_len : ∀ (l : List St) (i : Nat), (jrn i l).length = 2 * l.length
  | [], i => rfl
  | x :: l, i => by rw [jrn]; simp [jrn_len l (i + 1)]; omega
def jlM (us : List Se) (m : Nat) : List Mi := (jrn 0 ((upsL us).take m)).map stM
def jlP (us : List Se) (m : Nat) : List Int := (jrn 0 ((upsL us).take m)).map (·.at_)
theorem jlM_len (us : List Se) (m : Nat) : (jlM us m).length ≤ 2 * m := by simp [jlM, jrn_len]; omega
theorem jlP_len (us : List Se) (m : Nat) : (jlP us m).length ≤ 2 * m := by simp [jlP, jrn_len]; omega
theorem take_len {us : List Se} {m : Nat} (h : m ≤ us.length) : ((upsL us).take m).length = m := by rw [List.length_take, upsL_len]; omega
theorem jlM_succ (us : List Se) (m : Nat) (h : m < us.length) : jlM us (m + 1) = jlM us m ++ [⟨1, 9 + 2 * (m : Int), us[m].at_⟩, ⟨1, 9 + 2 * (m : Int) + 1, us[m].val⟩] := by
  unfold jlM; rw [take_next _ _ _ (upsL_at us m h), jrn_snoc, take_len (by omega), List.map_append, Nat.zero_add]; rfl
theorem jlP_succ (us : List Se) (m : Nat) (h : m < us.length) : jlP us (m + 1) = jlP us m ++ [9 + 2 * (m : Int), 9 + 2 * (m : Int) + 1] := by
  unfold jlP; rw [take_next _ _ _ (upsL_at us m h), jrn_snoc, take_len (by omega), List.map_append, Nat.zero_add]; rfl
theorem jlM_all (us : List Se) : jlM us us.length = (jrn 0 (upsL us)).map stM := by unfold jlM; rw [List.take_of_length_le (by rw [upsL_len]; omega)]
theorem jlP_all (us : List Se) : jlP us us.length = (jrn 0 (upsL us)).map (·.at_) := by unfold jlP; rw [List.take_of_length_le (by rw [upsL_len]; omega)]
theorem jrn_place : ∀ (l : List St) (i : Nat), ∀ s ∈ jrn i l, 9 + 2 * (i : Int) ≤ s.at_ ∧ s.at_ < 9 + 2 * ((i + l.length : Nat) : Int)
  | [], i => by simp [jrn]
  | x :: l, i => by
    intro s hs
    rw [jrn] at hs
    simp only [List.mem_cons] at hs
    rcases hs with rfl | rfl | hs
    · simp only [List.length_cons]; omega
    · simp only [List.length_cons]; omega
    · have := jrn_place l (i + 1) s hs
      simp only [List.length_cons]
      omega
theorem jlP_place (us : List Se) (m : Nat) (hn : us.length ≤ 64) : ∀ k (h : k < (jlP us m).length), 0 ≤ (jlP us m)[k] ∧ (jlP us m)[k] < 336 := by
  intro k h
  have hm : (jlP us m)[k] ∈ jlP us m := List.getElem_mem h
  generalize (jlP us m)[k] = z at *
  simp only [jlP, List.mem_map] at hm
  obtain ⟨s, hs, rfl⟩ := hm
  have := jrn_place _ _ s hs
  have hl : ((upsL us).take m).length ≤ 64 := by rw [List.length_take, upsL_len]; omega
  omega
theorem six_cells {w : World} {b : Nat} {t : TypeId} {x0 x1 x2 x3 x4 x5 : Value} (h : w.heap[b]? = some (.cells #[x0, x1, x2, x3, x4, x5] t (0, 0))) (j : Nat) : w.cell? ⟨b, j, none⟩ = [x0, x1, x2, x3, x4, x5][j]? := by
  unfold World.cell?
  simp only [h]
  simp
theorem rd_mic2 (w1 : World) (k a x k2 a2 x2 : Int) : Rd (w1.alloc (.cells #[.int .i64 k, .int .i64 a, .int .i64 x, .int .i64 k2, .int .i64 a2, .int .i64 x2] 91)) 3 (.slice (some ⟨w1.heap.size, 0, none⟩) 2 2) 2 (mis [⟨k, a, x⟩, ⟨k2, a2, x2⟩]) := by
  refine ⟨rfl, _, _, rfl, ⟨Nat.le_refl _, fun e => by cases e⟩, fun _ => ⟨w1.heap.size, 0, rfl, by simp, fun j hj => ?_⟩⟩
  rw [Nat.zero_add, six_cells (at_new (w := w1) rfl)]
  rfl
theorem rd_two (w1 : World) (x y : Int) : RdI (w1.alloc (.cells #[.int .i64 x, .int .i64 y] 3)) (.slice (some ⟨w1.heap.size, 0, none⟩) 2 2) [x, y] := by
  refine ⟨rfl, _, _, rfl, ⟨Nat.le_refl _, fun e => by cases e⟩, fun _ => ⟨w1.heap.size, 0, rfl, by simp, fun j hj => ?_⟩⟩
  obtain ⟨e0, e1, _, _⟩ := two_cells (at_new (w := w1) (o := .cells #[.int .i64 x, .int .i64 y] 3) rfl)
  rcases (show j = 0 ∨ j = 1 by simp at hj; omega) with rfl | rfl
  · exact e0
  · exact e1
theorem applyL_len (us : List Se) : (applyL (upsL us)).length ≤ 2 * us.length + 4 := by
  have h1 := flushL_len ((upsL us).map (·.at_))
  have h2 := flushL_len ((cnt 0).map (·.at_))
  simp only [List.length_map, upsL_len] at h1 h2
  simp only [applyL, seg, List.length_append, List.length_map, upsL_len]
  simp only [cnt, List.length_cons, List.length_nil] at h2 ⊢
  omega
set_option maxRecDepth 100000 in
set_option maxHeartbeats 4000000 in
theorem l04Plan_some (v : Value) (us : List Se) (w : World) (h : RdE w v us) (hn : us.length ≤ 64) (h0 : 0 < us.length) (hz0 : ∀ k (h : k < us.length), 0 ≤ us[k].at_ ∧ us[k].at_ < 336) :
    Calls Tryz.prog 71 #[v] w fun e w' => ∃ v', e = .returned v' ∧ Row w' 91 3 w.heap.size w'.heap.size v' (planL (upsL us)).length (mis (planL (upsL us))) ∧ Below w.heap.size w w' := by
  have HR := hideIt h
  obtain ⟨aZ, cZ, rfl, _, hcZ⟩ := h.shape
  have HZ := hideIt hcZ
  have Z0 := hideIt hz0
  clear h hcZ hz0
  have START : Hid (PlI w ((w.alloc (.cells #[] 91)).alloc (.cells #[] 3)) (.slice (some ⟨w.heap.size, 0, none⟩) 0 0) (.slice (some ⟨w.heap.size + 1, 0, none⟩) 0 0) [] []) := by
    refine ⟨?_, ?_, ((Below.refl w.heap.size w).alloc (Nat.le_refl _) _).alloc (by simp) _, by simp <;> omega⟩
    · exact ((row_empty w 91 3).alloc (Nat.le_refl _) _).1
    · simpa [ints] using World.ownsRow_lit (base := w.heap.size) (e := 3) (size := 1) (w.alloc (.cells #[] 91)) #[] 0 (by simp) (by simp) (by simp)
  have g0 : ((us.length : Int) == 0) = false := by rw [beq_eq_false_iff_ne]; omega
  go_enter Tryz.func71, Tryz.ntmps71
  go_wp2
  go_loopw [3, 4, 5, 6] (fun vL vP i _ wr => ∃ m : Nat, m ≤ us.length ∧ i = .int .i64 m ∧ Hid (PlI w wr vL vP (jlM us m) (jlP us m)) ∧ w.heap.size ≤ wr.heap.size) (fun _ _ i _ _ => us.length - (intOf i).toNat)
  case atStart => exact ⟨0, by omega, rfl, by simpa [jlM, jlP, jrn] using START, by simp <;> omega⟩
  case round =>
    obtain ⟨m, hm, rfl, J, hz⟩ := hrel
    by_cases hlt : m < us.length
    · obtain ⟨b, o, rfl, hbl, hcell⟩ := HZ.out (by omega)
      have C0 := (J.out.b.cell (p := ⟨b, o + m * 2, none⟩) hbl).trans (hcell m hlt).1
      have C1 := (J.out.b.cell (p := ⟨b, o + m * 2 + 1, none⟩) hbl).trans (hcell m hlt).2
      have EM := hideIt (jlM_succ us m hlt)
      have EP := hideIt (jlP_succ us m hlt)
      have l1 := jlM_len us m
      have l2 := jlP_len us m
      have hbr : b < wr.heap.size := by omega
      have DW := hideIt (hcell m hlt)
      clear hcell
      have m0 : (0 : Int) ≤ (m : Int) := by omega
      have m1 : (m : Int) < (us.length : Int) := by omega
      generalize us[m].at_ = x at *
      generalize us[m].val = y at *
      have wp1 : IntKind.i64.wrap (9 + 2 * (m : Int) + 1) = 9 + 2 * (m : Int) + 1 := by rw [IntKind.wrap_i64]; omega
      go_wp2_with fail
      go_region_held3 (fun w' => w'.cell? ⟨b, o + m * 2, none⟩ = some (.int .i64 x) ∧ w'.cell? ⟨b, o + m * 2 + 1, none⟩ = some (.int .i64 y)) (first | exact ⟨C0, C1⟩ | exact ⟨s0, s1⟩ | exact ⟨r0, r1⟩ | exact ⟨t0, t1⟩ | exact ⟨q0, q1⟩)
        (first
          | (go_at_call 67; refine (l04Store_any _ _ _).mono ?_; rintro e w2 ⟨rfl, hb2⟩; first
              | (have PT := hideIt (P0.out.below hb2); have t0 := (PT.out.b.cell (p := ⟨b, o + m * 2, none⟩) hbl).trans DW.out.1; have t1 := (PT.out.b.cell (p := ⟨b, o + m * 2 + 1, none⟩) hbl).trans DW.out.2; have P1 := hideIt (PT.out.below ((Below.refl _ _).alloc (Nat.le_refl _) (.cells #[.int .i64 1, .int .i64 (9 + 2 * (m : Int)), .int .i64 x, .int .i64 1, .int .i64 (9 + 2 * (m : Int) + 1), .int .i64 y] 91))); have HRD := hideIt (rd_mic2 w2 1 (9 + 2 * (m : Int)) x 1 (9 + 2 * (m : Int) + 1) y); have r0 := (P1.out.b.cell (p := ⟨b, o + m * 2, none⟩) hbl).trans DW.out.1; have r1 := (P1.out.b.cell (p := ⟨b, o + m * 2 + 1, none⟩) hbl).trans DW.out.2; have hz1 := P1.out.z; clear hb2)
              | (have hb1' := below_of_drew hb2; have q0 := (hb1'.cell (p := ⟨b, o + m * 2, none⟩) hbr).trans C0; have q1 := (hb1'.cell (p := ⟨b, o + m * 2 + 1, none⟩) hbr).trans C1; have P0 := hideIt (J.out.below hb1'); clear hb2 hb1'))
          | (refine step_append_rd rfl (.tmp 22) (.tmp 38) 45 rfl w.heap.size 91 (.agg #[.int .i64 0, .int .i64 0, .int .i64 0]) 3 24 Tryz.underlying45 infoMic rfl (by decide) _ _ _ rfl P1.out.l _ 2 _ rfl HRD.out (mis_one _) (by simp [maxLen]; omega) (by omega) hz1 ?_; intro vN wN hownN hgrN; have G := hideIt (P1.out.growL [⟨1, 9 + 2 * (m : Int), x⟩, ⟨1, 9 + 2 * (m : Int) + 1, y⟩] hownN hgrN); have s0 := (G.out.b.cell (p := ⟨b, o + m * 2, none⟩) hbl).trans DW.out.1; have s1 := (G.out.b.cell (p := ⟨b, o + m * 2 + 1, none⟩) hbl).trans DW.out.2; clear hownN hgrN))
      all_goals
        have hzG := G.out.z
        clear C0 C1 q0 q1 r0 r1 t0 t1 P0 PT P1 HRD J
        have P2 := hideIt (G.out.below ((Below.refl _ _).alloc (Nat.le_refl _) (.cells #[.int .i64 (9 + 2 * (m : Int)), .int .i64 (9 + 2 * (m : Int) + 1)] 3)))
        have HR2 := hideIt (rd_two wN (9 + 2 * (m : Int)) (9 + 2 * (m : Int) + 1))
        have hz2 := P2.out.z
        clear G
        go_wp2_with (at_builtin; refine wpList_append_rd _ rfl (.tmp 40) (.tmp 44) 22 rfl w.heap.size 3 (.int .i64 0) 1 8 Tryz.underlying22 info3 rfl (by decide) _ _ _ rfl P2.out.p _ 2 _ rfl HR2.out (ints_one _) (by simp [maxLen]; omega) (by omega) hz2 ?_)
        intro vQ wQ hownQ hgrQ
        have G2 := hideIt (P2.out.growP [9 + 2 * (m : Int), 9 + 2 * (m : Int) + 1] hownQ hgrQ)
        rw [← EM.out, ← EP.out] at G2
        have hz3 := G2.out.z
        clear hownQ hgrQ P2 HR2
        go_wp2
        go_roundw
        case rel => exact ⟨m + 1, by omega, by go_num, G2, hz3⟩
        case measure => simp [intOf]; omega
    · obtain rfl : m = us.length := by omega
      have PL := hideIt (jlP_place us us.length hn)
      have l1 := jlM_len us us.length
      have l2 := jlP_len us us.length
      have EE := hideIt (show planL (upsL us) = jlM us us.length ++ flushL (jlP us us.length) ++ [⟨1, 8, (us.length : Int)⟩] ++ flushL [8] ++ applyL (upsL us) by
        rw [jlM_all, jlP_all, planL, upsL_len, if_neg (by omega)]; simp [seg, cnt, stM])
      have l3 := flushL_len (jlP us us.length)
      have l4 := flushL_len [8]
      have l9 := applyL_len us
      simp only [List.length_cons, List.length_nil] at l4
      generalize jlM us us.length = A at *
      generalize jlP us us.length = B at *
      go_wp2_with fail
      refine (l04Flush_any _ B _ (own_block J.out.p).rd (by omega) PL.out).mono ?_
      rintro e w1 ⟨v1, rfl, hr1, hb1⟩
      have P1 := hideIt (J.out.below hb1)
      have R1 := hideIt hr1.rd
      have hz1 := P1.out.z
      clear hr1 hb1 J
      go_wp2_with (at_builtin; refine wpList_append_rd _ rfl (.tmp 46) (.tmp 48) 45 rfl w.heap.size 91 (.agg #[.int .i64 0, .int .i64 0, .int .i64 0]) 3 24 Tryz.underlying45 infoMic rfl (by decide) _ _ _ rfl P1.out.l _ _ _ rfl R1.out (mis_one _) (by simp [maxLen]; omega) (by omega) hz1 ?_)
      intro v2 w2 hown2 hgr2
      have P2 := hideIt (P1.out.growL _ hown2 hgr2)
      have hz2 := P2.out.z
      have l5 : (A ++ flushL B).length ≤ 400 := by simp; omega
      generalize A ++ flushL B = C at *
      clear hown2 hgr2 P1 R1
      go_wp2_with fail
      refine (l04Store_any _ _ _).mono ?_
      rintro e w3 ⟨rfl, hb3⟩
      have P3 := hideIt ((P2.out.below hb3).below ((Below.refl _ _).alloc (Nat.le_refl _) (.cells #[.int .i64 1, .int .i64 8, .int .i64 (us.length : Int)] 91)))
      have R3 := hideIt (rd_mic w3 1 8 (us.length : Int))
      have hz3 := P3.out.z
      clear hb3 P2
      go_wp2_with (at_builtin; refine wpList_append_rd _ rfl (.tmp 50) (.tmp 54) 45 rfl w.heap.size 91 (.agg #[.int .i64 0, .int .i64 0, .int .i64 0]) 3 24 Tryz.underlying45 infoMic rfl (by decide) _ _ _ rfl P3.out.l _ 1 _ rfl R3.out (mic_one _) (by simp [maxLen]; omega) (by omega) hz3 ?_)
      intro v4 w4 hown4 hgr4
      have P4 := hideIt (P3.out.growL [⟨1, 8, (us.length : Int)⟩] (by rw [mis_one_]; exact hown4) hgr4)
      have l6 : (C ++ [(⟨1, 8, (us.length : Int)⟩ : Mi)]).length ≤ 401 := by simp; omega
      generalize C ++ [(⟨1, 8, (us.length : Int)⟩ : Mi)] = D at *
      have P5 := hideIt (P4.out.below ((Below.refl _ _).alloc (Nat.le_refl _) (.cells #[.int .i64 8] 3)))
      have R5 := hideIt (rd_oneJ w4 8)
      clear hown4 hgr4 P3 R3 P4
      go_wp2_with fail
      refine (l04Flush_any _ [8] _ R5.out (by simp) (by intro k h; simp at h; subst h; simp)).mono ?_
      rintro e w6 ⟨v6, rfl, hr6, hb6⟩
      have P6 := hideIt (P5.out.below hb6)
      have R6 := hideIt hr6.rd
      have hz6 := P6.out.z
      clear hr6 hb6 P5 R5
      go_wp2_with (at_builtin; refine wpList_append_rd _ rfl (.tmp 56) (.tmp 58) 45 rfl w.heap.size 91 (.agg #[.int .i64 0, .int .i64 0, .int .i64 0]) 3 24 Tryz.underlying45 infoMic rfl (by decide) _ _ _ rfl P6.out.l _ _ _ rfl R6.out (mis_one _) (by simp [maxLen]; omega) (by omega) hz6 ?_)
      intro v7 w7 hown7 hgr7
      have P7 := hideIt (P6.out.growL _ hown7 hgr7)
      have l7 : (D ++ flushL [8]).length ≤ 403 := by simp; omega
      generalize D ++ flushL [8] = F at *
      clear hown7 hgr7 P6 R6
      go_wp2_with fail
      refine (l04Apply_any _ us _ (Rd.below HR.out P7.out.b) hn Z0.out).mono ?_
      rintro e w8 ⟨v8, rfl, hr8, hb8⟩
      have P8 := hideIt (P7.out.below hb8)
      have R8 := hideIt hr8.rd
      have hz8 := P8.out.z
      clear hr8 hb8 P7
      go_wp2_with (at_builtin; refine wpList_append_rd _ rfl (.tmp 60) (.tmp 62) 45 rfl w.heap.size 91 (.agg #[.int .i64 0, .int .i64 0, .int .i64 0]) 3 24 Tryz.underlying45 infoMic rfl (by decide) _ _ _ rfl P8.out.l _ _ _ rfl R8.out (mis_one _) (by simp [maxLen]; omega) (by omega) hz8 ?_)
      intro v9 w9 hown9 hgr9
      have P9 := hideIt (P8.out.growL _ hown9 hgr9)
      rw [← EE.out] at P9
      obtain ⟨aL, cL, hvL⟩ := RdM.form (own_block P9.out.l).rd rfl
      subst hvL
      clear hown9 hgr9 P8 R8
      go_wp2
      go_ret
      exact ⟨_, rfl, own_block P9.out.l, P9.out.b⟩
end Go.Proofs.YtgnfbiohjdepcaaGreatDoor
