/- The journal's applying: by the model. -/
import Derived.Test.YtbjalmiheipjjaaDoorJrP
namespace Go.Proofs.YtbjalmiheipjjaaDoor
open Go.RowKit
def upsL (us : List Se) : List St := us.map (fun s => up s.at_ s.val)
theorem upsL_len (us : List Se) : (upsL us).length = us.length := by simp [upsL]
theorem upsL_at (us : List Se) (k : Nat) (h : k < us.length) : (upsL us)[k]? = some (up us[k].at_ us[k].val) := by simp [upsL, h]
def apM (us : List Se) (m : Nat) : List Mi := ((upsL us).take m).map stM
def apP (us : List Se) (m : Nat) : List Int := ((upsL us).take m).map (·.at_)
theorem apM_len (us : List Se) (m : Nat) : (apM us m).length ≤ m := by simp [apM]; omega
theorem apP_len (us : List Se) (m : Nat) : (apP us m).length ≤ m := by simp [apP]; omega
theorem take_next {α : Type} (l : List α) (m : Nat) (x : α) (h : l[m]? = some x) : l.take (m + 1) = l.take m ++ [x] := by
  rw [List.take_add_one, h]; rfl
theorem apM_succ (us : List Se) (m : Nat) (h : m < us.length) : apM us (m + 1) = apM us m ++ [⟨1, us[m].at_, us[m].val⟩] := by
  unfold apM; rw [take_next _ _ _ (upsL_at us m h), List.map_append]; rfl
theorem apP_succ (us : List Se) (m : Nat) (h : m < us.length) : apP us (m + 1) = apP us m ++ [us[m].at_] := by
  unfold apP; rw [take_next _ _ _ (upsL_at us m h), List.map_append]; rfl
theorem apM_all (us : List Se) : apM us us.length = (upsL us).map stM := by unfold apM; rw [List.take_of_length_le (by rw [upsL_len]; omega)]
theorem apP_all (us : List Se) : apP us us.length = (upsL us).map (·.at_) := by unfold apP; rw [List.take_of_length_le (by rw [upsL_len]; omega)]
theorem apP_place (us : List Se) (m : Nat) (hz : ∀ k (h : k < us.length), 0 ≤ us[k].at_ ∧ us[k].at_ < 336) : ∀ k (h : k < (apP us m).length), 0 ≤ (apP us m)[k] ∧ (apP us m)[k] < 336 := by
  intro k h
  have h' := h
  simp only [apP, List.length_map, List.length_take, upsL_len] at h'
  have := hz k (by omega)
  simpa [apP, upsL, up] using this
structure PlI (w0 w : World) (vL vP : Value) (ls : List Mi) (ps : List Int) : Prop where
  l : w.ownsRow w0.heap.size 61 3 vL ls.length (mis ls)
  p : w.ownsRow w0.heap.size 3 1 vP ps.length (ints ps)
  b : Below w0.heap.size w0 w
  z : w0.heap.size ≤ w.heap.size
theorem ty_ne : (3 : Nat) ≠ 61 := by decide
theorem PlI.below {w0 w w' : World} {vL vP : Value} {ls : List Mi} {ps : List Int} (h : PlI w0 w vL vP ls ps) (hb : Below w.heap.size w w') : PlI w0 w' vL vP ls ps :=
  ⟨((own_block h.l).below hb (Nat.le_refl _)).1, ((own_block h.p).below hb (Nat.le_refl _)).1, below_trans h.b hb h.z, Nat.le_trans h.z hb.size⟩
theorem PlI.growL {w0 w w' : World} {vL vP v' : Value} {ls : List Mi} {ps : List Int} (h : PlI w0 w vL vP ls ps) (ms : List Mi) (ho : w'.ownsRow w0.heap.size 61 3 v' (ls.length + ms.length) (mis ls ++ mis ms)) (hg : w.grownBy w' vL.ownBlock) : PlI w0 w' v' vP (ls ++ ms) ps :=
  ⟨by rw [mis_append, List.length_append]; exact ho, (Row.apart (own_block h.p) (own_block h.l) ty_ne hg).1, h.b.grown hg h.z (fun q hq => (h.l.lt q hq).1), Nat.le_trans h.z hg.size⟩
theorem PlI.growP {w0 w w' : World} {vL vP v' : Value} {ls : List Mi} {ps : List Int} (h : PlI w0 w vL vP ls ps) (ks : List Int) (ho : w'.ownsRow w0.heap.size 3 1 v' (ps.length + ks.length) (ints ps ++ ints ks)) (hg : w.grownBy w' vP.ownBlock) : PlI w0 w' vL v' ls (ps ++ ks) :=
  ⟨(Row.apart (own_block h.l) (own_block h.p) (Ne.symm ty_ne) hg).1, by rw [List.length_append, show ints (ps ++ ks) = ints ps ++ ints ks by simp [ints]]; exact ho, h.b.grown hg h.z (fun q hq => (h.p.lt q hq).1), Nat.le_trans h.z hg.size⟩
theorem below_of_drew {w w' : World} (h : Below w.drew.heap.size w.drew w') : Below w.heap.size w w' := below_trans ((Below.refl w.heap.size w).drew) h (Nat.le_refl _)
theorem rd_oneJ (w1 : World) (x : Int) : RdI (w1.alloc (.cells #[.int .i64 x] 3)) (.slice (some ⟨w1.heap.size, 0, none⟩) 1 1) [x] := by
  refine ⟨rfl, _, _, rfl, ⟨Nat.le_refl _, fun e => by cases e⟩, fun _ => ⟨w1.heap.size, 0, rfl, by simp, fun j hj => ?_⟩⟩
  obtain rfl : j = 0 := by simp at hj; omega
  have e := at_new (w := w1) (o := .cells #[.int .i64 x] 3) rfl
  unfold World.cell?
  simp only [e]
  rfl
theorem mis_one_ (m : Mi) : mis [m] = m.cells := by simp [mis]
set_option maxRecDepth 100000 in
set_option maxHeartbeats 4000000 in
theorem l04Apply_any (v : Value) (us : List Se) (w : World) (h : RdE w v us) (hn : us.length ≤ 64) (hz0 : ∀ k (h : k < us.length), 0 ≤ us[k].at_ ∧ us[k].at_ < 336) :
    Calls Tryd.prog 35 #[v] w fun e w' => ∃ v', e = .returned v' ∧ Row w' 61 3 w.heap.size w'.heap.size v' (applyL (upsL us)).length (mis (applyL (upsL us))) ∧ Below w.heap.size w w' := by
  obtain ⟨aZ, cZ, rfl, _, hcZ⟩ := h.shape
  have HZ := hideIt hcZ
  have Z0 := hideIt hz0
  clear h hcZ hz0
  have START : Hid (PlI w ((w.alloc (.cells #[] 61)).alloc (.cells #[] 3)) (.slice (some ⟨w.heap.size, 0, none⟩) 0 0) (.slice (some ⟨w.heap.size + 1, 0, none⟩) 0 0) [] []) := by
    refine ⟨?_, ?_, ((Below.refl w.heap.size w).alloc (Nat.le_refl _) _).alloc (by simp) _, by simp <;> omega⟩
    · exact ((row_empty w 61 3).alloc (Nat.le_refl _) _).1
    · simpa [ints] using World.ownsRow_lit (base := w.heap.size) (e := 3) (size := 1) (w.alloc (.cells #[] 61)) #[] 0 (by simp) (by simp) (by simp)
  go_enter Tryd.func35, Tryd.ntmps35
  go_wp2
  go_loopw [3, 4, 5] (fun vL vP i wr => ∃ m : Nat, m ≤ us.length ∧ i = .int .i64 m ∧ Hid (PlI w wr vL vP (apM us m) (apP us m)) ∧ w.heap.size ≤ wr.heap.size) (fun _ _ i _ => us.length - (intOf i).toNat)
  case atStart => exact ⟨0, by omega, rfl, by simpa [apM, apP] using START, by simp <;> omega⟩
  case round =>
    obtain ⟨m, hm, rfl, J, hz⟩ := hrel
    by_cases hlt : m < us.length
    · obtain ⟨b, o, rfl, hbl, hcell⟩ := HZ.out (by omega)
      have C0 := (J.out.b.cell (p := ⟨b, o + m * 2, none⟩) hbl).trans (hcell m hlt).1
      have C1 := (J.out.b.cell (p := ⟨b, o + m * 2 + 1, none⟩) hbl).trans (hcell m hlt).2
      have EM := hideIt (apM_succ us m hlt)
      have EP := hideIt (apP_succ us m hlt)
      have l1 := apM_len us m
      have l2 := apP_len us m
      have hbr : b < wr.heap.size := by omega
      have DW := hideIt (hcell m hlt)
      clear hcell
      have m0 : (0 : Int) ≤ (m : Int) := by omega
      have m1 : (m : Int) < (us.length : Int) := by omega
      generalize us[m].at_ = x at *
      generalize us[m].val = y at *
      go_wp2_with fail
      go_region_held3 (fun w' => w'.cell? ⟨b, o + m * 2, none⟩ = some (.int .i64 x) ∧ w'.cell? ⟨b, o + m * 2 + 1, none⟩ = some (.int .i64 y)) (first | exact ⟨C0, C1⟩ | exact ⟨s0, s1⟩ | exact ⟨r0, r1⟩ | exact ⟨q0, q1⟩)
        (first
          | (go_at_call 62; refine (l04Store_any _ _ _).mono ?_; rintro e w1 ⟨rfl, hb1⟩; have hb1' := below_of_drew hb1; have q0 := (hb1'.cell (p := ⟨b, o + m * 2, none⟩) hbr).trans C0; have q1 := (hb1'.cell (p := ⟨b, o + m * 2 + 1, none⟩) hbr).trans C1; have P1 := hideIt ((J.out.below hb1').below ((Below.refl _ _).alloc (Nat.le_refl _) (.cells #[.int .i64 1, .int .i64 x, .int .i64 y] 61))); have HRD := hideIt (rd_mic w1 1 x y); have r0 := (P1.out.b.cell (p := ⟨b, o + m * 2, none⟩) hbl).trans DW.out.1; have r1 := (P1.out.b.cell (p := ⟨b, o + m * 2 + 1, none⟩) hbl).trans DW.out.2; have hz1 := P1.out.z; clear hb1 hb1')
          | (refine step_append_rd rfl (.tmp 14) (.tmp 26) 25 rfl w.heap.size 61 (.agg #[.int .i64 0, .int .i64 0, .int .i64 0]) 3 24 Tryd.underlying25 infoMic rfl (by decide) _ _ _ rfl P1.out.l _ 1 _ rfl HRD.out (mic_one _) (by simp [maxLen]; omega) (by omega) hz1 ?_; intro vN wN hownN hgrN; have G := hideIt (P1.out.growL [⟨1, x, y⟩] (by rw [mis_one_]; exact hownN) hgrN); have s0 := (G.out.b.cell (p := ⟨b, o + m * 2, none⟩) hbl).trans DW.out.1; have s1 := (G.out.b.cell (p := ⟨b, o + m * 2 + 1, none⟩) hbl).trans DW.out.2; clear hownN hgrN))
      all_goals
        have hzG := G.out.z
        clear C0 C1 q0 q1 r0 r1 P1 HRD J
        have P2 := hideIt (G.out.below ((Below.refl _ _).alloc (Nat.le_refl _) (.cells #[.int .i64 x] 3)))
        have HR2 := hideIt (rd_oneJ wN x)
        have hz2 := P2.out.z
        clear G
        go_wp2_with (at_builtin; refine wpList_append_rd _ rfl (.tmp 28) (.tmp 34) 28 rfl w.heap.size 3 (.int .i64 0) 1 8 Tryd.underlying28 info3 rfl (by decide) _ _ _ rfl P2.out.p _ 1 _ rfl HR2.out (ints_one _) (by simp [maxLen]; omega) (by omega) hz2 ?_)
        intro vQ wQ hownQ hgrQ
        have G2 := hideIt (P2.out.growP [x] hownQ hgrQ)
        rw [← EM.out, ← EP.out] at G2
        have hz3 := G2.out.z
        clear hownQ hgrQ P2 HR2
        go_wp2
        go_roundw
        case rel => exact ⟨m + 1, by omega, by go_num, G2, hz3⟩
        case measure => simp [intOf]; omega
    · obtain rfl : m = us.length := by omega
      have PL := hideIt (apP_place us us.length Z0.out)
      have l1 := apM_len us us.length
      have l2 := apP_len us us.length
      have EE := hideIt (show applyL (upsL us) = apM us us.length ++ flushL (apP us us.length) ++ [⟨1, 8, 0⟩] ++ flushL [8] by
        rw [apM_all, apP_all]; simp [applyL, seg, cnt, stM])
      have l3 := flushL_len (apP us us.length)
      have l4 := flushL_len [8]
      simp only [List.length_cons, List.length_nil] at l4
      generalize apM us us.length = A at *
      generalize apP us us.length = B at *
      go_wp2_with fail
      refine (l04Flush_any _ B _ (own_block J.out.p).rd (by omega) PL.out).mono ?_
      rintro e w1 ⟨v1, rfl, hr1, hb1⟩
      have P1 := hideIt (J.out.below hb1)
      have R1 := hideIt hr1.rd
      have hz1 := P1.out.z
      clear hr1 hb1 J
      go_wp2_with (at_builtin; refine wpList_append_rd _ rfl (.tmp 36) (.tmp 38) 25 rfl w.heap.size 61 (.agg #[.int .i64 0, .int .i64 0, .int .i64 0]) 3 24 Tryd.underlying25 infoMic rfl (by decide) _ _ _ rfl P1.out.l _ _ _ rfl R1.out (mis_one _) (by simp [maxLen]; omega) (by omega) hz1 ?_)
      intro v2 w2 hown2 hgr2
      have P2 := hideIt (P1.out.growL _ hown2 hgr2)
      have hz2 := P2.out.z
      have l5 : (A ++ flushL B).length ≤ 200 := by simp; omega
      generalize A ++ flushL B = C at *
      clear hown2 hgr2 P1 R1
      go_wp2_with fail
      refine (l04Store_any _ _ _).mono ?_
      rintro e w3 ⟨rfl, hb3⟩
      have P3 := hideIt ((P2.out.below hb3).below ((Below.refl _ _).alloc (Nat.le_refl _) (.cells #[.int .i64 1, .int .i64 8, .int .i64 0] 61)))
      have R3 := hideIt (rd_mic w3 1 8 0)
      have hz3 := P3.out.z
      clear hb3 P2
      go_wp2_with (at_builtin; refine wpList_append_rd _ rfl (.tmp 40) (.tmp 42) 25 rfl w.heap.size 61 (.agg #[.int .i64 0, .int .i64 0, .int .i64 0]) 3 24 Tryd.underlying25 infoMic rfl (by decide) _ _ _ rfl P3.out.l _ 1 _ rfl R3.out (mic_one _) (by simp [maxLen]; omega) (by omega) hz3 ?_)
      intro v4 w4 hown4 hgr4
      have P4 := hideIt (P3.out.growL [⟨1, 8, 0⟩] (by rw [mis_one_]; exact hown4) hgr4)
      have l6 : (C ++ [(⟨1, 8, 0⟩ : Mi)]).length ≤ 201 := by simp; omega
      generalize C ++ [(⟨1, 8, 0⟩ : Mi)] = D at *
      have P5 := hideIt (P4.out.below ((Below.refl _ _).alloc (Nat.le_refl _) (.cells #[.int .i64 8] 3)))
      have R5 := hideIt (rd_oneJ w4 8)
      clear hown4 hgr4 P3 R3 P4
      go_wp2_with fail
      refine (l04Flush_any _ [8] _ R5.out (by simp) (by intro k h; simp at h; subst h; simp)).mono ?_
      rintro e w6 ⟨v6, rfl, hr6, hb6⟩
      have P6 := hideIt (P5.out.below hb6)
      have R6 := hideIt hr6.rd
      have hz6 := P6.out.z
      clear hr6 hb6 P5 R5
      go_wp2_with (at_builtin; refine wpList_append_rd _ rfl (.tmp 44) (.tmp 46) 25 rfl w.heap.size 61 (.agg #[.int .i64 0, .int .i64 0, .int .i64 0]) 3 24 Tryd.underlying25 infoMic rfl (by decide) _ _ _ rfl P6.out.l _ _ _ rfl R6.out (mis_one _) (by simp [maxLen]; omega) (by omega) hz6 ?_)
      intro v7 w7 hown7 hgr7
      have P7 := hideIt (P6.out.growL _ hown7 hgr7)
      rw [← EE.out] at P7
      obtain ⟨aL, cL, hvL⟩ := RdM.form (own_block P7.out.l).rd rfl
      subst hvL
      clear hown7 hgr7 P6 R6
      go_wp2
      go_ret
      exact ⟨_, rfl, own_block P7.out.l, P7.out.b⟩
end Go.Proofs.YtbjalmiheipjjaaDoor
