/- Steps told in words: MicroText by the program, PlanText by both. -/
import Derived.Test.YtjkdmhdehihcbaaGreatDoorMtB
namespace Go.Proofs.YtjkdmhdehihcbaaGreatDoor
open Go.RowKit
theorem row_noneM (w : World) : Row (w.alloc (.cells #[] 9)) 9 1 w.heap.size (w.alloc (.cells #[] 9)).heap.size (.slice (some ⟨w.heap.size, 0, none⟩) 0 0) 0 [] :=
  own_block (World.ownsRow_lit w #[] 0 (Nat.le_refl _) (by simp [maxLen]) (by simp))
set_option maxRecDepth 100000 in
set_option maxHeartbeats 4000000 in
theorem implMicroText_any (m : Mi) (w : World) (hS : SB w) (hF : StF w) (hP : PT w) : Calls Tryz.prog 14 #[m.v] w fun e w' => e = .returned (.tuple #[.string (mtS m), .int .i64 (mtK m)]) ∧ Below w.heap.size w w' := by
  have LM := hideIt (fun w1 (hb : Below w.heap.size w w1) => isStep_any m w1 (hS.below hb))
  have LT := hideIt (fun (h : miB m = true) w1 (hb : Below w.heap.size w w1) => stepText_any m w1 h (hF.below hb) (hP.below hb))
  clear hS hF hP
  obtain ⟨V, hV⟩ : ∃ V, V = w.alloc (.cells #[.int .i64 m.kind, .int .i64 m.at_, .int .i64 m.val] 41) := ⟨_, rfl⟩
  have hb0 : Hid (Below w.heap.size w V) := by rw [hV]; exact (Below.refl _ _).alloc (Nat.le_refl _) _
  have XV : Hid (V.heap[w.heap.size]? = some (.cells #[.int .i64 m.kind, .int .i64 m.at_, .int .i64 m.val] 41 (0, 0))) := by rw [hV]; exact at_new rfl
  unfold Mi.v at LM LT ⊢
  unfold mtS mtK
  have zV := (Array.getElem?_eq_some_iff.1 XV.out).1
  cases hm : miB m with
  | false =>
    rw [hm] at LM
    rw [if_neg (by decide), if_neg (by decide)]
    clear LT hm
    generalize m.kind = k at *
    generalize m.at_ = a at *
    generalize m.val = v at *
    go_enter Tryz.func14, Tryz.ntmps14
    go_upto_region 1 with fail
    rw [← hV]
    clear hV
    obtain ⟨x0, x1, x2⟩ := three_cells XV.out
    go_wp2_with fail
    refine (LM.out _ hb0.out).mono ?_
    rintro e w1 ⟨rfl, hb1⟩
    have B1 := hideIt (below_trans hb0.out hb1 hb0.out.size)
    clear hb1 x0 x1 x2
    go_wp2
    go_ret2
    exact ⟨rfl, B1.out⟩
  | true =>
    rw [hm] at LM
    have LT1 := hideIt (LT.out hm)
    rw [if_pos rfl, if_pos rfl]
    clear LT hm
    generalize miT m = s at *
    generalize m.kind = k at *
    generalize m.at_ = a at *
    generalize m.val = v at *
    go_enter Tryz.func14, Tryz.ntmps14
    go_upto_region 1 with fail
    rw [← hV]
    clear hV
    obtain ⟨x0, x1, x2⟩ := three_cells XV.out
    go_wp2_with fail
    refine (LM.out _ hb0.out).mono ?_
    rintro e w1 ⟨rfl, hb1⟩
    have B1 := hideIt (below_trans hb0.out hb1 hb0.out.size)
    have X1 := hideIt ((hb1.block _ zV).trans XV.out)
    clear hb1 x0 x1 x2
    obtain ⟨x0, x1, x2⟩ := three_cells X1.out
    go_wp2_with fail
    refine (LT1.out _ B1.out).mono ?_
    rintro e w2 ⟨rfl, hb2⟩
    have B2 := hideIt (below_trans B1.out hb2 B1.out.size)
    clear hb2 x0 x1 x2
    go_wp2
    go_ret2
    exact ⟨rfl, B2.out⟩
def ptL (l : List Mi) : List ByteArray := if l.length ≤ 4096 ∧ misB l = true then l.map miT else []
def ptC (l : List Mi) : Int := if 4096 < l.length then 2 else if misB l = true then 0 else 1
theorem map_take_mi (l : List Mi) (k : Nat) (h : k < l.length) : (l.take (k + 1)).map miT = (l.take k).map miT ++ [miT l[k]] := by
  rw [List.take_succ_eq_append_getElem h, List.map_append]
  rfl
theorem map_all_mi (l : List Mi) : (l.take l.length).map miT = l.map miT := by rw [List.take_length]
set_option maxRecDepth 100000 in
set_option maxHeartbeats 8000000 in
theorem specPlanText_any (v : Value) (l : List Mi) (w : World) (h : RdM w v l) (hn : l.length ≤ 1048576) :
    Calls Tryz.prog 12 #[v] w fun e w' => ∃ vL, e = .returned (.tuple #[vL, .int .i64 (ptC l)]) ∧ Row w' 9 1 w.heap.size w'.heap.size vL (ptL l).length (strs (ptL l)) ∧ Below w.heap.size w w' := by
  obtain ⟨aP, cP, rfl, -, hcP⟩ := h.shape
  clear h
  unfold ptL ptC
  by_cases cl : 4096 < l.length
  · rw [if_neg (show ¬ (l.length ≤ 4096 ∧ misB l = true) by omega), if_pos cl]
    have cl1 : (4096 : Int) < (l.length : Int) := by omega
    have R0 := hideIt (row_noneM w)
    have B0 : Hid (Below w.heap.size w (w.alloc (.cells #[] 9))) := (Below.refl _ _).alloc (Nat.le_refl _) _
    clear hcP cl
    go_enter Tryz.func12, Tryz.ntmps12
    go_wp2
    go_ret2
    exact ⟨_, rfl, R0.out, B0.out⟩
  have cl1 : ¬ (4096 : Int) < (l.length : Int) := by omega
  rw [if_neg cl]
  have LM := hideIt (fun k (hk : k < l.length) w1 => l04Micro_any l[k] w1)
  have LT := hideIt (fun k (hk : k < l.length) (h : miB l[k] = true) w1 => l15Micro_any l[k] w1 h)
  unfold Mi.v at LM LT
  obtain ⟨A, hA⟩ : ∃ A, A = (if l.length ≤ 4096 ∧ misB l = true then l.map miT else []) := ⟨_, rfl⟩
  obtain ⟨C, hC⟩ : ∃ C : Int, C = (if misB l = true then 0 else 1) := ⟨_, rfl⟩
  have AT : Hid (misB l = true → A = l.map miT ∧ C = 0) := fun h => ⟨hA.trans (if_pos ⟨by omega, h⟩), hC.trans (if_pos h)⟩
  have AF : Hid (misB l = false → A = [] ∧ C = 1) := fun h => ⟨hA.trans (if_neg (by rw [h]; simp)), hC.trans (if_neg (by rw [h]; simp))⟩
  rw [← hA, ← hC]
  clear hA hC
  obtain ⟨W, hW⟩ : ∃ W, W = w.alloc (.cells #[] 9) := ⟨_, rfl⟩
  have BW : Hid (Below w.heap.size w W) := by rw [hW]; exact (Below.refl _ _).alloc (Nat.le_refl _) _
  have START : Hid (SnI w W (.slice (some ⟨w.heap.size, 0, none⟩) 0 0) ((l.take 0).map miT)) := by
    rw [hW]
    exact ⟨(row_noneM w).1, (Below.refl _ _).alloc (Nat.le_refl _) _⟩
  go_enter Tryz.func12, Tryz.ntmps12
  go_upto_region 4 with fail
  rw [← hW]
  clear hW BW
  go_wp2_with fail
  go_loopg [4, 5] l.length (fun g o i wr => ∃ k : Nat, k + g = l.length ∧ i = .int .i64 k ∧ Hid (∀ j (h : j < l.length), j < k → miB l[j] = true) ∧ Hid (SnI w wr o ((l.take k).map miT)))
  case atStart => exact ⟨0, by omega, rfl, fun j h a => absurd a (by omega), START.out⟩
  case round =>
    obtain ⟨k, hk, rfl, H, J⟩ := hrel
    clear START
    have k0 : (0 : Int) ≤ (k : Int) := by omega
    have zr := J.out.z
    by_cases hlt : k < l.length
    · have k1 : (k : Int) < (l.length : Int) := by omega
      obtain ⟨b2, o2, rfl, hbl2, hcell2⟩ := hcP (by omega)
      obtain ⟨d0, d1, d2⟩ := hcell2 k hlt
      have e0 := (J.out.b.cell (p := ⟨b2, o2 + k * 3, none⟩) hbl2).trans d0
      have e1 := (J.out.b.cell (p := ⟨b2, o2 + k * 3 + 1, none⟩) hbl2).trans d1
      have e2 := (J.out.b.cell (p := ⟨b2, o2 + k * 3 + 2, none⟩) hbl2).trans d2
      have LM2 := hideIt (LM.out k hlt)
      have LT2 := hideIt (LT.out k hlt)
      have SU := hideIt (map_take_mi l k hlt)
      have ll : ((l.take k).map miT).length ≤ 1048576 := by rw [List.length_map, List.length_take]; omega
      cases q : miB l[k] with
      | false =>
        rw [q] at LM2
        obtain ⟨rfl, rfl⟩ := AF.out (misB_not hlt q)
        clear AT AF LT LT2 LM SU hcell2 hcP q d0 d1 d2 ll H
        have BR := hideIt J.out.b
        generalize l[k].kind = ki at *
        generalize l[k].at_ = at_ at *
        generalize l[k].val = vl at *
        go_wp2_with fail
        refine (LM2.out _).mono ?_
        rintro e w5 ⟨rfl, hb5⟩
        have B5 := hideIt (below_trans BR.out hb5 BR.out.size)
        have R5 := hideIt ((row_noneM w5).wide (lo' := w.heap.size) B5.out.size (Nat.le_refl _))
        have B6 : Hid (Below w.heap.size w (w5.alloc (.cells #[] 9))) := B5.out.alloc B5.out.size _
        clear hb5 e0 e1 e2
        go_wp2
        go_ret2
        exact ⟨_, rfl, R5.out, B6.out⟩
      | true =>
        rw [q] at LM2
        have LT3 := hideIt (LT2.out q)
        have Q := hideIt q
        have EM : Hid (∀ j (h : j < l.length), j < k + 1 → miB l[j] = true) := fun j h a => by
          by_cases e : j = k
          · subst e; exact Q.out
          · exact H.out j h (by omega)
        obtain ⟨L', eL⟩ : ∃ L', L' = (l.take (k + 1)).map miT := ⟨_, rfl⟩
        rw [← eL] at SU
        have EL := hideIt eL
        clear eL LT LT2 LM q Q H
        generalize (l.take k).map miT = L at *
        generalize miT l[k] = s at *
        generalize l[k].kind = ki at *
        generalize l[k].at_ = at_ at *
        generalize l[k].val = vl at *
        go_wp2_with fail
        refine (LM2.out _).mono ?_
        rintro e w5 ⟨rfl, hb5⟩
        have J5 := hideIt (J.out.below hb5)
        have f0 := (J5.out.b.cell (p := ⟨b2, o2 + k * 3, none⟩) hbl2).trans d0
        have f1 := (J5.out.b.cell (p := ⟨b2, o2 + k * 3 + 1, none⟩) hbl2).trans d1
        have f2 := (J5.out.b.cell (p := ⟨b2, o2 + k * 3 + 2, none⟩) hbl2).trans d2
        clear hb5 e0 e1 e2 J LM2
        go_wp2_with fail
        refine (LT3.out _).mono ?_
        rintro e w6 ⟨rfl, hb6⟩
        have JB := hideIt ((J5.out.below hb6).below ((Below.refl _ _).alloc (Nat.le_refl _) (.cells #[.string s] 9)))
        have RB := hideIt (rd_str w6 s)
        have zB := JB.out.z
        clear hb6 f0 f1 f2 J5 LT3
        go_wp2_with (at_builtin; refine wpList_append_rd _ rfl (.tmp 24) (.tmp 30) 35 rfl w.heap.size 9 (.string ⟨#[]⟩) 1 16 Tryz.underlying35 info9 rfl (by decide) _ _ _ rfl JB.out.l _ 1 _ rfl RB.out (strs_one _) (by first | omega | (simp [maxLen]; omega)) (by first | omega | (simp; omega)) zB ?_)
        intro vN wN hownN hgrN
        have G := hideIt (JB.out.grow [s] rfl hownN hgrN)
        rw [← SU.out, EL.out] at G
        clear hownN hgrN JB RB
        go_wp2
        go_roundg (l.length - (k + 1))
        case measure => omega
        case rel => exact ⟨k + 1, by omega, by go_num, EM.out, G.out⟩
    · obtain rfl : k = l.length := by omega
      obtain ⟨eA, rfl⟩ := AT.out (misB_mk (fun j h => H.out j h h))
      have G := hideIt J.out
      rw [map_all_mi l, ← eA] at G
      clear AT AF LT LM J H hcP eA
      have RW := hideIt (own_block G.out.l)
      have BR := hideIt G.out.b
      clear G
      obtain ⟨-, aL, cL, hvL, -⟩ := id RW.out.rd
      subst hvL
      go_wp2
      go_ret2
      exact ⟨.slice aL A.length cL, rfl, RW.out, BR.out⟩
set_option maxRecDepth 100000 in
set_option maxHeartbeats 8000000 in
theorem implPlanText_any (v : Value) (l : List Mi) (w : World) (h : RdM w v l) (hn : l.length ≤ 1048576) (hS : SB w) (hF : StF w) (hP : PT w) :
    Calls Tryz.prog 11 #[v] w fun e w' => ∃ vL, e = .returned (.tuple #[vL, .int .i64 (ptC l)]) ∧ Row w' 9 1 w.heap.size w'.heap.size vL (ptL l).length (strs (ptL l)) ∧ Below w.heap.size w w' := by
  have LE := hideIt (fun w1 (hb : Below w.heap.size w w1) => everyStep_any v l w1 (hS.below hb) (Rd.below h hb) hn)
  obtain ⟨aP, cP, rfl, -, hcP⟩ := h.shape
  clear h
  unfold ptL ptC
  by_cases cl : 4096 < l.length
  · rw [if_neg (show ¬ (l.length ≤ 4096 ∧ misB l = true) by omega), if_pos cl]
    have cl1 : (4096 : Int) < (l.length : Int) := by omega
    clear hcP cl LE
    go_enter Tryz.func11, Tryz.ntmps11
    go_wp2
    go_ret2
    exact ⟨_, rfl, Row.nil _ _ _ _ _, Below.refl _ _⟩
  have cl1 : ¬ (4096 : Int) < (l.length : Int) := by omega
  rw [if_neg cl]
  cases q : misB l with
  | false =>
    rw [q] at LE
    rw [if_neg (by simp), if_neg (by simp)]
    clear hcP q cl
    go_enter Tryz.func11, Tryz.ntmps11
    go_wp2_with fail
    refine (LE.out _ (Below.refl _ _)).mono ?_
    rintro e w1 ⟨rfl, hb1⟩
    have B1 := hideIt hb1
    clear hb1 LE
    go_wp2
    go_ret2
    exact ⟨_, rfl, Row.nil _ _ _ _ _, B1.out⟩
  | true =>
    rw [q] at LE
    rw [if_pos (show l.length ≤ 4096 ∧ true = true from ⟨by omega, rfl⟩), if_pos (show true = true from rfl)]
    have HM := hideIt (misB_true q)
    have LT := hideIt (fun k (hk : k < l.length) w1 (hb : Below w.heap.size w w1) => stepText_any l[k] w1 (HM.out k hk) (hF.below hb) (hP.below hb))
    unfold Mi.v at LT
    obtain ⟨A, hA⟩ : ∃ A, A = l.map miT := ⟨_, rfl⟩
    have EA : Hid ((l.take l.length).map miT = A) := (map_all_mi l).trans hA.symm
    rw [← hA]
    clear hA q cl HM hF hP hS
    go_enter Tryz.func11, Tryz.ntmps11
    go_wp2_with fail
    refine (LE.out _ (Below.refl _ _)).mono ?_
    rintro e w1 ⟨rfl, hb1⟩
    have B1 := hideIt hb1
    have START : Hid (SnI w w1 (.slice none 0 0) ((l.take 0).map miT)) := ⟨World.ownsRow_nil _ _ _ _, hb1⟩
    clear hb1 LE B1
    go_wp2_with fail
    go_loopg [4, 15] l.length (fun g o i wr => ∃ k : Nat, k + g = l.length ∧ i = .int .i64 k ∧ Hid (SnI w wr o ((l.take k).map miT)))
    case atStart => exact ⟨0, by omega, rfl, START.out⟩
    case round =>
      obtain ⟨k, hk, rfl, J⟩ := hrel
      clear START
      have k0 : (0 : Int) ≤ (k : Int) := by omega
      have zr := J.out.z
      by_cases hlt : k < l.length
      · have k1 : (k : Int) < (l.length : Int) := by omega
        obtain ⟨b2, o2, rfl, hbl2, hcell2⟩ := hcP (by omega)
        obtain ⟨d0, d1, d2⟩ := hcell2 k hlt
        have e0 := (J.out.b.cell (p := ⟨b2, o2 + k * 3, none⟩) hbl2).trans d0
        have e1 := (J.out.b.cell (p := ⟨b2, o2 + k * 3 + 1, none⟩) hbl2).trans d1
        have e2 := (J.out.b.cell (p := ⟨b2, o2 + k * 3 + 2, none⟩) hbl2).trans d2
        have LT2 := hideIt (LT.out k hlt)
        have SU := hideIt (map_take_mi l k hlt)
        have ll : ((l.take k).map miT).length ≤ 1048576 := by rw [List.length_map, List.length_take]; omega
        obtain ⟨L', eL⟩ : ∃ L', L' = (l.take (k + 1)).map miT := ⟨_, rfl⟩
        rw [← eL] at SU
        have EL := hideIt eL
        clear eL LT d0 d1 d2 hcell2
        generalize (l.take k).map miT = L at *
        generalize miT l[k] = s at *
        generalize l[k].kind = ki at *
        generalize l[k].at_ = at_ at *
        generalize l[k].val = vl at *
        have JX := hideIt (J.out.below ((Below.refl _ _).alloc (Nat.le_refl _) (.cells #[.int .i64 ki, .int .i64 at_, .int .i64 vl] 41)))
        obtain ⟨g0, g1, g2⟩ := three_new wr (.int .i64 ki) (.int .i64 at_) (.int .i64 vl) 41
        go_wp2_with fail
        refine (LT2.out _ JX.out.b).mono ?_
        rintro e w6 ⟨rfl, hb6⟩
        have JB := hideIt ((JX.out.below hb6).below ((Below.refl _ _).alloc (Nat.le_refl _) (.cells #[.string s] 9)))
        have RB := hideIt (rd_str w6 s)
        have zB := JB.out.z
        clear hb6 e0 e1 e2 g0 g1 g2 JX J LT2
        go_wp2_with (at_builtin; refine wpList_append_rd _ rfl (.tmp 19) (.tmp 22) 35 rfl w.heap.size 9 (.string ⟨#[]⟩) 1 16 Tryz.underlying35 info9 rfl (by decide) _ _ _ rfl JB.out.l _ 1 _ rfl RB.out (strs_one _) (by first | omega | (simp [maxLen]; omega)) (by first | omega | (simp; omega)) zB ?_)
        intro vN wN hownN hgrN
        have G := hideIt (JB.out.grow [s] rfl hownN hgrN)
        rw [← SU.out, EL.out] at G
        clear hownN hgrN JB RB
        go_wp2
        go_roundg (l.length - (k + 1))
        case measure => omega
        case rel => exact ⟨k + 1, by omega, by go_num, G.out⟩
      · obtain rfl : k = l.length := by omega
        have G := hideIt J.out
        rw [EA.out] at G
        have RW := hideIt (own_block G.out.l)
        have BR := hideIt G.out.b
        clear G J EA LT hcP
        obtain ⟨-, aL, cL, hvL, -⟩ := id RW.out.rd
        subst hvL
        go_wp2
        go_ret2
        exact ⟨.slice aL A.length cL, rfl, RW.out, BR.out⟩
end Go.Proofs.YtjkdmhdehihcbaaGreatDoor
