/- A new file system: by model and program. -/
import Derived.Test.YtipklbnfobckaaaDoorFqC
import Derived.Test.YtipklbnfobckaaaDoorNdB
import Derived.Test.YtipklbnfobckaaaDoorNdC
import Derived.Test.YtipklbnfobckaaaDoorTrF
namespace Go.Proofs.YtipklbnfobckaaaDoor
open Go.RowKit

theorem NHL : (newH 128).length = 128 := by unfold newH; simp
theorem NDL : 3 ≤ ndW.length ∧ 3 ≤ zs32.length := ⟨by rw [ndW_len]; decide, by rw [zs32_len]; decide⟩
set_option maxRecDepth 100000 in
set_option maxHeartbeats 16000000 in
theorem newFs_exact (w : World) : Calls Tryd.prog 4 #[] w fun e w' => ∃ v', e = .returned v' ∧ RdFs w' v' ndW zs32 (newH 128) [] 0 0 [] false ∧ Below w.heap.size w w' := by
  obtain ⟨V, hV⟩ : ∃ V, V = w.alloc (.cells zeroF.toArray 36) := ⟨_, rfl⟩
  have YV : Hid (V.heap[w.heap.size]? = some (.cells zeroF.toArray 36 (0, 0))) := by rw [hV]; exact at_new rfl
  have BV : Hid (Below w.heap.size w V) := by rw [hV]; exact (Below.refl _ _).alloc (Nat.le_refl _) _
  have zV : Hid (w.heap.size < V.heap.size) := by rw [hV]; simp [Hid]
  unfold zeroF at hV
  go_enter Tryd.func4, Tryd.ntmps4
  go_upto_region 1 with fail
  rw [← hV]
  clear hV
  go_wp2_with fail
  refine (specNewDevices_any V).mono ?_
  rintro e w1 ⟨v1, rfl, hr1, hb1⟩
  obtain ⟨iW, jW, iP, jP, iS, jS, iQ, jQ, rfl, -, -⟩ := hr1.form
  have D1 := hideIt hr1
  have B1 := hideIt hb1
  clear hr1 hb1
  go_wp2_with fail
  refine (l09New_any w1).mono ?_
  rintro e w2 ⟨v2, rfl, hr2, hb2⟩
  have R2 : Hid (RdI w2 v2 (newH 128)) := hr2.rd
  obtain ⟨-, iH, jH, hv2, -⟩ := hr2.rd
  subst hv2
  have D2 := hideIt (D1.out.below hb2)
  have B2 := hideIt (below_trans B1.out hb2 B1.out.size)
  have z2 : Hid (V.heap.size ≤ w2.heap.size) := B2.out.size
  clear hr2 hb2 D1 B1
  have Y2 := hideIt ((B2.out.block w.heap.size zV.out).trans YV.out)
  obtain ⟨X, hX⟩ : ∃ X, X = (w2.alloc (.cells #[] 65)).alloc (.cells #[] 9) := ⟨_, rfl⟩
  have BX : Hid (Below w2.heap.size w2 X) := by rw [hX]; exact ((Below.refl _ _).alloc (Nat.le_refl _) _).alloc (by simp) _
  have YX : Hid (X.heap[w.heap.size]? = some (.cells zeroF.toArray 36 (0, 0))) := by rw [hX]; exact at_old (at_old Y2.out)
  have YX' : X.heap[w.heap.size]? = some (.cells #[.slice none 0 0, .slice none 0 0, .slice none 0 0, .slice none 0 0, .slice none 0 0, .slice none 0 0, .int .i64 0, .int .i64 0, .slice none 0 0, .bool false] 36 (0, 0)) := YX.out
  obtain ⟨x0, x1, x2, x3, x4, x5, x6, x7, x8, x9, g0, g1, g2, g3, g4, g5, g6, g7, g8, g9⟩ := ten_cells YX'
  clear YX'
  have O4 := hideIt (put10_out X w.heap.size (.slice iW ndW.length jW) (.slice iP 0 jP) (.slice iS zs32.length jS) (.slice iQ 0 jQ) (.slice iH (newH 128).length jH) (.slice (some ⟨w2.heap.size, 0, none⟩) 0 0) (.int .i64 0) (.int .i64 0) (.slice (some ⟨w2.heap.size + 1, 0, none⟩) 0 0) (.bool false))
  have S4 := hideIt (Soft.outside O4.out YX.out rfl)
  have SS := hideIt ((Soft.of_below BX.out).trans S4.out)
  have B3 := hideIt (below_trans (below_trans BV.out B2.out BV.out.size) BX.out (by have q := zV.out; have q1 := z2.out; omega))
  have B4 := hideIt (B3.out.trans (O4.out.below (B := w.heap.size) (Nat.le_refl _) B3.out.size))
  have F4 : Hid (RdFs (put10 X w.heap.size (.slice iW ndW.length jW) (.slice iP 0 jP) (.slice iS zs32.length jS) (.slice iQ 0 jQ) (.slice iH (newH 128).length jH) (.slice (some ⟨w2.heap.size, 0, none⟩) 0 0) (.int .i64 0) (.int .i64 0) (.slice (some ⟨w2.heap.size + 1, 0, none⟩) 0 0) (.bool false)) (.agg #[.slice iW ndW.length jW, .slice iP 0 jP, .slice iS zs32.length jS, .slice iQ 0 jQ, .slice iH (newH 128).length jH, .slice (some ⟨w2.heap.size, 0, none⟩) 0 0, .int .i64 0, .int .i64 0, .slice (some ⟨w2.heap.size + 1, 0, none⟩) 0 0, .bool false]) ndW zs32 (newH 128) [] 0 0 [] false) :=
    ⟨iW, jW, iP, jP, iS, jS, iQ, jQ, iH, jH, _, _, _, _, rfl, D2.out.soft SS.out NDL.1 NDL.2, RdI.soft R2.out SS.out (by rw [NHL]; decide), ⟨rfl, _, _, rfl, ⟨Nat.le_refl _, fun e => by cases e⟩, fun h => absurd h (by simp)⟩, ⟨rfl, _, _, rfl, ⟨Nat.le_refl _, fun e => by cases e⟩, fun h => absurd h (by simp)⟩⟩
  clear O4 S4 SS B3 BX YX D2 R2 Y2
  subst hX
  go_wp2
  refine bodyPost_ret (v := .agg #[.slice iW ndW.length jW, .slice iP 0 jP, .slice iS zs32.length jS, .slice iQ 0 jQ, .slice iH (newH 128).length jH, .slice (some ⟨w2.heap.size, 0, none⟩) 0 0, .int .i64 0, .int .i64 0, .slice (some ⟨w2.heap.size + 1, 0, none⟩) 0 0, .bool false]) (by simp [results, Tryd.results4, go_sem, x0, x1, x2, x3, x4, x5, x6, x7, x8, x9]) rfl ?_
  exact ⟨_, rfl, F4.out, B4.out⟩

set_option maxRecDepth 100000 in
set_option maxHeartbeats 16000000 in
theorem implNewFs_any (w : World) (hT : TS w) (hE : ED w) : Calls Tryd.prog 5 #[] w fun e w' => ∃ v', e = .returned v' ∧ RowF w' w.heap.size w'.heap.size v' ndW [] zs32 [] (newH 128) [] 0 0 [] false ∧ Below w.heap.size w w' := by
  have LD := hideIt (fun w1 (hb : Below w.heap.size w w1) => implNewDevices_any w1 (hT.below hb) (hE.below hb))
  clear hT hE
  obtain ⟨V, hV⟩ : ∃ V, V = (w.alloc (.cells #[.slice none 0 0, .slice none 0 0, .slice none 0 0, .slice none 0 0, .slice none 0 0, .slice none 0 0, .int .i64 0, .int .i64 0, .slice none 0 0, .bool false] 36)) := ⟨_, rfl⟩
  have zV : w.heap.size + 1 ≤ V.heap.size := by rw [hV]; simp <;> omega
  have B_V : Hid (Below w.heap.size w V) := by rw [hV]; exact ((Below.refl _ _).alloc (by simp <;> omega) _)
  have X0_V : Hid (V.heap[w.heap.size]? = some (.cells #[.slice none 0 0, .slice none 0 0, .slice none 0 0, .slice none 0 0, .slice none 0 0, .slice none 0 0, .int .i64 0, .int .i64 0, .slice none 0 0, .bool false] 36 (0, 0))) := by rw [hV]; exact (at_new rfl)
  go_enter Tryd.func5, Tryd.ntmps5
  go_upto_region 1 with fail
  rw [← hV]
  clear hV
  go_wp2_with fail
  refine (LD.out V B_V.out).mono ?_
  rintro e w1 ⟨v', rfl, hr, hb⟩
  obtain ⟨iW, jW, iP, jP, iS, jS, iQ, jQ, rfl, -, -⟩ := hr.rd.form
  clear LD
  have zw1 : V.heap.size ≤ w1.heap.size := hb.size
  have B_w1 := hideIt (below_trans B_V.out hb B_V.out.size)
  have X0_w1 := hideIt (box_below X0_V.out hb (lt_box X0_V.out))
  clear B_V hb X0_V
  have QD_w1 := hideIt (RowDev.wide hr (lo' := w.heap.size + 1) (hi' := w1.heap.size) (by omega) (Nat.le_refl _))
  clear hr
  go_wp2_with fail
  refine (implNewHeat_any w1).mono ?_
  rintro e w2 ⟨v', rfl, hr, hb⟩
  obtain ⟨-, iH, jH, rfl, -⟩ := hr.rd
  have zw2 : w1.heap.size ≤ w2.heap.size := hb.size
  have B_w2 := hideIt (below_trans B_w1.out hb B_w1.out.size)
  have X0_w2 := hideIt (box_below X0_w1.out hb (lt_box X0_w1.out))
  have QD_w2 := hideIt (QD_w1.out.below hb (by omega))
  clear B_w1 hb X0_w1 QD_w1
  have QH_w2 := hideIt (Row.wide hr (lo' := w1.heap.size) (hi' := w2.heap.size) (Nat.le_refl _) (Nat.le_refl _))
  clear hr
  obtain ⟨d0, d1, d2, d3, d4, d5, d6, d7, d8, d9, g0, g1, g2, g3, g4, g5, g6, g7, g8, g9⟩ := ten_cells X0_w2.out
  obtain ⟨w3, hw3⟩ : ∃ w3, w3 = ((((((((((w2.setCell ⟨w.heap.size, 0, none⟩ (.slice iW ndW.length jW)).setCell ⟨w.heap.size, 1, none⟩ (.slice iP 0 jP)).setCell ⟨w.heap.size, 2, none⟩ (.slice iS zs32.length jS)).setCell ⟨w.heap.size, 3, none⟩ (.slice iQ 0 jQ)).setCell ⟨w.heap.size, 4, none⟩ (.slice iH (newH 128).length jH)).setCell ⟨w.heap.size, 5, none⟩ (.slice none 0 0)).setCell ⟨w.heap.size, 6, none⟩ (.int .i64 0)).setCell ⟨w.heap.size, 7, none⟩ (.int .i64 0)).setCell ⟨w.heap.size, 8, none⟩ (.slice none 0 0)).setCell ⟨w.heap.size, 9, none⟩ (.bool false)) := ⟨_, rfl⟩
  have Ow3 : Outside (w.heap.size) (w.heap.size + 1) w2 w3 := by
    rw [hw3]
    repeat (refine Outside.setCell ?_ (by simp only; omega) (by simp only; omega) _)
    exact Outside.refl _ _ _
  have zw3 : w2.heap.size ≤ w3.heap.size ∧ w3.heap.size ≤ w2.heap.size := by rw [hw3]; simp [World.setCell]
  have B_w3 := hideIt (B_w2.out.trans (Ow3.below (B := w.heap.size) (by omega) B_w2.out.size))
  have X0_w3 : Hid (w3.heap[w.heap.size]? = some (.cells #[.slice iW ndW.length jW, .slice iP 0 jP, .slice iS zs32.length jS, .slice iQ 0 jQ, .slice iH (newH 128).length jH, .slice none 0 0, .int .i64 0, .int .i64 0, .slice none 0 0, .bool false] 36 (0, 0))) := by rw [hw3]; exact (ten_set9 (ten_set8 (ten_set7 (ten_set6 (ten_set5 (ten_set4 (ten_set3 (ten_set2 (ten_set1 (ten_set0 X0_w2.out _) _) _) _) _) _) _) _) _) _)
  have QD_w3 := hideIt (QD_w2.out.outside Ow3 (by omega) (by omega))
  have QH_w3 := hideIt (QH_w2.out.outside Ow3 (by omega) (by omega))
  clear Ow3
  go_wp2
  refine bodyPost_ret (v := .agg #[.slice iW ndW.length jW, .slice iP 0 jP, .slice iS zs32.length jS, .slice iQ 0 jQ, .slice iH (newH 128).length jH, .slice none 0 0, .int .i64 0, .int .i64 0, .slice none 0 0, .bool false]) (by simp [results, Tryd.results5, go_sem, d0, d1, d2, d3, d4, d5, d6, d7, d8, d9]) rfl ?_
  rw [← hw3]
  refine ⟨_, rfl, ⟨_, _, _, _, _, _, _, _, _, _, _, w.heap.size, w.heap.size, w.heap.size, w.heap.size, rfl, QD_w3.out, QH_w3.out, RowW.nil _ _ _, Row.nil _ _ _ _ _, ?_⟩, B_w3.out⟩
  exact ⟨by omega, by omega, by omega, by omega, by omega, by omega, by omega, by omega, by omega, by omega, by omega, by omega, by omega, by omega⟩
end Go.Proofs.YtipklbnfobckaaaDoor
