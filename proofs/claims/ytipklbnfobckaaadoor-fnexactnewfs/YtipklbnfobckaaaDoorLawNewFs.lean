/- The law of NewFs: the walk. -/
import Derived.Test.YtipklbnfobckaaaDoorFqQ
namespace Go.Proofs.YtipklbnfobckaaaDoor
open Go.RowKit

theorem NDN : ndW.length = 336 := ndW_len
theorem ZSN : zs32.length = 32 := zs32_len
set_option maxRecDepth 100000 in
set_option maxHeartbeats 16000000 in
theorem newFs_law (w : World) (hT : TS w) (hE : ED w) : Calls Tryd.prog 3 #[] w fun e w' => e = .returned (.bool true) ∧ Below w.heap.size w w' := by
  have SC := hideIt (fun w1 => newFs_exact w1)
  have IC := hideIt (fun w1 (hb : Below w.heap.size w w1) => implNewFs_any w1 (hT.below hb) (hE.below hb))
  clear hT hE
  have l1 := hideIt (And.intro NDN (And.intro ZSN NHL))
  obtain ⟨km, ekm⟩ : ∃ km : Int, km = kD 1 ndW.length ([] : List St).length zs32.length ([] : List Se).length + (newH 128).length + 3 * ([] : List Mi).length + ([] : List ByteArray).length := ⟨_, rfl⟩
  have km0 : ¬ km < 0 := by rw [ekm]; unfold kD; omega
  replace ekm := hideIt ekm
  generalize ndW = ws2 at *
  generalize zs32 = es2 at *
  generalize newH 128 = hs2 at *
  have m1 : ws2.length ≤ 1048576 := by have := l1.out.1; omega
  have m2 : es2.length ≤ 1048576 := by have := l1.out.2.1; omega
  have m3 : hs2.length ≤ 1048576 := by have := l1.out.2.2; omega
  clear l1
  obtain ⟨W, hW⟩ : ∃ W, W = w := ⟨_, rfl⟩
  subst hW
  have B_0 : Hid (Below W.heap.size W W) := Below.refl _ _
  go_enter Tryd.func3, Tryd.ntmps3
  go_wp2_with fail
  refine (SC.out W).mono ?_
  rintro e w1 ⟨v1, rfl, hr, hb⟩
  obtain ⟨SaW, ScW, SaP, ScP, SaS, ScS, SaQ, ScQ, SaH, ScH, SaT, ScT, SaN, ScN, rfl, -⟩ := id hr
  have z1 : W.heap.size ≤ w1.heap.size := hb.size
  have B_1 := hideIt (below_trans B_0.out hb B_0.out.size)
  clear B_0 hb
  have RS_1 : Hid (RdF w1 _ ws2 [] es2 [] hs2 [] 0 0 [] false) := hr
  clear hr
  obtain ⟨w2, hw2⟩ : ∃ w2, w2 = w1.alloc (.cells #[.slice SaW ws2.length ScW, .slice SaP 0 ScP, .slice SaS es2.length ScS, .slice SaQ 0 ScQ, .slice SaH hs2.length ScH, .slice SaT 0 ScT, .int .i64 0, .int .i64 0, .slice SaN 0 ScN, .bool false] 36) := ⟨_, rfl⟩
  have hb : Below w1.heap.size w1 w2 := by rw [hw2]; exact (Below.refl _ _).alloc (Nat.le_refl _) _
  obtain ⟨bS, hbS⟩ : ∃ bS : Nat, bS = w1.heap.size := ⟨_, rfl⟩
  have VS_2 : Hid (w2.heap[bS]? = some (.cells #[.slice SaW ws2.length ScW, .slice SaP 0 ScP, .slice SaS es2.length ScS, .slice SaQ 0 ScQ, .slice SaH hs2.length ScH, .slice SaT 0 ScT, .int .i64 0, .int .i64 0, .slice SaN 0 ScN, .bool false] 36 (0, 0))) := by rw [hw2, hbS]; exact at_new rfl
  have pS : w1.heap.size ≤ bS ∧ bS ≤ w1.heap.size ∧ bS < w2.heap.size := ⟨Nat.le_of_eq hbS.symm, Nat.le_of_eq hbS, lt_box VS_2.out⟩
  have z2 : w1.heap.size ≤ w2.heap.size := hb.size
  have B_2 := hideIt (below_trans B_1.out hb B_1.out.size)
  have RS_2 := hideIt (RS_1.out.below hb)
  clear B_1 RS_1 hb
  go_upto_region 2 with fail
  rw [← hw2, ← hbS]
  clear hw2 hbS
  have RS0 := RS_2
  have BS_2 : Hid (Below w2.heap.size w2 w2) := Below.refl _ _
  clear RS_2
  go_wp2_with fail
  refine (IC.out w2 B_2.out).mono ?_
  rintro e w3 ⟨v3, rfl, hr, hb⟩
  obtain ⟨GaW, GcW, GaP, GcP, GaS, GcS, GaQ, GcQ, GaH, GcH, GaT, GcT, GaN, GcN, eq⟩ := hr.form
  subst eq
  have BS_3 := hideIt (below_trans BS_2.out hb BS_2.out.size)
  clear BS_2
  have z3 : w2.heap.size ≤ w3.heap.size := hb.size
  have B_3 := hideIt (below_trans B_2.out hb B_2.out.size)
  have VS_3 := hideIt (box_below VS_2.out hb (lt_box VS_2.out))
  clear B_2 VS_2 hb
  have QG_3 : Hid (RowF w3 w2.heap.size w3.heap.size _ ws2 [] es2 [] hs2 [] 0 0 [] false) := hr
  clear hr
  obtain ⟨w4, hw4⟩ : ∃ w4, w4 = w3.alloc (.cells #[.slice GaW ws2.length GcW, .slice GaP 0 GcP, .slice GaS es2.length GcS, .slice GaQ 0 GcQ, .slice GaH hs2.length GcH, .slice GaT 0 GcT, .int .i64 0, .int .i64 0, .slice GaN 0 GcN, .bool false] 36) := ⟨_, rfl⟩
  have hb : Below w3.heap.size w3 w4 := by rw [hw4]; exact (Below.refl _ _).alloc (Nat.le_refl _) _
  obtain ⟨bG, hbG⟩ : ∃ bG : Nat, bG = w3.heap.size := ⟨_, rfl⟩
  have VG_4 : Hid (w4.heap[bG]? = some (.cells #[.slice GaW ws2.length GcW, .slice GaP 0 GcP, .slice GaS es2.length GcS, .slice GaQ 0 GcQ, .slice GaH hs2.length GcH, .slice GaT 0 GcT, .int .i64 0, .int .i64 0, .slice GaN 0 GcN, .bool false] 36 (0, 0))) := by rw [hw4, hbG]; exact at_new rfl
  have pG : w3.heap.size ≤ bG ∧ bG ≤ w3.heap.size ∧ bG < w4.heap.size := ⟨Nat.le_of_eq hbG.symm, Nat.le_of_eq hbG, lt_box VG_4.out⟩
  have BS_4 := hideIt (below_trans BS_3.out hb BS_3.out.size)
  clear BS_3
  have z4 : w3.heap.size ≤ w4.heap.size := hb.size
  have B_4 := hideIt (below_trans B_3.out hb B_3.out.size)
  have VS_4 := hideIt (box_below VS_3.out hb (lt_box VS_3.out))
  have QG_4 := hideIt (QG_3.out.below hb (by omega))
  clear B_3 VS_3 QG_3 hb
  go_upto_region 3 with fail
  rw [← hw4, ← hbG]
  clear hw4 hbG
  obtain ⟨g0, g1, g2, g3, g4, g5, g6, g7, g8, g9, -⟩ := ten_cells VG_4.out
  obtain ⟨s0, s1, s2, s3, s4, s5, s6, s7, s8, s9, -⟩ := ten_cells VS_4.out
  go_wp2_with fail
  refine (eqFs_same _ _ ws2 [] es2 [] hs2 [] 0 0 [] false w4 QG_4.out.rd (RS0.out.below BS_4.out) (by omega) (by simp) (by omega) (by simp) (by omega) (by simp) (by simp)).mono ?_
  rintro e w5 ⟨rfl, hb⟩
  clear g0 g1 g2 g3 g4 g5 g6 g7 g8 g9 s0 s1 s2 s3 s4 s5 s6 s7 s8 s9
  have BS_5 := hideIt (below_trans BS_4.out hb BS_4.out.size)
  clear BS_4
  have z5 : w4.heap.size ≤ w5.heap.size := hb.size
  have B_5 := hideIt (below_trans B_4.out hb B_4.out.size)
  have VS_5 := hideIt (box_below VS_4.out hb (lt_box VS_4.out))
  have VG_5 := hideIt (box_below VG_4.out hb (lt_box VG_4.out))
  have QG_5 := hideIt (QG_4.out.below hb (by omega))
  clear B_4 VS_4 VG_4 QG_4 hb
  obtain ⟨g0, g1, g2, g3, g4, g5, g6, g7, g8, g9, -⟩ := ten_cells VG_5.out
  go_wp2_with fail
  refine (markFs_any _ ws2 [] es2 [] hs2 [] 0 0 [] false 1 _ _ w5 QG_5.out (by omega) (by omega) (by simp) (by omega) (by simp) (by omega) (by simp) (by simp) (by decide) (by decide)).mono ?_
  rw [← ekm.out]
  rintro e w6 ⟨rfl, hk, ho⟩
  clear g0 g1 g2 g3 g4 g5 g6 g7 g8 g9
  clear QG_5
  have BS_6 := hideIt (BS_5.out.trans (ho.below (B := w2.heap.size) (by omega) BS_5.out.size))
  clear BS_5
  have z6 : w5.heap.size ≤ w6.heap.size := ho.size
  have B_6 := hideIt (B_5.out.trans (ho.below (B := W.heap.size) (by omega) B_5.out.size))
  have VS_6 := hideIt ((ho.block _ (lt_box VS_5.out) (by omega)).trans VS_5.out)
  have VG_6 := hideIt ((ho.block _ (lt_box VG_5.out) (by omega)).trans VG_5.out)
  clear B_5 VS_5 VG_5 ho
  have RK_6 := hideIt hk
  clear hk
  obtain ⟨g0, g1, g2, g3, g4, g5, g6, g7, g8, g9, -⟩ := ten_cells VG_6.out
  go_wp2_with fail
  refine (heldFs_any _ 1 ws2.length ([] : List St).length es2.length ([] : List Se).length hs2.length ([] : List Mi).length 0 0 ([] : List ByteArray).length false w6 RK_6.out (by omega) (by simp) (by omega) (by simp) (by omega) (by simp) (by simp) (by decide) (by decide)).mono ?_
  rw [← ekm.out]
  rintro e w7 ⟨rfl, hb⟩
  clear g0 g1 g2 g3 g4 g5 g6 g7 g8 g9
  have BS_7 := hideIt (below_trans BS_6.out hb BS_6.out.size)
  clear BS_6
  have z7 : w6.heap.size ≤ w7.heap.size := hb.size
  have B_7 := hideIt (below_trans B_6.out hb B_6.out.size)
  have VS_7 := hideIt (box_below VS_6.out hb (lt_box VS_6.out))
  have VG_7 := hideIt (box_below VG_6.out hb (lt_box VG_6.out))
  have RK_7 := hideIt (RK_6.out.below hb)
  clear B_6 VS_6 VG_6 RK_6 hb
  go_wp2_with fail
  refine (IC.out w7 B_7.out).mono ?_
  rintro e w8 ⟨v8, rfl, hr, hb⟩
  obtain ⟨HaW, HcW, HaP, HcP, HaS, HcS, HaQ, HcQ, HaH, HcH, HaT, HcT, HaN, HcN, eq⟩ := hr.form
  subst eq
  have BS_8 := hideIt (below_trans BS_7.out hb BS_7.out.size)
  clear BS_7
  have z8 : w7.heap.size ≤ w8.heap.size := hb.size
  have B_8 := hideIt (below_trans B_7.out hb B_7.out.size)
  have VS_8 := hideIt (box_below VS_7.out hb (lt_box VS_7.out))
  have VG_8 := hideIt (box_below VG_7.out hb (lt_box VG_7.out))
  have RK_8 := hideIt (RK_7.out.below hb)
  clear B_7 VS_7 VG_7 RK_7 hb
  have QH_8 : Hid (RowF w8 w7.heap.size w8.heap.size _ ws2 [] es2 [] hs2 [] 0 0 [] false) := hr
  clear hr
  obtain ⟨w9, hw9⟩ : ∃ w9, w9 = w8.alloc (.cells #[.slice HaW ws2.length HcW, .slice HaP 0 HcP, .slice HaS es2.length HcS, .slice HaQ 0 HcQ, .slice HaH hs2.length HcH, .slice HaT 0 HcT, .int .i64 0, .int .i64 0, .slice HaN 0 HcN, .bool false] 36) := ⟨_, rfl⟩
  have hb : Below w8.heap.size w8 w9 := by rw [hw9]; exact (Below.refl _ _).alloc (Nat.le_refl _) _
  obtain ⟨bH, hbH⟩ : ∃ bH : Nat, bH = w8.heap.size := ⟨_, rfl⟩
  have VH_9 : Hid (w9.heap[bH]? = some (.cells #[.slice HaW ws2.length HcW, .slice HaP 0 HcP, .slice HaS es2.length HcS, .slice HaQ 0 HcQ, .slice HaH hs2.length HcH, .slice HaT 0 HcT, .int .i64 0, .int .i64 0, .slice HaN 0 HcN, .bool false] 36 (0, 0))) := by rw [hw9, hbH]; exact at_new rfl
  have pH : w8.heap.size ≤ bH ∧ bH ≤ w8.heap.size ∧ bH < w9.heap.size := ⟨Nat.le_of_eq hbH.symm, Nat.le_of_eq hbH, lt_box VH_9.out⟩
  have BS_9 := hideIt (below_trans BS_8.out hb BS_8.out.size)
  clear BS_8
  have z9 : w8.heap.size ≤ w9.heap.size := hb.size
  have B_9 := hideIt (below_trans B_8.out hb B_8.out.size)
  have VS_9 := hideIt (box_below VS_8.out hb (lt_box VS_8.out))
  have VG_9 := hideIt (box_below VG_8.out hb (lt_box VG_8.out))
  have RK_9 := hideIt (RK_8.out.below hb)
  have QH_9 := hideIt (QH_8.out.below hb (by omega))
  clear B_8 VS_8 VG_8 RK_8 QH_8 hb
  go_upto_region 14 with fail
  rw [← hw9, ← hbH]
  clear hw9 hbH
  obtain ⟨h0, h1, h2, h3, h4, h5, h6, h7, h8, h9, -⟩ := ten_cells VH_9.out
  obtain ⟨s0, s1, s2, s3, s4, s5, s6, s7, s8, s9, -⟩ := ten_cells VS_9.out
  go_wp2_with fail
  refine (eqFs_same _ _ ws2 [] es2 [] hs2 [] 0 0 [] false w9 QH_9.out.rd (RS0.out.below BS_9.out) (by omega) (by simp) (by omega) (by simp) (by omega) (by simp) (by simp)).mono ?_
  rintro e w10 ⟨rfl, hb⟩
  clear h0 h1 h2 h3 h4 h5 h6 h7 h8 h9 s0 s1 s2 s3 s4 s5 s6 s7 s8 s9
  have BS_10 := hideIt (below_trans BS_9.out hb BS_9.out.size)
  clear BS_9
  have z10 : w9.heap.size ≤ w10.heap.size := hb.size
  have B_10 := hideIt (below_trans B_9.out hb B_9.out.size)
  have VS_10 := hideIt (box_below VS_9.out hb (lt_box VS_9.out))
  have VG_10 := hideIt (box_below VG_9.out hb (lt_box VG_9.out))
  have VH_10 := hideIt (box_below VH_9.out hb (lt_box VH_9.out))
  have RK_10 := hideIt (RK_9.out.below hb)
  have QH_10 := hideIt (QH_9.out.below hb (by omega))
  clear B_9 VS_9 VG_9 VH_9 RK_9 QH_9 hb
  obtain ⟨g0, g1, g2, g3, g4, g5, g6, g7, g8, g9, -⟩ := ten_cells VG_10.out
  go_wp2_with fail
  refine (heldFs_any _ 1 ws2.length ([] : List St).length es2.length ([] : List Se).length hs2.length ([] : List Mi).length 0 0 ([] : List ByteArray).length false w10 RK_10.out (by omega) (by simp) (by omega) (by simp) (by omega) (by simp) (by simp) (by decide) (by decide)).mono ?_
  rw [← ekm.out]
  rintro e w11 ⟨rfl, hb⟩
  clear g0 g1 g2 g3 g4 g5 g6 g7 g8 g9
  have BS_11 := hideIt (below_trans BS_10.out hb BS_10.out.size)
  clear BS_10
  have z11 : w10.heap.size ≤ w11.heap.size := hb.size
  have B_11 := hideIt (below_trans B_10.out hb B_10.out.size)
  have VS_11 := hideIt (box_below VS_10.out hb (lt_box VS_10.out))
  have VG_11 := hideIt (box_below VG_10.out hb (lt_box VG_10.out))
  have VH_11 := hideIt (box_below VH_10.out hb (lt_box VH_10.out))
  have RK_11 := hideIt (RK_10.out.below hb)
  have QH_11 := hideIt (QH_10.out.below hb (by omega))
  clear B_10 VS_10 VG_10 VH_10 RK_10 QH_10 hb
  go_wp2
  go_ret
  exact ⟨rfl, B_11.out⟩
end Go.Proofs.YtipklbnfobckaaaDoor
