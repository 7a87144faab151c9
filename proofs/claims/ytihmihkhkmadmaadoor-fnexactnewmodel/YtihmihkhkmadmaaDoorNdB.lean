/- New devices: by the program. -/
import Derived.Test.YtihmihkhkmadmaaDoorNdA
namespace Go.Proofs.YtihmihkhkmadmaaDoor
open Go.RowKit
def rootI : Ino := ⟨2, 0, 1, 0, 0, 0, 0, 0, 0, 0, 0⟩
theorem rootI_R : rootI.R := fun z hz => by
  simp [rootI, Ino.map] at hz
  omega
theorem dir_iu : iuC 0 rootI = 0 ∧ iuL 0 rootI = wrL 0 rootI 8 := ⟨by decide, by decide⟩
def rootU : List Se := wrL 0 rootI 8
theorem rootU_len : rootU.length = 11 := rfl
def upTo (us : List Se) (W : List Int) : Nat → List Int
  | 0 => W
  | k + 1 => (upTo us W k).set ((us.getD k ⟨0, 0⟩).at_.toNat) ((us.getD k ⟨0, 0⟩).val)
theorem upTo_len (us : List Se) (W : List Int) : ∀ k, (upTo us W k).length = W.length
  | 0 => rfl
  | k + 1 => by unfold upTo; rw [List.length_set]; exact upTo_len us W k
theorem root_all : upTo rootU (zs336.set 0 7) 11 = ndW := by kernel_rfl
theorem rootU_at (k : Nat) (hk : k < rootU.length) : rootU[k].at_ = 48 + (k : Int) := by
  have hk' : k < 11 := hk
  rcases (show k = 0 ∨ k = 1 ∨ k = 2 ∨ k = 3 ∨ k = 4 ∨ k = 5 ∨ k = 6 ∨ k = 7 ∨ k = 8 ∨ k = 9 ∨ k = 10 by omega) with rfl | rfl | rfl | rfl | rfl | rfl | rfl | rfl | rfl | rfl | rfl <;> rfl
set_option maxRecDepth 100000 in
set_option maxHeartbeats 4000000 in
theorem implNewDevices_any (w : World) (hT : TS w) (hE : ED w) :
    Calls Tryd.prog 16 #[] w fun e w' => ∃ v', e = .returned v' ∧ RowDev w' w.heap.size w'.heap.size v' ndW [] zs32 [] ∧ Below w.heap.size w w' := by
  have k1 := run_make336N
  have k2 := run_make32
  go_enter Tryd.func16, Tryd.ntmps16
  go_upto_region 1 with fail
  obtain ⟨w0, hw0⟩ : ∃ w0 : World, w0 = w.alloc (.cells #[.slice none 0 0, .slice none 0 0, .slice none 0 0, .slice none 0 0] 48) := ⟨_, rfl⟩
  have V0 : Hid (w0.heap[w.heap.size]? = some (.cells #[.slice none 0 0, .slice none 0 0, .slice none 0 0, .slice none 0 0] 48 (0, 0))) := by rw [hw0]; exact at_new rfl
  have B0 : Hid (Below w.heap.size w w0) := by rw [hw0]; exact (Below.refl _ _).alloc (Nat.le_refl _) _
  have hz0 : w.heap.size < w0.heap.size := by rw [hw0]; simp
  rw [← hw0]
  have T := hideIt hT
  have E0 := hideIt hE
  clear hw0 hT hE
  go_cut [1] (fun s wx => ∃ (bw bs bx : Nat), s = .pointer (some ⟨bx, 0, none⟩) ∧ Hid (NDc w0 wx bw bs bx (.slice none 0 0) (.slice none 0 0) zs336))
  case first =>
    clear T E0 B0 V0
    go_region
    all_goals
      go_wp2_with fail
      go_meet
      apply Exists.intro
      apply Exists.intro
      apply Exists.intro
      apply And.intro
      · rfl
      · apply NDc.drew
        apply NDc.mk0
        · first | exact at_new (by simp) | exact at_old (at_new (by simp)) | exact at_old (at_old (at_new (by simp)))
        · first | exact at_new (by simp) | exact at_old (at_new (by simp)) | exact at_old (at_old (at_new (by simp)))
        · first | exact at_new (by simp) | exact at_old (at_new (by simp)) | exact at_old (at_old (at_new (by simp)))
        · omega
        · omega
        · omega
        · omega
        · omega
        · omega
        · repeat (first | exact Below.refl _ _ | refine Below.alloc ?_ (by simp <;> omega) _)
  case rest =>
  obtain ⟨bw, bs, bx, rfl, N1⟩ := hcut
  rename World => w1
  clear k1 k2
  have l1 := N1.out.l1
  have l3 := N1.out.l3
  obtain ⟨c0, f0⟩ := N1.out.at 0 (by rw [zs336_len]; omega)
  obtain ⟨x0, x1, x2, x3, _, _, _, _⟩ := four_cells N1.out.hx
  have N2 := hideIt (N1.out.store 0 7)
  have B2 := hideIt (B0.out.trans (N2.out.b.mono (by omega)))
  have LI := hideIt (fun w1 (hb : Below w.heap.size w w1) => implInodeUpdates_any 0 rootI w1 (T.out.below hb) (E0.out.below hb) rootI_R)
  rw [dir_iu.1, dir_iu.2, show wrL 0 rootI 8 = rootU from rfl] at LI
  obtain ⟨g0, g1, g2, g3, g4, g5, g6, g7, g8, g9, g10⟩ := ED.cells (E0.out.below B2.out)
  generalize zs336[0]'(by rw [zs336_len]; omega) = z0 at c0
  obtain ⟨w2s, hw2s⟩ : ∃ n, n = (w1.setCell ⟨bw, 0, none⟩ (.int .i64 7)).heap.size := ⟨_, rfl⟩
  have hz2s : w2s ≤ w1.heap.size := by rw [hw2s]; simp
  go_wp2_with fail
  refine (LI.out _ B2.out).mono ?_
  rintro e w3 ⟨v3, rfl, hr3, hb3⟩
  obtain ⟨-, aU, cU, hvU, -⟩ := hr3.rd
  subst hvU
  have N3 := hideIt (N2.out.below hb3)
  have hz31 : w1.heap.size ≤ w3.heap.size := by have := hb3.size; simpa using this
  have B3 := hideIt (below_trans B2.out hb3 B2.out.size)
  have hbw : bw < w2s := by rw [hw2s]; simpa using (Array.getElem?_eq_some_iff.1 N1.out.hw).1
  have R3 : Hid (Row w3 81 2 w2s w3.heap.size (.slice aU rootU.length cU) rootU.length (ses rootU)) := by rw [hw2s]; exact hr3
  clear hr3 hb3 g0 g1 g2 g3 g4 g5 g6 g7 g8 g9 g10 c0 f0 x0 x1 x2 x3 N1 N2 B2 LI hw2s
  have RA := hideIt rootU_at
  have FIN := hideIt root_all
  have UL := hideIt (fun k => (upTo_len rootU (zs336.set 0 7) k).trans ((List.length_set ..).trans zs336_len))
  have US := hideIt (fun k (hk : k < rootU.length) => show upTo rootU (zs336.set 0 7) (k + 1) = (upTo rootU (zs336.set 0 7) k).set (rootU[k].at_.toNat) rootU[k].val by
    show (upTo rootU (zs336.set 0 7) k).set ((rootU.getD k ⟨0, 0⟩).at_.toNat) ((rootU.getD k ⟨0, 0⟩).val) = _
    rw [List.getD_eq_getElem?_getD, List.getElem?_eq_getElem hk]; rfl)
  have UZ : Hid (NDc w0 w3 bw bs bx (.slice none 0 0) (.slice none 0 0) (upTo rootU (zs336.set 0 7) 0)) := N3
  generalize upTo rootU (zs336.set 0 7) = uf at *
  have HLL := hideIt rootU_len
  have hl11 : rootU.length ≤ 11 := Nat.le_of_eq HLL.out
  rw [← HLL.out] at FIN
  generalize rootU = us at *
  have hz3 : w2s ≤ w3.heap.size := by omega
  clear N3
  go_wp2
  go_loopw [5, 22] (fun _ i wr => ∃ k : Nat, k ≤ us.length ∧ i = .int .i64 k ∧ Hid (NDc w0 wr bw bs bx (.slice none 0 0) (.slice none 0 0) (uf k) ∧ Row wr 81 2 w2s w3.heap.size (.slice aU us.length cU) us.length (ses us)) ∧ w3.heap.size ≤ wr.heap.size) (fun _ i _ => us.length - (intOf i).toNat)
  case atStart => exact ⟨0, by omega, rfl, ⟨UZ.out, R3.out⟩, Nat.le_refl _⟩
  case round =>
    obtain ⟨k, hk, rfl, I, hzr⟩ := hrel
    clear UZ R3
    by_cases hlt : k < us.length
    · obtain ⟨aE, cE, eE, _, hcE⟩ := RdE.shape (show RdE wr (.slice aU us.length cU) us from I.out.2.rd)
      obtain ⟨rfl, rfl⟩ : aE = aU ∧ cE = cU := by cases eE; exact ⟨rfl, rfl⟩
      obtain ⟨b, o, rfl, hbl, hcell⟩ := hcE (by omega)
      obtain ⟨d0, d1⟩ := hcell k hlt
      have ea := RA.out k hlt
      have NX := hideIt (US.out k hlt)
      have ul := UL.out k
      have k0 : (0 : Int) ≤ (k : Int) := by omega
      have k1 : (k : Int) < (us.length : Int) := by omega
      rw [ea] at d0
      rw [ea, show (48 + (k : Int)).toNat = 48 + k by omega] at NX
      have OB : Hid (∀ q, (Value.slice (some ⟨b, o, none⟩) us.length cE).ownBlock = some q → w2s ≤ q) := fun q hq => (I.out.2.1.lt q hq).1
      generalize us[k].val = y at *
      have ND : Hid (NDc w0 (wr.alloc (.cells #[.int .i64 (48 + (k : Int)), .int .i64 y] 81)) bw bs bx (.slice none 0 0) (.slice none 0 0) (uf k)) := I.out.1.below ((Below.refl _ _).alloc (Nat.le_refl _) _)
      obtain ⟨x0, x1, x2, x3, _, _, _, _⟩ := four_cells ND.out.hx
      obtain ⟨c0, f0⟩ := ND.out.at (48 + k) (by omega)
      have G : Hid (NDc w0 ((wr.alloc (.cells #[.int .i64 (48 + (k : Int)), .int .i64 y] 81)).setCell ⟨bw, 48 + k, none⟩ (.int .i64 y)) bw bs bx (.slice none 0 0) (.slice none 0 0) (uf (k + 1)) ∧ Row ((wr.alloc (.cells #[.int .i64 (48 + (k : Int)), .int .i64 y] 81)).setCell ⟨bw, 48 + k, none⟩ (.int .i64 y)) 81 2 w2s w3.heap.size (.slice (some ⟨b, o, none⟩) us.length cE) us.length (ses us)) := by
        refine ⟨?_, ?_⟩
        · rw [NX.out]
          exact ND.out.store (48 + k) y
        · refine Row.setOther (Row.alloc I.out.2 hzr _) (fun e => ?_) _
          have := OB.out _ e
          simp only at this
          omega
      have w48 : 48 + (k : Int) < 336 := by omega
      have w49 : (0 : Int) ≤ 48 + (k : Int) := by omega
      have w50 : (48 + (k : Int)).toNat = 48 + k := by omega
      generalize (uf k)[48 + k]'(by omega) = z at c0
      clear I ND hcell eE hcE OB ea NX
      go_wp2
      go_roundw
      case rel => exact ⟨k + 1, by omega, by go_num, G, by simp; omega⟩
      case measure => simp [intOf]; omega
    · obtain rfl : k = us.length := by omega
      rw [FIN.out] at I
      have N := hideIt I.out.1
      clear I
      obtain ⟨x0, x1, x2, x3, _, _, _, _⟩ := four_cells N.out.hx
      have VR := hideIt ((N.out.b.block _ hz0).trans V0.out)
      obtain ⟨y0, y1, y2, y3, y4, y5, y6, y7⟩ := four_cells VR.out
      have F := hideIt (eight_set (eight_set (eight_set (eight_set (xs := [.slice none 0 0, .slice none 0 0, .slice none 0 0, .slice none 0 0]) VR.out 0 (.slice (some ⟨bw, 0, none⟩) 336 336)) 1 (.slice none 0 0)) 2 (.slice (some ⟨bs, 0, none⟩) 32 32)) 3 (.slice none 0 0))
      have l2 := N.out.l2
      have RF : Hid (RowDev ((((wr.setCell ⟨w.heap.size, 0, none⟩ (.slice (some ⟨bw, 0, none⟩) 336 336)).setCell ⟨w.heap.size, 1, none⟩ (.slice none 0 0)).setCell ⟨w.heap.size, 2, none⟩ (.slice (some ⟨bs, 0, none⟩) 32 32)).setCell ⟨w.heap.size, 3, none⟩ (.slice none 0 0)) w.heap.size ((((wr.setCell ⟨w.heap.size, 0, none⟩ (.slice (some ⟨bw, 0, none⟩) 336 336)).setCell ⟨w.heap.size, 1, none⟩ (.slice none 0 0)).setCell ⟨w.heap.size, 2, none⟩ (.slice (some ⟨bs, 0, none⟩) 32 32)).setCell ⟨w.heap.size, 3, none⟩ (.slice none 0 0)).heap.size (.agg #[.slice (some ⟨bw, 0, none⟩) 336 336, .slice none 0 0, .slice (some ⟨bs, 0, none⟩) 32 32, .slice none 0 0]) ndW [] zs32 []) := by
        have r := N.out.rowDev (lo := w0.heap.size) (Nat.le_refl _)
        have o : Outside w.heap.size (w.heap.size + 1) wr ((((wr.setCell ⟨w.heap.size, 0, none⟩ (.slice (some ⟨bw, 0, none⟩) 336 336)).setCell ⟨w.heap.size, 1, none⟩ (.slice none 0 0)).setCell ⟨w.heap.size, 2, none⟩ (.slice (some ⟨bs, 0, none⟩) 32 32)).setCell ⟨w.heap.size, 3, none⟩ (.slice none 0 0)) := by
          repeat (refine Outside.setCell ?_ (by simp only; omega) (by simp only; omega) _)
          exact Outside.refl _ _ _
        exact (r.outside o (by omega) (Nat.le_refl _)).wide (by omega) o.size
      have BF : Hid (Below w.heap.size w ((((wr.setCell ⟨w.heap.size, 0, none⟩ (.slice (some ⟨bw, 0, none⟩) 336 336)).setCell ⟨w.heap.size, 1, none⟩ (.slice none 0 0)).setCell ⟨w.heap.size, 2, none⟩ (.slice (some ⟨bs, 0, none⟩) 32 32)).setCell ⟨w.heap.size, 3, none⟩ (.slice none 0 0))) := by
        show Below _ _ _
        repeat (refine Below.setCell ?_ (by simp only; omega) _)
        exact B0.out.trans (N.out.b.mono (by omega))
      go_wp2
      generalize ((((wr.setCell ⟨w.heap.size, 0, none⟩ (.slice (some ⟨bw, 0, none⟩) 336 336)).setCell ⟨w.heap.size, 1, none⟩ (.slice none 0 0)).setCell ⟨w.heap.size, 2, none⟩ (.slice (some ⟨bs, 0, none⟩) 32 32)).setCell ⟨w.heap.size, 3, none⟩ (.slice none 0 0)) = wz at F RF BF ⊢
      obtain ⟨t0, t1, t2, t3, -, -, -, -⟩ := four_cells F.out
      refine bodyPost_ret (v := .agg #[.slice (some ⟨bw, 0, none⟩) 336 336, .slice none 0 0, .slice (some ⟨bs, 0, none⟩) 32 32, .slice none 0 0]) (by simp [results, Tryd.results16, go_sem, t0, t1, t2, t3]) rfl ?_
      exact ⟨_, rfl, RF.out, BF.out⟩
end Go.Proofs.YtihmihkhkmadmaaDoor
