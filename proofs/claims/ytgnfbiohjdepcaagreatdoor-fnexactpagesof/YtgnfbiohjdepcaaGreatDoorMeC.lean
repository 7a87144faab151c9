/- All pages of an inode of right devices: by the program. -/
import Derived.Test.YtgnfbiohjdepcaaGreatDoorZBM
import Derived.Test.YtgnfbiohjdepcaaGreatDoorDtG
import Derived.Test.YtgnfbiohjdepcaaGreatDoorZAH
namespace Go.Proofs.YtgnfbiohjdepcaaGreatDoor
open Go.RowKit
set_option maxRecDepth 100000 in
set_option maxHeartbeats 8000000 in
theorem pageWords_any (v : Value) (ws : List Int) (ps : List St) (es : List Int) (qs : List Se) (x : Ino) (w : World) (h : RdDev w v ws ps es qs) (hP : pmB ws ps = true) (hB : blkB es qs = true) (hx : inoB x = true) (hT : TS w) (hN : NW w) :
    Calls Tryz.prog 46 #[v, .agg #[.int .i64 x.kind, .int .i64 x.size, .int .i64 x.links, .int .i64 x.m0, .int .i64 x.m1, .int .i64 x.m2, .int .i64 x.m3, .int .i64 x.m4, .int .i64 x.m5, .int .i64 x.m6, .int .i64 x.m7]] w fun e w' => ∃ v', e = .returned v' ∧ Row w' 3 1 w.heap.size w'.heap.size v' (pgL ws ps es qs x x.size.toNat).length (ints (pgL ws ps es qs x x.size.toNat)) ∧ Below w.heap.size w w' := by
  have LV2 := hideIt (fun w1 (hb : Below w.heap.size w w1) z (hz : tieB z = true) => wordOfE_any v ws ps es qs z w1 (h.below hb) hP hB hz (hT.below hb) (hN.below hb))
  have OK : Hid ((0 ≤ x.size ∧ x.size ≤ 8) ∧ ∀ j : Nat, j < 8 → tieB (x.map.getD j 0) = true) := by
    refine ⟨(ino_parts hx).2.1, fun j hj => (ino_ties hx).1 _ ?_⟩
    rw [List.getD_eq_getElem?_getD, List.getElem?_eq_getElem (show j < x.map.length from hj)]
    exact List.getElem_mem _
  obtain ⟨dW, eW, dP, eP, dS, eS, dQ, eQ, rfl, -, -⟩ := h.form
  clear h hT hN hP hB hx
  obtain ⟨w3, hw3⟩ : ∃ w3, w3 = (w.alloc (.cells #[.slice dW ws.length eW, .slice dP ps.length eP, .slice dS es.length eS, .slice dQ qs.length eQ] 41)).alloc (.cells #[.int .i64 x.kind, .int .i64 x.size, .int .i64 x.links, .int .i64 x.m0, .int .i64 x.m1, .int .i64 x.m2, .int .i64 x.m3, .int .i64 x.m4, .int .i64 x.m5, .int .i64 x.m6, .int .i64 x.m7] 70) := ⟨_, rfl⟩
  have hz3 : w.heap.size + 1 < w3.heap.size := by rw [hw3]; simp
  have hz4 : w.heap.size < w3.heap.size := by omega
  have BX : Hid (Below w.heap.size w w3) := by rw [hw3]; exact ((Below.refl _ _).alloc (Nat.le_refl _) _).alloc (by simp) _
  have KE : Hid (∀ w', Below w3.heap.size w3 w' → w'.cell? ⟨w.heap.size, 0, none⟩ = some (.slice dW ws.length eW) ∧ w'.cell? ⟨w.heap.size, 1, none⟩ = some (.slice dP ps.length eP) ∧ w'.cell? ⟨w.heap.size, 2, none⟩ = some (.slice dS es.length eS) ∧ w'.cell? ⟨w.heap.size, 3, none⟩ = some (.slice dQ qs.length eQ)) := fun w' hb => by
    have : w'.heap[w.heap.size]? = some (.cells #[.slice dW ws.length eW, .slice dP ps.length eP, .slice dS es.length eS, .slice dQ qs.length eQ] 41 (0, 0)) := (hb.block _ hz4).trans (by rw [hw3]; exact at_old (at_new rfl))
    obtain ⟨x0, x1, x2, x3, -, -, -, -⟩ := four_cells this
    exact ⟨x0, x1, x2, x3⟩
  have VX : Hid (w3.heap[w.heap.size + 1]? = some (.cells x.cs.toArray 70 (0, 0))) := by
    rw [hw3]
    have q := at_new (w := w.alloc (.cells #[.slice dW ws.length eW, .slice dP ps.length eP, .slice dS es.length eS, .slice dQ qs.length eQ] 41)) (o := .cells x.cs.toArray 70) rfl
    rw [World.size_alloc] at q
    exact q
  have KS : Hid (∀ w', Below w3.heap.size w3 w' → w'.cell? ⟨w.heap.size + 1, 1, none⟩ = some (.int .i64 x.size)) := fun w' hb => (hb.cell (p := ⟨w.heap.size + 1, 1, none⟩) hz3).trans (eight_at (xs := x.cs) VX.out 1).1
  have KM : Hid (∀ w', Below w3.heap.size w3 w' → ∀ m, m < 8 → w'.cell? ⟨w.heap.size + 1, 3 + m, none⟩ = some (.int .i64 (x.map.getD m 0))) := fun w' hb m hm => ((hb.cell (p := ⟨w.heap.size + 1, 3 + m, none⟩) hz3).trans (eight_at (xs := x.cs) VX.out (3 + m)).1).trans (x.at m hm)
  obtain ⟨⟨z0, z8⟩, ti⟩ := OK.out
  have TI := hideIt ti
  clear VX OK ti
  have y1 := KS.out _ (Below.refl _ _)
  obtain ⟨N, hN⟩ : ∃ N : Nat, x.size = (N : Int) := ⟨x.size.toNat, by omega⟩
  have N8 : N ≤ 8 := by omega
  have EN := hideIt (show x.size.toNat = N by omega)
  rw [EN.out]
  rw [hN] at KS y1
  have START : Hid (InI w3 w3 (.slice none 0 0) (pgL ws ps es qs x 0)) := ⟨World.ownsRow_nil _ _ _ _, Below.refl _ _⟩
  have nn : (0 : Int) ≤ (N : Int) := by omega
  have n8 : (N : Int) ≤ 8 := by omega
  have hsl : ∀ w1, (Instr.sliceAt 68 (.pointer (some ⟨w.heap.size + 1, 3, none⟩)) none (some (.int .i64 x.size)) none).run Tryz.prog w1 = .ok (.slice (some ⟨w.heap.size + 1, 3, none⟩) N 8) w1 := fun w1 => by rw [hN]; exact mapHead w1 _ N N8
  rw [hN] at hsl
  clear EN z0 z8
  go_enter Tryz.func46, Tryz.ntmps46
  rw [hN] at hw3 ⊢
  go_wp2
  rw [← hw3]
  clear hw3 y1 hN
  go_loopw [5, 13] (fun vL k wr => ∃ m : Nat, m ≤ N ∧ k = .int .i64 (m : Int) ∧ Hid (InI w3 wr vL (pgL ws ps es qs x m))) (fun _ k _ => N - (intOf k).toNat)
  case atStart => exact ⟨0, by omega, rfl, START⟩
  case round =>
    obtain ⟨m, hm, rfl, J⟩ := hrel
    clear START
    have m0 : (0 : Int) ≤ (m : Int) := by omega
    have JW := hideIt (below_trans BX.out J.out.b BX.out.size)
    by_cases hlt : m < N
    · have m1 : (m : Int) < (N : Int) := by omega
      have m8 : m < 8 := by omega
      have LV3 := hideIt (fun w1 hb => LV2.out w1 hb _ (TI.out m m8))
      have EM := hideIt (pgL_step ws ps es qs x m)
      have l2 : (pgL ws ps es qs x m).length ≤ 8 := by rw [pgL_len]; omega
      have y2 := KM.out wr J.out.b m m8
      obtain ⟨r0, r1, r2, r3⟩ := KE.out wr J.out.b
      generalize pgV ws ps es qs (x.map.getD m 0) = y at *
      generalize x.map.getD m 0 = z at *
      go_wp2_with fail
      refine (LV3.out _ JW.out).mono ?_
      rintro e w5 ⟨rfl, hb5⟩
      have JB : Hid (InI w3 (w5.alloc (.cells #[.int .i64 y] 3)) u5 (pgL ws ps es qs x m)) := (J.out.below hb5).below ((Below.refl _ _).alloc (Nat.le_refl _) _)
      have RB := hideIt (rd_int w5 y)
      have hzb := JB.out.z
      clear hb5 r0 r1 r2 r3 y2
      go_wp2_with (at_builtin; refine wpList_append_rd _ rfl (.tmp 17) (.tmp 21) 22 rfl w3.heap.size 3 (.int .i64 0) 1 8 Tryz.underlying22 info3 rfl (by decide) _ _ _ rfl JB.out.l _ 1 _ rfl RB.out (one_int _) (by first | omega | (simp [maxLen]; omega)) (by first | omega | (simp; omega)) hzb ?_)
      intro vN wN hownN hgrN
      have G := hideIt (JB.out.grow y hownN hgrN)
      rw [← EM.out] at G
      clear hownN hgrN JB RB J
      go_wp2
      go_roundw
      case rel => exact ⟨m + 1, by omega, by go_num, G⟩
      case measure => simp [intOf]; omega
    · obtain rfl : m = N := by omega
      obtain ⟨-, aN, cN, hvN, -⟩ := (own_block J.out.l).rd
      subst hvN
      go_wp2
      go_ret
      exact ⟨_, rfl, (own_block J.out.l).wide BX.out.size (Nat.le_refl _), JW.out⟩
end Go.Proofs.YtgnfbiohjdepcaaGreatDoor
