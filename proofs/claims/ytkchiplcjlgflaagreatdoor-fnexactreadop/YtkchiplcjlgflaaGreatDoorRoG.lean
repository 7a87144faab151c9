/- An operation is read: the answer, by the model. -/
import Derived.Test.YtkchiplcjlgflaaGreatDoorRoE
namespace Go.Proofs.YtkchiplcjlgflaaGreatDoor
open Go.RowKit
def rpP (s : ByteArray) (e : Ending) : Prop := ∃ (k : Int) (p t : ByteArray) (g x c : Int), e = .returned (.tuple #[.agg #[.int .i64 k, .string p, .string t, .int .i64 g, .int .i64 x], .int .i64 c]) ∧
  ((65536 < s.size ∧ k = 0 ∧ p = ⟨#[]⟩ ∧ t = ⟨#[]⟩ ∧ g = 0 ∧ x = 0 ∧ c = 2) ∨
   (s.size ≤ 65536 ∧ rdW (wds s) = none ∧ k = 0 ∧ p = ⟨#[]⟩ ∧ t = ⟨#[]⟩ ∧ g = 0 ∧ x = 0 ∧ c = 3) ∨
   (s.size ≤ 65536 ∧ ∃ n g' x' : Nat, rdW (wds s) = some (n, p, t, g', x') ∧ k = n ∧ g = g' ∧ x = x' ∧ c = 0))
set_option maxRecDepth 100000 in
set_option maxHeartbeats 4000000 in
theorem specReadOp_any (s : ByteArray) (w : World) :
    Calls Tryz.prog 4 #[.string s] w fun e w' => rpP s e ∧ Below w.heap.size w w' := by
  have P2 : Hid (65536 < s.size → rpP s (.returned (.tuple #[.agg #[.int .i64 0, .string ⟨#[]⟩, .string ⟨#[]⟩, .int .i64 0, .int .i64 0], .int .i64 2]))) := fun h => ⟨0, ⟨#[]⟩, ⟨#[]⟩, 0, 0, 2, rfl, .inl ⟨h, rfl, rfl, rfl, rfl, rfl, rfl⟩⟩
  have P3 : Hid (s.size ≤ 65536 → rdW (wds s) = none → rpP s (.returned (.tuple #[.agg #[.int .i64 0, .string ⟨#[]⟩, .string ⟨#[]⟩, .int .i64 0, .int .i64 0], .int .i64 3]))) := fun h q => ⟨0, ⟨#[]⟩, ⟨#[]⟩, 0, 0, 3, rfl, .inr (.inl ⟨h, q, rfl, rfl, rfl, rfl, rfl, rfl⟩)⟩
  have P0 : Hid (∀ (n g x : Nat) p t, s.size ≤ 65536 → rdW (wds s) = some (n, p, t, g, x) → rpP s (.returned (.tuple #[.agg #[.int .i64 n, .string p, .string t, .int .i64 g, .int .i64 x], .int .i64 0]))) := fun n g x p t h q => ⟨n, p, t, g, x, 0, rfl, .inr (.inr ⟨h, n, g, x, q, rfl, rfl, rfl, rfl⟩)⟩
  have LR := hideIt (fun (h : s.size ≤ 65536) w1 => l15Read_any s w1 h)
  generalize rpP s = PP at *
  obtain ⟨V, hV⟩ : ∃ V, V = w.alloc (.cells #[.int .i64 0, .string ⟨#[]⟩, .string ⟨#[]⟩, .int .i64 0, .int .i64 0] 23) := ⟨_, rfl⟩
  have BV : Hid (Below w.heap.size w V) := by rw [hV]; exact (Below.refl _ _).alloc (Nat.le_refl _) _
  have XV : Hid (V.heap[w.heap.size]? = some (.cells #[.int .i64 0, .string ⟨#[]⟩, .string ⟨#[]⟩, .int .i64 0, .int .i64 0] 23 (0, 0))) := by rw [hV]; exact at_new rfl
  have zV := (Array.getElem?_eq_some_iff.1 XV.out).1
  go_enter Tryz.func4, Tryz.ntmps4
  go_upto_region 1 with fail
  rw [← hV]
  clear hV
  by_cases h : 65536 < s.size
  · have h1 : (s.size : Int) > 65536 := by omega
    obtain ⟨⟨x0, x1, x2, x3, x4⟩, f0, f1, f2, f3, f4⟩ := five_box XV.out
    have D := hideIt (put5o_box XV.out (.int .i64 0) (.string ⟨#[]⟩) (.string ⟨#[]⟩) (.int .i64 0) (.int .i64 0))
    have BF := hideIt (put5o_below BV.out (Nat.le_refl _) (.int .i64 0) (.string ⟨#[]⟩) (.string ⟨#[]⟩) (.int .i64 0) (.int .i64 0))
    obtain ⟨W', hW'⟩ : ∃ W', W' = put5o V w.heap.size (.int .i64 0) (.string ⟨#[]⟩) (.string ⟨#[]⟩) (.int .i64 0) (.int .i64 0) := ⟨_, rfl⟩
    rw [← hW'] at D BF
    unfold put5o at hW'
    go_wp2_with fail
    rw [← hW']
    clear hW' x0 x1 x2 x3 x4 f0 f1 f2 f3 f4
    obtain ⟨⟨y0, y1, y2, y3, y4⟩, -⟩ := five_box D.out
    refine bodyPost_ret (v := .tuple #[.agg #[.int .i64 0, .string ⟨#[]⟩, .string ⟨#[]⟩, .int .i64 0, .int .i64 0], .int .i64 2]) (by simp [results, Tryz.results4, go_sem, y0, y1, y2, y3, y4]) rfl ?_
    exact ⟨P2.out h, BF.out⟩
  · have h1 : ¬ (s.size : Int) > 65536 := by omega
    have hl : s.size ≤ 65536 := by omega
    have LQ := hideIt (LR.out hl)
    go_wp2_with fail
    refine (LQ.out V).mono ?_
    rintro e w1 ⟨⟨k, p, t, g, x, ok, rfl, hq⟩, hb⟩
    have B1 := hideIt (below_trans BV.out hb BV.out.size)
    have X1 := hideIt ((hb.block _ zV).trans XV.out)
    clear hb BV XV LQ LR
    obtain ⟨W2, hW2⟩ : ∃ W2, W2 = w1.alloc (.cells #[.int .i64 k, .string p, .string t, .int .i64 g, .int .i64 x] 23) := ⟨_, rfl⟩
    have b2 : Below w1.heap.size w1 W2 := by rw [hW2]; exact (Below.refl _ _).alloc (Nat.le_refl _) _
    have Y2 : Hid (W2.heap[w1.heap.size]? = some (.cells #[.int .i64 k, .string p, .string t, .int .i64 g, .int .i64 x] 23 (0, 0))) := by rw [hW2]; exact at_new rfl
    have X2 := hideIt ((b2.block _ (Array.getElem?_eq_some_iff.1 X1.out).1).trans X1.out)
    have B2 := hideIt (below_trans B1.out b2 B1.out.size)
    go_upto_region 4 with fail
    rw [← hW2]
    clear hW2 b2 X1 B1
    obtain ⟨⟨v0, v1, v2, v3, v4⟩, -⟩ := five_box Y2.out
    rcases hq with ⟨n, g', x', hq, rfl, rfl, rfl, rfl⟩ | ⟨hq, rfl⟩
    · have OUT := hideIt (P0.out _ _ _ _ _ hl hq)
      clear hq
      obtain ⟨⟨x0, x1, x2, x3, x4⟩, f0, f1, f2, f3, f4⟩ := five_box X2.out
      have D := hideIt (put5o_box X2.out (.int .i64 (n : Int)) (.string p) (.string t) (.int .i64 (g' : Int)) (.int .i64 (x' : Int)))
      have BF := hideIt (put5o_below B2.out (Nat.le_refl _) (.int .i64 (n : Int)) (.string p) (.string t) (.int .i64 (g' : Int)) (.int .i64 (x' : Int)))
      obtain ⟨W', hW'⟩ : ∃ W', W' = put5o W2 w.heap.size (.int .i64 (n : Int)) (.string p) (.string t) (.int .i64 (g' : Int)) (.int .i64 (x' : Int)) := ⟨_, rfl⟩
      rw [← hW'] at D BF
      unfold put5o at hW'
      go_wp2_with fail
      rw [← hW']
      clear hW' x0 x1 x2 x3 x4 f0 f1 f2 f3 f4
      obtain ⟨⟨y0, y1, y2, y3, y4⟩, -⟩ := five_box D.out
      refine bodyPost_ret (v := .tuple #[.agg #[.int .i64 (n : Int), .string p, .string t, .int .i64 (g' : Int), .int .i64 (x' : Int)], .int .i64 0]) (by simp [results, Tryz.results4, go_sem, y0, y1, y2, y3, y4]) rfl ?_
      exact ⟨OUT.out, BF.out⟩
    · have OUT := hideIt (P3.out hl hq)
      clear hq
      obtain ⟨⟨x0, x1, x2, x3, x4⟩, f0, f1, f2, f3, f4⟩ := five_box X2.out
      have D := hideIt (put5o_box X2.out (.int .i64 0) (.string ⟨#[]⟩) (.string ⟨#[]⟩) (.int .i64 0) (.int .i64 0))
      have BF := hideIt (put5o_below B2.out (Nat.le_refl _) (.int .i64 0) (.string ⟨#[]⟩) (.string ⟨#[]⟩) (.int .i64 0) (.int .i64 0))
      obtain ⟨W', hW'⟩ : ∃ W', W' = put5o W2 w.heap.size (.int .i64 0) (.string ⟨#[]⟩) (.string ⟨#[]⟩) (.int .i64 0) (.int .i64 0) := ⟨_, rfl⟩
      rw [← hW'] at D BF
      unfold put5o at hW'
      go_wp2_with fail
      rw [← hW']
      clear hW' x0 x1 x2 x3 x4 f0 f1 f2 f3 f4
      obtain ⟨⟨y0, y1, y2, y3, y4⟩, -⟩ := five_box D.out
      refine bodyPost_ret (v := .tuple #[.agg #[.int .i64 0, .string ⟨#[]⟩, .string ⟨#[]⟩, .int .i64 0, .int .i64 0], .int .i64 3]) (by simp [results, Tryz.results4, go_sem, y0, y1, y2, y3, y4]) rfl ?_
      exact ⟨OUT.out, BF.out⟩
end Go.Proofs.YtkchiplcjlgflaaGreatDoor
