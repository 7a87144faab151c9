/- An operation is read from its text: by the program. -/
import Derived.Test.YtjkdmhdehihcbaaGreatDoorRoM
import Derived.Test.YtjkdmhdehihcbaaGreatDoorRoG
namespace Go.Proofs.YtjkdmhdehihcbaaGreatDoor
open Go.RowKit
set_option maxRecDepth 100000 in
set_option maxHeartbeats 2000000 in
theorem isTold_any (k : Int) (p t : ByteArray) (g x : Int) (w : World) (hP : PT w) (hg : inR g) (hx : inR x) :
    Calls Tryz.prog 32 #[.agg #[.int .i64 k, .string p, .string t, .int .i64 g, .int .i64 x]] w fun e w' => e = .returned (.bool (otB k p t g x)) ∧ Below w.heap.size w w' := by
  obtain ⟨V, hV⟩ : ∃ V, V = w.alloc (.cells #[.int .i64 k, .string p, .string t, .int .i64 g, .int .i64 x] 24) := ⟨_, rfl⟩
  have BV : Hid (Below w.heap.size w V) := by rw [hV]; exact (Below.refl _ _).alloc (Nat.le_refl _) _
  have XV : Hid (V.heap[w.heap.size]? = some (.cells #[.int .i64 k, .string p, .string t, .int .i64 g, .int .i64 x] 24 (0, 0))) := by rw [hV]; exact at_new rfl
  have L := hideIt (implOpText_any k p t g x V (hP.below BV.out) hg hx)
  have EC : (otC k p t g x == 0) = otB k p t g x := by
    unfold otC
    cases otB k p t g x <;> rfl
  obtain ⟨⟨x0, x1, x2, x3, x4⟩, -⟩ := five_box XV.out
  clear hP hg hx XV
  generalize otC k p t g x = c at *
  generalize otS k p t g x = z at *
  generalize otB k p t g x = b at *
  go_enter Tryz.func32, Tryz.ntmps32
  go_upto_region 1 with fail
  rw [← hV]
  clear hV
  go_wp2_with fail
  refine L.out.mono ?_
  rintro e w1 ⟨rfl, hb1⟩
  have B1 := hideIt (below_trans BV.out hb1 BV.out.size)
  clear hb1 L
  go_wp2
  go_ret
  exact ⟨rfl, B1.out⟩
set_option maxRecDepth 100000 in
set_option maxHeartbeats 4000000 in
theorem implReadOp_any (s : ByteArray) (w : World) (hP : PT w) (hS : SY w) (hR : RY w) :
    Calls Tryz.prog 8 #[.string s] w fun e w' => rpP s e ∧ Below w.heap.size w w' := by
  have P2 : Hid (65536 < s.size → rpP s (.returned (.tuple #[.agg #[.int .i64 0, .string ⟨#[]⟩, .string ⟨#[]⟩, .int .i64 0, .int .i64 0], .int .i64 2]))) := fun h => ⟨0, ⟨#[]⟩, ⟨#[]⟩, 0, 0, 2, rfl, .inl ⟨h, rfl, rfl, rfl, rfl, rfl, rfl⟩⟩
  have P3 : Hid (s.size ≤ 65536 → rdW (wds s) = none → rpP s (.returned (.tuple #[.agg #[.int .i64 0, .string ⟨#[]⟩, .string ⟨#[]⟩, .int .i64 0, .int .i64 0], .int .i64 3]))) := fun h q => ⟨0, ⟨#[]⟩, ⟨#[]⟩, 0, 0, 3, rfl, .inr (.inl ⟨h, q, rfl, rfl, rfl, rfl, rfl, rfl⟩)⟩
  have P0 : Hid (∀ (k g x : Int) p t, s.size ≤ 65536 → (∃ n g' x' : Nat, rdW (wds s) = some (n, p, t, g', x') ∧ k = n ∧ g = g' ∧ x = x') → rpP s (.returned (.tuple #[.agg #[.int .i64 k, .string p, .string t, .int .i64 g, .int .i64 x], .int .i64 0]))) := fun k g x p t h ⟨n, g', x', q, a, b, c⟩ => ⟨k, p, t, g, x, 0, rfl, .inr (.inr ⟨h, n, g', x', q, a, b, c, rfl⟩)⟩
  have LW := hideIt (fun (h : s.size ≤ 65536) w1 => wordsOf_any s w1 h)
  have WS : Hid (s.size ≤ 65536 → ∀ i, (wa (wds s) i).size ≤ 65536) := fun hs i => by
    unfold wa
    rw [List.getD_eq_getElem?_getD]
    cases e : (wds s)[i]? with
    | none => show (⟨#[]⟩ : ByteArray).size ≤ 65536; exact Nat.zero_le _
    | some x => exact Nat.le_trans (wds_size (List.mem_of_getElem? e)) hs
  have WL : Hid (s.size ≤ 65536 → (wds s).length ≤ 65536) := fun hs => Nat.le_trans wds_len hs
  have LH := hideIt (fun (h : s.size ≤ 65536) v w1 (hb : Below w.heap.size w w1) hr => implHeard_any v (wds s) w1 hr (WL.out h) (WS.out h) (hP.below hb) (hS.below hb) (hR.below hb))
  have LT := hideIt (fun k p t g x w1 (hb : Below w.heap.size w w1) hg hx => isTold_any k p t g x w1 (hP.below hb) hg hx)
  clear hP hS hR WS WL
  generalize rpP s = PP at *
  generalize wds s = ws at *
  obtain ⟨V, hV⟩ : ∃ V, V = w.alloc (.cells #[.int .i64 0, .string ⟨#[]⟩, .string ⟨#[]⟩, .int .i64 0, .int .i64 0] 24) := ⟨_, rfl⟩
  have BV : Hid (Below w.heap.size w V) := by rw [hV]; exact (Below.refl _ _).alloc (Nat.le_refl _) _
  have XV : Hid (V.heap[w.heap.size]? = some (.cells #[.int .i64 0, .string ⟨#[]⟩, .string ⟨#[]⟩, .int .i64 0, .int .i64 0] 24 (0, 0))) := by rw [hV]; exact at_new rfl
  have zV := (Array.getElem?_eq_some_iff.1 XV.out).1
  go_enter Tryz.func8, Tryz.ntmps8
  go_upto_region 1 with fail
  rw [← hV]
  clear hV
  by_cases h : 65536 < s.size
  · have h1 : (s.size : Int) > 65536 := by omega
    obtain ⟨⟨x0, x1, x2, x3, x4⟩, f0, f1, f2, f3, f4⟩ := five_box XV.out
    have D := hideIt (put5o_box XV.out (.int .i64 0) (.string ⟨#[]⟩) (.string ⟨#[]⟩) (.int .i64 0) (.int .i64 0))
    have BF := hideIt (put5o_below BV.out (Nat.le_refl _) (.int .i64 0) (.string ⟨#[]⟩) (.string ⟨#[]⟩) (.int .i64 0) (.int .i64 0))
    obtain ⟨W', hW'⟩ : ∃ W', W' = put5o V w.heap.size (.int .i64 0) (.string ⟨#[]⟩) (.string ⟨#[]⟩) (.int .i64 0) (.int .i64 0) := ⟨_, rfl⟩
    rw [← hW'] at D BF
    unfold put5o at hW'
    clear XV BV
    go_wp2_with fail
    rw [← hW']
    clear hW' x0 x1 x2 x3 x4 f0 f1 f2 f3 f4
    obtain ⟨⟨y0, y1, y2, y3, y4⟩, -⟩ := five_box D.out
    refine bodyPost_ret (v := .tuple #[.agg #[.int .i64 0, .string ⟨#[]⟩, .string ⟨#[]⟩, .int .i64 0, .int .i64 0], .int .i64 2]) (by simp [results, Tryz.results8, go_sem, y0, y1, y2, y3, y4]) rfl ?_
    exact ⟨P2.out h, BF.out⟩
  · have h1 : ¬ (s.size : Int) > 65536 := by omega
    have hl : s.size ≤ 65536 := by omega
    have LQ := hideIt (LW.out hl)
    go_wp2_with fail
    refine (LQ.out V).mono ?_
    rintro e w1 ⟨A, rfl, hr1, hb⟩
    have R1 := hideIt hr1
    have B1 := hideIt (below_trans BV.out hb BV.out.size)
    have X1 := hideIt ((hb.block _ zV).trans XV.out)
    clear hb BV XV LQ LW hr1
    have z1 := (Array.getElem?_eq_some_iff.1 X1.out).1
    go_wp2_with fail
    refine (LH.out hl _ w1 B1.out R1.out).mono ?_
    rintro e w2 ⟨⟨k, p, t, g, x, ok, rfl, hq, hg, hx⟩, hb⟩
    have Q := hideIt hq
    have G := hideIt hg
    have X := hideIt hx
    have B2 := hideIt (below_trans B1.out hb B1.out.size)
    have X2 := hideIt ((hb.block _ z1).trans X1.out)
    clear hb B1 X1 R1 hq hg hx LH
    obtain ⟨W3, hW3⟩ : ∃ W3, W3 = w2.alloc (.cells #[.int .i64 k, .string p, .string t, .int .i64 g, .int .i64 x] 24) := ⟨_, rfl⟩
    have b3 : Below w2.heap.size w2 W3 := by rw [hW3]; exact (Below.refl _ _).alloc (Nat.le_refl _) _
    have Y3 : Hid (W3.heap[w2.heap.size]? = some (.cells #[.int .i64 k, .string p, .string t, .int .i64 g, .int .i64 x] 24 (0, 0))) := by rw [hW3]; exact at_new rfl
    have X3 := hideIt ((b3.block _ (Array.getElem?_eq_some_iff.1 X2.out).1).trans X2.out)
    have B3 := hideIt (below_trans B2.out b3 B2.out.size)
    have z3 := (Array.getElem?_eq_some_iff.1 X3.out).1
    have y3z := (Array.getElem?_eq_some_iff.1 Y3.out).1
    go_upto_region 4 with fail
    rw [← hW3]
    clear hW3 b3 X2 B2
    obtain ⟨⟨v0, v1, v2, v3, v4⟩, -⟩ := five_box Y3.out
    cases ok with
    | false =>
      have OUT := hideIt (P3.out hl (Q.out.2.2 rfl))
      clear Q G X LT P0 P3 P2
      obtain ⟨⟨x0, x1, x2, x3, x4⟩, f0, f1, f2, f3, f4⟩ := five_box X3.out
      have D := hideIt (put5o_box X3.out (.int .i64 0) (.string ⟨#[]⟩) (.string ⟨#[]⟩) (.int .i64 0) (.int .i64 0))
      have BF := hideIt (put5o_below B3.out (Nat.le_refl _) (.int .i64 0) (.string ⟨#[]⟩) (.string ⟨#[]⟩) (.int .i64 0) (.int .i64 0))
      obtain ⟨W', hW'⟩ : ∃ W', W' = put5o W3 w.heap.size (.int .i64 0) (.string ⟨#[]⟩) (.string ⟨#[]⟩) (.int .i64 0) (.int .i64 0) := ⟨_, rfl⟩
      rw [← hW'] at D BF
      unfold put5o at hW'
      clear X3 B3
      go_wp2_with fail
      rw [← hW']
      clear hW' x0 x1 x2 x3 x4 f0 f1 f2 f3 f4
      obtain ⟨⟨y0, y1, y2, y3, y4⟩, -⟩ := five_box D.out
      refine bodyPost_ret (v := .tuple #[.agg #[.int .i64 0, .string ⟨#[]⟩, .string ⟨#[]⟩, .int .i64 0, .int .i64 0], .int .i64 3]) (by simp [results, Tryz.results8, go_sem, y0, y1, y2, y3, y4]) rfl ?_
      exact ⟨OUT.out, BF.out⟩
    | true =>
      have LT2 := hideIt (LT.out k p t g x W3 B3.out G.out X.out)
      clear LT G X
      go_wp2_with fail
      refine LT2.out.mono ?_
      rintro e w4 ⟨rfl, hb⟩
      have B4 := hideIt (below_trans B3.out hb B3.out.size)
      have X4 := hideIt ((hb.block _ z3).trans X3.out)
      have Y4 := hideIt ((hb.block _ y3z).trans Y3.out)
      clear hb B3 X3 Y3 LT2 v0 v1 v2 v3 v4
      obtain ⟨⟨v0, v1, v2, v3, v4⟩, -⟩ := five_box Y4.out
      cases ht : otB k p t g x with
      | false =>
        have OUT := hideIt (P3.out hl (Q.out.2.1 rfl ht))
        clear Q P0 P3 P2 ht
        obtain ⟨⟨x0, x1, x2, x3, x4⟩, f0, f1, f2, f3, f4⟩ := five_box X4.out
        have D := hideIt (put5o_box X4.out (.int .i64 0) (.string ⟨#[]⟩) (.string ⟨#[]⟩) (.int .i64 0) (.int .i64 0))
        have BF := hideIt (put5o_below B4.out (Nat.le_refl _) (.int .i64 0) (.string ⟨#[]⟩) (.string ⟨#[]⟩) (.int .i64 0) (.int .i64 0))
        obtain ⟨W', hW'⟩ : ∃ W', W' = put5o w4 w.heap.size (.int .i64 0) (.string ⟨#[]⟩) (.string ⟨#[]⟩) (.int .i64 0) (.int .i64 0) := ⟨_, rfl⟩
        rw [← hW'] at D BF
        unfold put5o at hW'
        clear X4 B4
        go_wp2_with fail
        rw [← hW']
        clear hW' x0 x1 x2 x3 x4 f0 f1 f2 f3 f4
        obtain ⟨⟨y0, y1, y2, y3, y4⟩, -⟩ := five_box D.out
        refine bodyPost_ret (v := .tuple #[.agg #[.int .i64 0, .string ⟨#[]⟩, .string ⟨#[]⟩, .int .i64 0, .int .i64 0], .int .i64 3]) (by simp [results, Tryz.results8, go_sem, y0, y1, y2, y3, y4]) rfl ?_
        exact ⟨OUT.out, BF.out⟩
      | true =>
        have OUT := hideIt (P0.out k g x p t hl (Q.out.1 rfl ht))
        clear Q P0 P3 P2 ht
        obtain ⟨⟨x0, x1, x2, x3, x4⟩, f0, f1, f2, f3, f4⟩ := five_box X4.out
        have D := hideIt (put5o_box X4.out (.int .i64 k) (.string p) (.string t) (.int .i64 g) (.int .i64 x))
        have BF := hideIt (put5o_below B4.out (Nat.le_refl _) (.int .i64 k) (.string p) (.string t) (.int .i64 g) (.int .i64 x))
        obtain ⟨W', hW'⟩ : ∃ W', W' = put5o w4 w.heap.size (.int .i64 k) (.string p) (.string t) (.int .i64 g) (.int .i64 x) := ⟨_, rfl⟩
        rw [← hW'] at D BF
        unfold put5o at hW'
        clear X4 B4
        go_wp2_with fail
        rw [← hW']
        clear hW' x0 x1 x2 x3 x4 f0 f1 f2 f3 f4
        obtain ⟨⟨y0, y1, y2, y3, y4⟩, -⟩ := five_box D.out
        refine bodyPost_ret (v := .tuple #[.agg #[.int .i64 k, .string p, .string t, .int .i64 g, .int .i64 x], .int .i64 0]) (by simp [results, Tryz.results8, go_sem, y0, y1, y2, y3, y4]) rfl ?_
        exact ⟨OUT.out, BF.out⟩
end Go.Proofs.YtjkdmhdehihcbaaGreatDoor
