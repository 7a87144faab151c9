/- Several texts laid together: DuJ, BlkSm, LastW. -/
import Derived.Test.YtgnfbiohjdepcaaGreatDoorZBK
import Derived.Test.YtgnfbiohjdepcaaGreatDoorZAG
import Derived.Test.YtgnfbiohjdepcaaGreatDoorZAB
import Derived.Test.YtgnfbiohjdepcaaGreatDoorZBA
namespace Go.Proofs.YtgnfbiohjdepcaaGreatDoor
open Go.RowKit
def FtIs (x : Ino) (li lc : Int) (ok : Prop) (y : Ino) (n c : Int) : Prop := (¬ lc = 0 ∧ y = zeroN ∧ n = 0 ∧ c = lc) ∨ (lc = 0 ∧ ¬ ok ∧ y = zeroN ∧ n = 0 ∧ c = 4) ∨ (lc = 0 ∧ ok ∧ y = x ∧ n = li ∧ c = 0)
set_option maxRecDepth 100000 in
set_option maxHeartbeats 8000000 in
theorem fileToRead_any (v : Value) (ns : List Ino) (ds : List Den) (s : ByteArray) (page : Int) (w : World) (h : RdIm w v ns ds) (hw : ns.length ≤ 1048576) (hp : ds.length ≤ 1048576) (hT : TS w) (hE : ED w) (hF : FD w) (hr : ∀ k (h : k < ns.length), ns[k].R) (hs : ∀ k (h : k < ds.length), ds[k].name.size ≤ maxLen) (x : Ino) (li lc : Int) (hx : x = faI ns (flR ns ds s)) (hl : flR ns ds s = (li, lc)) (y : Ino) (n c : Int) (hy : FtIs x li lc (0 ≤ page ∧ page < x.size) y n c) :
    Calls Tryz.prog 28 #[v, .string s, .int .i64 page] w fun e w' => e = .returned (.tuple #[.agg #[.int .i64 y.kind, .int .i64 y.size, .int .i64 y.links, .int .i64 y.m0, .int .i64 y.m1, .int .i64 y.m2, .int .i64 y.m3, .int .i64 y.m4, .int .i64 y.m5, .int .i64 y.m6, .int .i64 y.m7, .int .i64 n], .int .i64 c]) ∧ Below w.heap.size w w' := by
  have LF := hideIt (fun w1 (hb : Below w.heap.size w w1) => findFile_any v ns ds s w1 (h.below hb) hw hp (hT.below hb) (hE.below hb) (hF.below hb) hr hs x hx)
  rw [hl] at LF
  obtain ⟨vW, vP, rfl, h1, h2⟩ := h
  obtain ⟨aW, cW, rfl, _, _⟩ := h1.shape
  obtain ⟨aP, cP, rfl, _, _⟩ := h2.shape
  clear h1 h2 hr hs hT hE hF hx hl hw hp
  obtain ⟨W, hW⟩ : ∃ W, W = (w.alloc (.cells #[.slice aW ns.length cW, .slice aP ds.length cP] 62)).alloc (.cells #[.int .i64 0, .int .i64 0, .int .i64 0, .int .i64 0, .int .i64 0, .int .i64 0, .int .i64 0, .int .i64 0, .int .i64 0, .int .i64 0, .int .i64 0, .int .i64 0] 72) := ⟨_, rfl⟩
  have hzW : W.heap.size = w.heap.size + 1 + 1 := by rw [hW]; simp
  have CA : Hid (∀ w', Below W.heap.size W w' → w'.cell? ⟨w.heap.size, 0, none⟩ = some (.slice aW ns.length cW) ∧ w'.cell? ⟨w.heap.size, 1, none⟩ = some (.slice aP ds.length cP)) := fun w' hb => by
    have : w'.heap[w.heap.size]? = some (.cells #[.slice aW ns.length cW, .slice aP ds.length cP] 62 (0, 0)) := (hb.block _ (by omega)).trans (by rw [hW]; exact at_old (at_new rfl))
    exact ⟨(two_cells this).1, (two_cells this).2.1⟩
  have CR : Hid (∀ w', Below W.heap.size W w' → w'.heap[w.heap.size + 1]? = some (.cells ([.int .i64 0, .int .i64 0, .int .i64 0, .int .i64 0, .int .i64 0, .int .i64 0, .int .i64 0, .int .i64 0, .int .i64 0, .int .i64 0, .int .i64 0, .int .i64 0] : List Value).toArray 72 (0, 0))) := fun w' hb => (hb.block _ (by omega)).trans (by
    rw [hW]
    have := at_new (w := w.alloc (.cells #[.slice aW ns.length cW, .slice aP ds.length cP] 62)) (o := .cells #[.int .i64 0, .int .i64 0, .int .i64 0, .int .i64 0, .int .i64 0, .int .i64 0, .int .i64 0, .int .i64 0, .int .i64 0, .int .i64 0, .int .i64 0, .int .i64 0] 72) rfl
    rw [World.size_alloc] at this
    exact this)
  have BW : Hid (Below w.heap.size w W) := by rw [hW]; exact ((Below.refl _ _).alloc (Nat.le_refl _) _).alloc (by simp) _
  have hz0 : w.heap.size + 1 < W.heap.size := by omega
  clear hzW
  obtain ⟨x0, x1⟩ := CA.out _ (Below.refl _ _)
  go_enter Tryz.func28, Tryz.ntmps28
  go_wp2_with fail
  rw [← hW]
  clear hW x0 x1
  refine (LF.out _ BW.out).mono ?_
  rintro e w1 ⟨rfl, hb1⟩
  obtain ⟨w2, hw2⟩ : ∃ w2, w2 = w1.alloc (.cells #[.int .i64 x.kind, .int .i64 x.size, .int .i64 x.links, .int .i64 x.m0, .int .i64 x.m1, .int .i64 x.m2, .int .i64 x.m3, .int .i64 x.m4, .int .i64 x.m5, .int .i64 x.m6, .int .i64 x.m7, .int .i64 li] 72) := ⟨_, rfl⟩
  have BC : Hid (Below w1.heap.size w1 w2) := by rw [hw2]; exact (Below.refl _ _).alloc (Nat.le_refl _) _
  have A2 := hideIt (bel2 hb1 BC.out)
  have B2 := hideIt (below_trans BW.out A2.out BW.out.size)
  have hz2 : w.heap.size + 1 < w2.heap.size := Nat.lt_of_lt_of_le hz0 A2.out.size
  have VX : Hid (w2.heap[w1.heap.size]? = some (.cells ([.int .i64 x.kind, .int .i64 x.size, .int .i64 x.links, .int .i64 x.m0, .int .i64 x.m1, .int .i64 x.m2, .int .i64 x.m3, .int .i64 x.m4, .int .i64 x.m5, .int .i64 x.m6, .int .i64 x.m7, .int .i64 li] : List Value).toArray 72 (0, 0))) := by rw [hw2]; exact at_new rfl
  have hz3 : w1.heap.size < w2.heap.size := (Array.getElem?_eq_some_iff.1 VX.out).1
  have ne : ¬ w1.heap.size = w.heap.size + 1 := by have := hb1.size; omega
  clear hb1 LF BC
  have E := hideIt (eight_at (CR.out _ A2.out))
  have p0 := (E.out 0).1
  have f0 := (E.out 0).2
  have p1 := (E.out 1).1
  have f1 := (E.out 1).2
  have p2 := (E.out 2).1
  have f2 := (E.out 2).2
  have p3 := (E.out 3).1
  have f3 := (E.out 3).2
  have p4 := (E.out 4).1
  have f4 := (E.out 4).2
  have p5 := (E.out 5).1
  have f5 := (E.out 5).2
  have p6 := (E.out 6).1
  have f6 := (E.out 6).2
  have p7 := (E.out 7).1
  have f7 := (E.out 7).2
  have p8 := (E.out 8).1
  have f8 := (E.out 8).2
  have p9 := (E.out 9).1
  have f9 := (E.out 9).2
  have p10 := (E.out 10).1
  have f10 := (E.out 10).2
  have p11 := (E.out 11).1
  have f11 := (E.out 11).2
  simp only [List.getElem?_cons_zero, List.getElem?_cons_succ] at p0 p1 p2 p3 p4 p5 p6 p7 p8 p9 p10 p11
  have G := hideIt (eight_at VX.out)
  have g0 := (G.out 0).1
  have g1 := (G.out 1).1
  have g2 := (G.out 2).1
  have g3 := (G.out 3).1
  have g4 := (G.out 4).1
  have g5 := (G.out 5).1
  have g6 := (G.out 6).1
  have g7 := (G.out 7).1
  have g8 := (G.out 8).1
  have g9 := (G.out 9).1
  have g10 := (G.out 10).1
  have g11 := (G.out 11).1
  simp only [List.getElem?_cons_zero, List.getElem?_cons_succ] at g0 g1 g2 g3 g4 g5 g6 g7 g8 g9 g10 g11
  clear CR CA E G
  rw [hw2] at p0 p1 p2 p3 p4 p5 p6 p7 p8 p9 p10 p11 f0 f1 f2 f3 f4 f5 f6 f7 f8 f9 f10 f11 g0 g1 g2 g3 g4 g5 g6 g7 g8 g9 g10 g11
  rcases hy with ⟨c0, rfl, rfl, rfl⟩ | ⟨rfl, c0, rfl, rfl, rfl⟩ | ⟨rfl, c0, rfl, rfl, rfl⟩
  · have q : (c != 0) = true := by rw [bne_iff_ne]; exact c0
    go_wp2
    rw [← hw2]
    rw [← hw2] at p0 p1 p2 p3 p4 p5 p6 p7 p8 p9 p10 p11 f0 f1 f2 f3 f4 f5 f6 f7 f8 f9 f10 f11
    refine bodyPost_ret (v := .tuple #[.agg #[.int .i64 0, .int .i64 0, .int .i64 0, .int .i64 0, .int .i64 0, .int .i64 0, .int .i64 0, .int .i64 0, .int .i64 0, .int .i64 0, .int .i64 0, .int .i64 0], .int .i64 c]) (by simp [results, Tryz.results28, go_sem, p0, p1, p2, p3, p4, p5, p6, p7, p8, p9, p10, p11]) rfl ⟨rfl, ?_⟩
    repeat (first | with_reducible exact B2.out | refine Below.setCell ?_ (by simp only; omega) _)
  · go_wp2_with fail
    refine (isIndex_no _ _ _ c0).mono ?_
    rintro e w' ⟨rfl, hw'⟩
    subst w'
    go_wp2
    rw [← hw2]
    rw [← hw2] at p0 p1 p2 p3 p4 p5 p6 p7 p8 p9 p10 p11 f0 f1 f2 f3 f4 f5 f6 f7 f8 f9 f10 f11
    refine bodyPost_ret (v := .tuple #[.agg #[.int .i64 0, .int .i64 0, .int .i64 0, .int .i64 0, .int .i64 0, .int .i64 0, .int .i64 0, .int .i64 0, .int .i64 0, .int .i64 0, .int .i64 0, .int .i64 0], .int .i64 4]) (by simp [results, Tryz.results28, go_sem, p0, p1, p2, p3, p4, p5, p6, p7, p8, p9, p10, p11]) rfl ⟨rfl, ?_⟩
    repeat (first | with_reducible exact B2.out | refine Below.setCell ?_ (by simp only; omega) _)
  · go_wp2_with fail
    refine (isIndex_yes _ _ _ c0).mono ?_
    rintro e w' ⟨rfl, hw'⟩
    subst w'
    go_wp2
    rw [← hw2]
    rw [← hw2] at p0 p1 p2 p3 p4 p5 p6 p7 p8 p9 p10 p11 f0 f1 f2 f3 f4 f5 f6 f7 f8 f9 f10 f11
    refine bodyPost_ret (v := .tuple #[.agg #[.int .i64 y.kind, .int .i64 y.size, .int .i64 y.links, .int .i64 y.m0, .int .i64 y.m1, .int .i64 y.m2, .int .i64 y.m3, .int .i64 y.m4, .int .i64 y.m5, .int .i64 y.m6, .int .i64 y.m7, .int .i64 n], .int .i64 0]) (by simp [results, Tryz.results28, go_sem, p0, p1, p2, p3, p4, p5, p6, p7, p8, p9, p10, p11]) rfl ⟨rfl, ?_⟩
    repeat (first | with_reducible exact B2.out | refine Below.setCell ?_ (by simp only; omega) _)
set_option maxRecDepth 100000 in
set_option maxHeartbeats 8000000 in
theorem fileToWrite_any (v : Value) (ns : List Ino) (ds : List Den) (s : ByteArray) (page val : Int) (w : World) (h : RdIm w v ns ds) (hw : ns.length ≤ 1048576) (hp : ds.length ≤ 1048576) (hT : TS w) (hE : ED w) (hF : FD w) (hr : ∀ k (h : k < ns.length), ns[k].R) (hs : ∀ k (h : k < ds.length), ds[k].name.size ≤ maxLen) (x : Ino) (li lc : Int) (hx : x = faI ns (flR ns ds s)) (hl : flR ns ds s = (li, lc)) (y : Ino) (n c : Int) (hy : FtIs x li lc ((0 ≤ page ∧ page < 8) ∧ wordB val = true) y n c) :
    Calls Tryz.prog 34 #[v, .string s, .int .i64 page, .int .i64 val] w fun e w' => e = .returned (.tuple #[.agg #[.int .i64 y.kind, .int .i64 y.size, .int .i64 y.links, .int .i64 y.m0, .int .i64 y.m1, .int .i64 y.m2, .int .i64 y.m3, .int .i64 y.m4, .int .i64 y.m5, .int .i64 y.m6, .int .i64 y.m7, .int .i64 n], .int .i64 c]) ∧ Below w.heap.size w w' := by
  have LF := hideIt (fun w1 (hb : Below w.heap.size w w1) => findFile_any v ns ds s w1 (h.below hb) hw hp (hT.below hb) (hE.below hb) (hF.below hb) hr hs x hx)
  rw [hl] at LF
  obtain ⟨vW, vP, rfl, h1, h2⟩ := h
  obtain ⟨aW, cW, rfl, _, _⟩ := h1.shape
  obtain ⟨aP, cP, rfl, _, _⟩ := h2.shape
  clear h1 h2 hr hs hT hE hF hx hl hw hp
  obtain ⟨W, hW⟩ : ∃ W, W = (w.alloc (.cells #[.slice aW ns.length cW, .slice aP ds.length cP] 62)).alloc (.cells #[.int .i64 0, .int .i64 0, .int .i64 0, .int .i64 0, .int .i64 0, .int .i64 0, .int .i64 0, .int .i64 0, .int .i64 0, .int .i64 0, .int .i64 0, .int .i64 0] 72) := ⟨_, rfl⟩
  have hzW : W.heap.size = w.heap.size + 1 + 1 := by rw [hW]; simp
  have CA : Hid (∀ w', Below W.heap.size W w' → w'.cell? ⟨w.heap.size, 0, none⟩ = some (.slice aW ns.length cW) ∧ w'.cell? ⟨w.heap.size, 1, none⟩ = some (.slice aP ds.length cP)) := fun w' hb => by
    have : w'.heap[w.heap.size]? = some (.cells #[.slice aW ns.length cW, .slice aP ds.length cP] 62 (0, 0)) := (hb.block _ (by omega)).trans (by rw [hW]; exact at_old (at_new rfl))
    exact ⟨(two_cells this).1, (two_cells this).2.1⟩
  have CR : Hid (∀ w', Below W.heap.size W w' → w'.heap[w.heap.size + 1]? = some (.cells ([.int .i64 0, .int .i64 0, .int .i64 0, .int .i64 0, .int .i64 0, .int .i64 0, .int .i64 0, .int .i64 0, .int .i64 0, .int .i64 0, .int .i64 0, .int .i64 0] : List Value).toArray 72 (0, 0))) := fun w' hb => (hb.block _ (by omega)).trans (by
    rw [hW]
    have := at_new (w := w.alloc (.cells #[.slice aW ns.length cW, .slice aP ds.length cP] 62)) (o := .cells #[.int .i64 0, .int .i64 0, .int .i64 0, .int .i64 0, .int .i64 0, .int .i64 0, .int .i64 0, .int .i64 0, .int .i64 0, .int .i64 0, .int .i64 0, .int .i64 0] 72) rfl
    rw [World.size_alloc] at this
    exact this)
  have BW : Hid (Below w.heap.size w W) := by rw [hW]; exact ((Below.refl _ _).alloc (Nat.le_refl _) _).alloc (by simp) _
  have hz0 : w.heap.size + 1 < W.heap.size := by omega
  clear hzW
  obtain ⟨x0, x1⟩ := CA.out _ (Below.refl _ _)
  go_enter Tryz.func34, Tryz.ntmps34
  go_wp2_with fail
  rw [← hW]
  clear hW x0 x1
  refine (LF.out _ BW.out).mono ?_
  rintro e w1 ⟨rfl, hb1⟩
  obtain ⟨w2, hw2⟩ : ∃ w2, w2 = w1.alloc (.cells #[.int .i64 x.kind, .int .i64 x.size, .int .i64 x.links, .int .i64 x.m0, .int .i64 x.m1, .int .i64 x.m2, .int .i64 x.m3, .int .i64 x.m4, .int .i64 x.m5, .int .i64 x.m6, .int .i64 x.m7, .int .i64 li] 72) := ⟨_, rfl⟩
  have BC : Hid (Below w1.heap.size w1 w2) := by rw [hw2]; exact (Below.refl _ _).alloc (Nat.le_refl _) _
  have A2 := hideIt (bel2 hb1 BC.out)
  have B2 := hideIt (below_trans BW.out A2.out BW.out.size)
  have hz2 : w.heap.size + 1 < w2.heap.size := Nat.lt_of_lt_of_le hz0 A2.out.size
  have VX : Hid (w2.heap[w1.heap.size]? = some (.cells ([.int .i64 x.kind, .int .i64 x.size, .int .i64 x.links, .int .i64 x.m0, .int .i64 x.m1, .int .i64 x.m2, .int .i64 x.m3, .int .i64 x.m4, .int .i64 x.m5, .int .i64 x.m6, .int .i64 x.m7, .int .i64 li] : List Value).toArray 72 (0, 0))) := by rw [hw2]; exact at_new rfl
  have hz3 : w1.heap.size < w2.heap.size := (Array.getElem?_eq_some_iff.1 VX.out).1
  have ne : ¬ w1.heap.size = w.heap.size + 1 := by have := hb1.size; omega
  clear hb1 LF BC
  have E := hideIt (eight_at (CR.out _ A2.out))
  have p0 := (E.out 0).1
  have f0 := (E.out 0).2
  have p1 := (E.out 1).1
  have f1 := (E.out 1).2
  have p2 := (E.out 2).1
  have f2 := (E.out 2).2
  have p3 := (E.out 3).1
  have f3 := (E.out 3).2
  have p4 := (E.out 4).1
  have f4 := (E.out 4).2
  have p5 := (E.out 5).1
  have f5 := (E.out 5).2
  have p6 := (E.out 6).1
  have f6 := (E.out 6).2
  have p7 := (E.out 7).1
  have f7 := (E.out 7).2
  have p8 := (E.out 8).1
  have f8 := (E.out 8).2
  have p9 := (E.out 9).1
  have f9 := (E.out 9).2
  have p10 := (E.out 10).1
  have f10 := (E.out 10).2
  have p11 := (E.out 11).1
  have f11 := (E.out 11).2
  simp only [List.getElem?_cons_zero, List.getElem?_cons_succ] at p0 p1 p2 p3 p4 p5 p6 p7 p8 p9 p10 p11
  have G := hideIt (eight_at VX.out)
  have g0 := (G.out 0).1
  have g1 := (G.out 1).1
  have g2 := (G.out 2).1
  have g3 := (G.out 3).1
  have g4 := (G.out 4).1
  have g5 := (G.out 5).1
  have g6 := (G.out 6).1
  have g7 := (G.out 7).1
  have g8 := (G.out 8).1
  have g9 := (G.out 9).1
  have g10 := (G.out 10).1
  have g11 := (G.out 11).1
  simp only [List.getElem?_cons_zero, List.getElem?_cons_succ] at g0 g1 g2 g3 g4 g5 g6 g7 g8 g9 g10 g11
  clear CR CA E G
  rw [hw2] at p0 p1 p2 p3 p4 p5 p6 p7 p8 p9 p10 p11 f0 f1 f2 f3 f4 f5 f6 f7 f8 f9 f10 f11 g0 g1 g2 g3 g4 g5 g6 g7 g8 g9 g10 g11
  rcases hy with ⟨c0, rfl, rfl, rfl⟩ | ⟨rfl, c0, rfl, rfl, rfl⟩ | ⟨rfl, c0, rfl, rfl, rfl⟩
  · have q : (c != 0) = true := by rw [bne_iff_ne]; exact c0
    go_wp2
    rw [← hw2]
    rw [← hw2] at p0 p1 p2 p3 p4 p5 p6 p7 p8 p9 p10 p11 f0 f1 f2 f3 f4 f5 f6 f7 f8 f9 f10 f11
    refine bodyPost_ret (v := .tuple #[.agg #[.int .i64 0, .int .i64 0, .int .i64 0, .int .i64 0, .int .i64 0, .int .i64 0, .int .i64 0, .int .i64 0, .int .i64 0, .int .i64 0, .int .i64 0, .int .i64 0], .int .i64 c]) (by simp [results, Tryz.results34, go_sem, p0, p1, p2, p3, p4, p5, p6, p7, p8, p9, p10, p11]) rfl ⟨rfl, ?_⟩
    repeat (first | with_reducible exact B2.out | refine Below.setCell ?_ (by simp only; omega) _)
  · go_wp2_with fail
    by_cases ci : 0 ≤ page ∧ page < 8
    case' pos =>
      have cw : wordB val = false := by
        cases q : wordB val with
        | false => rfl
        | true => exact absurd ⟨ci, q⟩ c0
      refine (isIndex_yes _ _ _ ci).mono ?_
      rintro e w' ⟨rfl, hw'⟩
      subst w'
      go_wp2_with fail
      refine (isWord_any _ _).mono ?_
      rw [cw]
      rintro e w' ⟨rfl, hw'⟩
      subst w'
    case' neg =>
      refine (isIndex_no _ _ _ ci).mono ?_
      rintro e w' ⟨rfl, hw'⟩
      subst w'
    all_goals
      go_wp2
      rw [← hw2]
      rw [← hw2] at p0 p1 p2 p3 p4 p5 p6 p7 p8 p9 p10 p11 f0 f1 f2 f3 f4 f5 f6 f7 f8 f9 f10 f11
      refine bodyPost_ret (v := .tuple #[.agg #[.int .i64 0, .int .i64 0, .int .i64 0, .int .i64 0, .int .i64 0, .int .i64 0, .int .i64 0, .int .i64 0, .int .i64 0, .int .i64 0, .int .i64 0, .int .i64 0], .int .i64 4]) (by simp [results, Tryz.results34, go_sem, p0, p1, p2, p3, p4, p5, p6, p7, p8, p9, p10, p11]) rfl ⟨rfl, ?_⟩
      repeat (first | with_reducible exact B2.out | refine Below.setCell ?_ (by simp only; omega) _)
  · go_wp2_with fail
    obtain ⟨ci, cw⟩ := c0
    refine (isIndex_yes _ _ _ ci).mono ?_
    rintro e w' ⟨rfl, hw'⟩
    subst w'
    go_wp2_with fail
    refine (isWord_any _ _).mono ?_
    rw [cw]
    rintro e w' ⟨rfl, hw'⟩
    subst w'
    go_wp2
    rw [← hw2]
    rw [← hw2] at p0 p1 p2 p3 p4 p5 p6 p7 p8 p9 p10 p11 f0 f1 f2 f3 f4 f5 f6 f7 f8 f9 f10 f11
    refine bodyPost_ret (v := .tuple #[.agg #[.int .i64 y.kind, .int .i64 y.size, .int .i64 y.links, .int .i64 y.m0, .int .i64 y.m1, .int .i64 y.m2, .int .i64 y.m3, .int .i64 y.m4, .int .i64 y.m5, .int .i64 y.m6, .int .i64 y.m7, .int .i64 n], .int .i64 0]) (by simp [results, Tryz.results34, go_sem, p0, p1, p2, p3, p4, p5, p6, p7, p8, p9, p10, p11]) rfl ⟨rfl, ?_⟩
    repeat (first | with_reducible exact B2.out | refine Below.setCell ?_ (by simp only; omega) _)
end Go.Proofs.YtgnfbiohjdepcaaGreatDoor

namespace Go.Proofs.YtgnfbiohjdepcaaGreatDoor
open Go.RowKit
theorem RowBlk.setCell {w : World} {lo hi : Nat} {v : Value} {ws : List Int} {ps : List Se} (h : RowBlk w lo hi v ws ps) {a : Addr} (ha : a.block < lo) (u : Value) : RowBlk (w.setCell a u) lo hi v ws ps := by
  obtain ⟨vW, vP, rfl, h1, h2⟩ := h
  exact ⟨vW, vP, rfl, h1.same (fun b hb _ => Below.heap_setCell _ _ _ _ (by omega)), h2.same (fun b hb _ => Below.heap_setCell _ _ _ _ (by omega))⟩
theorem RowBlk.alloc {w : World} {lo hi : Nat} {v : Value} {ws : List Int} {ps : List Se} (h : RowBlk w lo hi v ws ps) (hi1 : hi ≤ w.heap.size) (o : Obj) : RowBlk (w.alloc o) lo hi v ws ps :=
  h.below ((Below.refl _ _).alloc (Nat.le_refl _) o) hi1
theorem RdE.form {w : World} {v : Value} {ps : List Se} (h : RdE w v ps) {n : Nat} (hn : ps.length = n) : ∃ ao cap, v = .slice ao n cap := by
  obtain ⟨ao, cap, e, _⟩ := h.shape
  exact ⟨ao, cap, by rw [← hn]; exact e⟩
end Go.Proofs.YtgnfbiohjdepcaaGreatDoor

namespace Go.Proofs.YtgnfbiohjdepcaaGreatDoor
open Go.RowKit
def NW (w : World) : Prop := ∃ t fr, w.heap[0]? = some (.cells #[.int .i64 (-1), .int .i64 0] t fr)
theorem NW.lt {w : World} (h : NW w) : 0 < w.heap.size := by
  obtain ⟨t, fr, h⟩ := h
  exact (Array.getElem?_eq_some_iff.1 h).1
theorem NW.later {w w' : World} {B : Nat} (h : NW w) (hB : 0 < B) (hb : Below B w w') : NW w' := by
  obtain ⟨t, fr, h⟩ := h
  exact ⟨t, fr, (hb.block 0 hB).trans h⟩
theorem NW.below {w w' : World} (h : NW w) (hb : Below w.heap.size w w') : NW w' := h.later h.lt hb
theorem NW.cells {w : World} (h : NW w) : w.cell? ⟨0, 0, none⟩ = some (.int .i64 (-1)) ∧ w.cell? ⟨0, 1, none⟩ = some (.int .i64 0) := by
  obtain ⟨t, fr, h⟩ := h
  simp [World.cell?, h]
def lwStep (at_ : Int) (acc : Se × Int) (p : Se) : Se × Int := if p.at_ = at_ ∧ 0 < acc.2 then (p, acc.2 - 1) else acc
def lwR (at_ most : Int) (ps : List Se) : Se × Int := ps.foldl (lwStep at_) (⟨-1, 0⟩, most)
def lastM (at_ most : Int) (ps : List Se) : Se := (lwR at_ most ps).1
theorem lwR_snoc (at_ most : Int) (ps : List Se) (p : Se) : lwR at_ most (ps ++ [p]) = lwStep at_ (lwR at_ most ps) p := by simp [lwR]
theorem lwR_hit {at_ most : Int} {ps : List Se} {m : Nat} (hm : m < ps.length) (h : ps[m].at_ = at_) (h0 : 0 < (lwR at_ most (ps.take m)).2) : lwR at_ most (ps.take (m + 1)) = (ps[m], (lwR at_ most (ps.take m)).2 - 1) := by
  rw [take_snoc ps m hm, lwR_snoc]
  unfold lwStep
  rw [if_pos ⟨h, h0⟩]
theorem lwR_miss {at_ most : Int} {ps : List Se} {m : Nat} (hm : m < ps.length) (h : ¬ (ps[m].at_ = at_ ∧ 0 < (lwR at_ most (ps.take m)).2)) : lwR at_ most (ps.take (m + 1)) = lwR at_ most (ps.take m) := by
  rw [take_snoc ps m hm, lwR_snoc]
  unfold lwStep
  rw [if_neg h]
structure LwInv (w wr : World) (s : Se) : Prop where
  last : wr.heap[w.heap.size + 1]? = some (.cells #[.int .i64 s.at_, .int .i64 s.val] 138 (0, 0))
  res : wr.heap[w.heap.size]? = some (.cells #[.int .i64 0, .int .i64 0] 138 (0, 0))
  below : Below w.heap.size w wr
theorem LwInv.alloc {w wr : World} {s : Se} (h : LwInv w wr s) (o : Obj) : LwInv w (wr.alloc o) s :=
  ⟨at_old h.last, at_old h.res, h.below.alloc h.below.size o⟩
theorem LwInv.set {w wr : World} {s : Se} (h : LwInv w wr s) (p : Se) : LwInv w ((wr.setCell ⟨w.heap.size + 1, 0, none⟩ (.int .i64 p.at_)).setCell ⟨w.heap.size + 1, 1, none⟩ (.int .i64 p.val)) p :=
  ⟨two_set1 (two_set0 h.last _) _, by rw [Below.heap_setCell _ _ _ _ (by simp only; omega), Below.heap_setCell _ _ _ _ (by simp only; omega)]; exact h.res, (h.below.setCell (by simp only; omega) _).setCell (by simp only; omega) _⟩
set_option maxHeartbeats 4000000 in
theorem lastWrite_any (v : Value) (ps : List Se) (at_ most : Int) (w : World) (h : RdE w v ps) (hG : NW w) (hp : ps.length ≤ 1048576) (h0 : 0 ≤ most) (h1 : most ≤ 400) :
    Calls Tryz.prog 106 #[v, .int .i64 at_, .int .i64 most] w fun e w' => e = .returned (.agg #[.int .i64 (lastM at_ most ps).at_, .int .i64 (lastM at_ most ps).val]) ∧ Below w.heap.size w w' := by
  obtain ⟨aP, cP, rfl, _, hcP⟩ := h.shape
  have HP := hideIt hcP
  have hw0 := hG.lt
  have hb0 : Below w.heap.size w (w.alloc (.cells #[.int .i64 0, .int .i64 0] 138)) := (Below.refl _ _).alloc (Nat.le_refl _) _
  obtain ⟨g0, g1⟩ := (hG.below hb0).cells
  have INV : Hid (LwInv w ((w.alloc (.cells #[.int .i64 0, .int .i64 0] 138)).alloc (.cells #[.int .i64 (-1), .int .i64 0] 138)) (lwR at_ most (ps.take 0)).1) :=
    ⟨at_new (by simp), at_old (at_new rfl), hb0.alloc (by simp) _⟩
  clear h hcP hb0
  go_enter Tryz.func106, Tryz.ntmps106
  go_wp2
  go_loopw [2, 9, 13] (fun mo _ i wr => ∃ m : Nat, m ≤ ps.length ∧ i = .int .i64 m ∧ mo = .int .i64 (lwR at_ most (ps.take m)).2 ∧ (0 ≤ (lwR at_ most (ps.take m)).2 ∧ (lwR at_ most (ps.take m)).2 ≤ most) ∧ Hid (LwInv w wr (lwR at_ most (ps.take m)).1)) (fun _ _ i _ => ps.length - (intOf i).toNat)
  case atStart => exact ⟨0, by omega, rfl, rfl, ⟨h0, Int.le_refl _⟩, INV⟩
  case round =>
    obtain ⟨m, hm, rfl, rfl, ⟨hm0, hm1⟩, I⟩ := hrel
    by_cases hlt : m < ps.length
    · obtain ⟨b, o, rfl, hbl, hcell⟩ := HP.out (by omega)
      obtain ⟨c0, c1⟩ := hcell m hlt
      have d0 := (I.out.below.cell (p := ⟨b, o + m * 2, none⟩) hbl).trans c0
      have d1 := (I.out.below.cell (p := ⟨b, o + m * 2 + 1, none⟩) hbl).trans c1
      have hzr : w.heap.size + 2 ≤ wr.heap.size := (Array.getElem?_eq_some_iff.1 I.out.last).1
      obtain ⟨y0, y1, y2, y3⟩ := two_cells (at_old (o := .cells #[.int .i64 ps[m].at_, .int .i64 ps[m].val] 138) I.out.last)
      clear hcell c0 c1
      by_cases q : ps[m].at_ = at_
      · have q' : (ps[m].at_ == at_) = true := by simpa using q
        by_cases q2 : 0 < (lwR at_ most (ps.take m)).2
        · have E := hideIt (lwR_hit hlt q q2)
          have I1 := hideIt ((I.out.alloc (.cells #[.int .i64 ps[m].at_, .int .i64 ps[m].val] 138)).set ps[m])
          have I2 := hideIt ((I.out.set ps[m]).alloc (.cells #[.int .i64 ps[m].at_, .int .i64 ps[m].val] 138))
          generalize (lwR at_ most (ps.take m)).2 = mo at *
          clear q
          go_wp2
          go_roundw
          case rel =>
            refine ⟨m + 1, by omega, by go_num, ?_, ?_, ?_⟩
            · rw [E.out]
            · rw [E.out]; exact ⟨by show 0 ≤ mo - 1; omega, by show mo - 1 ≤ most; omega⟩
            · rw [E.out]
              first | exact I1 | exact I2
          case measure => simp [intOf]; omega
        · have E := hideIt (lwR_miss hlt (fun c => q2 c.2))
          have I1 := hideIt (I.out.alloc (.cells #[.int .i64 ps[m].at_, .int .i64 ps[m].val] 138))
          have e0 : (lwR at_ most (ps.take m)).2 = 0 := by omega
          have E0 := hideIt e0
          rw [e0]
          clear e0 q q2
          go_wp2
          go_roundw
          case rel =>
            refine ⟨m + 1, by omega, by go_num, ?_, ?_, ?_⟩
            · rw [E.out, E0.out]
            · rw [E.out]; exact ⟨hm0, hm1⟩
            · rw [E.out]; exact I1
          case measure => simp [intOf]; omega
      · have q' : (ps[m].at_ == at_) = false := by simpa using q
        have E := hideIt (lwR_miss (most := most) hlt (fun c => q c.1))
        have I1 := hideIt (I.out.alloc (.cells #[.int .i64 ps[m].at_, .int .i64 ps[m].val] 138))
        clear q
        go_wp2
        go_roundw
        case rel =>
          refine ⟨m + 1, by omega, by go_num, ?_, ?_, ?_⟩
          · rw [E.out]
          · rw [E.out]; exact ⟨hm0, hm1⟩
          · rw [E.out]; exact I1
        case measure => simp [intOf]; omega
    · have e : m = ps.length := by omega
      subst e
      rw [List.take_length] at I
      obtain ⟨y0, y1, y2, y3⟩ := two_cells I.out.last
      obtain ⟨t0, t1, t2, t3⟩ := two_cells I.out.res
      go_wp2
      refine bodyPost_ret (v := .agg #[.int .i64 (lwR at_ most ps).1.at_, .int .i64 (lwR at_ most ps).1.val]) (by simp [results, Tryz.results106, go_sem, t0, t1]) rfl ?_
      exact ⟨rfl, (I.out.below.setCell (by simp only; omega) _).setCell (by simp only; omega) _⟩
end Go.Proofs.YtgnfbiohjdepcaaGreatDoor
