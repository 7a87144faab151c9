/- Several texts laid together: DuB, BlkSm, LastW, BlkReadI. -/
import Derived.Test.YtcilodgoognmnaaGreatDoorZBE
import Derived.Test.YtcilodgoognmnaaGreatDoorZBG
import Derived.Test.YtcilodgoognmnaaGreatDoorZBF
import Derived.Test.YtcilodgoognmnaaGreatDoorPlR
import Derived.Test.YtcilodgoognmnaaGreatDoorZAW
namespace Go.Proofs.YtcilodgoognmnaaGreatDoor
open Go.RowKit

/-- The file of a path, of images that may be wrong; its inode. -/
def flR (ns : List Ino) (ds : List Den) (s : ByteArray) : Int × Int := if 65536 < s.size then (0, 2) else if imgB ns ds = true then flI ns ds s else (0, 1)
def faI (ns : List Ino) (r : Int × Int) : Ino := if r.2 = 0 then inoAt ns r.1.toNat else zeroN
theorem fl_right {ns : List Ino} {ds : List Den} {s : ByteArray} (h : (flR ns ds s).2 = 0) : imgB ns ds = true ∧ ¬ 65536 < s.size ∧ flR ns ds s = flI ns ds s := by
  unfold flR at h ⊢
  by_cases c : 65536 < s.size
  · rw [if_pos c] at h
    simp at h
  · rw [if_neg c] at h ⊢
    by_cases d : imgB ns ds = true
    · rw [if_pos d]
      exact ⟨d, c, rfl⟩
    · rw [if_neg d] at h
      simp at h
/-- The three ways: nothing is looked up; it is a directory; it is a file. -/
theorem fl_ways (ns : List Ino) (ds : List Den) (s : ByteArray) : (¬ (lkR ns ds s).2 = 0 ∧ flR ns ds s = (0, (lkR ns ds s).2)) ∨ ((lkR ns ds s).2 = 0 ∧ imgB ns ds = true ∧ ∃ i : Nat, i < 16 ∧ (lkR ns ds s).1 = (i : Int) ∧ ((kindAt ns (i : Int) = 2 ∧ flR ns ds s = (0, 9)) ∨ (¬ kindAt ns (i : Int) = 2 ∧ flR ns ds s = ((i : Int), 0)))) := by
  unfold lkR flR
  by_cases c : 65536 < s.size
  · rw [if_pos c, if_pos c]
    exact .inl ⟨by simp, rfl⟩
  · rw [if_neg c, if_neg c]
    by_cases d : imgB ns ds = true
    · rw [if_pos d, if_pos d]
      unfold flI
      by_cases e : (lkI ns ds s).2 = 0
      · rw [if_pos e]
        refine .inr ⟨e, d, ?_⟩
        by_cases f : kindAt ns (lkI ns ds s).1 = 2
        · have k := lkI_ok (s := s) d
          rw [if_neg (by rw [f]; omega)]
          exact ⟨(lkI ns ds s).1.toNat, by omega, by omega, .inl ⟨by rw [show (((lkI ns ds s).1.toNat : Nat) : Int) = (lkI ns ds s).1 by omega]; exact f, rfl⟩⟩
        · obtain ⟨i, ei, hi, -, k⟩ := lk_plain (img_iff.1 d) e f
          have k1 : kindAt ns (lkI ns ds s).1 = 1 := by
            rw [ei, kindAt_of (show i < ns.length by have := (pimg_all d).1; omega), ← inoAt_of]
            exact k
          rw [if_pos k1]
          exact ⟨i, hi, ei, .inr ⟨by rw [← ei]; exact f, by rw [ei]⟩⟩
      · rw [if_neg e]
        exact .inl ⟨e, rfl⟩
    · rw [if_neg d, if_neg d]
      exact .inl ⟨by simp, rfl⟩

set_option maxRecDepth 100000 in
set_option maxHeartbeats 8000000 in
theorem findFile_any (v : Value) (ns : List Ino) (ds : List Den) (s : ByteArray) (w : World) (h : RdIm w v ns ds) (hw : ns.length ≤ 1048576) (hp : ds.length ≤ 1048576) (hT : TS w) (hE : ED w) (hF : FD w) (hr : ∀ k (h : k < ns.length), ns[k].R) (hs : ∀ k (h : k < ds.length), ds[k].name.size ≤ maxLen) :
    ∀ x, x = faI ns (flR ns ds s) → Calls Tryz.prog 46 #[v, .string s] w fun e w' => e = .returned (.tuple #[.agg #[.int .i64 x.kind, .int .i64 x.size, .int .i64 x.links, .int .i64 x.m0, .int .i64 x.m1, .int .i64 x.m2, .int .i64 x.m3, .int .i64 x.m4, .int .i64 x.m5, .int .i64 x.m6, .int .i64 x.m7, .int .i64 (flR ns ds s).1], .int .i64 (flR ns ds s).2]) ∧ Below w.heap.size w w' := by
  intro x hx
  have HX := hideIt hx
  have LL := hideIt (fun w1 (hb : Below w.heap.size w w1) => implLookup_any v ns ds s w1 (h.below hb) hw hp (hT.below hb) (hE.below hb) (hF.below hb) hr hs)
  have LD := hideIt (fun (hi : imgB ns ds = true) (i : Nat) (h16 : i < 16) w1 (hb : Below w.heap.size w w1) => isDir_any v ns ds (i : Int) w1 (h.below hb) (pimg_all hi).1 (by omega))
  have WAYS := hideIt (fl_ways ns ds s)
  have L16 := hideIt (fun hi => (pimg_all (ws := ns) (ps := ds) hi).1)
  obtain ⟨vW, vP, rfl, h1, h2⟩ := h
  obtain ⟨aW, cW, rfl, _, hcW⟩ := h1.shape
  obtain ⟨aP, cP, rfl, _, hcP⟩ := h2.shape
  have HW := hideIt hcW
  clear h1 h2 hr hs hT hE hF hcW hcP hx hw hp
  obtain ⟨W, hW⟩ : ∃ W, W = (w.alloc (.cells #[.slice aW ns.length cW, .slice aP ds.length cP] 63)).alloc (.cells #[.int .i64 0, .int .i64 0, .int .i64 0, .int .i64 0, .int .i64 0, .int .i64 0, .int .i64 0, .int .i64 0, .int .i64 0, .int .i64 0, .int .i64 0, .int .i64 0] 99) := ⟨_, rfl⟩
  have hzW : W.heap.size = w.heap.size + 1 + 1 := by rw [hW]; simp
  have CA : Hid (∀ w', Below W.heap.size W w' → w'.cell? ⟨w.heap.size, 0, none⟩ = some (.slice aW ns.length cW) ∧ w'.cell? ⟨w.heap.size, 1, none⟩ = some (.slice aP ds.length cP)) := fun w' hb => by
    have : w'.heap[w.heap.size]? = some (.cells #[.slice aW ns.length cW, .slice aP ds.length cP] 63 (0, 0)) := (hb.block _ (by omega)).trans (by rw [hW]; exact at_old (at_new rfl))
    exact ⟨(two_cells this).1, (two_cells this).2.1⟩
  have CR : Hid (∀ w', Below W.heap.size W w' → w'.heap[w.heap.size + 1]? = some (.cells ([.int .i64 0, .int .i64 0, .int .i64 0, .int .i64 0, .int .i64 0, .int .i64 0, .int .i64 0, .int .i64 0, .int .i64 0, .int .i64 0, .int .i64 0, .int .i64 0] : List Value).toArray 99 (0, 0))) := fun w' hb => (hb.block _ (by omega)).trans (by
    rw [hW]
    have := at_new (w := w.alloc (.cells #[.slice aW ns.length cW, .slice aP ds.length cP] 63)) (o := .cells #[.int .i64 0, .int .i64 0, .int .i64 0, .int .i64 0, .int .i64 0, .int .i64 0, .int .i64 0, .int .i64 0, .int .i64 0, .int .i64 0, .int .i64 0, .int .i64 0] 99) rfl
    rw [World.size_alloc] at this
    exact this)
  have BW : Hid (Below w.heap.size w W) := by rw [hW]; exact ((Below.refl _ _).alloc (Nat.le_refl _) _).alloc (by simp) _
  have hz0 : w.heap.size + 1 < W.heap.size := by omega
  clear hzW
  obtain ⟨x0, x1⟩ := CA.out _ (Below.refl _ _)
  generalize flR ns ds s = res at *
  generalize lkR ns ds s = lr at *
  obtain ⟨li, lc⟩ := lr
  simp only at WAYS LL
  go_enter Tryz.func46, Tryz.ntmps46
  go_wp2_with fail
  rw [← hW]
  clear hW x0 x1
  refine (LL.out _ BW.out).mono ?_
  rintro e w1 ⟨rfl, hb1⟩
  have A1 := hideIt hb1
  have B1 := hideIt (below_trans BW.out A1.out BW.out.size)
  have hz1 : w.heap.size + 1 < w1.heap.size := Nat.lt_of_lt_of_le hz0 A1.out.size
  clear hb1 LL
  rcases WAYS.out with ⟨c, rfl⟩ | ⟨rfl, hi, i, i16, rfl, c⟩
  · have q : (lc != 0) = true := by rw [bne_iff_ne]; exact c
    obtain rfl : x = zeroN := HX.out.trans (if_neg c)
    have E := hideIt (eight_at (CR.out _ A1.out))
    have p0 := (E.out 0).1
    have f0 := (E.out 0).2
    have p1 := (E.out 1).1
    have f1 := (E.out 1).2
    have p2 := (E.out 2).1
    have f2 := (E.out 2).2
    have p3 := (E.out 3).1
    have f3 := (E.out 3).2
    have p4 := (E.out 4).1
    have f4 := (E.out 4).2
    have p5 := (E.out 5).1
    have f5 := (E.out 5).2
    have p6 := (E.out 6).1
    have f6 := (E.out 6).2
    have p7 := (E.out 7).1
    have f7 := (E.out 7).2
    have p8 := (E.out 8).1
    have f8 := (E.out 8).2
    have p9 := (E.out 9).1
    have f9 := (E.out 9).2
    have p10 := (E.out 10).1
    have f10 := (E.out 10).2
    have p11 := (E.out 11).1
    have f11 := (E.out 11).2
    simp only [List.getElem?_cons_zero, List.getElem?_cons_succ] at p0 p1 p2 p3 p4 p5 p6 p7 p8 p9 p10 p11
    clear CR CA WAYS LD HW L16 c
    go_wp2
    refine bodyPost_ret (v := .tuple #[.agg #[.int .i64 0, .int .i64 0, .int .i64 0, .int .i64 0, .int .i64 0, .int .i64 0, .int .i64 0, .int .i64 0, .int .i64 0, .int .i64 0, .int .i64 0, .int .i64 0], .int .i64 lc]) (by simp [results, Tryz.results46, go_sem, p0, p1, p2, p3, p4, p5, p6, p7, p8, p9, p10, p11]) rfl ⟨rfl, ?_⟩
    repeat (first | with_reducible exact B1.out | refine Below.setCell ?_ (by simp only; omega) _)
  · have LD2 := hideIt (LD.out hi i i16)
    have i1 : i < ns.length := by have := L16.out hi; omega
    have i0 : (0 : Int) ≤ (i : Int) := by omega
    have il : (i : Int) < (ns.length : Int) := by omega
    obtain ⟨bW, oW, rfl, hblW, hcellW⟩ := HW.out (by omega)
    have HC : Hid (∀ k (h : k < ns.length) (x : Ino), x = ns[k] → ∀ w', Below w.heap.size w w' → w'.cell? ⟨bW, oW + k * 11, none⟩ = some (.int .i64 x.kind) ∧ w'.cell? ⟨bW, oW + k * 11 + 1, none⟩ = some (.int .i64 x.size) ∧ w'.cell? ⟨bW, oW + k * 11 + 2, none⟩ = some (.int .i64 x.links) ∧ w'.cell? ⟨bW, oW + k * 11 + 3, none⟩ = some (.int .i64 x.m0) ∧ w'.cell? ⟨bW, oW + k * 11 + 4, none⟩ = some (.int .i64 x.m1) ∧ w'.cell? ⟨bW, oW + k * 11 + 5, none⟩ = some (.int .i64 x.m2) ∧ w'.cell? ⟨bW, oW + k * 11 + 6, none⟩ = some (.int .i64 x.m3) ∧ w'.cell? ⟨bW, oW + k * 11 + 7, none⟩ = some (.int .i64 x.m4) ∧ w'.cell? ⟨bW, oW + k * 11 + 8, none⟩ = some (.int .i64 x.m5) ∧ w'.cell? ⟨bW, oW + k * 11 + 9, none⟩ = some (.int .i64 x.m6) ∧ w'.cell? ⟨bW, oW + k * 11 + 10, none⟩ = some (.int .i64 x.m7)) := fun k h x e w' hb => by
      obtain ⟨a0, a1, a2, a3, a4, a5, a6, a7, a8, a9, a10⟩ := hcellW k h
      subst e
      exact ⟨(hb.cell (p := ⟨bW, oW + k * 11, none⟩) hblW).trans a0, (hb.cell (p := ⟨bW, oW + k * 11 + 1, none⟩) hblW).trans a1, (hb.cell (p := ⟨bW, oW + k * 11 + 2, none⟩) hblW).trans a2, (hb.cell (p := ⟨bW, oW + k * 11 + 3, none⟩) hblW).trans a3, (hb.cell (p := ⟨bW, oW + k * 11 + 4, none⟩) hblW).trans a4, (hb.cell (p := ⟨bW, oW + k * 11 + 5, none⟩) hblW).trans a5, (hb.cell (p := ⟨bW, oW + k * 11 + 6, none⟩) hblW).trans a6, (hb.cell (p := ⟨bW, oW + k * 11 + 7, none⟩) hblW).trans a7, (hb.cell (p := ⟨bW, oW + k * 11 + 8, none⟩) hblW).trans a8, (hb.cell (p := ⟨bW, oW + k * 11 + 9, none⟩) hblW).trans a9, (hb.cell (p := ⟨bW, oW + k * 11 + 10, none⟩) hblW).trans a10⟩
    clear hcellW HW L16 LD WAYS hi
    obtain ⟨x0, x1⟩ := CA.out _ A1.out
    generalize hkd : kindAt ns (i : Int) = kd at *
    rcases c with ⟨rfl, rfl⟩ | ⟨c, rfl⟩
    · obtain rfl : x = zeroN := HX.out.trans (if_neg (by simp))
      go_wp2_with fail
      refine (LD2.out _ B1.out).mono ?_
      rintro e w2 ⟨rfl, hb2⟩
      have A2 := hideIt (bel2 A1.out hb2)
      have B2 := hideIt (below_trans B1.out hb2 B1.out.size)
      have hz2 : w.heap.size + 1 < w2.heap.size := Nat.lt_of_lt_of_le hz1 hb2.size
      clear hb2 x0 x1
      have E := hideIt (eight_at (CR.out _ A2.out))
      have p0 := (E.out 0).1
      have f0 := (E.out 0).2
      have p1 := (E.out 1).1
      have f1 := (E.out 1).2
      have p2 := (E.out 2).1
      have f2 := (E.out 2).2
      have p3 := (E.out 3).1
      have f3 := (E.out 3).2
      have p4 := (E.out 4).1
      have f4 := (E.out 4).2
      have p5 := (E.out 5).1
      have f5 := (E.out 5).2
      have p6 := (E.out 6).1
      have f6 := (E.out 6).2
      have p7 := (E.out 7).1
      have f7 := (E.out 7).2
      have p8 := (E.out 8).1
      have f8 := (E.out 8).2
      have p9 := (E.out 9).1
      have f9 := (E.out 9).2
      have p10 := (E.out 10).1
      have f10 := (E.out 10).2
      have p11 := (E.out 11).1
      have f11 := (E.out 11).2
      simp only [List.getElem?_cons_zero, List.getElem?_cons_succ] at p0 p1 p2 p3 p4 p5 p6 p7 p8 p9 p10 p11
      clear CR CA LD2 hkd
      go_wp2
      refine bodyPost_ret (v := .tuple #[.agg #[.int .i64 0, .int .i64 0, .int .i64 0, .int .i64 0, .int .i64 0, .int .i64 0, .int .i64 0, .int .i64 0, .int .i64 0, .int .i64 0, .int .i64 0, .int .i64 0], .int .i64 9]) (by simp [results, Tryz.results46, go_sem, p0, p1, p2, p3, p4, p5, p6, p7, p8, p9, p10, p11]) rfl ⟨rfl, ?_⟩
      repeat (first | with_reducible exact B2.out | refine Below.setCell ?_ (by simp only; omega) _)
    · have hxi : x = ns[i] := by
        rw [HX.out]
        unfold faI
        rw [if_pos rfl, Int.toNat_natCast, inoAt_of i1]
      have q : (kd == 2) = false := by rw [beq_eq_false_iff_ne]; exact c
      have HC2 := hideIt (HC.out i i1 x hxi)
      clear HX hxi HC c hkd
      go_wp2_with fail
      refine (LD2.out _ B1.out).mono ?_
      rintro e w2 ⟨rfl, hb2⟩
      have A2 := hideIt (bel2 A1.out hb2)
      have B2 := hideIt (below_trans B1.out hb2 B1.out.size)
      have hz2 : w.heap.size + 1 < w2.heap.size := Nat.lt_of_lt_of_le hz1 hb2.size
      clear hb2 x0 x1
      have E := hideIt (eight_at (CR.out _ A2.out))
      have p0 := (E.out 0).1
      have f0 := (E.out 0).2
      have p1 := (E.out 1).1
      have f1 := (E.out 1).2
      have p2 := (E.out 2).1
      have f2 := (E.out 2).2
      have p3 := (E.out 3).1
      have f3 := (E.out 3).2
      have p4 := (E.out 4).1
      have f4 := (E.out 4).2
      have p5 := (E.out 5).1
      have f5 := (E.out 5).2
      have p6 := (E.out 6).1
      have f6 := (E.out 6).2
      have p7 := (E.out 7).1
      have f7 := (E.out 7).2
      have p8 := (E.out 8).1
      have f8 := (E.out 8).2
      have p9 := (E.out 9).1
      have f9 := (E.out 9).2
      have p10 := (E.out 10).1
      have f10 := (E.out 10).2
      have p11 := (E.out 11).1
      have f11 := (E.out 11).2
      simp only [List.getElem?_cons_zero, List.getElem?_cons_succ] at p0 p1 p2 p3 p4 p5 p6 p7 p8 p9 p10 p11
      obtain ⟨x0, x1⟩ := CA.out _ A2.out
      obtain ⟨a0, a1, a2, a3, a4, a5, a6, a7, a8, a9, a10⟩ := HC2.out _ B2.out
      clear CR CA LD2 HC2
      go_wp2
      refine bodyPost_ret (v := .tuple #[.agg #[.int .i64 x.kind, .int .i64 x.size, .int .i64 x.links, .int .i64 x.m0, .int .i64 x.m1, .int .i64 x.m2, .int .i64 x.m3, .int .i64 x.m4, .int .i64 x.m5, .int .i64 x.m6, .int .i64 x.m7, .int .i64 (i : Int)], .int .i64 0]) (by simp [results, Tryz.results46, go_sem, p0, p1, p2, p3, p4, p5, p6, p7, p8, p9, p10, p11]) rfl ⟨rfl, ?_⟩
      repeat (first | with_reducible exact B2.out | refine Below.setCell ?_ (by simp only; omega) _)
end Go.Proofs.YtcilodgoognmnaaGreatDoor

namespace Go.Proofs.YtcilodgoognmnaaGreatDoor
open Go.RowKit

theorem RowBlk.setCell {w : World} {lo hi : Nat} {v : Value} {ws : List Int} {ps : List Se} (h : RowBlk w lo hi v ws ps) {a : Addr} (ha : a.block < lo) (u : Value) : RowBlk (w.setCell a u) lo hi v ws ps := by
  obtain ⟨vW, vP, rfl, h1, h2⟩ := h
  exact ⟨vW, vP, rfl, h1.same (fun b hb _ => Below.heap_setCell _ _ _ _ (by omega)), h2.same (fun b hb _ => Below.heap_setCell _ _ _ _ (by omega))⟩
theorem RowBlk.alloc {w : World} {lo hi : Nat} {v : Value} {ws : List Int} {ps : List Se} (h : RowBlk w lo hi v ws ps) (hi1 : hi ≤ w.heap.size) (o : Obj) : RowBlk (w.alloc o) lo hi v ws ps :=
  h.below ((Below.refl _ _).alloc (Nat.le_refl _) o) hi1
/-- The shape of a slice, its length as it is wanted. -/
theorem RdE.form {w : World} {v : Value} {ps : List Se} (h : RdE w v ps) {n : Nat} (hn : ps.length = n) : ∃ ao cap, v = .slice ao n cap := by
  obtain ⟨ao, cap, e, _⟩ := h.shape
  exact ⟨ao, cap, by rw [← hn]; exact e⟩
end Go.Proofs.YtcilodgoognmnaaGreatDoor

namespace Go.Proofs.YtcilodgoognmnaaGreatDoor
open Go.RowKit

/-- The variable that no write is like. -/
def NW (w : World) : Prop := ∃ t fr, w.heap[0]? = some (.cells #[.int .i64 (-1), .int .i64 0] t fr)
theorem NW.lt {w : World} (h : NW w) : 0 < w.heap.size := by
  obtain ⟨t, fr, h⟩ := h
  exact (Array.getElem?_eq_some_iff.1 h).1
theorem NW.later {w w' : World} {B : Nat} (h : NW w) (hB : 0 < B) (hb : Below B w w') : NW w' := by
  obtain ⟨t, fr, h⟩ := h
  exact ⟨t, fr, (hb.block 0 hB).trans h⟩
theorem NW.below {w w' : World} (h : NW w) (hb : Below w.heap.size w w') : NW w' := h.later h.lt hb
theorem NW.cells {w : World} (h : NW w) : w.cell? ⟨0, 0, none⟩ = some (.int .i64 (-1)) ∧ w.cell? ⟨0, 1, none⟩ = some (.int .i64 0) := by
  obtain ⟨t, fr, h⟩ := h
  simp [World.cell?, h]

def lwStep (at_ : Int) (acc : Se × Int) (p : Se) : Se × Int := if p.at_ = at_ ∧ 0 < acc.2 then (p, acc.2 - 1) else acc
def lwR (at_ most : Int) (ps : List Se) : Se × Int := ps.foldl (lwStep at_) (⟨-1, 0⟩, most)
def lastM (at_ most : Int) (ps : List Se) : Se := (lwR at_ most ps).1
theorem lwR_snoc (at_ most : Int) (ps : List Se) (p : Se) : lwR at_ most (ps ++ [p]) = lwStep at_ (lwR at_ most ps) p := by simp [lwR]
theorem lwR_hit {at_ most : Int} {ps : List Se} {m : Nat} (hm : m < ps.length) (h : ps[m].at_ = at_) (h0 : 0 < (lwR at_ most (ps.take m)).2) : lwR at_ most (ps.take (m + 1)) = (ps[m], (lwR at_ most (ps.take m)).2 - 1) := by
  rw [take_snoc ps m hm, lwR_snoc]
  unfold lwStep
  rw [if_pos ⟨h, h0⟩]
theorem lwR_miss {at_ most : Int} {ps : List Se} {m : Nat} (hm : m < ps.length) (h : ¬ (ps[m].at_ = at_ ∧ 0 < (lwR at_ most (ps.take m)).2)) : lwR at_ most (ps.take (m + 1)) = lwR at_ most (ps.take m) := by
  rw [take_snoc ps m hm, lwR_snoc]
  unfold lwStep
  rw [if_neg h]

/-- In the midst of the loop: the last one so far, and the answer's variable. -/
structure LwInv (w wr : World) (s : Se) : Prop where
  last : wr.heap[w.heap.size + 1]? = some (.cells #[.int .i64 s.at_, .int .i64 s.val] 200 (0, 0))
  res : wr.heap[w.heap.size]? = some (.cells #[.int .i64 0, .int .i64 0] 200 (0, 0))
  below : Below w.heap.size w wr
theorem LwInv.alloc {w wr : World} {s : Se} (h : LwInv w wr s) (o : Obj) : LwInv w (wr.alloc o) s :=
  ⟨at_old h.last, at_old h.res, h.below.alloc h.below.size o⟩
theorem LwInv.set {w wr : World} {s : Se} (h : LwInv w wr s) (p : Se) : LwInv w ((wr.setCell ⟨w.heap.size + 1, 0, none⟩ (.int .i64 p.at_)).setCell ⟨w.heap.size + 1, 1, none⟩ (.int .i64 p.val)) p :=
  ⟨two_set1 (two_set0 h.last _) _, by rw [Below.heap_setCell _ _ _ _ (by simp only; omega), Below.heap_setCell _ _ _ _ (by simp only; omega)]; exact h.res, (h.below.setCell (by simp only; omega) _).setCell (by simp only; omega) _⟩

set_option maxHeartbeats 4000000 in
theorem lastWrite_any (v : Value) (ps : List Se) (at_ most : Int) (w : World) (h : RdE w v ps) (hG : NW w) (hp : ps.length ≤ 1048576) (h0 : 0 ≤ most) (h1 : most ≤ 400) :
    Calls Tryz.prog 166 #[v, .int .i64 at_, .int .i64 most] w fun e w' => e = .returned (.agg #[.int .i64 (lastM at_ most ps).at_, .int .i64 (lastM at_ most ps).val]) ∧ Below w.heap.size w w' := by
  obtain ⟨aP, cP, rfl, _, hcP⟩ := h.shape
  have HP := hideIt hcP
  have hw0 := hG.lt
  have hb0 : Below w.heap.size w (w.alloc (.cells #[.int .i64 0, .int .i64 0] 200)) := (Below.refl _ _).alloc (Nat.le_refl _) _
  obtain ⟨g0, g1⟩ := (hG.below hb0).cells
  have INV : Hid (LwInv w ((w.alloc (.cells #[.int .i64 0, .int .i64 0] 200)).alloc (.cells #[.int .i64 (-1), .int .i64 0] 200)) (lwR at_ most (ps.take 0)).1) :=
    ⟨at_new (by simp), at_old (at_new rfl), hb0.alloc (by simp) _⟩
  clear h hcP hb0
  go_enter Tryz.func166, Tryz.ntmps166
  go_wp2
  go_loopw [2, 9, 13] (fun mo _ i wr => ∃ m : Nat, m ≤ ps.length ∧ i = .int .i64 m ∧ mo = .int .i64 (lwR at_ most (ps.take m)).2 ∧ (0 ≤ (lwR at_ most (ps.take m)).2 ∧ (lwR at_ most (ps.take m)).2 ≤ most) ∧ Hid (LwInv w wr (lwR at_ most (ps.take m)).1)) (fun _ _ i _ => ps.length - (intOf i).toNat)
  case atStart => exact ⟨0, by omega, rfl, rfl, ⟨h0, Int.le_refl _⟩, INV⟩
  case round =>
    obtain ⟨m, hm, rfl, rfl, ⟨hm0, hm1⟩, I⟩ := hrel
    by_cases hlt : m < ps.length
    · obtain ⟨b, o, rfl, hbl, hcell⟩ := HP.out (by omega)
      obtain ⟨c0, c1⟩ := hcell m hlt
      have d0 := (I.out.below.cell (p := ⟨b, o + m * 2, none⟩) hbl).trans c0
      have d1 := (I.out.below.cell (p := ⟨b, o + m * 2 + 1, none⟩) hbl).trans c1
      have hzr : w.heap.size + 2 ≤ wr.heap.size := (Array.getElem?_eq_some_iff.1 I.out.last).1
      obtain ⟨y0, y1, y2, y3⟩ := two_cells (at_old (o := .cells #[.int .i64 ps[m].at_, .int .i64 ps[m].val] 200) I.out.last)
      clear hcell c0 c1
      by_cases q : ps[m].at_ = at_
      · have q' : (ps[m].at_ == at_) = true := by simpa using q
        by_cases q2 : 0 < (lwR at_ most (ps.take m)).2
        · have E := hideIt (lwR_hit hlt q q2)
          have I1 := hideIt ((I.out.alloc (.cells #[.int .i64 ps[m].at_, .int .i64 ps[m].val] 200)).set ps[m])
          have I2 := hideIt ((I.out.set ps[m]).alloc (.cells #[.int .i64 ps[m].at_, .int .i64 ps[m].val] 200))
          generalize (lwR at_ most (ps.take m)).2 = mo at *
          clear q
          go_wp2
          go_roundw
          case rel =>
            refine ⟨m + 1, by omega, by go_num, ?_, ?_, ?_⟩
            · rw [E.out]
            · rw [E.out]; exact ⟨by show 0 ≤ mo - 1; omega, by show mo - 1 ≤ most; omega⟩
            · rw [E.out]
              first | exact I1 | exact I2
          case measure => simp [intOf]; omega
        · have E := hideIt (lwR_miss hlt (fun c => q2 c.2))
          have I1 := hideIt (I.out.alloc (.cells #[.int .i64 ps[m].at_, .int .i64 ps[m].val] 200))
          have e0 : (lwR at_ most (ps.take m)).2 = 0 := by omega
          have E0 := hideIt e0
          rw [e0]
          clear e0 q q2
          go_wp2
          go_roundw
          case rel =>
            refine ⟨m + 1, by omega, by go_num, ?_, ?_, ?_⟩
            · rw [E.out, E0.out]
            · rw [E.out]; exact ⟨hm0, hm1⟩
            · rw [E.out]; exact I1
          case measure => simp [intOf]; omega
      · have q' : (ps[m].at_ == at_) = false := by simpa using q
        have E := hideIt (lwR_miss (most := most) hlt (fun c => q c.1))
        have I1 := hideIt (I.out.alloc (.cells #[.int .i64 ps[m].at_, .int .i64 ps[m].val] 200))
        clear q
        go_wp2
        go_roundw
        case rel =>
          refine ⟨m + 1, by omega, by go_num, ?_, ?_, ?_⟩
          · rw [E.out]
          · rw [E.out]; exact ⟨hm0, hm1⟩
          · rw [E.out]; exact I1
        case measure => simp [intOf]; omega
    · have e : m = ps.length := by omega
      subst e
      rw [List.take_length] at I
      obtain ⟨y0, y1, y2, y3⟩ := two_cells I.out.last
      obtain ⟨t0, t1, t2, t3⟩ := two_cells I.out.res
      go_wp2
      refine bodyPost_ret (v := .agg #[.int .i64 (lwR at_ most ps).1.at_, .int .i64 (lwR at_ most ps).1.val]) (by simp [results, Tryz.results166, go_sem, t0, t1]) rfl ?_
      exact ⟨rfl, (I.out.below.setCell (by simp only; omega) _).setCell (by simp only; omega) _⟩
end Go.Proofs.YtcilodgoognmnaaGreatDoor

namespace Go.Proofs.YtcilodgoognmnaaGreatDoor
open Go.RowKit

theorem lwFold_full (at_ : Int) : ∀ (ps : List Se) (s : Se) (mo : Int), (ps.length : Int) ≤ mo → ((∀ p ∈ ps, ¬ p.at_ = at_) ∧ (ps.foldl (lwStep at_) (s, mo)).1 = s) ∨ ((ps.foldl (lwStep at_) (s, mo)).1.at_ = at_ ∧ ∀ d, lastE at_ d ps = (ps.foldl (lwStep at_) (s, mo)).1.val)
  | [], s, mo, _ => .inl ⟨by simp, rfl⟩
  | p :: ps, s, mo, h => by
    have h' : (ps.length : Int) + 1 ≤ mo := by simpa using h
    by_cases c : p.at_ = at_
    · have e : lwStep at_ (s, mo) p = (p, mo - 1) := if_pos ⟨c, by show 0 < mo; omega⟩
      rw [List.foldl_cons, e]
      rcases lwFold_full at_ ps p (mo - 1) (by omega) with ⟨h1, h2⟩ | ⟨h1, h2⟩
      · right
        rw [h2]
        refine ⟨c, fun d => ?_⟩
        show lastE at_ (if p.at_ = at_ then p.val else d) ps = p.val
        rw [if_pos c]
        exact lastE_none h1
      · exact .inr ⟨h1, fun d => h2 _⟩
    · have e : lwStep at_ (s, mo) p = (s, mo) := if_neg (fun x => c x.1)
      rw [List.foldl_cons, e]
      rcases lwFold_full at_ ps s mo (by omega) with ⟨h1, h2⟩ | ⟨h1, h2⟩
      · left
        refine ⟨fun q hq => ?_, h2⟩
        rcases List.mem_cons.1 hq with rfl | hq
        · exact c
        · exact h1 q hq
      · exact .inr ⟨h1, fun d => h2 _⟩
theorem lastM_full {at_ : Int} {ps : List Se} (h : ps.length ≤ 400) : ((∀ p ∈ ps, ¬ p.at_ = at_) ∧ lastM at_ 400 ps = ⟨-1, 0⟩) ∨ ((lastM at_ 400 ps).at_ = at_ ∧ ∀ d, lastE at_ d ps = (lastM at_ 400 ps).val) :=
  lwFold_full at_ ps ⟨-1, 0⟩ 400 (by omega)

set_option maxHeartbeats 4000000 in
theorem implBlkRead_any (v : Value) (ws : List Int) (ps : List Se) (at_ : Int) (w : World) (h : RdBlk w v ws ps) (hG : NW w) (hw : ws.length ≤ 1048576) (hp : ps.length ≤ 1048576) :
    Calls Tryz.prog 102 #[v, .int .i64 at_] w fun e w' => e = .returned (.tuple #[.int .i64 (readV ws ps at_), .int .i64 (askE ws ps at_)]) ∧ Below w.heap.size w w' := by
  have HR := hideIt h
  obtain ⟨vW, vP, rfl, h1, h2⟩ := h
  have H2 := hideIt h2
  obtain ⟨aW, cW, rfl, _, hcW⟩ := h1.shape
  obtain ⟨aP, cP, rfl, _⟩ := h2.shape
  clear h1 h2
  have hb0 : Below w.heap.size w (w.alloc (.cells #[.slice aW ws.length cW, .slice aP ps.length cP] 39)) := (Below.refl _ _).alloc (Nat.le_refl _) _
  rcases askE_cases ws ps at_ with hc | ⟨hc, hok, k, rfl, hk, hkl⟩
  · have hne : (askE ws ps at_ != 0) = true := by rcases hc with hc | hc <;> simp [hc]
    have E := hideIt (readV_not (ws := ws) (ps := ps) (at_ := at_) (by rcases hc with hc | hc <;> simp [hc]))
    clear hc hcW
    go_enter Tryz.func102, Tryz.ntmps102
    go_wp2_with (go_at_call 165; refine (sectorFault_any _ ws ps _ _ (HR.out.below hb0) hw hp).mono ?_; rintro e w1 ⟨rfl, hb1⟩)
    go_ret2
    exact ⟨ret_two E.out.symm rfl, below_trans hb0 hb1 (by simp)⟩
  · have E := hideIt (readV_ok hc hkl)
    have C := hideIt hc
    obtain ⟨bW, oW, rfl, hbW, hcellW⟩ := hcW (by omega)
    have hcw := hideIt (hcellW k hkl)
    have LF := hideIt (lastM_full (at_ := (k : Int)) (ps := ps) (blkB_len hok).2)
    clear hc hcW hcellW
    go_enter Tryz.func102, Tryz.ntmps102
    go_wp2_with fail
    refine (sectorFault_any _ ws ps _ _ (HR.out.below hb0) hw hp).mono ?_
    rw [C.out]
    rintro e w1 ⟨rfl, hb1⟩
    have V1 := (hb1.block w.heap.size (by simp)).trans (at_new rfl)
    obtain ⟨x1, x2, _, _⟩ := two_cells V1
    have B1 := hideIt (below_trans hb0 hb1 (by simp))
    have hz1 : w.heap.size + 1 ≤ w1.heap.size := by have := hb1.size; simp at this; omega
    have VH := hideIt V1
    have G1 := hideIt (hG.below B1.out)
    clear V1 hb1 hb0
    go_wp2_with fail
    refine (lastWrite_any _ ps _ _ _ (Rd.below H2.out B1.out) G1.out hp (by omega) (by omega)).mono ?_
    rcases LF.out with ⟨hn, hl⟩ | ⟨ha, hl⟩
    · rw [hl]
      rintro e w2 ⟨rfl, hb2⟩
      have hz2 := hb2.size
      have B2 := hideIt (below_trans B1.out hb2 (by omega))
      have hb3 := below_trans B1.out hb2 (by omega) |>.alloc (by omega) (.cells #[.int .i64 (-1), .int .i64 0] 200)
      obtain ⟨g0, g1⟩ := ((G1.out.below hb2).below ((Below.refl _ _).alloc (Nat.le_refl _) (.cells #[.int .i64 (-1), .int .i64 0] 200))).cells
      obtain ⟨x1', x2', _, _⟩ := two_cells (at_old (o := .cells #[.int .i64 (-1), .int .i64 0] 200) ((hb2.block w.heap.size (by omega)).trans VH.out))
      have hcw1 := (hb3.cell (p := ⟨bW, oW + k, none⟩) hbW).trans hcw.out
      have B3 := hideIt hb3
      have E2 := hideIt (lastE_none (d := ws[k]) hn)
      clear hb2 hb3 hn hl x1 x2
      go_wp2
      go_ret2
      exact ⟨ret_two (E.out.trans E2.out).symm C.out.symm, B3.out⟩
    · rw [ha]
      rintro e w2 ⟨rfl, hb2⟩
      have hz2 := hb2.size
      have hb3 := below_trans B1.out hb2 (by omega) |>.alloc (by omega) (.cells #[.int .i64 (k : Int), .int .i64 (lastM (k : Int) 400 ps).val] 200)
      obtain ⟨g0, g1⟩ := ((G1.out.below hb2).below ((Below.refl _ _).alloc (Nat.le_refl _) (.cells #[.int .i64 (k : Int), .int .i64 (lastM (k : Int) 400 ps).val] 200))).cells
      have B3 := hideIt hb3
      have E2 := hideIt (hl ws[k])
      have kn : ((k : Int) == -1) = false := by first | (simp; done) | (simp; omega)
      clear hb2 hb3 ha hl x1 x2
      generalize (lastM (k : Int) 400 ps).val = y at *
      go_wp2
      go_ret2
      exact ⟨ret_two (E.out.trans E2.out).symm C.out.symm, B3.out⟩
end Go.Proofs.YtcilodgoognmnaaGreatDoor
