/- The last of a sector's first writes: by the program. -/
import Derived.Test.YtbjcoeimcdodjaaDoorZAK
namespace Go.Proofs.YtbjcoeimcdodjaaDoor
open Go.RowKit
def NW (w : World) : Prop := ∃ t fr, w.heap[0]? = some (.cells #[.int .i64 (-1), .int .i64 0] t fr)
theorem NW.lt {w : World} (h : NW w) : 0 < w.heap.size := by
  obtain ⟨t, fr, h⟩ := h
  exact (Array.getElem?_eq_some_iff.1 h).1
theorem NW.later {w w' : World} {B : Nat} (h : NW w) (hB : 0 < B) (hb : Below B w w') : NW w' := by
  obtain ⟨t, fr, h⟩ := h
  exact ⟨t, fr, (hb.block 0 hB).trans h⟩
theorem NW.below {w w' : World} (h : NW w) (hb : Below w.heap.size w w') : NW w' := h.later h.lt hb
theorem NW.cells {w : World} (h : NW w) : w.cell? ⟨0, 0, none⟩ = some (.int .i64 (-1)) ∧ w.cell? ⟨0, 1, none⟩ = some (.int .i64 0) := by
  obtain ⟨t, fr, h⟩ := h
  simp [World.cell?, h]
def lwStep (at_ : Int) (acc : Se × Int) (p : Se) : Se × Int := if p.at_ = at_ ∧ 0 < acc.2 then (p, acc.2 - 1) else acc
def lwR (at_ most : Int) (ps : List Se) : Se × Int := ps.foldl (lwStep at_) (⟨-1, 0⟩, most)
def lastM (at_ most : Int) (ps : List Se) : Se := (lwR at_ most ps).1
theorem lwR_snoc (at_ most : Int) (ps : List Se) (p : Se) : lwR at_ most (ps ++ [p]) = lwStep at_ (lwR at_ most ps) p := by simp [lwR]
theorem lwR_hit {at_ most : Int} {ps : List Se} {m : Nat} (hm : m < ps.length) (h : ps[m].at_ = at_) (h0 : 0 < (lwR at_ most (ps.take m)).2) : lwR at_ most (ps.take (m + 1)) = (ps[m], (lwR at_ most (ps.take m)).2 - 1) := by
  rw [take_snoc ps m hm, lwR_snoc]
  unfold lwStep
  rw [if_pos ⟨h, h0⟩]
theorem lwR_miss {at_ most : Int} {ps : List Se} {m : Nat} (hm : m < ps.length) (h : ¬ (ps[m].at_ = at_ ∧ 0 < (lwR at_ most (ps.take m)).2)) : lwR at_ most (ps.take (m + 1)) = lwR at_ most (ps.take m) := by
  rw [take_snoc ps m hm, lwR_snoc]
  unfold lwStep
  rw [if_neg h]
structure LwInv (w wr : World) (s : Se) : Prop where
  last : wr.heap[w.heap.size + 1]? = some (.cells #[.int .i64 s.at_, .int .i64 s.val] 59 (0, 0))
  res : wr.heap[w.heap.size]? = some (.cells #[.int .i64 0, .int .i64 0] 59 (0, 0))
  below : Below w.heap.size w wr
theorem LwInv.alloc {w wr : World} {s : Se} (h : LwInv w wr s) (o : Obj) : LwInv w (wr.alloc o) s :=
  ⟨at_old h.last, at_old h.res, h.below.alloc h.below.size o⟩
theorem LwInv.set {w wr : World} {s : Se} (h : LwInv w wr s) (p : Se) : LwInv w ((wr.setCell ⟨w.heap.size + 1, 0, none⟩ (.int .i64 p.at_)).setCell ⟨w.heap.size + 1, 1, none⟩ (.int .i64 p.val)) p :=
  ⟨two_set1 (two_set0 h.last _) _, by rw [Below.heap_setCell _ _ _ _ (by simp only; omega), Below.heap_setCell _ _ _ _ (by simp only; omega)]; exact h.res, (h.below.setCell (by simp only; omega) _).setCell (by simp only; omega) _⟩
set_option maxHeartbeats 4000000 in
theorem lastWrite_any (v : Value) (ps : List Se) (at_ most : Int) (w : World) (h : RdE w v ps) (hG : NW w) (hp : ps.length ≤ 1048576) (h0 : 0 ≤ most) (h1 : most ≤ 400) :
    Calls Tryd.prog 33 #[v, .int .i64 at_, .int .i64 most] w fun e w' => e = .returned (.agg #[.int .i64 (lastM at_ most ps).at_, .int .i64 (lastM at_ most ps).val]) ∧ Below w.heap.size w w' := by
  obtain ⟨aP, cP, rfl, _, hcP⟩ := h.shape
  have HP := hideIt hcP
  have hw0 := hG.lt
  have hb0 : Below w.heap.size w (w.alloc (.cells #[.int .i64 0, .int .i64 0] 59)) := (Below.refl _ _).alloc (Nat.le_refl _) _
  obtain ⟨g0, g1⟩ := (hG.below hb0).cells
  have INV : Hid (LwInv w ((w.alloc (.cells #[.int .i64 0, .int .i64 0] 59)).alloc (.cells #[.int .i64 (-1), .int .i64 0] 59)) (lwR at_ most (ps.take 0)).1) :=
    ⟨at_new (by simp), at_old (at_new rfl), hb0.alloc (by simp) _⟩
  clear h hcP hb0
  go_enter Tryd.func33, Tryd.ntmps33
  go_wp2
  go_loopw [2, 9, 13] (fun mo _ i wr => ∃ m : Nat, m ≤ ps.length ∧ i = .int .i64 m ∧ mo = .int .i64 (lwR at_ most (ps.take m)).2 ∧ (0 ≤ (lwR at_ most (ps.take m)).2 ∧ (lwR at_ most (ps.take m)).2 ≤ most) ∧ Hid (LwInv w wr (lwR at_ most (ps.take m)).1)) (fun _ _ i _ => ps.length - (intOf i).toNat)
  case atStart => exact ⟨0, by omega, rfl, rfl, ⟨h0, Int.le_refl _⟩, INV⟩
  case round =>
    obtain ⟨m, hm, rfl, rfl, ⟨hm0, hm1⟩, I⟩ := hrel
    by_cases hlt : m < ps.length
    · obtain ⟨b, o, rfl, hbl, hcell⟩ := HP.out (by omega)
      obtain ⟨c0, c1⟩ := hcell m hlt
      have d0 := (I.out.below.cell (p := ⟨b, o + m * 2, none⟩) hbl).trans c0
      have d1 := (I.out.below.cell (p := ⟨b, o + m * 2 + 1, none⟩) hbl).trans c1
      have hzr : w.heap.size + 2 ≤ wr.heap.size := (Array.getElem?_eq_some_iff.1 I.out.last).1
      obtain ⟨y0, y1, y2, y3⟩ := two_cells (at_old (o := .cells #[.int .i64 ps[m].at_, .int .i64 ps[m].val] 59) I.out.last)
      clear hcell c0 c1
      by_cases q : ps[m].at_ = at_
      · have q' : (ps[m].at_ == at_) = true := by simpa using q
        by_cases q2 : 0 < (lwR at_ most (ps.take m)).2
        · have E := hideIt (lwR_hit hlt q q2)
          have I1 := hideIt ((I.out.alloc (.cells #[.int .i64 ps[m].at_, .int .i64 ps[m].val] 59)).set ps[m])
          have I2 := hideIt ((I.out.set ps[m]).alloc (.cells #[.int .i64 ps[m].at_, .int .i64 ps[m].val] 59))
          generalize (lwR at_ most (ps.take m)).2 = mo at *
          clear q
          go_wp2
          go_roundw
          case rel =>
            refine ⟨m + 1, by omega, by go_num, ?_, ?_, ?_⟩
            · rw [E.out]
            · rw [E.out]; exact ⟨by show 0 ≤ mo - 1; omega, by show mo - 1 ≤ most; omega⟩
            · rw [E.out]
              first | exact I1 | exact I2
          case measure => simp [intOf]; omega
        · have E := hideIt (lwR_miss hlt (fun c => q2 c.2))
          have I1 := hideIt (I.out.alloc (.cells #[.int .i64 ps[m].at_, .int .i64 ps[m].val] 59))
          have e0 : (lwR at_ most (ps.take m)).2 = 0 := by omega
          have E0 := hideIt e0
          rw [e0]
          clear e0 q q2
          go_wp2
          go_roundw
          case rel =>
            refine ⟨m + 1, by omega, by go_num, ?_, ?_, ?_⟩
            · rw [E.out, E0.out]
            · rw [E.out]; exact ⟨hm0, hm1⟩
            · rw [E.out]; exact I1
          case measure => simp [intOf]; omega
      · have q' : (ps[m].at_ == at_) = false := by simpa using q
        have E := hideIt (lwR_miss (most := most) hlt (fun c => q c.1))
        have I1 := hideIt (I.out.alloc (.cells #[.int .i64 ps[m].at_, .int .i64 ps[m].val] 59))
        clear q
        go_wp2
        go_roundw
        case rel =>
          refine ⟨m + 1, by omega, by go_num, ?_, ?_, ?_⟩
          · rw [E.out]
          · rw [E.out]; exact ⟨hm0, hm1⟩
          · rw [E.out]; exact I1
        case measure => simp [intOf]; omega
    · have e : m = ps.length := by omega
      subst e
      rw [List.take_length] at I
      obtain ⟨y0, y1, y2, y3⟩ := two_cells I.out.last
      obtain ⟨t0, t1, t2, t3⟩ := two_cells I.out.res
      go_wp2
      refine bodyPost_ret (v := .agg #[.int .i64 (lwR at_ most ps).1.at_, .int .i64 (lwR at_ most ps).1.val]) (by simp [results, Tryd.results33, go_sem, t0, t1]) rfl ?_
      exact ⟨rfl, (I.out.below.setCell (by simp only; omega) _).setCell (by simp only; omega) _⟩
end Go.Proofs.YtbjcoeimcdodjaaDoor
