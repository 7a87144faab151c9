/- Several texts laid together: LastW, BlkReadI, DuC, DtF. -/
import Derived.Test.YtcilodgoognmnaaGreatDoorZAP
import Derived.Test.YtcilodgoognmnaaGreatDoorZAY
import Derived.Test.YtcilodgoognmnaaGreatDoorZAN
import Derived.Test.YtcilodgoognmnaaGreatDoorZAB
import Derived.Test.YtcilodgoognmnaaGreatDoorZAA
import Derived.Deep.RegionHeld3
import Derived.Test.YtcilodgoognmnaaGreatDoorZAS
namespace Go.Proofs.YtcilodgoognmnaaGreatDoor
open Go.RowKit
def NW (w : World) : Prop := ∃ t fr, w.heap[0]? = some (.cells #[.int .i64 (-1), .int .i64 0] t fr)
theorem NW.lt {w : World} (h : NW w) : 0 < w.heap.size := by
 obtain ⟨t, fr, h⟩ := h
 exact (Array.getElem?_eq_some_iff.1 h).1
theorem NW.later {w w' : World} {B : Nat} (h : NW w) (hB : 0 < B) (hb : Below B w w') : NW w' := by
 obtain ⟨t, fr, h⟩ := h
 exact ⟨t, fr, (hb.block 0 hB).trans h⟩
theorem NW.below {w w' : World} (h : NW w) (hb : Below w.heap.size w w') : NW w' := h.later h.lt hb
theorem NW.cells {w : World} (h : NW w) : w.cell? ⟨0, 0, none⟩ = some (.int .i64 (-1)) ∧ w.cell? ⟨0, 1, none⟩ = some (.int .i64 0) := by
 obtain ⟨t, fr, h⟩ := h
 simp [World.cell?, h]
def zkm (at_ : Int) (acc : Se × Int) (p : Se) : Se × Int := if p.at_ = at_ ∧ 0 < acc.2 then (p, acc.2 - 1) else acc
def lwR (at_ most : Int) (ps : List Se) : Se × Int := ps.foldl (zkm at_) (⟨-1, 0⟩, most)
def zuh (at_ most : Int) (ps : List Se) : Se := (lwR at_ most ps).1
theorem lwR_snoc (at_ most : Int) (ps : List Se) (p : Se) : lwR at_ most (ps ++ [p]) = zkm at_ (lwR at_ most ps) p := by simp [lwR]
theorem lwR_hit {at_ most : Int} {ps : List Se} {m : Nat} (hm : m < ps.length) (h : ps[m].at_ = at_) (h0 : 0 < (lwR at_ most (ps.take m)).2) : lwR at_ most (ps.take (m + 1)) = (ps[m], (lwR at_ most (ps.take m)).2 - 1) := by
 rw [zpj ps m hm, lwR_snoc]
 unfold zkm
 rw [if_pos ⟨h, h0⟩]
theorem lwR_miss {at_ most : Int} {ps : List Se} {m : Nat} (hm : m < ps.length) (h : ¬ (ps[m].at_ = at_ ∧ 0 < (lwR at_ most (ps.take m)).2)) : lwR at_ most (ps.take (m + 1)) = lwR at_ most (ps.take m) := by
 rw [zpj ps m hm, lwR_snoc]
 unfold zkm
 rw [if_neg h]
structure LwInv (w wr : World) (s : Se) : Prop where
 last : wr.heap[w.heap.size + 1]? = some (.cells #[.int .i64 s.at_, .int .i64 s.val] 200 (0, 0))
 res : wr.heap[w.heap.size]? = some (.cells #[.int .i64 0, .int .i64 0] 200 (0, 0))
 below : Below w.heap.size w wr
theorem LwInv.alloc {w wr : World} {s : Se} (h : LwInv w wr s) (o : Obj) : LwInv w (wr.alloc o) s :=
 ⟨zau h.last, zau h.res, h.below.alloc h.below.size o⟩
theorem LwInv.set {w wr : World} {s : Se} (h : LwInv w wr s) (p : Se) : LwInv w ((wr.setCell ⟨w.heap.size + 1, 0, none⟩ (.int .i64 p.at_)).setCell ⟨w.heap.size + 1, 1, none⟩ (.int .i64 p.val)) p :=
 ⟨two_set1 (ztk h.last _) _, by rw [Below.heap_setCell _ _ _ _ (by simp only; omega), Below.heap_setCell _ _ _ _ (by simp only; omega)]; exact h.res, (h.below.setCell (by simp only; omega) _).setCell (by simp only; omega) _⟩
set_option maxHeartbeats 4000000 in
theorem zta (v : Value) (ps : List Se) (at_ most : Int) (w : World) (h : RdE w v ps) (hG : NW w) (hp : ps.length ≤ 1048576) (h0 : 0 ≤ most) (h1 : most ≤ 400) :
  Calls Tryz.prog 166 #[v, .int .i64 at_, .int .i64 most] w fun e w' => e = .returned (.agg #[.int .i64 (zuh at_ most ps).at_, .int .i64 (zuh at_ most ps).val]) ∧ Below w.heap.size w w' := by
 obtain ⟨aP, cP, rfl, _, hcP⟩ := h.shape
 have HP := zaa hcP
 have hw0 := hG.lt
 have hb0 : Below w.heap.size w (w.alloc (.cells #[.int .i64 0, .int .i64 0] 200)) := (Below.refl _ _).alloc (Nat.le_refl _) _
 obtain ⟨g0, g1⟩ := (hG.below hb0).cells
 have INV : Hid (LwInv w ((w.alloc (.cells #[.int .i64 0, .int .i64 0] 200)).alloc (.cells #[.int .i64 (-1), .int .i64 0] 200)) (lwR at_ most (ps.take 0)).1) :=
  ⟨zah (by simp), zau (zah rfl), hb0.alloc (by simp) _⟩
 clear h hcP hb0
 go_enter Tryz.func166, Tryz.ntmps166
 go_wp2
 go_loopw [2, 9, 13] (fun mo _ i wr => ∃ m : Nat, m ≤ ps.length ∧ i = .int .i64 m ∧ mo = .int .i64 (lwR at_ most (ps.take m)).2 ∧ (0 ≤ (lwR at_ most (ps.take m)).2 ∧ (lwR at_ most (ps.take m)).2 ≤ most) ∧ Hid (LwInv w wr (lwR at_ most (ps.take m)).1)) (fun _ _ i _ => ps.length - (intOf i).toNat)
 case atStart => exact ⟨0, by omega, rfl, rfl, ⟨h0, Int.le_refl _⟩, INV⟩
 case round =>
  obtain ⟨m, hm, rfl, rfl, ⟨hm0, hm1⟩, I⟩ := hrel
  by_cases hlt : m < ps.length
  ·obtain ⟨b, o, rfl, hbl, hcell⟩ := HP.out (by omega)
   obtain ⟨c0, c1⟩ := hcell m hlt
   have d0 := (I.out.below.cell (p := ⟨b, o + m * 2, none⟩) hbl).trans c0
   have d1 := (I.out.below.cell (p := ⟨b, o + m * 2 + 1, none⟩) hbl).trans c1
   have hzr : w.heap.size + 2 ≤ wr.heap.size := (Array.getElem?_eq_some_iff.1 I.out.last).1
   obtain ⟨y0, y1, y2, y3⟩ := zac (zau (o := .cells #[.int .i64 ps[m].at_, .int .i64 ps[m].val] 200) I.out.last)
   clear hcell c0 c1
   by_cases q : ps[m].at_ = at_
   ·have q' : (ps[m].at_ == at_) = true := by simpa using q
    by_cases q2 : 0 < (lwR at_ most (ps.take m)).2
    ·have E := zaa (lwR_hit hlt q q2)
     have I1 := zaa ((I.out.alloc (.cells #[.int .i64 ps[m].at_, .int .i64 ps[m].val] 200)).set ps[m])
     have I2 := zaa ((I.out.set ps[m]).alloc (.cells #[.int .i64 ps[m].at_, .int .i64 ps[m].val] 200))
     generalize (lwR at_ most (ps.take m)).2 = mo at *
     clear q
     go_wp2
     go_roundw
     case rel =>
      refine ⟨m + 1, by omega, by go_num, ?_, ?_, ?_⟩
      ·rw [E.out]
      ·rw [E.out]; exact ⟨by show 0 ≤ mo - 1; omega, by show mo - 1 ≤ most; omega⟩
      ·rw [E.out]
       first | exact I1 | exact I2
     case measure => simp [intOf]; omega
    ·have E := zaa (lwR_miss hlt (fun c => q2 c.2))
     have I1 := zaa (I.out.alloc (.cells #[.int .i64 ps[m].at_, .int .i64 ps[m].val] 200))
     have e0 : (lwR at_ most (ps.take m)).2 = 0 := by omega
     have E0 := zaa e0
     rw [e0]
     clear e0 q q2
     go_wp2
     go_roundw
     case rel =>
      refine ⟨m + 1, by omega, by go_num, ?_, ?_, ?_⟩
      ·rw [E.out, E0.out]
      ·rw [E.out]; exact ⟨hm0, hm1⟩
      ·rw [E.out]; exact I1
     case measure => simp [intOf]; omega
   ·have q' : (ps[m].at_ == at_) = false := by simpa using q
    have E := zaa (lwR_miss (most := most) hlt (fun c => q c.1))
    have I1 := zaa (I.out.alloc (.cells #[.int .i64 ps[m].at_, .int .i64 ps[m].val] 200))
    clear q
    go_wp2
    go_roundw
    case rel =>
     refine ⟨m + 1, by omega, by go_num, ?_, ?_, ?_⟩
     ·rw [E.out]
     ·rw [E.out]; exact ⟨hm0, hm1⟩
     ·rw [E.out]; exact I1
    case measure => simp [intOf]; omega
  ·have e : m = ps.length := by omega
   subst e
   rw [List.take_length] at I
   obtain ⟨y0, y1, y2, y3⟩ := zac I.out.last
   obtain ⟨t0, t1, t2, t3⟩ := zac I.out.res
   go_wp2
   refine bodyPost_ret (v := .agg #[.int .i64 (lwR at_ most ps).1.at_, .int .i64 (lwR at_ most ps).1.val]) (by simp [results, Tryz.results166, go_sem, t0, t1]) rfl ?_
   exact ⟨rfl, (I.out.below.setCell (by simp only; omega) _).setCell (by simp only; omega) _⟩
end Go.Proofs.YtcilodgoognmnaaGreatDoor

namespace Go.Proofs.YtcilodgoognmnaaGreatDoor
open Go.RowKit
theorem zjr (at_ : Int) : ∀ (ps : List Se) (s : Se) (mo : Int), (ps.length : Int) ≤ mo → ((∀ p ∈ ps, ¬ p.at_ = at_) ∧ (ps.foldl (zkm at_) (s, mo)).1 = s) ∨ ((ps.foldl (zkm at_) (s, mo)).1.at_ = at_ ∧ ∀ d, zfz at_ d ps = (ps.foldl (zkm at_) (s, mo)).1.val)
 | [], s, mo, _ => .inl ⟨by simp, rfl⟩
 | p :: ps, s, mo, h => by
  have h' : (ps.length : Int) + 1 ≤ mo := by simpa using h
  by_cases c : p.at_ = at_
  ·have e : zkm at_ (s, mo) p = (p, mo - 1) := if_pos ⟨c, by show 0 < mo; omega⟩
   rw [List.foldl_cons, e]
   rcases zjr at_ ps p (mo - 1) (by omega) with ⟨h1, h2⟩ | ⟨h1, h2⟩
   ·right
    rw [h2]
    refine ⟨c, fun d => ?_⟩
    show zfz at_ (if p.at_ = at_ then p.val else d) ps = p.val
    rw [if_pos c]
    exact zfs h1
   ·exact .inr ⟨h1, fun d => h2 _⟩
  ·have e : zkm at_ (s, mo) p = (s, mo) := if_neg (fun x => c x.1)
   rw [List.foldl_cons, e]
   rcases zjr at_ ps s mo (by omega) with ⟨h1, h2⟩ | ⟨h1, h2⟩
   ·left
    refine ⟨fun q hq => ?_, h2⟩
    rcases List.mem_cons.1 hq with rfl | hq
    ·exact c
    ·exact h1 q hq
   ·exact .inr ⟨h1, fun d => h2 _⟩
theorem lastM_full {at_ : Int} {ps : List Se} (h : ps.length ≤ 400) : ((∀ p ∈ ps, ¬ p.at_ = at_) ∧ zuh at_ 400 ps = ⟨-1, 0⟩) ∨ ((zuh at_ 400 ps).at_ = at_ ∧ ∀ d, zfz at_ d ps = (zuh at_ 400 ps).val) :=
 zjr at_ ps ⟨-1, 0⟩ 400 (by omega)
set_option maxHeartbeats 4000000 in
theorem znv (v : Value) (ws : List Int) (ps : List Se) (at_ : Int) (w : World) (h : RdBlk w v ws ps) (hG : NW w) (hw : ws.length ≤ 1048576) (hp : ps.length ≤ 1048576) :
  Calls Tryz.prog 102 #[v, .int .i64 at_] w fun e w' => e = .returned (.tuple #[.int .i64 (readV ws ps at_), .int .i64 (ztw ws ps at_)]) ∧ Below w.heap.size w w' := by
 have HR := zaa h
 obtain ⟨vW, vP, rfl, h1, h2⟩ := h
 have H2 := zaa h2
 obtain ⟨aW, cW, rfl, _, hcW⟩ := h1.shape
 obtain ⟨aP, cP, rfl, _⟩ := h2.shape
 clear h1 h2
 have hb0 : Below w.heap.size w (w.alloc (.cells #[.slice aW ws.length cW, .slice aP ps.length cP] 39)) := (Below.refl _ _).alloc (Nat.le_refl _) _
 rcases askE_cases ws ps at_ with hc | ⟨hc, hok, k, rfl, hk, hkl⟩
 ·have hne : (ztw ws ps at_ != 0) = true := by rcases hc with hc | hc <;> simp [hc]
  have E := zaa (readV_not (ws := ws) (ps := ps) (at_ := at_) (by rcases hc with hc | hc <;> simp [hc]))
  clear hc hcW
  go_enter Tryz.func102, Tryz.ntmps102
  go_wp2_with (go_at_call 165; refine (zhl _ ws ps _ _ (HR.out.below hb0) hw hp).mono ?_; rintro e w1 ⟨rfl, hb1⟩)
  go_ret2
  exact ⟨zbt E.out.symm rfl, zab hb0 hb1 (by simp)⟩
 ·have E := zaa (readV_ok hc hkl)
  have C := zaa hc
  obtain ⟨bW, oW, rfl, hbW, hcellW⟩ := hcW (by omega)
  have hcw := zaa (hcellW k hkl)
  have LF := zaa (lastM_full (at_ := (k : Int)) (ps := ps) (znd hok).2)
  clear hc hcW hcellW
  go_enter Tryz.func102, Tryz.ntmps102
  go_wp2_with fail
  refine (zhl _ ws ps _ _ (HR.out.below hb0) hw hp).mono ?_
  rw [C.out]
  rintro e w1 ⟨rfl, hb1⟩
  have V1 := (hb1.block w.heap.size (by simp)).trans (zah rfl)
  obtain ⟨x1, x2, _, _⟩ := zac V1
  have B1 := zaa (zab hb0 hb1 (by simp))
  have hz1 : w.heap.size + 1 ≤ w1.heap.size := by have := hb1.size; simp at this; omega
  have VH := zaa V1
  have G1 := zaa (hG.below B1.out)
  clear V1 hb1 hb0
  go_wp2_with fail
  refine (zta _ ps _ _ _ (Rd.below H2.out B1.out) G1.out hp (by omega) (by omega)).mono ?_
  rcases LF.out with ⟨hn, hl⟩ | ⟨ha, hl⟩
  ·rw [hl]
   rintro e w2 ⟨rfl, hb2⟩
   have hz2 := hb2.size
   have B2 := zaa (zab B1.out hb2 (by omega))
   have hb3 := zab B1.out hb2 (by omega) |>.alloc (by omega) (.cells #[.int .i64 (-1), .int .i64 0] 200)
   obtain ⟨g0, g1⟩ := ((G1.out.below hb2).below ((Below.refl _ _).alloc (Nat.le_refl _) (.cells #[.int .i64 (-1), .int .i64 0] 200))).cells
   obtain ⟨x1', x2', _, _⟩ := zac (zau (o := .cells #[.int .i64 (-1), .int .i64 0] 200) ((hb2.block w.heap.size (by omega)).trans VH.out))
   have hcw1 := (hb3.cell (p := ⟨bW, oW + k, none⟩) hbW).trans hcw.out
   have B3 := zaa hb3
   have E2 := zaa (zfs (d := ws[k]) hn)
   clear hb2 hb3 hn hl x1 x2
   go_wp2
   go_ret2
   exact ⟨zbt (E.out.trans E2.out).symm C.out.symm, B3.out⟩
  ·rw [ha]
   rintro e w2 ⟨rfl, hb2⟩
   have hz2 := hb2.size
   have hb3 := zab B1.out hb2 (by omega) |>.alloc (by omega) (.cells #[.int .i64 (k : Int), .int .i64 (zuh (k : Int) 400 ps).val] 200)
   obtain ⟨g0, g1⟩ := ((G1.out.below hb2).below ((Below.refl _ _).alloc (Nat.le_refl _) (.cells #[.int .i64 (k : Int), .int .i64 (zuh (k : Int) 400 ps).val] 200))).cells
   have B3 := zaa hb3
   have E2 := zaa (hl ws[k])
   have kn : ((k : Int) == -1) = false := by first | (simp; done) | (simp; omega)
   clear hb2 hb3 ha hl x1 x2
   generalize (zuh (k : Int) 400 ps).val = y at *
   go_wp2
   go_ret2
   exact ⟨zbt (E.out.trans E2.out).symm C.out.symm, B3.out⟩
end Go.Proofs.YtcilodgoognmnaaGreatDoor

namespace Go.Proofs.YtcilodgoognmnaaGreatDoor
open Go.RowKit
theorem zwd {ws : List Int} {ps : List St} (h : pmB ws ps = true) {k : Nat} (hk : k < 24) : loadV ws ps (312 + (k : Int)) = ldW ws ps (312 + k) ∧ zty ws ps (312 + (k : Int)) = 0 := by
 have p : zbp (312 + (k : Int)) = true := decide_eq_true (by omega)
 have a : zty ws ps (312 + (k : Int)) = 0 := by unfold zty; rw [h, p]; rfl
 refine ⟨?_, a⟩
 unfold loadV ldW
 rw [if_pos a, show (312 + (k : Int)).toNat = 312 + k by omega, show ((312 + k : Nat) : Int) = 312 + (k : Int) by omega]
theorem zur {es : List Int} {qs : List Se} (h : zin es qs = true) {k : Nat} (hk : k < 32) : readV es qs (k : Int) = zfz (k : Int) (es[k]?.getD 0) qs ∧ ztw es qs (k : Int) = 0 := by
 have p : zmo (k : Int) = true := decide_eq_true (by omega)
 have a : ztw es qs (k : Int) = 0 := by unfold ztw; rw [h, p]; rfl
 refine ⟨?_, a⟩
 unfold readV
 rw [if_pos a, Int.toNat_natCast]
set_option maxRecDepth 100000 in
set_option maxHeartbeats 4000000 in
theorem wordOfE_any (v : Value) (ws : List Int) (ps : List St) (es : List Int) (qs : List Se) (e : Int) (w : World) (h : RdDev w v ws ps es qs) (hP : pmB ws ps = true) (hB : zin es qs = true) (te : zgf e = true) (hT : TS w) (hN : NW w) :
  Calls Tryz.prog 49 #[v, .int .i64 e] w fun r w' => r = .returned (.int .i64 (pgV ws ps es qs e)) ∧ Below w.heap.size w w' := by
 obtain ⟨aW, cW, aP, cP, aS, cS, aQ, cQ, rfl, h1, h2⟩ := h.form
 have te' : 0 ≤ e ∧ ((e % 4 = 0 ∧ e / 4 = 0) ∨ (e % 4 = 1 ∧ 0 ≤ e / 4 ∧ e / 4 < 24) ∨ (e % 4 = 2 ∧ 0 ≤ e / 4 ∧ e / 4 < 32)) := by
  unfold zgf zez at te
  rw [Bool.and_eq_true, decide_eq_true_eq, decide_eq_true_eq] at te
  exact te
 have wl := zly hP
 have el := znd hB
 have BW : Hid (Below w.heap.size w (w.alloc (.cells #[.slice aW ws.length cW, .slice aP ps.length cP, .slice aS es.length cS, .slice aQ qs.length cQ] 41))) := (Below.refl _ _).alloc (Nat.le_refl _) _
 have LT : Hid (∀ w1, Below w.heap.size w w1 → Calls Tryz.prog 100 #[.int .i64 e] w1 fun r w' => r = .returned (.tuple #[.int .i64 (e % 4), .int .i64 (e / 4), .int .i64 0]) ∧ w' = w1) := fun w1 hb => by
  have q := zdt e w1 (hT.below hb) (by omega) (by omega)
  rw [(zrl te).1, (zrl te).2.1, (zrl te).2.2] at q
  exact q
 have EV := zaa (show pgV ws ps es qs e = if e % 4 = 1 then ldW ws ps (312 + e / 4).toNat else if e % 4 = 2 then zfz (e / 4) (es[(e / 4).toNat]?.getD 0) qs else 0 from rfl)
 have L1 : Hid (∀ (k : Nat), k < 24 → ∀ w1, Below w.heap.size w w1 → Calls Tryz.prog 101 #[.agg #[.slice aW ws.length cW, .slice aP ps.length cP], .int .i64 (312 + (k : Int))] w1 fun r w' => r = .returned (.tuple #[.int .i64 (ldW ws ps (312 + k)), .int .i64 0]) ∧ Below w1.heap.size w1 w') := fun k hk w1 hb => by
  have := zqo _ ws ps (312 + (k : Int)) w1 (h1.below hb) (by omega) (by omega)
  rw [(zwd hP hk).1, (zwd hP hk).2] at this
  exact this
 have L2 : Hid (∀ (k : Nat), k < 32 → ∀ w1, Below w.heap.size w w1 → Calls Tryz.prog 102 #[.agg #[.slice aS es.length cS, .slice aQ qs.length cQ], .int .i64 (k : Int)] w1 fun r w' => r = .returned (.tuple #[.int .i64 (zfz (k : Int) (es[k]?.getD 0) qs), .int .i64 0]) ∧ Below w1.heap.size w1 w') := fun k hk w1 hb => by
  have := znv _ es qs (k : Int) w1 (h2.below hb) (hN.below hb) (by omega) (by omega)
  rw [(zur hB hk).1, (zur hB hk).2] at this
  exact this
 clear h h1 h2 te hP hB wl el hT hN
 generalize pgV ws ps es qs e = r at *
 generalize e % 4 = t at *
 generalize e / 4 = a at *
 rcases te'.2 with ⟨rfl, rfl⟩ | ⟨rfl, a0, a1⟩ | ⟨rfl, a0, a1⟩
 ·rw [if_neg (by omega), if_neg (by omega)] at EV
  obtain rfl := EV.out
  clear te' L1 L2 EV
  go_enter Tryz.func49, Tryz.ntmps49
  go_wp2_with fail
  refine (LT.out _ BW.out).mono ?_
  rintro r w1 ⟨rfl, hw1⟩
  subst w1
  go_wp2
  go_ret
  exact ⟨rfl, BW.out⟩
 ·obtain ⟨k, rfl⟩ : ∃ k : Nat, a = (k : Int) := ⟨a.toNat, by omega⟩
  rw [if_pos rfl, show (312 + (k : Int)).toNat = 312 + k by omega] at EV
  obtain rfl := EV.out
  have k24 : k < 24 := by omega
  have Q := zaa (L1.out k k24)
  clear te' L1 L2 EV a0 a1
  go_enter Tryz.func49, Tryz.ntmps49
  go_wp2_with fail
  refine (LT.out _ BW.out).mono ?_
  rintro r w1 ⟨rfl, hw1⟩
  subst w1
  go_wp2_with fail
  refine (Q.out _ BW.out).mono ?_
  rintro r w2 ⟨rfl, hb2⟩
  have B2 := zaa (zab BW.out hb2 BW.out.size)
  clear hb2
  go_wp2
  go_ret
  exact ⟨rfl, B2.out⟩
 ·obtain ⟨k, rfl⟩ : ∃ k : Nat, a = (k : Int) := ⟨a.toNat, by omega⟩
  rw [if_neg (by omega), if_pos rfl, Int.toNat_natCast] at EV
  obtain rfl := EV.out
  have k32 : k < 32 := by omega
  have Q := zaa (L2.out k k32)
  clear te' L1 L2 EV a0 a1
  go_enter Tryz.func49, Tryz.ntmps49
  go_wp2_with fail
  refine (LT.out _ BW.out).mono ?_
  rintro r w1 ⟨rfl, hw1⟩
  subst w1
  go_wp2_with fail
  refine (Q.out _ BW.out).mono ?_
  rintro r w2 ⟨rfl, hb2⟩
  have B2 := zaa (zab BW.out hb2 BW.out.size)
  clear hb2
  go_wp2
  go_ret
  exact ⟨rfl, B2.out⟩
theorem rp_form {ws : List Int} {ps : List St} {es : List Int} {qs : List Se} {s : ByteArray} {page : Int} : rpR ws ps es qs s page = if (flR (dvN ws ps es qs) (dvD ws ps es qs) s).2 = 0 then rpF ws ps es qs (dvN ws ps es qs) (flR (dvN ws ps es qs) (dvD ws ps es qs) s).1 page else (0, (flR (dvN ws ps es qs) (dvD ws ps es qs) s).2) := by
 unfold rpR flR
 rw [zmd]
 by_cases c : 65536 < s.size
 ·rw [if_pos c, if_pos c]
  rfl
 ·rw [if_neg c, if_neg c]
  by_cases d : dvB ws ps es qs = true
  ·rw [if_pos d, if_pos d, ← (zdi d).2.2.1, ← (zdi d).2.2.2.1]
   rfl
  ·rw [if_neg d, if_neg d]
   rfl
theorem dv_fl {ws : List Int} {ps : List St} {es : List Int} {qs : List Se} {s : ByteArray} (h : (flR (dvN ws ps es qs) (dvD ws ps es qs) s).2 = 0) : pmB ws ps = true ∧ zin es qs = true ∧ zax (dvN ws ps es qs) (dvD ws ps es qs) = true ∧ ∃ i : Nat, i < 16 ∧ (flR (dvN ws ps es qs) (dvD ws ps es qs) s).1 = (i : Int) := by
 obtain ⟨hi, -, e⟩ := fl_right h
 have d : dvB ws ps es qs = true := by rw [← zmd]; exact hi
 rw [e] at h ⊢
 obtain ⟨i, h16, ei, -⟩ := zlg (zca.1 hi) h
 exact ⟨(zdi d).1, (zdi d).2.1, hi, i, h16, ei⟩
def Ino.fa (x : Ino) (i : Int) : List Value := [.int .i64 x.kind, .int .i64 x.size, .int .i64 x.links, .int .i64 x.m0, .int .i64 x.m1, .int .i64 x.m2, .int .i64 x.m3, .int .i64 x.m4, .int .i64 x.m5, .int .i64 x.m6, .int .i64 x.m7, .int .i64 i]
theorem Ino.faM (x : Ino) (i : Int) (m : Nat) (hm : m < 8) : (x.fa i)[3 + m]? = some (.int .i64 (x.map.getD m 0)) := by
 rcases (show m = 0 ∨ m = 1 ∨ m = 2 ∨ m = 3 ∨ m = 4 ∨ m = 5 ∨ m = 6 ∨ m = 7 by omega) with rfl | rfl | rfl | rfl | rfl | rfl | rfl | rfl <;> rfl
set_option maxRecDepth 100000 in
set_option maxHeartbeats 8000000 in
theorem zmr (v : Value) (ws : List Int) (ps : List St) (es : List Int) (qs : List Se) (s : ByteArray) (page : Int) (w : World) (h : RdDev w v ws ps es qs) (hw : ws.length ≤ 1048576) (hp : ps.length ≤ 1048576) (he : es.length ≤ 1048576) (hq : qs.length ≤ 1048576) (hT : TS w) (hE : ED w) (hF : FD w) (hN : NW w) :
  Calls Tryz.prog 11 #[v, .string s, .int .i64 page] w fun e w' => e = .returned (.tuple #[.int .i64 (rpR ws ps es qs s page).1, .int .i64 (rpR ws ps es qs s page).2]) ∧ Below w.heap.size w w' := by
 have LI := zaa (fun w1 (hb : Below w.heap.size w w1) => zgr v ws ps es qs w1 (h.below hb) hw hp he hq (hT.below hb) (hE.below hb) (hF.below hb))
 have LF := zaa (fun v2 w1 (hb : Below w.heap.size w w1) h2 => zhd v2 (dvN ws ps es qs) (dvD ws ps es qs) s w1 h2 (zet ws ps es qs).1 (zet ws ps es qs).2 (hT.below hb) (hE.below hb) (hF.below hb) dv_R zjk)
 have LV := zaa (fun hP hB w1 (hb : Below w.heap.size w w1) z (hz : zgf z = true) => wordOfE_any v ws ps es qs z w1 (h.below hb) hP hB hz (hT.below hb) (hN.below hb))
 have EL := zaa (rp_form (ws := ws) (ps := ps) (es := es) (qs := qs) (s := s) (page := page))
 have FL := zaa (fun h => dv_fl (ws := ws) (ps := ps) (es := es) (qs := qs) (s := s) h)
 have EF : Hid (∀ i : Nat, ∀ x, x = zcf (dvN ws ps es qs) i → rpF ws ps es qs (dvN ws ps es qs) (i : Int) page = if 0 ≤ page ∧ page < x.size then (pgV ws ps es qs (x.map.getD page.toNat 0), 0) else (0, 4)) := fun i x e => by rw [e]; rfl
 have OK : Hid (zax (dvN ws ps es qs) (dvD ws ps es qs) = true → ∀ i : Nat, i < 16 → ∀ x, x = zcf (dvN ws ps es qs) i → (0 ≤ x.size ∧ x.size ≤ 8) ∧ ∀ j : Nat, j < 8 → zgf (x.map.getD j 0) = true) := fun hi i h16 x e => by
  have q := (zca.1 hi).ok i h16
  rw [← e] at q
  refine ⟨(zga q).2.1, fun j hj => (zie q).1 _ ?_⟩
  rw [List.getD_eq_getElem?_getD, List.getElem?_eq_getElem (show j < x.map.length from hj)]
  exact List.getElem_mem _
 obtain ⟨dW, eW, dP, eP, dS, eS, dQ, eQ, rfl, -, -⟩ := h.form
 clear h hT hE hF hN
 obtain ⟨W, hW⟩ : ∃ W, W = w.alloc (.cells #[.slice dW ws.length eW, .slice dP ps.length eP, .slice dS es.length eS, .slice dQ qs.length eQ] 41) := ⟨_, rfl⟩
 have CD : Hid (∀ w', Below W.heap.size W w' → w'.cell? ⟨w.heap.size, 0, none⟩ = some (.slice dW ws.length eW) ∧ w'.cell? ⟨w.heap.size, 1, none⟩ = some (.slice dP ps.length eP) ∧ w'.cell? ⟨w.heap.size, 2, none⟩ = some (.slice dS es.length eS) ∧ w'.cell? ⟨w.heap.size, 3, none⟩ = some (.slice dQ qs.length eQ)) := fun w' hb => by
  have : w'.heap[w.heap.size]? = some (.cells #[.slice dW ws.length eW, .slice dP ps.length eP, .slice dS es.length eS, .slice dQ qs.length eQ] 41 (0, 0)) := (hb.block _ (by rw [hW]; simp)).trans (by rw [hW]; exact zah rfl)
  obtain ⟨x0, x1, x2, x3, -, -, -, -⟩ := zaw this
  exact ⟨x0, x1, x2, x3⟩
 have BW : Hid (Below w.heap.size w W) := by rw [hW]; exact (Below.refl _ _).alloc (Nat.le_refl _) _
 obtain ⟨x0, x1, x2, x3⟩ := CD.out _ (Below.refl _ _)
 generalize dvN ws ps es qs = dn at *
 generalize dvD ws ps es qs = dd at *
 generalize rpR ws ps es qs s page = res at *
 generalize hfl : flR dn dd s = lr at *
 obtain ⟨li, lc⟩ := lr
 obtain ⟨x, hx⟩ : ∃ x, x = faI dn (li, lc) := ⟨_, rfl⟩
 have LF2 := zaa (fun v2 w1 hb h2 => LF.out v2 w1 hb h2 x hx)
 have HX := zaa hx
 simp only at EL FL LF2
 clear LF hfl hx
 go_enter Tryz.func11, Tryz.ntmps11
 go_wp2_with fail
 rw [← hW]
 clear hW
 refine (LI.out _ BW.out).mono ?_
 rintro e w1 ⟨v1, rfl, hR, hb1⟩
 have A1 := zaa hb1
 have B1 := zaa (zab BW.out hb1 BW.out.size)
 have R1 := zaa hR.rd
 clear hR hb1 x0 x1 x2 x3 LI
 go_wp2_with fail
 refine (LF2.out _ _ B1.out R1.out).mono ?_
 rintro e w2 ⟨rfl, hb2⟩
 have A2 := zaa (zfm A1.out hb2)
 have B2 := zaa (zab B1.out hb2 B1.out.size)
 clear hb2 A1 B1 R1 LF2
 have BX := zaa (B2.out.alloc B2.out.size (.cells #[.int .i64 x.kind, .int .i64 x.size, .int .i64 x.links, .int .i64 x.m0, .int .i64 x.m1, .int .i64 x.m2, .int .i64 x.m3, .int .i64 x.m4, .int .i64 x.m5, .int .i64 x.m6, .int .i64 x.m7, .int .i64 li] 99))
 by_cases c : lc = 0
 case neg =>
  rw [if_neg c] at EL
  obtain rfl := EL.out
  have q : (lc != 0) = true := by rw [bne_iff_ne]; exact c
  clear EL c FL OK EF LV HX
  go_wp2
  go_ret2
  exact ⟨rfl, BX.out⟩
 subst c
 rw [if_pos rfl] at EL
 obtain ⟨hP, hB, hi, i, i16, ei⟩ := FL.out rfl
 have LV2 := zaa (LV.out hP hB)
 subst ei
 have hx : x = zcf dn i := HX.out.trans ((if_pos rfl).trans (by simp only [Int.toNat_natCast]))
 obtain ⟨⟨z0, z8⟩, ti⟩ := OK.out hi i i16 x hx
 have TI := zaa ti
 rw [EF.out i x hx] at EL
 clear FL OK EF LV HX hP hB hi ti hx
 have VX : Hid ((w2.alloc (.cells #[.int .i64 x.kind, .int .i64 x.size, .int .i64 x.links, .int .i64 x.m0, .int .i64 x.m1, .int .i64 x.m2, .int .i64 x.m3, .int .i64 x.m4, .int .i64 x.m5, .int .i64 x.m6, .int .i64 x.m7, .int .i64 (i : Int)] 99)).heap[w2.heap.size]? = some (.cells (x.fa (i : Int)).toArray 99 (0, 0))) := zah rfl
 have AX := zaa (A2.out.alloc A2.out.size (.cells #[.int .i64 x.kind, .int .i64 x.size, .int .i64 x.links, .int .i64 x.m0, .int .i64 x.m1, .int .i64 x.m2, .int .i64 x.m3, .int .i64 x.m4, .int .i64 x.m5, .int .i64 x.m6, .int .i64 x.m7, .int .i64 (i : Int)] 99))
 obtain ⟨w3, hw3⟩ : ∃ w3, w3 = w2.alloc (.cells #[.int .i64 x.kind, .int .i64 x.size, .int .i64 x.links, .int .i64 x.m0, .int .i64 x.m1, .int .i64 x.m2, .int .i64 x.m3, .int .i64 x.m4, .int .i64 x.m5, .int .i64 x.m6, .int .i64 x.m7, .int .i64 (i : Int)] 99) := ⟨_, rfl⟩
 rw [← hw3] at VX AX BX
 have hz3 : w2.heap.size < w3.heap.size := (Array.getElem?_eq_some_iff.1 VX.out).1
 have KS : Hid (∀ w', Below w3.heap.size w3 w' → w'.cell? ⟨w2.heap.size, 1, none⟩ = some (.int .i64 x.size)) := fun w' hb => (hb.cell (p := ⟨w2.heap.size, 1, none⟩) hz3).trans (zae VX.out 1).1
 have KM : Hid (∀ w', Below w3.heap.size w3 w' → ∀ m, m < 8 → w'.cell? ⟨w2.heap.size, 3 + m, none⟩ = some (.int .i64 (x.map.getD m 0))) := fun w' hb m hm => ((hb.cell (p := ⟨w2.heap.size, 3 + m, none⟩) hz3).trans (zae VX.out (3 + m)).1).trans (x.faM _ m hm)
 have y1 := KS.out _ (Below.refl _ _)
 clear VX A2 B2
 by_cases c : 0 ≤ page ∧ page < x.size
 case neg =>
  rw [if_neg c] at EL
  obtain rfl := EL.out
  clear EL
  generalize x.size = sz at *
  go_wp2_with fail
  rw [← hw3]
  refine (zbj _ _ _ c).mono ?_
  rintro e w' ⟨rfl, hw'⟩
  subst w'
  clear hw3
  go_wp2
  go_ret2
  exact ⟨rfl, BX.out⟩
 rw [if_pos c] at EL
 obtain ⟨j, rfl⟩ : ∃ j : Nat, page = (j : Int) := ⟨page.toNat, by omega⟩
 rw [Int.toNat_natCast] at EL
 have j8 : j < 8 := by omega
 have te := zaa (TI.out j j8)
 have LV3 := zaa (fun w1 hb => LV2.out w1 hb _ te.out)
 have j0 : (0 : Int) ≤ (j : Int) := by omega
 have j1 : (j : Int) < 8 := by omega
 have KE : Hid (∀ w', Below w3.heap.size w3 w' → w'.cell? ⟨w.heap.size, 0, none⟩ = some (.slice dW ws.length eW) ∧ w'.cell? ⟨w.heap.size, 1, none⟩ = some (.slice dP ps.length eP) ∧ w'.cell? ⟨w.heap.size, 2, none⟩ = some (.slice dS es.length eS) ∧ w'.cell? ⟨w.heap.size, 3, none⟩ = some (.slice dQ qs.length eQ) ∧ w'.cell? ⟨w2.heap.size, 3 + j, none⟩ = some (.int .i64 (x.map.getD j 0))) := fun w' hb => by
  obtain ⟨a0, a1, a2, a3⟩ := CD.out w' (zfm AX.out hb)
  exact ⟨a0, a1, a2, a3, KM.out w' hb j j8⟩
 generalize x.map.getD j 0 = pz at *
 go_wp2_with fail
 rw [← hw3]
 refine (zaq _ _ _ c).mono ?_
 rintro e w' ⟨rfl, hw'⟩
 subst w'
 clear hw3 c y1 KS KM TI te LV2 CD
 have B3r := zaa (Below.refl w3.heap.size w3)
 obtain ⟨r0, r1, r2, r3, r4⟩ := KE.out _ B3r.out
 go_wp2_with fail
 go_region_held3 (fun w' => w'.cell? ⟨w.heap.size, 0, none⟩ = some (.slice dW ws.length eW) ∧ w'.cell? ⟨w.heap.size, 1, none⟩ = some (.slice dP ps.length eP) ∧ w'.cell? ⟨w.heap.size, 2, none⟩ = some (.slice dS es.length eS) ∧ w'.cell? ⟨w.heap.size, 3, none⟩ = some (.slice dQ qs.length eQ) ∧ w'.cell? ⟨w2.heap.size, 3 + j, none⟩ = some (.int .i64 pz))
  (first | with_reducible exact KE.out _ A4.out | with_reducible exact KE.out _ B3r.out | with_reducible exact KE.out _ B3r.out.drew)
  (first
   | (go_at_call 49; refine (LV3.out _ (by first | with_reducible exact BX.out | with_reducible exact BX.out.drew)).mono ?_; rintro e w4 ⟨rfl, hb4⟩; have A4 := zaa (zcs hb4); clear hb4; obtain ⟨t0, t1, t2, t3, t4⟩ := KE.out _ A4.out))
 all_goals
  have B4 := zaa (zab BX.out A4.out BX.out.size)
  obtain rfl := EL.out
  go_wp2
  go_ret2
  exact ⟨rfl, B4.out⟩
end Go.Proofs.YtcilodgoognmnaaGreatDoor

namespace Go.Proofs.YtcilodgoognmnaaGreatDoor
open Go.RowKit
set_option maxRecDepth 100000 in
set_option maxHeartbeats 8000000 in
theorem l08Cut_any (v : Value) (ns : List Ino) (ds : List Den) (s : ByteArray) (size : Int) (w : World) (h : RdIm w v ns ds) (hi : zax ns ds = true) (hs : s.size ≤ 65536) :
  Calls Tryz.prog 65 #[v, .string s, .int .i64 size] w fun e w' => zer w w' e (cuI ns ds s size) := by
 have LL := zaa (fun w1 (hb : Below w.heap.size w w1) => zjh v ns ds s w1 (h.below hb) hi hs)
 have EL := zaa (show cuI ns ds s size = if (flI ns ds s).2 = 0 then cuF ns (flI ns ds s).1 size else ([], (flI ns ds s).2) from rfl)
 have LO := zaa (fun c => zlg (s := s) (zca.1 hi) c)
 obtain ⟨l16, l24, _⟩ := zao hi
 have L16 := zaa l16
 obtain ⟨vW, vP, rfl, h1, h2⟩ := h
 obtain ⟨aW, cW, rfl, _, hcW⟩ := h1.shape
 obtain ⟨aP, cP, rfl, _, hcP⟩ := h2.shape
 obtain ⟨bW, oW, rfl, hblW, hcellW⟩ := hcW (by omega)
 have HM : Hid (∀ k, k < 16 → ∀ w', Below w.heap.size w w' → ∀ j, j < 8 → w'.cell? ⟨bW, oW + k * 11 + 3 + j, none⟩ = some (.int .i64 ((zcf ns k).map.getD j 0))) := fun k hk w' hb j hj => by
  rw [zcn (by omega : k < ns.length)]
  obtain ⟨a0, a1, a2, a3, a4, a5, a6, a7, a8, a9, a10⟩ := hcellW k (by omega)
  rcases (show j = 0 ∨ j = 1 ∨ j = 2 ∨ j = 3 ∨ j = 4 ∨ j = 5 ∨ j = 6 ∨ j = 7 by omega) with rfl | rfl | rfl | rfl | rfl | rfl | rfl | rfl
  ·exact (hb.cell (p := ⟨bW, oW + k * 11 + 3, none⟩) hblW).trans a3
  ·exact (hb.cell (p := ⟨bW, oW + k * 11 + 4, none⟩) hblW).trans a4
  ·exact (hb.cell (p := ⟨bW, oW + k * 11 + 5, none⟩) hblW).trans a5
  ·exact (hb.cell (p := ⟨bW, oW + k * 11 + 6, none⟩) hblW).trans a6
  ·exact (hb.cell (p := ⟨bW, oW + k * 11 + 7, none⟩) hblW).trans a7
  ·exact (hb.cell (p := ⟨bW, oW + k * 11 + 8, none⟩) hblW).trans a8
  ·exact (hb.cell (p := ⟨bW, oW + k * 11 + 9, none⟩) hblW).trans a9
  ·exact (hb.cell (p := ⟨bW, oW + k * 11 + 10, none⟩) hblW).trans a10
 clear h1 h2 hi hs hcW hcP hcellW l16 l24
 obtain ⟨W, hW⟩ : ∃ W, W = w.alloc (.cells #[.slice (some ⟨bW, oW, none⟩) ns.length cW, .slice aP ds.length cP] 63) := ⟨_, rfl⟩
 have CA : Hid (∀ w', Below W.heap.size W w' → w'.cell? ⟨w.heap.size, 0, none⟩ = some (.slice (some ⟨bW, oW, none⟩) ns.length cW) ∧ w'.cell? ⟨w.heap.size, 1, none⟩ = some (.slice aP ds.length cP)) := fun w' hb => by
  have : w'.heap[w.heap.size]? = some (.cells #[.slice (some ⟨bW, oW, none⟩) ns.length cW, .slice aP ds.length cP] 63 (0, 0)) := (hb.block _ (by rw [hW]; simp)).trans (by rw [hW]; exact zah rfl)
  exact ⟨(zac this).1, (zac this).2.1⟩
 have BW : Hid (Below w.heap.size w W) := by rw [hW]; exact (Below.refl _ _).alloc (Nat.le_refl _) _
 obtain ⟨x0, x1⟩ := CA.out _ (Below.refl _ _)
 have hz : w.heap.size < W.heap.size := by rw [hW]; simp
 generalize cuI ns ds s size = res at *
 generalize flI ns ds s = lr at *
 obtain ⟨li, lc⟩ := lr
 simp only at EL LO LL
 go_enter Tryz.func65, Tryz.ntmps65
 go_wp2_with fail
 rw [← hW]
 clear hW x0 x1
 refine (LL.out _ BW.out).mono ?_
 rintro e w1 ⟨rfl, hb1⟩
 have A1 := zaa hb1
 have B1 := zaa (zab BW.out A1.out BW.out.size)
 clear hb1 LL
 by_cases c : lc = 0
 case neg =>
  rw [if_neg c] at EL
  obtain rfl := EL.out
  have q : (lc != 0) = true := by rw [bne_iff_ne]; exact c
  clear EL LO c
  go_wp2
  go_ret2
  exact zci B1.out
 subst c
 rw [if_pos rfl] at EL
 obtain ⟨i, i16, ei, -⟩ := LO.out rfl
 subst ei
 have EC := zaa (show cuF ns (i : Int) size = if 0 ≤ size ∧ size ≤ 8 then (cuU (zcf ns i).map (i : Int) size.toNat 8, 0) else ([], 4) from rfl)
 rw [EC.out] at EL
 have HMi := zaa (HM.out i i16)
 have i1 : i < ns.length := by have := L16.out; omega
 have i0 : (0 : Int) ≤ (i : Int) := by omega
 have il : (i : Int) < (ns.length : Int) := by omega
 have ir : 0 ≤ (i : Int) ∧ (i : Int) < 16 := by omega
 clear HM EC LO L16
 by_cases c : 0 ≤ size ∧ size ≤ 8
 case neg =>
  rw [if_neg c] at EL
  obtain rfl := EL.out
  clear EL
  go_wp2_with fail
  refine (zce _ _ _ _ c).mono ?_
  rintro e w' ⟨rfl, hw'⟩
  subst w'
  go_wp2
  go_ret2
  exact zci B1.out
 rw [if_pos c] at EL
 obtain ⟨n, rfl⟩ : ∃ n : Nat, size = (n : Int) := ⟨size.toNat, by omega⟩
 rw [Int.toNat_natCast] at EL
 have n8 : n ≤ 8 := by omega
 generalize (zcf ns i).map = zs at *
 go_wp2_with fail
 refine (zar _ _ _ _ c).mono ?_
 rintro e w' ⟨rfl, hw'⟩
 subst w'
 clear c
 go_wp2_with (go_at_call 110; refine (zbd _ _ _ ir (by omega)).mono ?_; rintro e w' ⟨rfl, hw'⟩; subst w')
 have ST : Hid (UpI W (w1.alloc (.cells #[.int .i64 (48 + 12 * (i : Int) + 1), .int .i64 (n : Int)] 130)) (.slice (some ⟨w1.heap.size, 0, none⟩) 1 1) (cuU zs (i : Int) n n)) := by
  unfold Hid cuU
  rw [zwy]
  exact ⟨World.ownsRow_lit w1 _ 1 A1.out.size (by simp [maxLen]) rfl, A1.out.alloc A1.out.size _⟩
 go_loopw [10, 11] (fun vL k wr => ∃ m : Nat, n ≤ m ∧ m ≤ 8 ∧ k = .int .i64 (m : Int) ∧ Hid (UpI W wr vL (cuU zs (i : Int) n m))) (fun _ k _ => 8 - (intOf k).toNat)
 case atStart => exact ⟨n, Nat.le_refl _, n8, rfl, ST⟩
 case round =>
  obtain ⟨m, hm, hm8, rfl, J⟩ := hrel
  clear ST A1 B1
  obtain ⟨x0, x1⟩ := CA.out _ J.out.b
  have JW := zaa (zab BW.out J.out.b BW.out.size)
  have hzj : W.heap.size ≤ wr.heap.size := J.out.z
  have m0 : (0 : Int) ≤ (m : Int) := by omega
  by_cases hlt : m < 8
  ·have m1 : (m : Int) < 8 := by omega
   have e0 := HMi.out wr JW.out m hlt
   have YES := zaa (fun e => cuT_yes (zs := zs) (i := (i : Int)) (n := n) (k := m) hm e)
   have NO := zaa (fun e => cuT_no (zs := zs) (i := (i : Int)) (n := n) (k := m) e)
   have hlen : (cuU zs (i : Int) n m).length ≤ 9 := by
    have := cuT_len zs (i : Int) n m
    show (cuT zs (i : Int) n m).length + 1 ≤ 9
    omega
   generalize zs.getD m 0 = z at e0 YES NO
   by_cases q : z = 0
   ·have q' : (z != 0) = false := by rw [q]; rfl
    have G : Hid (UpI W wr u10 (cuU zs (i : Int) n (m + 1))) := by
     unfold Hid cuU
     rw [NO.out q]
     exact J.out
    clear q J YES NO
    go_wp2
    go_roundw
    case rel => exact ⟨m + 1, by omega, by omega, by go_num, G⟩
    case measure => simp [intOf]; omega
   ·have q' : (z != 0) = true := by rw [bne_iff_ne]; exact q
    have JB : Hid (UpI W (wr.alloc (.cells #[.int .i64 (48 + 12 * (i : Int) + (3 + (m : Int))), .int .i64 0] 130)) u10 (cuU zs (i : Int) n m)) := J.out.below ((Below.refl _ _).alloc (Nat.le_refl _) _)
    have RB := zaa (zfv wr (48 + 12 * (i : Int) + (3 + (m : Int))) 0)
    have hzb := JB.out.z
    have MN : Hid (cuU zs (i : Int) n (m + 1) = cuU zs (i : Int) n m ++ [⟨48 + 12 * (i : Int) + (3 + (m : Int)), 0⟩]) := by
     unfold Hid cuU
     rw [YES.out q]
     rfl
    have mr : 0 ≤ 3 + (m : Int) ∧ 3 + (m : Int) < 11 := by omega
    clear q J YES NO
    go_wp2_with fail
    refine (zbd _ _ _ ir mr).mono ?_
    rintro e w' ⟨rfl, hw'⟩
    subst w'
    go_wp2_with (at_builtin; refine zag _ rfl (.tmp 45) (.tmp 51) 57 rfl W.heap.size 130 (.agg #[.int .i64 0, .int .i64 0]) 2 16 Tryz.underlying57 zff rfl (by decide) _ _ _ rfl JB.out.l _ 1 _ rfl RB.out (zco _) (by first | omega | (simp [maxLen]; omega)) (by first | omega | (simp; omega)) hzb ?_)
    intro vN wN hownN hgrN
    have G := zaa (JB.out.grow [⟨48 + 12 * (i : Int) + (3 + (m : Int)), 0⟩] hownN hgrN)
    rw [← MN.out] at G
    clear hownN hgrN JB RB
    go_wp2
    go_roundw
    case rel => exact ⟨m + 1, by omega, by omega, by go_num, G⟩
    case measure => simp [intOf]; omega
  ·obtain rfl : m = 8 := by omega
   obtain rfl := EL.out
   obtain ⟨-, aN, cN, hvN, -⟩ := (zad J.out.l).rd
   subst hvN
   go_wp2
   go_ret2
   exact ⟨_, rfl, (zad J.out.l).wide (by omega) (Nat.le_refl _), JW.out⟩
end Go.Proofs.YtcilodgoognmnaaGreatDoor
