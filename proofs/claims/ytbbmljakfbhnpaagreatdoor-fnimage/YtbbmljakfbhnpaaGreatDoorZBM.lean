/- Several texts laid together: FsD, FsE. -/
import Derived.Test.YtbbmljakfbhnpaaGreatDoorZAV
import Derived.Test.YtbbmljakfbhnpaaGreatDoorZAW
import Derived.Test.YtbbmljakfbhnpaaGreatDoorZBL
import Derived.Deep.DeepCutAuto
import Derived.Deep.RegionHeld3
import Derived.Deep.RegionLaw
namespace Go.Proofs.YtbbmljakfbhnpaaGreatDoor
open Go.RowKit

theorem putQ_box {w : World} {b : Nat} {t : TypeId} {x y z u a b' c d : Value} (h : w.heap[b]? = some (.cells #[x, y, z, u] t (0, 0))) : (putR w b a b' c d).heap[b]? = some (.cells #[a, b', c, d] t (0, 0)) := by
 simp [putR, World.setCell, Array.getElem?_modify, h]
theorem belY {a b c : World} (h1 : Below a.heap.size a b) (h2 : Below b.heap.size b c) : Below a.heap.size a c := zab h1 h2 h1.size
/-- In the midst of the steps: so many are done; the argument's box, the answer's box. -/
structure MidA (l : List Mi) (ws : List Int) (ps : List St) (es : List Int) (qs : List Se) (w wr : World) (k : Nat) (W : List Int) (P : List St) (E : List Int) (Q : List Se) (a b' c d : Value) : Prop where
 run : mr (l.take k) ws ps es qs = ⟨0, W, P, E, Q⟩
 box : wr.heap[w.heap.size]? = some (.cells #[a, b', c, d] 36 (0, 0))
 res : wr.heap[w.heap.size + 1]? = some (.cells #[.slice none 0 0, .slice none 0 0, .slice none 0 0, .slice none 0 0] 36 (0, 0))
 rd : RdDev wr (.agg #[a, b', c, d]) W P E Q
 below : Below w.heap.size w wr
 size : w.heap.size + 1 < wr.heap.size
theorem RdDev.put {w : World} {b : Nat} {ws : List Int} {ps : List St} {es : List Int} {qs : List Se} {v : Value} {x y z u : Value} {t : TypeId} {fr : Nat × Nat} (h : RdDev w v ws ps es qs) (hb : w.heap[b]? = some (.cells #[x, y, z, u] t fr)) (hx : ∀ n, ¬ x = .int .i64 n) (hy : ∀ n, ¬ y = .int .i64 n) (hz : ∀ n, ¬ z = .int .i64 n) (hu : ∀ n, ¬ u = .int .i64 n) (p q r s : Value) : RdDev (putR w b p q r s) v ws ps es qs := by
 obtain ⟨vW, vP, vS, vQ, rfl, h1, h2⟩ := h
 have O := zhb w b p q r s
 have N := zcz hx hy hz hu
 exact ⟨_, _, _, _, rfl, h1.boxless hb N O.size (fun j hj hn => O.block j hj (by omega)), h2.boxless hb N O.size (fun j hj hn => O.block j hj (by omega))⟩
theorem run_stop {l : List Mi} {ws : List Int} {ps : List St} {es : List Int} {qs : List Se} (h : (mr l ws ps es qs).c = 0) {k : Nat} (hk : k < l.length) {W : List Int} {P : List St} {E : List Int} {Q : List Se} (r : mr (l.take k) ws ps es qs = ⟨0, W, P, E, Q⟩) : zop l[k] P Q = false := by
 cases f : zop l[k] P Q with
 | false => rfl
 | true =>
  rw [mr_stop hk r f] at h
  cases h

set_option maxRecDepth 100000 in
set_option maxHeartbeats 16000000 in
theorem l04All_any (v vL : Value) (l : List Mi) (ws : List Int) (ps : List St) (es : List Int) (qs : List Se) (W' : List Int) (P' : List St) (E' : List Int) (Q' : List Se) (w : World) (h : RdDev w v ws ps es qs) (hL : RdM w vL l) (hp : pmB ws ps = true) (hb : zoi es qs = true) (hm : ∀ m ∈ l, miB m = true) (hl : l.length ≤ 1000) (r : mr l ws ps es qs = ⟨0, W', P', E', Q'⟩) :
  Calls Tryz.prog 162 #[v, vL] w fun e w' => ∃ v', e = .returned v' ∧ RdDev w' v' W' P' E' Q' ∧ Below w.heap.size w w' := by
 have HD := zaa h
 have CP := zaa (And.intro hp hb)
 have CM := zaa hm
 have C0 := zaa (show (mr l ws ps es qs).c = 0 by rw [r])
 have RR := zaa r
 obtain ⟨aL, cL, rfl, -, hcL⟩ := hL.shape
 have HL := zaa hcL
 obtain ⟨aW, cW, aP, cP, aS, cS, aQ, cQ, rfl, -, -⟩ := h.form
 clear h hL hcL hp hb hm r
 obtain ⟨V, hV⟩ : ∃ V, V = (w.alloc (.cells #[.slice aW ws.length cW, .slice aP ps.length cP, .slice aS es.length cS, .slice aQ qs.length cQ] 36)).alloc (.cells #[.slice none 0 0, .slice none 0 0, .slice none 0 0, .slice none 0 0] 36) := ⟨_, rfl⟩
 have hb0 : Below w.heap.size w V := by
  rw [hV]
  repeat (refine Below.alloc ?_ (by simp <;> omega) _)
  exact Below.refl _ _
 have I0 : Hid (MidA l ws ps es qs w V 0 ws ps es qs (.slice aW ws.length cW) (.slice aP ps.length cP) (.slice aS es.length cS) (.slice aQ qs.length cQ)) :=
  ⟨rfl, by rw [hV]; exact zaj (zag rfl), by rw [hV]; exact zag (by simp), HD.out.below hb0, hb0, by rw [hV]; simp⟩
 clear hb0
 go_enter Tryz.func162, Tryz.ntmps162
 go_upto_region 1 with fail
 rw [← hV]
 clear hV
 go_wp2_with fail
 go_loopw [5] (fun i wq => ∃ k : Nat, k ≤ l.length ∧ i = .int .i64 k ∧ ∃ (W : List Int) (P : List St) (E : List Int) (Q : List Se) (d1 d2 d3 d4 : Option Addr) (f1 f2 f3 f4 : Nat), Hid (MidA l ws ps es qs w wq k W P E Q (.slice d1 W.length f1) (.slice d2 P.length f2) (.slice d3 E.length f3) (.slice d4 Q.length f4))) (fun i _ => l.length - (intOf i).toNat)
 case atStart => exact ⟨0, by omega, rfl, ws, ps, es, qs, _, _, _, _, _, _, _, _, I0⟩
 case round =>
  obtain ⟨k, hk, rfl, W, P, E, Q, d1, d2, d3, d4, f1, f2, f3, f4, I⟩ := hrel
  clear I0
  have hsz := I.out.size
  by_cases hlt : k < l.length
  ·obtain ⟨bL, oL, rfl, hblL, hcellL⟩ := HL.out (by omega)
   obtain ⟨g0, g1, g2⟩ := hcellL k hlt
   have e0 := (I.out.below.cell (p := ⟨bL, oL + k * 3, none⟩) hblL).trans g0
   have e1 := (I.out.below.cell (p := ⟨bL, oL + k * 3 + 1, none⟩) hblL).trans g1
   have e2 := (I.out.below.cell (p := ⟨bL, oL + k * 3 + 2, none⟩) hblL).trans g2
   have k0 : (0 : Int) ≤ (k : Int) := by omega
   have k1 : (k : Int) < (l.length : Int) := by omega
   clear g0 g1 g2 hcellL
   have XO := zaa (show pmB W P = true ∧ zoi E Q = true by
    have := mr_ok (l.take k) ws ps es qs CP.out.1 CP.out.2 (fun m hm => CM.out m (List.mem_of_mem_take hm))
    rw [I.out.run] at this
    exact this)
   have NX := zaa (mr_next hlt I.out.run (run_stop C0.out hlt I.out.run))
   have LD : Hid (∀ v2 w1, RdDev w1 v2 W P E Q → Calls Tryz.prog 191 #[v2, .agg #[.int .i64 l[k].kind, .int .i64 l[k].at_, .int .i64 l[k].val]] w1 fun e w' => ∃ v', e = .returned v' ∧ RdDev w' v' (doW l[k] W P) (doP l[k] P) (doE l[k] E Q) (doQ l[k] Q) ∧ Below w1.heap.size w1 w') := fun v2 w1 h2 => l04Do_any v2 l[k] W P E Q w1 h2 XO.out.1 XO.out.2 (CM.out _ (List.getElem_mem hlt))
   obtain ⟨x0, x1, x2, x3, y0, y1, y2, y3⟩ := zan I.out.box
   generalize doW l[k] W P = W2 at *
   generalize doP l[k] P = P2 at *
   generalize doE l[k] E Q = E2 at *
   generalize doQ l[k] Q = Q2 at *
   generalize l[k] = m at *
   go_wp2_with fail
   go_region_law (go_simp; go_at_call 191; refine (LD.out _ _ (I.out.rd.below (by repeat (first | with_reducible exact Below.refl _ _ | with_reducible refine Below.drew ?_)))).mono ?_; rintro e wf ⟨vf, rfl, hrf, hbf⟩; have BF : Hid (Below wr.heap.size wr wf) := belY (by repeat (first | with_reducible exact Below.refl _ _ | with_reducible refine Below.drew ?_)) hbf; have RF := zaa hrf; obtain ⟨i0, j0, i1, j1, i2, j2, i3, j3, rfl, -, -⟩ := hrf.form; have DB := zaa ((BF.out.block w.heap.size (by omega)).trans I.out.box); obtain ⟨z0, z1, z2, z3, z4, z5, z6, z7⟩ := zan DB.out; clear hrf hbf)
   all_goals
    have DR := zaa ((BF.out.block (w.heap.size + 1) (by omega)).trans I.out.res)
    have G : Hid (MidA l ws ps es qs w (putR wf w.heap.size (.slice i0 W2.length j0) (.slice i1 P2.length j1) (.slice i2 E2.length j2) (.slice i3 Q2.length j3)) (k + 1) W2 P2 E2 Q2 (.slice i0 W2.length j0) (.slice i1 P2.length j1) (.slice i2 E2.length j2) (.slice i3 Q2.length j3)) := by
     have O := zhb wf w.heap.size (.slice i0 W2.length j0) (.slice i1 P2.length j1) (.slice i2 E2.length j2) (.slice i3 Q2.length j3)
     have Z := znp wf w.heap.size (.slice i0 W2.length j0) (.slice i1 P2.length j1) (.slice i2 E2.length j2) (.slice i3 Q2.length j3)
     have zf := BF.out.size
     exact ⟨NX.out, putQ_box DB.out, (O.block _ (by omega) (by omega)).trans DR.out, RF.out.put DB.out (zaf _ _ _) (zaf _ _ _) (zaf _ _ _) (zaf _ _ _) _ _ _ _, (zab I.out.below BF.out (by omega)).trans (O.below (Nat.le_refl _) (by omega)), Nat.lt_of_lt_of_eq (show w.heap.size + 1 < wf.heap.size by omega) Z.symm⟩
    go_wp2
    go_roundw
    case rel => exact ⟨k + 1, by omega, by go_num, _, _, _, _, i0, i1, i2, i3, j0, j1, j2, j3, G⟩
    case measure => simp [intOf]; omega
  ·have RUN := mr_end (by omega) I.out.run
   rw [RR.out] at RUN
   obtain ⟨-, rfl, rfl, rfl, rfl⟩ := MR.mk.inj RUN
   obtain ⟨x0, x1, x2, x3, -, -, -, -⟩ := zan I.out.box
   obtain ⟨y0, y1, y2, y3, y4, y5, y6, y7⟩ := zan I.out.res
   have O := zaa (zhb wr (w.heap.size + 1) (.slice d1 W'.length f1) (.slice d2 P'.length f2) (.slice d3 E'.length f3) (.slice d4 Q'.length f4))
   have RD := zaa (I.out.rd.put I.out.res (zaf _ _ _) (zaf _ _ _) (zaf _ _ _) (zaf _ _ _) (.slice d1 W'.length f1) (.slice d2 P'.length f2) (.slice d3 E'.length f3) (.slice d4 Q'.length f4))
   have BD := zaa (I.out.below.trans (O.out.below (B := w.heap.size) (by omega) (by omega)))
   clear O
   go_wp2
   refine bodyPost_ret (v := .agg #[.slice d1 W'.length f1, .slice d2 P'.length f2, .slice d3 E'.length f3, .slice d4 Q'.length f4]) (by simp [results, Tryz.results162, go_sem, y0, y1, y2, y3]) rfl ?_
   exact ⟨_, rfl, RD.out, BD.out⟩
end Go.Proofs.YtbbmljakfbhnpaaGreatDoor

namespace Go.Proofs.YtbbmljakfbhnpaaGreatDoor
open Go.RowKit

/-- A file system that can be read: words, sectors, heat, steps, the answer, whether it waits. -/
def RdFs (w : World) (v : Value) (ws es hs : List Int) (td : List Mi) (cd vl : Int) (nm : List ByteArray) (fr : Bool) : Prop :=
 ∃ aW cW aP cP aS cS aQ cQ aH cH aT cT aN cN, v = .agg #[.slice aW ws.length cW, .slice aP 0 cP, .slice aS es.length cS, .slice aQ 0 cQ, .slice aH hs.length cH, .slice aT td.length cT, .int .i64 cd, .int .i64 vl, .slice aN nm.length cN, .bool fr] ∧ RdDev w (.agg #[.slice aW ws.length cW, .slice aP 0 cP, .slice aS es.length cS, .slice aQ 0 cQ]) ws [] es [] ∧ RdI w (.slice aH hs.length cH) hs ∧ RdM w (.slice aT td.length cT) td ∧ RdT w (.slice aN nm.length cN) nm
theorem RdFs.soft {w w' : World} {v : Value} {ws es hs : List Int} {td : List Mi} {cd vl : Int} {nm : List ByteArray} {fr : Bool} (h : RdFs w v ws es hs td cd vl nm fr) (s : Soft w w') (h1 : 3 ≤ ws.length) (h2 : 3 ≤ es.length) (h3 : 3 ≤ hs.length) : RdFs w' v ws es hs td cd vl nm fr := by
 obtain ⟨aW, cW, aP, cP, aS, cS, aQ, cQ, aH, cH, aT, cT, aN, cN, rfl, a, b, c, d⟩ := h
 exact ⟨aW, cW, aP, cP, aS, cS, aQ, cQ, aH, cH, aT, cT, aN, cN, rfl, a.soft s h1 h2, b.soft s h3, c.soft s, d.soft s⟩
theorem RdFs.below {w w' : World} {v : Value} {ws es hs : List Int} {td : List Mi} {cd vl : Int} {nm : List ByteArray} {fr : Bool} (h : RdFs w v ws es hs td cd vl nm fr) (s : Below w.heap.size w w') : RdFs w' v ws es hs td cd vl nm fr := by
 obtain ⟨aW, cW, aP, cP, aS, cS, aQ, cQ, aH, cH, aT, cT, aN, cN, rfl, a, b, c, d⟩ := h
 exact ⟨aW, cW, aP, cP, aS, cS, aQ, cQ, aH, cH, aT, cT, aN, cN, rfl, a.below s, Rd.below b s, Rd.below c s, Rd.below d s⟩
theorem zai {w : World} {b : Nat} {t : TypeId} {x0 x1 x2 x3 x4 x5 x6 x7 x8 x9 : Value} (h : w.heap[b]? = some (.cells #[x0, x1, x2, x3, x4, x5, x6, x7, x8, x9] t (0, 0))) : w.cell? ⟨b, 0, none⟩ = some x0 ∧ w.cell? ⟨b, 1, none⟩ = some x1 ∧ w.cell? ⟨b, 2, none⟩ = some x2 ∧ w.cell? ⟨b, 3, none⟩ = some x3 ∧ w.cell? ⟨b, 4, none⟩ = some x4 ∧ w.cell? ⟨b, 5, none⟩ = some x5 ∧ w.cell? ⟨b, 6, none⟩ = some x6 ∧ w.cell? ⟨b, 7, none⟩ = some x7 ∧ w.cell? ⟨b, 8, none⟩ = some x8 ∧ w.cell? ⟨b, 9, none⟩ = some x9 ∧ w.frozen? ⟨b, 0, none⟩ = false ∧ w.frozen? ⟨b, 1, none⟩ = false ∧ w.frozen? ⟨b, 2, none⟩ = false ∧ w.frozen? ⟨b, 3, none⟩ = false ∧ w.frozen? ⟨b, 4, none⟩ = false ∧ w.frozen? ⟨b, 5, none⟩ = false ∧ w.frozen? ⟨b, 6, none⟩ = false ∧ w.frozen? ⟨b, 7, none⟩ = false ∧ w.frozen? ⟨b, 8, none⟩ = false ∧ w.frozen? ⟨b, 9, none⟩ = false := by
 simp [World.cell?, World.frozen?, h]
theorem ten_set0 {w : World} {b : Nat} {t : TypeId} {x0 x1 x2 x3 x4 x5 x6 x7 x8 x9 : Value} (h : w.heap[b]? = some (.cells #[x0, x1, x2, x3, x4, x5, x6, x7, x8, x9] t (0, 0))) (u : Value) : (w.setCell ⟨b, 0, none⟩ u).heap[b]? = some (.cells #[u, x1, x2, x3, x4, x5, x6, x7, x8, x9] t (0, 0)) := by simp [World.setCell, Array.getElem?_modify, h]
theorem ten_set1 {w : World} {b : Nat} {t : TypeId} {x0 x1 x2 x3 x4 x5 x6 x7 x8 x9 : Value} (h : w.heap[b]? = some (.cells #[x0, x1, x2, x3, x4, x5, x6, x7, x8, x9] t (0, 0))) (u : Value) : (w.setCell ⟨b, 1, none⟩ u).heap[b]? = some (.cells #[x0, u, x2, x3, x4, x5, x6, x7, x8, x9] t (0, 0)) := by simp [World.setCell, Array.getElem?_modify, h]
theorem ten_set2 {w : World} {b : Nat} {t : TypeId} {x0 x1 x2 x3 x4 x5 x6 x7 x8 x9 : Value} (h : w.heap[b]? = some (.cells #[x0, x1, x2, x3, x4, x5, x6, x7, x8, x9] t (0, 0))) (u : Value) : (w.setCell ⟨b, 2, none⟩ u).heap[b]? = some (.cells #[x0, x1, u, x3, x4, x5, x6, x7, x8, x9] t (0, 0)) := by simp [World.setCell, Array.getElem?_modify, h]
theorem ten_set3 {w : World} {b : Nat} {t : TypeId} {x0 x1 x2 x3 x4 x5 x6 x7 x8 x9 : Value} (h : w.heap[b]? = some (.cells #[x0, x1, x2, x3, x4, x5, x6, x7, x8, x9] t (0, 0))) (u : Value) : (w.setCell ⟨b, 3, none⟩ u).heap[b]? = some (.cells #[x0, x1, x2, u, x4, x5, x6, x7, x8, x9] t (0, 0)) := by simp [World.setCell, Array.getElem?_modify, h]
theorem zqz {w : World} {b : Nat} {t : TypeId} {x0 x1 x2 x3 x4 x5 x6 x7 x8 x9 : Value} (h : w.heap[b]? = some (.cells #[x0, x1, x2, x3, x4, x5, x6, x7, x8, x9] t (0, 0))) (u : Value) : (w.setCell ⟨b, 4, none⟩ u).heap[b]? = some (.cells #[x0, x1, x2, x3, u, x5, x6, x7, x8, x9] t (0, 0)) := by simp [World.setCell, Array.getElem?_modify, h]
theorem zfw {w : World} {b : Nat} {t : TypeId} {x0 x1 x2 x3 x4 x5 x6 x7 x8 x9 : Value} (h : w.heap[b]? = some (.cells #[x0, x1, x2, x3, x4, x5, x6, x7, x8, x9] t (0, 0))) (u : Value) : (w.setCell ⟨b, 5, none⟩ u).heap[b]? = some (.cells #[x0, x1, x2, x3, x4, u, x6, x7, x8, x9] t (0, 0)) := by simp [World.setCell, Array.getElem?_modify, h]
theorem zlg {w : World} {b : Nat} {t : TypeId} {x0 x1 x2 x3 x4 x5 x6 x7 x8 x9 : Value} (h : w.heap[b]? = some (.cells #[x0, x1, x2, x3, x4, x5, x6, x7, x8, x9] t (0, 0))) (u : Value) : (w.setCell ⟨b, 6, none⟩ u).heap[b]? = some (.cells #[x0, x1, x2, x3, x4, x5, u, x7, x8, x9] t (0, 0)) := by simp [World.setCell, Array.getElem?_modify, h]
theorem zlq {w : World} {b : Nat} {t : TypeId} {x0 x1 x2 x3 x4 x5 x6 x7 x8 x9 : Value} (h : w.heap[b]? = some (.cells #[x0, x1, x2, x3, x4, x5, x6, x7, x8, x9] t (0, 0))) (u : Value) : (w.setCell ⟨b, 7, none⟩ u).heap[b]? = some (.cells #[x0, x1, x2, x3, x4, x5, x6, u, x8, x9] t (0, 0)) := by simp [World.setCell, Array.getElem?_modify, h]
theorem zil {w : World} {b : Nat} {t : TypeId} {x0 x1 x2 x3 x4 x5 x6 x7 x8 x9 : Value} (h : w.heap[b]? = some (.cells #[x0, x1, x2, x3, x4, x5, x6, x7, x8, x9] t (0, 0))) (u : Value) : (w.setCell ⟨b, 8, none⟩ u).heap[b]? = some (.cells #[x0, x1, x2, x3, x4, x5, x6, x7, u, x9] t (0, 0)) := by simp [World.setCell, Array.getElem?_modify, h]
theorem zlc {w : World} {b : Nat} {t : TypeId} {x0 x1 x2 x3 x4 x5 x6 x7 x8 x9 : Value} (h : w.heap[b]? = some (.cells #[x0, x1, x2, x3, x4, x5, x6, x7, x8, x9] t (0, 0))) (u : Value) : (w.setCell ⟨b, 9, none⟩ u).heap[b]? = some (.cells #[x0, x1, x2, x3, x4, x5, x6, x7, x8, u] t (0, 0)) := by simp [World.setCell, Array.getElem?_modify, h]
theorem ten_dev {w : World} {b : Nat} {t : TypeId} {x0 x1 x2 x3 x4 x5 x6 x7 x8 x9 : Value} (h : w.heap[b]? = some (.cells #[x0, x1, x2, x3, x4, x5, x6, x7, x8, x9] t (0, 0))) (p q r s : Value) : (putR w b p q r s).heap[b]? = some (.cells #[p, q, r, s, x4, x5, x6, x7, x8, x9] t (0, 0)) := ten_set3 (ten_set2 (ten_set1 (ten_set0 h p) q) r) s
/-- A box of ten cells is written. -/
def zff (w : World) (b : Nat) (x0 x1 x2 x3 x4 x5 x6 x7 x8 x9 : Value) : World := ((((((((((w.setCell ⟨b, 0, none⟩ x0).setCell ⟨b, 1, none⟩ x1).setCell ⟨b, 2, none⟩ x2).setCell ⟨b, 3, none⟩ x3).setCell ⟨b, 4, none⟩ x4).setCell ⟨b, 5, none⟩ x5).setCell ⟨b, 6, none⟩ x6).setCell ⟨b, 7, none⟩ x7).setCell ⟨b, 8, none⟩ x8).setCell ⟨b, 9, none⟩ x9)
theorem zbt (w : World) (b : Nat) (x0 x1 x2 x3 x4 x5 x6 x7 x8 x9 : Value) : Outside b (b + 1) w (zff w b x0 x1 x2 x3 x4 x5 x6 x7 x8 x9) := by
 unfold zff
 repeat (refine Outside.setCell ?_ (by simp only; omega) (by simp only; omega) _)
 exact Outside.refl _ _ _
theorem zoz (w : World) (b : Nat) (x0 x1 x2 x3 x4 x5 x6 x7 x8 x9 : Value) : (zff w b x0 x1 x2 x3 x4 x5 x6 x7 x8 x9).heap.size = w.heap.size := by simp [zff, World.setCell]
theorem tri3 {w : World} {b : Nat} {t : TypeId} {x y z : Value} (h : w.heap[b]? = some (.cells #[x, y, z] t (0, 0))) : w.cell? ⟨b, 0, none⟩ = some x ∧ w.cell? ⟨b, 1, none⟩ = some y ∧ w.cell? ⟨b, 2, none⟩ = some z ∧ w.frozen? ⟨b, 0, none⟩ = false ∧ w.frozen? ⟨b, 1, none⟩ = false ∧ w.frozen? ⟨b, 2, none⟩ = false := by simp [World.cell?, World.frozen?, h]
/-- A box that is all zero. -/
def zdr : List Value := [.slice none 0 0, .slice none 0 0, .slice none 0 0, .slice none 0 0, .slice none 0 0, .slice none 0 0, .int .i64 0, .int .i64 0, .slice none 0 0, .bool false]
set_option maxRecDepth 100000 in
set_option maxHeartbeats 16000000 in
theorem zie (v : Value) (ws es hs : List Int) (td : List Mi) (cd vl : Int) (nm : List ByteArray) (fr : Bool) (ws' es' : List Int) (w : World) (h : RdFs w v ws es hs td cd vl nm fr) (hp : pmB ws [] = true) (hb : zoi es [] = true) (hh : 3 ≤ hs.length) (hm : ∀ m ∈ td, miB m = true) (hl : td.length ≤ 1000) (r : mr td ws [] es [] = ⟨0, ws', [], es', []⟩) (hp' : pmB ws' [] = true) (hb' : zoi es' [] = true) :
  Calls Tryz.prog 117 #[v] w fun e w' => ∃ v', e = .returned v' ∧ RdFs w' v' ws' es' hs [] cd vl nm fr ∧ Below w.heap.size w w' := by
 have h336 : Hid (3 ≤ ws'.length) := by have := (zgc hp').1; unfold Hid; omega
 have h32 : Hid (3 ≤ es'.length) := by have := (zeg hb').1; unfold Hid; omega
 have HH := zaa hh
 have HF := zaa h
 obtain ⟨aW, cW, aP, cP, aS, cS, aQ, cQ, aH, cH, aT, cT, aN, cN, rfl, a, b, c, d⟩ := h
 have LA : Hid (∀ w1, Below w.heap.size w w1 → Calls Tryz.prog 162 #[.agg #[.slice aW ws.length cW, .slice aP 0 cP, .slice aS es.length cS, .slice aQ 0 cQ], .slice aT td.length cT] w1 fun e w' => ∃ v', e = .returned v' ∧ RdDev w' v' ws' [] es' [] ∧ Below w1.heap.size w1 w') := fun w1 hb1 => l04All_any _ _ td ws [] es [] ws' [] es' [] w1 (a.below hb1) (Rd.below c hb1) hp hb hm hl r
 have RH := zaa b
 have RN := zaa d
 clear a b c d hp hb hm hl r hp' hb' hh HF
 obtain ⟨V, hV⟩ : ∃ V, V = (w.alloc (.cells #[.slice aW ws.length cW, .slice aP 0 cP, .slice aS es.length cS, .slice aQ 0 cQ, .slice aH hs.length cH, .slice aT td.length cT, .int .i64 cd, .int .i64 vl, .slice aN nm.length cN, .bool fr] 125)).alloc (.cells zdr.toArray 125) := ⟨_, rfl⟩
 have hzV : V.heap.size = w.heap.size + 1 + 1 := by rw [hV]; simp
 have BV : Hid (Below w.heap.size w V) := by rw [hV]; exact ((Below.refl _ _).alloc (Nat.le_refl _) _).alloc (by simp) _
 have XV : Hid (V.heap[w.heap.size]? = some (.cells #[.slice aW ws.length cW, .slice aP 0 cP, .slice aS es.length cS, .slice aQ 0 cQ, .slice aH hs.length cH, .slice aT td.length cT, .int .i64 cd, .int .i64 vl, .slice aN nm.length cN, .bool fr] 125 (0, 0))) := by rw [hV]; exact zaj (zag rfl)
 have YV : Hid (V.heap[w.heap.size + 1]? = some (.cells zdr.toArray 125 (0, 0))) := by
  rw [hV]
  have := zag (w := w.alloc (.cells #[.slice aW ws.length cW, .slice aP 0 cP, .slice aS es.length cS, .slice aQ 0 cQ, .slice aH hs.length cH, .slice aT td.length cT, .int .i64 cd, .int .i64 vl, .slice aN nm.length cN, .bool fr] 125)) (o := .cells zdr.toArray 125) rfl
  rw [World.size_alloc] at this
  exact this
 unfold zdr at hV
 go_enter Tryz.func117, Tryz.ntmps117
 go_upto_region 1 with fail
 rw [← hV]
 clear hV
 obtain ⟨x0, x1, x2, x3, x4, x5, x6, x7, x8, x9, -⟩ := zai XV.out
 go_wp2_with fail
 refine (LA.out _ BV.out).mono ?_
 rintro e w1 ⟨v1, rfl, hr1, hb1⟩
 obtain ⟨iW, jW, iP, jP, iS, jS, iQ, jQ, rfl, -, -⟩ := hr1.form
 have z1 : V.heap.size ≤ w1.heap.size := hb1.size
 have B1 := zaa (zab BV.out hb1 BV.out.size)
 have X1 := zaa ((hb1.block _ (by omega)).trans XV.out)
 have Y1 := zaa ((hb1.block _ (by omega)).trans YV.out)
 have D1 := zaa hr1
 clear hr1 hb1 x0 x1 x2 x3 x4 x5 x6 x7 x8 x9 XV YV LA
 obtain ⟨x0, x1, x2, x3, x4, x5, x6, x7, x8, x9, g0, g1, g2, g3, g4, g5, g6, g7, g8, g9⟩ := zai X1.out
 obtain ⟨w2, hw2⟩ : ∃ w2, w2 = putR w1 w.heap.size (.slice iW ws'.length jW) (.slice iP 0 jP) (.slice iS es'.length jS) (.slice iQ 0 jQ) := ⟨_, rfl⟩
 have O2 := zaa (zhb w1 w.heap.size (.slice iW ws'.length jW) (.slice iP 0 jP) (.slice iS es'.length jS) (.slice iQ 0 jQ))
 have S2 : Hid (Soft w1 w2) := by rw [hw2]; exact Soft.outside O2.out X1.out rfl
 have X2 : Hid (w2.heap[w.heap.size]? = some (.cells #[.slice iW ws'.length jW, .slice iP 0 jP, .slice iS es'.length jS, .slice iQ 0 jQ, .slice aH hs.length cH, .slice aT td.length cT, .int .i64 cd, .int .i64 vl, .slice aN nm.length cN, .bool fr] 125 (0, 0))) := by rw [hw2]; exact ten_dev X1.out _ _ _ _
 have Y2 : Hid (w2.heap[w.heap.size + 1]? = some (.cells zdr.toArray 125 (0, 0))) := by rw [hw2]; exact (O2.out.block _ (by omega) (by omega)).trans Y1.out
 have B2 : Hid (Below w.heap.size w w2) := by rw [hw2]; exact B1.out.trans (O2.out.below (Nat.le_refl _) (by omega))
 have z2 : w1.heap.size = w2.heap.size := by rw [hw2, znp]
 unfold putR at hw2
 go_upto_region 2 with fail
 rw [← hw2]
 clear hw2 O2 x0 x1 x2 x3 x4 x5 x6 x7 x8 x9 g0 g1 g2 g3 g4 g5 g6 g7 g8 g9 X1 Y1
 obtain ⟨w3, hw3⟩ : ∃ w3, w3 = (w2.alloc (.cells #[] 215)).setCell ⟨w.heap.size, 5, none⟩ (.slice (some ⟨w2.heap.size, 0, none⟩) 0 0) := ⟨_, rfl⟩
 have X2a := zaa (zaj (o := .cells #[] 215) X2.out)
 have S3 : Hid (Soft w2 w3) := by rw [hw3]; exact ((Soft.refl _).alloc _).set X2a.out rfl _ _
 have X3 : Hid (w3.heap[w.heap.size]? = some (.cells #[.slice iW ws'.length jW, .slice iP 0 jP, .slice iS es'.length jS, .slice iQ 0 jQ, .slice aH hs.length cH, .slice (some ⟨w2.heap.size, 0, none⟩) 0 0, .int .i64 cd, .int .i64 vl, .slice aN nm.length cN, .bool fr] 125 (0, 0))) := by rw [hw3]; exact zfw X2a.out _
 have Y3 : Hid (w3.heap[w.heap.size + 1]? = some (.cells zdr.toArray 125 (0, 0))) := by rw [hw3, Below.heap_setCell _ _ _ _ (by simp only; omega)]; exact zaj Y2.out
 have B3 : Hid (Below w.heap.size w w3) := by rw [hw3]; exact (B2.out.alloc B2.out.size _).setCell (Nat.le_refl _) _
 have z3 : w2.heap.size + 1 = w3.heap.size := by rw [hw3]; simp [World.setCell]
 obtain ⟨-, -, -, -, -, x5, -, -, -, -, -, -, -, -, -, g5, -⟩ := zai X2a.out
 go_upto_region 3 with fail
 rw [← hw3]
 clear hw3 x5 g5 X2 Y2 X2a
 obtain ⟨x0, x1, x2, x3, x4, x5, x6, x7, x8, x9, -⟩ := zai X3.out
 have Y3' : w3.heap[w.heap.size + 1]? = some (.cells #[.slice none 0 0, .slice none 0 0, .slice none 0 0, .slice none 0 0, .slice none 0 0, .slice none 0 0, .int .i64 0, .int .i64 0, .slice none 0 0, .bool false] 125 (0, 0)) := Y3.out
 obtain ⟨y0, y1, y2, y3, y4, y5, y6, y7, y8, y9, g0, g1, g2, g3, g4, g5, g6, g7, g8, g9⟩ := zai Y3'
 clear Y3'
 have O4 := zaa (zbt w3 (w.heap.size + 1) (.slice iW ws'.length jW) (.slice iP 0 jP) (.slice iS es'.length jS) (.slice iQ 0 jQ) (.slice aH hs.length cH) (.slice (some ⟨w2.heap.size, 0, none⟩) 0 0) (.int .i64 cd) (.int .i64 vl) (.slice aN nm.length cN) (.bool fr))
 have S4 := zaa (Soft.outside O4.out Y3.out rfl)
 have SS := zaa ((S2.out.trans S3.out).trans S4.out)
 have B4 := zaa (B3.out.trans (O4.out.below (B := w.heap.size) (by omega) (by omega)))
 have NIL : Hid (RdM w3 (.slice (some ⟨w2.heap.size, 0, none⟩) 0 0) []) := ⟨rfl, _, _, rfl, ⟨Nat.le_refl _, fun e => by cases e⟩, fun h => absurd h (by simp)⟩
 have F4 : Hid (RdFs _ (.agg #[.slice iW ws'.length jW, .slice iP 0 jP, .slice iS es'.length jS, .slice iQ 0 jQ, .slice aH hs.length cH, .slice (some ⟨w2.heap.size, 0, none⟩) 0 0, .int .i64 cd, .int .i64 vl, .slice aN nm.length cN, .bool fr]) ws' es' hs [] cd vl nm fr) :=
  ⟨iW, jW, iP, jP, iS, jS, iQ, jQ, aH, cH, _, _, aN, cN, rfl, RdDev.soft D1.out SS.out h336.out h32.out, RdI.soft (Rd.below RH.out B1.out) SS.out HH.out, RdM.soft NIL.out S4.out, RdT.soft (Rd.below RN.out B1.out) SS.out⟩
 clear O4 S4 SS S2 S3 D1 NIL
 go_wp2
 refine bodyPost_ret (v := .agg #[.slice iW ws'.length jW, .slice iP 0 jP, .slice iS es'.length jS, .slice iQ 0 jQ, .slice aH hs.length cH, .slice (some ⟨w2.heap.size, 0, none⟩) 0 0, .int .i64 cd, .int .i64 vl, .slice aN nm.length cN, .bool fr]) (by simp [results, Tryz.results117, go_sem, y0, y1, y2, y3, y4, y5, y6, y7, y8, y9]) rfl ?_
 exact ⟨_, rfl, F4.out, B4.out⟩
end Go.Proofs.YtbbmljakfbhnpaaGreatDoor
