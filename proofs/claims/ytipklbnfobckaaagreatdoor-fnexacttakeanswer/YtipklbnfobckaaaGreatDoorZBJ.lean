/- Several texts laid together: FsA, FqG, TrB. -/
import Derived.Test.YtipklbnfobckaaaGreatDoorZAM
import Derived.Test.YtipklbnfobckaaaGreatDoorZBE
import Derived.Test.YtipklbnfobckaaaGreatDoorZBI
import Derived.Test.YtipklbnfobckaaaGreatDoorZAV
import Derived.Test.YtipklbnfobckaaaGreatDoorZBB
import Derived.Test.YtipklbnfobckaaaGreatDoorZAQ
import Derived.Test.YtipklbnfobckaaaGreatDoorImX
import Derived.Maps.Views
import Derived.Deep.LoopGhost
import Derived.Deep.RegionHeld3
import Derived.Laws.OwnMore
import Derived.Lib.SplitLaws
import Derived.Lib.IndexBytes
import Derived.BigQuiet
import Derived.Sort.Walk0
import Derived.Laws.Cover1
import Derived.Test.YtipklbnfobckaaaGreatDoorZAU
import Derived.Test.YtipklbnfobckaaaGreatDoorFqD
namespace Go.Proofs.YtipklbnfobckaaaGreatDoor
open Go.RowKit

/-- The block device behind steps. -/
def runE (s : List Int × List Se) (l : List Mi) : List Int × List Se := l.foldl (fun s m => (doE m s.1 s.2, doQ m s.2)) s
theorem mi_kind {m : Mi} (h : miB m = true) : m.kind = 1 ∨ m.kind = 2 ∨ m.kind = 3 ∨ m.kind = 4 ∨ m.kind = 5 := by
  have := (miB_of m.kind m.at_ m.val).1 h
  omega
theorem mr_all : ∀ (l : List Mi) (ws : List Int) (ps : List St) (es : List Int) (qs : List Se), (∀ m ∈ l, miB m = true) → ps.length + l.length ≤ 400 → qs.length + l.length ≤ 400 → mr l ws ps es qs = ⟨0, (runM (ws, ps) l).1, (runM (ws, ps) l).2, (runE (es, qs) l).1, (runE (es, qs) l).2⟩
  | [], ws, ps, es, qs, _, _, _ => rfl
  | m :: l, ws, ps, es, qs, hk, hl, hq => by
      have h1 := mi_kind (hk m List.mem_cons_self)
      simp only [List.length_cons] at hl hq
      have hf : fullB m ps qs = false := decide_eq_false (fun h => by omega)
      have e : step1 (ws, ps) m = (doW m ws ps, doP m ps) := by
        unfold step1 doW doP
        rcases h1 with h | h | h | h | h
        · rw [if_pos h, if_pos h, if_neg (by omega)]
        · rw [if_neg (by omega), if_pos h, if_neg (by omega), if_neg (by omega), if_pos h]
        · rw [if_neg (by omega), if_neg (by omega), if_pos h, if_pos h, if_neg (by omega), if_neg (by omega), if_pos h]
        · rw [if_neg (by omega), if_neg (by omega), if_neg (by omega), if_neg (by omega), if_neg (by omega), if_neg (by omega), if_neg (by omega)]
        · rw [if_neg (by omega), if_neg (by omega), if_neg (by omega), if_neg (by omega), if_neg (by omega), if_neg (by omega), if_neg (by omega)]
      have hp : (doP m ps).length ≤ ps.length + 1 := by
        unfold doP
        split
        · simp
        · split
          · simp
          · split
            · exact Nat.le_trans (List.length_filter_le _ _) (by omega)
            · omega
      have hq' : (doQ m qs).length ≤ qs.length + 1 := by
        unfold doQ
        split
        · simp
        · split
          · simp
          · omega
      rw [runM_cons, e, show runE (es, qs) (m :: l) = runE (doE m es qs, doQ m qs) l from rfl]
      simp only [mr, hf]
      exact mr_all l _ _ _ _ (fun q hq => hk q (List.mem_cons_of_mem _ hq)) (by omega) (by omega)
end Go.Proofs.YtipklbnfobckaaaGreatDoor

namespace Go.Proofs.YtipklbnfobckaaaGreatDoor
open Go.RowKit

theorem Rd.none {w w' : World} {size : Nat} {v : Value} {xs : List Value} (h : Rd w size v 0 xs) (_hz : w.heap.size ≤ w'.heap.size) : Rd w' size v 0 xs := by
  obtain ⟨h1, ao, cap, rfl, h2, h3⟩ := h
  exact ⟨h1, ao, cap, rfl, h2, fun h => absurd h (Nat.lt_irrefl 0)⟩
/-- Stores that wait cannot lie in the box of a file system. -/
theorem RdS.ten {w w' : World} {v : Value} {ps : List St} {b : Nat} {t : TypeId} {fr : Nat × Nat} {a0 a1 a2 a3 a4 a5 a8 : Option Addr} {n0 n1 n2 n3 n4 n5 n8 m0 m1 m2 m3 m4 m5 m8 : Nat} {k6 k7 : Int} {k9 : Bool} (h : RdS w v ps) (o : Outside b (b + 1) w w') (hb : w.heap[b]? = some (.cells #[.slice a0 n0 m0, .slice a1 n1 m1, .slice a2 n2 m2, .slice a3 n3 m3, .slice a4 n4 m4, .slice a5 n5 m5, .int .i64 k6, .int .i64 k7, .slice a8 n8 m8, .bool k9] t fr)) : RdS w' v ps := by
  by_cases hn : 0 < ps.length
  · refine Rd.same h o.size (fun j hj he => ?_)
    by_cases e : j = b
    · exfalso
      subst e
      obtain ⟨-, ao, cap, rfl, -, hc⟩ := h
      obtain ⟨b', o', rfl, -, hc⟩ := hc hn
      cases he
      have q0 := (hc 0 (by omega)).trans (show (sts ps)[0]? = some (.int .i64 ps[0].at_) from sts_at0 ps 0 hn)
      have q1 := (hc 1 (by omega)).trans (show (sts ps)[1]? = some (.int .i64 ps[0].val) from sts_at1 ps 0 hn)
      have q2 := (hc 2 (by omega)).trans (show (sts ps)[2]? = some (.bool ps[0].fl) from sts_at2 ps 0 hn)
      simp only [World.cell?, hb, Option.isSome_none, Bool.false_eq_true, if_false] at q0 q1 q2
      rcases o' with _ | _ | _ | _ | _ | _ | _ | _ | _ | _ | o' <;> simp at q0 q1 q2
    · exact o.block j hj (by omega)
  · have e : ps = [] := List.length_eq_zero_iff.1 (by omega)
    subst e
    exact Rd.none h o.size
theorem hard_tens (a0 a1 a2 a3 a4 a5 a8 : Option Addr) (n0 n1 n2 n3 n4 n5 n8 m0 m1 m2 m3 m4 m5 m8 : Nat) (k6 k7 : Int) (k9 : Bool) : softL (#[.slice a0 n0 m0, .slice a1 n1 m1, .slice a2 n2 m2, .slice a3 n3 m3, .slice a4 n4 m4, .slice a5 n5 m5, .int .i64 k6, .int .i64 k7, .slice a8 n8 m8, .bool k9] : Array Value).toList = true := rfl
/-- Devices stay where the box of a file system is written. -/
theorem dev_ten {w w' : World} {vW vP vS vQ : Value} {ws : List Int} {ps : List St} {es : List Int} {qs : List Se} {b : Nat} {t : TypeId} {fr : Nat × Nat} {a0 a1 a2 a3 a4 a5 a8 : Option Addr} {n0 n1 n2 n3 n4 n5 n8 m0 m1 m2 m3 m4 m5 m8 : Nat} {k6 k7 : Int} {k9 : Bool} (h : RdDev w (.agg #[vW, vP, vS, vQ]) ws ps es qs) (h1 : 3 ≤ ws.length) (h2 : 3 ≤ es.length) (hq : 0 < qs.length → ¬ vQ.ownBlock = some b) (o : Outside b (b + 1) w w') (hb : w.heap[b]? = some (.cells #[.slice a0 n0 m0, .slice a1 n1 m1, .slice a2 n2 m2, .slice a3 n3 m3, .slice a4 n4 m4, .slice a5 n5 m5, .int .i64 k6, .int .i64 k7, .slice a8 n8 m8, .bool k9] t fr)) : RdDev w' (.agg #[vW, vP, vS, vQ]) ws ps es qs := by
  have S : Soft w w' := Soft.outside o hb (hard_tens a0 a1 a2 a3 a4 a5 a8 n0 n1 n2 n3 n4 n5 n8 m0 m1 m2 m3 m4 m5 m8 k6 k7 k9)
  obtain ⟨_, _, _, _, e, ⟨_, _, e1, a, b'⟩, ⟨_, _, e2, c, d⟩⟩ := h
  cases e
  cases e1
  cases e2
  refine ⟨_, _, _, _, rfl, ⟨_, _, rfl, RdI.soft a S h1, RdS.ten b' o hb⟩, ⟨_, _, rfl, RdI.soft c S h2, ?_⟩⟩
  by_cases hn : 0 < qs.length
  · exact Rd.same d o.size (fun j hj he => o.block j hj (by have : ¬ j = b := fun e => hq hn (e ▸ he); omega))
  · have e : qs = [] := List.length_eq_zero_iff.1 (by omega)
    subst e
    exact Rd.none d o.size
/-- Writes that wait, that are the old ones or newer than the boxes. -/
theorem far_q {w w1 : World} {v : Value} {qs Q : List Se} {x : Value} {N : Nat} (h : RdE w x qs) (r : RdE w1 v Q) (f : v = x ∨ ∀ k, v.ownBlock = some k → N ≤ k) (b : Nat) (h1 : w.heap.size ≤ b) (h2 : b < N) : 0 < Q.length → ¬ v.ownBlock = some b := by
  intro hQ e
  rcases f with f | f
  · subst f
    obtain ⟨-, ao, cap, e1, -, hc⟩ := h
    obtain ⟨-, ao', cap', e2, -, -⟩ := r
    rw [e1] at e2
    injection e2 with i1 i2 i3
    obtain ⟨b', o', rfl, hlt, -⟩ := hc (by omega)
    rw [e1] at e
    have e : b' = b := by simpa [Value.ownBlock] using e
    omega
  · have := f b e
    omega
/-- What is left of the steps behind the first. -/
theorem tail1 {w : World} {b o cap : Nat} {m : Mi} {t : List Mi} (h : RdM w (.slice (some ⟨b, o, none⟩) (m :: t).length cap) (m :: t)) : RdM w (.slice (if cap = 1 then some ⟨b, o, none⟩ else some ⟨b, o + 3, none⟩) t.length (cap - 1)) t := by
  obtain ⟨-, ao, cp, e, ⟨hc1, -⟩, hc⟩ := h
  cases e
  simp only [List.length_cons] at hc1
  obtain ⟨b', o', e', hb, hcl⟩ := hc (by simp)
  cases e'
  refine ⟨mis_len t, _, _, rfl, ⟨by omega, fun e => by split at e <;> cases e⟩, fun hp => ⟨b, o + 3, by rw [if_neg (by omega)], hb, fun j hj => ?_⟩⟩
  have := hcl (3 + j) (by simp only [List.length_cons]; omega)
  rw [Nat.add_assoc, this, show 3 + j = j + 3 by omega]
  simp [mis, Mi.cells]
set_option maxRecDepth 100000 in
set_option maxHeartbeats 16000000 in
theorem l10Step_gen (v : Value) (m : Mi) (t : List Mi) (ws : List Int) (ps : List St) (es : List Int) (qs : List Se) (hs : List Int) (td : List Mi) (cd vl : Int) (nm : List ByteArray) (fr : Bool) (w : World) (htd : td = m :: t) (h : RdF w v ws ps es qs hs td cd vl nm fr) (hp : pmB ws ps = true) (hb : blkB es qs = true) (hm : miB m = true) (hf : fullB m ps qs = false) :
    Calls Tryz.prog 77 #[v] w fun e w' => ∃ v', e = .returned (.tuple #[v', .int .i64 0]) ∧ RdF w' v' (doW m ws ps) (doP m ps) (doE m es qs) (doQ m qs) hs t cd vl nm fr ∧ Below w.heap.size w w' := by
  subst htd
  obtain ⟨aW, cW, aP, cP, aS, cS, aQ, cQ, aH, cH, aT, cT, aN, cN, rfl, d1, h1, t1, n1⟩ := h
  obtain ⟨-, ao, cp, e0, hcap, hc⟩ := id t1
  cases e0
  obtain ⟨bT, oT, rfl, hbT, hcl⟩ := hc (by simp)
  have T2 := hideIt (tail1 t1)
  have EQ : Hid (RdE w (.slice aQ qs.length cQ) qs) := by
    obtain ⟨_, _, _, _, e, -, ⟨_, _, e2, -, d⟩⟩ := d1
    cases e
    cases e2
    exact d
  have L3 : Hid (3 ≤ (doW m ws ps).length ∧ 3 ≤ (doE m es qs).length) := by
    obtain ⟨q1, q2⟩ := do_ok hp hb hm hf
    have := (pmB_len q1).1
    have := (blkB_len q2).1
    exact hideIt (by omega)
  have g0 : w.cell? ⟨bT, oT, none⟩ = some (.int .i64 m.kind) := (hcl 0 (by simp only [List.length_cons]; omega)).trans (by simp [mis, Mi.cells])
  have g1 : w.cell? ⟨bT, oT + 1, none⟩ = some (.int .i64 m.at_) := (hcl 1 (by simp only [List.length_cons]; omega)).trans (by simp [mis, Mi.cells])
  have g2 : w.cell? ⟨bT, oT + 2, none⟩ = some (.int .i64 m.val) := (hcl 2 (by simp only [List.length_cons]; omega)).trans (by simp [mis, Mi.cells])
  have LD : Hid (∀ w1, Below w.heap.size w w1 → Calls Tryz.prog 139 #[.agg #[.slice aW ws.length cW, .slice aP ps.length cP, .slice aS es.length cS, .slice aQ qs.length cQ], .agg #[.int .i64 m.kind, .int .i64 m.at_, .int .i64 m.val]] w1 fun e w' => ∃ yW yP yS yQ, e = .returned (.agg #[yW, yP, yS, yQ]) ∧ RdDev w' (.agg #[yW, yP, yS, yQ]) (doW m ws ps) (doP m ps) (doE m es qs) (doQ m qs) ∧ (yQ = .slice aQ qs.length cQ ∨ ∀ k, yQ.ownBlock = some k → w1.heap.size ≤ k) ∧ Below w1.heap.size w1 w') := fun w1 hb1 => l04Do_far _ _ _ _ _ m ws ps es qs w1 (d1.below hb1) rfl hp hb hm
  have RH := hideIt h1
  have RN := hideIt n1
  generalize doW m ws ps = W2 at *
  generalize doP m ps = P2 at *
  generalize doE m es qs = E2 at *
  generalize doQ m qs = Q2 at *
  obtain ⟨mk, ma, mv⟩ := m
  simp only [List.length_cons] at *
  clear d1 h1 t1 n1 hc hcl hp hb hm hf
  obtain ⟨V, hV⟩ : ∃ V, V = ((w.alloc (.cells #[.slice aW ws.length cW, .slice aP ps.length cP, .slice aS es.length cS, .slice aQ qs.length cQ, .slice aH hs.length cH, .slice (some ⟨bT, oT, none⟩) (t.length + 1) cT, .int .i64 cd, .int .i64 vl, .slice aN nm.length cN, .bool fr] 50)).alloc (.cells #[.slice none 0 0, .slice none 0 0, .slice none 0 0, .slice none 0 0, .slice none 0 0, .slice none 0 0, .int .i64 0, .int .i64 0, .slice none 0 0, .bool false] 50)) := ⟨_, rfl⟩
  have zV : w.heap.size + 2 ≤ V.heap.size := by rw [hV]; simp <;> omega
  have B_V : Hid (Below w.heap.size w V) := by rw [hV]; exact (((Below.refl _ _).alloc (by simp <;> omega) _).alloc (by simp <;> omega) _)
  have X0_V : Hid (V.heap[w.heap.size]? = some (.cells #[.slice aW ws.length cW, .slice aP ps.length cP, .slice aS es.length cS, .slice aQ qs.length cQ, .slice aH hs.length cH, .slice (some ⟨bT, oT, none⟩) (t.length + 1) cT, .int .i64 cd, .int .i64 vl, .slice aN nm.length cN, .bool fr] 50 (0, 0))) := by rw [hV]; exact (at_old (at_new rfl))
  have X1_V : Hid (V.heap[w.heap.size + 1]? = some (.cells #[.slice none 0 0, .slice none 0 0, .slice none 0 0, .slice none 0 0, .slice none 0 0, .slice none 0 0, .int .i64 0, .int .i64 0, .slice none 0 0, .bool false] 50 (0, 0))) := by rw [hV]; exact (at_new (by simp))
  go_enter Tryz.func77, Tryz.ntmps77
  go_upto_region 1 with fail
  rw [← hV]
  clear hV
  have e0 := (B_V.out.cell (p := ⟨bT, oT, none⟩) hbT).trans g0
  have e1 := (B_V.out.cell (p := ⟨bT, oT + 1, none⟩) hbT).trans g1
  have e2 := (B_V.out.cell (p := ⟨bT, oT + 2, none⟩) hbT).trans g2
  clear g0 g1 g2
  have nz : ¬ ((t.length : Int) + 1 = 0) := by omega
  have pz : (0 : Int) < (t.length : Int) + 1 := by omega
  obtain ⟨c0_0, c0_1, c0_2, c0_3, -, c0_5, -, -, -, -, f0_0, f0_1, f0_2, f0_3, -, f0_5, -, -, -, -⟩ := ten_cells X0_V.out
  go_upto_region 3 with fail
  go_region_law (go_simp; go_at_call 139; refine (LD.out _ (below_trans B_V.out (by repeat (first | with_reducible exact Below.refl _ _ | with_reducible refine Below.drew ?_)) B_V.out.size)).mono ?_; rintro e wf ⟨yW, yP, yS, yQ, rfl, hrf, hfar, hbf⟩; have BF : Hid (Below V.heap.size V wf) := belY (by repeat (first | with_reducible exact Below.refl _ _ | with_reducible refine Below.drew ?_)) hbf; have RF := hideIt hrf; obtain ⟨iW, jW, iP, jP, iS, jS, iQ, jQ, ei, -, -⟩ := hrf.form; cases ei; have FF : Hid (Value.slice iQ Q2.length jQ = .slice aQ qs.length cQ ∨ ∀ k, (Value.slice iQ Q2.length jQ).ownBlock = some k → V.heap.size ≤ k) := hfar; have DB := hideIt (box_below X0_V.out BF.out (lt_box X0_V.out)); obtain ⟨z0, z1, z2, z3, z4, z5, z6, z7, z8, z9, k0, k1, k2, k3, k4, k5, k6, k7, k8, k9⟩ := ten_cells DB.out; clear hrf hbf hfar)
  all_goals
    have FQ : Hid (∀ b, w.heap.size ≤ b → b < V.heap.size → 0 < Q2.length → ¬ (Value.slice iQ Q2.length jQ).ownBlock = some b) := fun b hb1 hb2 => far_q EQ.out (by obtain ⟨_, _, _, _, e, -, ⟨_, _, e2, -, d⟩⟩ := RF.out; cases e; cases e2; exact d) FF.out b hb1 hb2
    have zwf : V.heap.size ≤ wf.heap.size := BF.out.size
    have B_wf := hideIt (below_trans B_V.out BF.out B_V.out.size)
    have X0_wf := DB
    have X1_wf := hideIt (box_below X1_V.out BF.out (lt_box X1_V.out))
    have RD_wf := RF
    clear z0 z1 z2 z3 z4 z5 z6 z7 z8 z9 k0 k1 k2 k3 k4 k5 k6 k7 k8 k9 c0_0 c0_1 c0_2 c0_3 c0_5 f0_0 f0_1 f0_2 f0_3 f0_5 e0 e1 e2 BF RF FF DB LD EQ B_V X0_V X1_V nz
    obtain ⟨w1, hw1⟩ : ∃ w1, w1 = ((((wf.setCell ⟨w.heap.size, 0, none⟩ (.slice iW W2.length jW)).setCell ⟨w.heap.size, 1, none⟩ (.slice iP P2.length jP)).setCell ⟨w.heap.size, 2, none⟩ (.slice iS E2.length jS)).setCell ⟨w.heap.size, 3, none⟩ (.slice iQ Q2.length jQ)) := ⟨_, rfl⟩
    have Ow1 : Outside (w.heap.size) (w.heap.size + 1) wf w1 := by
      rw [hw1]
      repeat (refine Outside.setCell ?_ (by simp only; omega) (by simp only; omega) _)
      exact Outside.refl _ _ _
    have zw1 : wf.heap.size ≤ w1.heap.size ∧ w1.heap.size ≤ wf.heap.size := by rw [hw1]; simp [World.setCell]
    have B_w1 := hideIt (B_wf.out.trans (Ow1.below (B := w.heap.size) (by omega) B_wf.out.size))
    have X1_w1 := hideIt ((Ow1.block (w.heap.size + 1) (lt_box X1_wf.out) (by omega)).trans X1_wf.out)
    have X0_w1 : Hid (w1.heap[w.heap.size]? = some (.cells #[.slice iW W2.length jW, .slice iP P2.length jP, .slice iS E2.length jS, .slice iQ Q2.length jQ, .slice aH hs.length cH, .slice (some ⟨bT, oT, none⟩) (t.length + 1) cT, .int .i64 cd, .int .i64 vl, .slice aN nm.length cN, .bool fr] 50 (0, 0))) := by rw [hw1]; exact (ten_set3 (ten_set2 (ten_set1 (ten_set0 X0_wf.out _) _) _) _)
    have RD_w1 := hideIt (dev_ten RD_wf.out L3.out.1 L3.out.2 (FQ.out (w.heap.size) (by omega) (by omega)) Ow1 X0_wf.out)
    clear Ow1
    obtain ⟨d0, d1, d2, d3, d4, d5, d6, d7, d8, d9, g0, g1, g2, g3, g4, g5, g6, g7, g8, g9⟩ := ten_cells X0_wf.out
    go_upto_region 4 with fail
    rw [← hw1]
    clear hw1
    clear d0 d1 d2 d3 d4 d5 d6 d7 d8 d9 g0 g1 g2 g3 g4 g5 g6 g7 g8 g9 B_wf X0_wf X1_wf RD_wf
    obtain ⟨w2, hw2⟩ : ∃ w2, w2 = (w1.setCell ⟨w.heap.size, 5, none⟩ (.slice (if cT = 1 then some ⟨bT, oT, none⟩ else some ⟨bT, oT + 3, none⟩) t.length (cT - 1))) := ⟨_, rfl⟩
    have Ow2 : Outside (w.heap.size) (w.heap.size + 1) w1 w2 := by
      rw [hw2]
      repeat (refine Outside.setCell ?_ (by simp only; omega) (by simp only; omega) _)
      exact Outside.refl _ _ _
    have zw2 : w1.heap.size ≤ w2.heap.size ∧ w2.heap.size ≤ w1.heap.size := by rw [hw2]; simp [World.setCell]
    have B_w2 := hideIt (B_w1.out.trans (Ow2.below (B := w.heap.size) (by omega) B_w1.out.size))
    have X1_w2 := hideIt ((Ow2.block (w.heap.size + 1) (lt_box X1_w1.out) (by omega)).trans X1_w1.out)
    have X0_w2 : Hid (w2.heap[w.heap.size]? = some (.cells #[.slice iW W2.length jW, .slice iP P2.length jP, .slice iS E2.length jS, .slice iQ Q2.length jQ, .slice aH hs.length cH, .slice (if cT = 1 then some ⟨bT, oT, none⟩ else some ⟨bT, oT + 3, none⟩) t.length (cT - 1), .int .i64 cd, .int .i64 vl, .slice aN nm.length cN, .bool fr] 50 (0, 0))) := by rw [hw2]; exact (ten_set5 X0_w1.out _)
    have RD_w2 := hideIt (dev_ten RD_w1.out L3.out.1 L3.out.2 (FQ.out (w.heap.size) (by omega) (by omega)) Ow2 X0_w1.out)
    clear Ow2
    obtain ⟨d0, d1, d2, d3, d4, d5, d6, d7, d8, d9, g0, g1, g2, g3, g4, g5, g6, g7, g8, g9⟩ := ten_cells X0_w1.out
    go_upto_region 5 with fail
    rw [← hw2]
    clear hw2
    clear d0 d1 d2 d3 d4 d5 d6 d7 d8 d9 g0 g1 g2 g3 g4 g5 g6 g7 g8 g9 B_w1 X0_w1 X1_w1 RD_w1
    obtain ⟨aX, hX⟩ : ∃ aX, aX = (if cT = 1 then some (⟨bT, oT, none⟩ : Addr) else some ⟨bT, oT + 3, none⟩) := ⟨_, rfl⟩
    obtain ⟨cX, hcX⟩ : ∃ cX, cX = cT - 1 := ⟨_, rfl⟩
    rw [← hX, ← hcX] at T2 X0_w2
    clear hX hcX
    obtain ⟨c0_0, c0_1, c0_2, c0_3, c0_4, c0_5, c0_6, c0_7, c0_8, c0_9, -⟩ := ten_cells X0_w2.out
    obtain ⟨w3, hw3⟩ : ∃ w3, w3 = ((((((((((w2.setCell ⟨w.heap.size + 1, 0, none⟩ (.slice iW W2.length jW)).setCell ⟨w.heap.size + 1, 1, none⟩ (.slice iP P2.length jP)).setCell ⟨w.heap.size + 1, 2, none⟩ (.slice iS E2.length jS)).setCell ⟨w.heap.size + 1, 3, none⟩ (.slice iQ Q2.length jQ)).setCell ⟨w.heap.size + 1, 4, none⟩ (.slice aH hs.length cH)).setCell ⟨w.heap.size + 1, 5, none⟩ (.slice aX t.length cX)).setCell ⟨w.heap.size + 1, 6, none⟩ (.int .i64 cd)).setCell ⟨w.heap.size + 1, 7, none⟩ (.int .i64 vl)).setCell ⟨w.heap.size + 1, 8, none⟩ (.slice aN nm.length cN)).setCell ⟨w.heap.size + 1, 9, none⟩ (.bool fr)) := ⟨_, rfl⟩
    have Ow3 : Outside (w.heap.size + 1) (w.heap.size + 1 + 1) w2 w3 := by
      rw [hw3]
      repeat (refine Outside.setCell ?_ (by simp only; omega) (by simp only; omega) _)
      exact Outside.refl _ _ _
    have zw3 : w2.heap.size ≤ w3.heap.size ∧ w3.heap.size ≤ w2.heap.size := by rw [hw3]; simp [World.setCell]
    have B_w3 := hideIt (B_w2.out.trans (Ow3.below (B := w.heap.size) (by omega) B_w2.out.size))
    have X0_w3 := hideIt ((Ow3.block (w.heap.size) (lt_box X0_w2.out) (by omega)).trans X0_w2.out)
    have X1_w3 : Hid (w3.heap[w.heap.size + 1]? = some (.cells #[.slice iW W2.length jW, .slice iP P2.length jP, .slice iS E2.length jS, .slice iQ Q2.length jQ, .slice aH hs.length cH, .slice aX t.length cX, .int .i64 cd, .int .i64 vl, .slice aN nm.length cN, .bool fr] 50 (0, 0))) := by rw [hw3]; exact (ten_set9 (ten_set8 (ten_set7 (ten_set6 (ten_set5 (ten_set4 (ten_set3 (ten_set2 (ten_set1 (ten_set0 X1_w2.out _) _) _) _) _) _) _) _) _) _)
    have RD_w3 := hideIt (dev_ten RD_w2.out L3.out.1 L3.out.2 (FQ.out (w.heap.size + 1) (by omega) (by omega)) Ow3 X1_w2.out)
    clear Ow3
    obtain ⟨d0, d1, d2, d3, d4, d5, d6, d7, d8, d9, g0, g1, g2, g3, g4, g5, g6, g7, g8, g9⟩ := ten_cells X1_w2.out
    go_wp2
    all_goals
      refine bodyPost_ret (v := .tuple #[.agg #[.slice iW W2.length jW, .slice iP P2.length jP, .slice iS E2.length jS, .slice iQ Q2.length jQ, .slice aH hs.length cH, .slice aX t.length cX, .int .i64 cd, .int .i64 vl, .slice aN nm.length cN, .bool fr], .int .i64 0]) (by simp [results, Tryz.results77, go_sem, d0, d1, d2, d3, d4, d5, d6, d7, d8, d9]) rfl ?_
      rw [← hw3]
      exact ⟨_, rfl, ⟨_, _, _, _, _, _, _, _, _, _, _, _, _, _, rfl, RD_w3.out, Rd.below RH.out B_w3.out, Rd.below T2.out B_w3.out, Rd.below RN.out B_w3.out⟩, B_w3.out⟩
end Go.Proofs.YtipklbnfobckaaaGreatDoor

namespace Go.Proofs.YtipklbnfobckaaaGreatDoor
open Go.RowKit

def deR (hs : List Int) : List Int × Int := if 4096 < hs.length then ([], 2) else if heatB hs = true then (decH hs 128, 0) else ([], 1)
theorem heat_parts {hs : List Int} (h : heatB hs = true) : hs.length = 128 ∧ ∀ k (h : k < hs.length), 0 ≤ hs[k] ∧ hs[k] ≤ 64 := of_decide_eq_true h
theorem own_blk {w : World} {base : Nat} {e : TypeId} {size : Nat} {v : Value} {n : Nat} {xs : List Value} (h : w.ownsRow base e size v n xs) (hn : 0 < n) : ∃ b c, v = .slice (some ⟨b, 0, none⟩) n c ∧ n ≤ c := by
  rcases (own_block h).shape with ⟨_, e, _⟩ | ⟨b, c, rfl, hc, _⟩
  · omega
  · exact ⟨b, c, rfl, hc⟩
/-- Numbers that are told. -/
def InOut (w w' : World) (e : Ending) (r : List Int × Int) : Prop := ∃ v', e = .returned (.tuple #[v', .int .i64 r.2]) ∧ Row w' 3 1 w.heap.size w'.heap.size v' r.1.length (ints r.1) ∧ Below w.heap.size w w'
end Go.Proofs.YtipklbnfobckaaaGreatDoor
