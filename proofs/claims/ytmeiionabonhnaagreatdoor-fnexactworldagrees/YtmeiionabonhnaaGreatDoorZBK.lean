/- Several texts laid together: DtG, MdF, OrdT. -/
import Derived.Test.YtmeiionabonhnaaGreatDoorZBD
import Derived.Test.YtmeiionabonhnaaGreatDoorZAO
import Derived.Deep.LoopGhost
import Derived.Test.YtmeiionabonhnaaGreatDoorZAA
import Derived.OrdersHeld
namespace Go.Proofs.YtmeiionabonhnaaGreatDoor
open Go.RowKit
theorem pgL_len (ws : List Int) (ps : List St) (es : List Int) (qs : List Se) (x : Ino) (k : Nat) : (pgL ws ps es qs x k).length = k := by simp [pgL]
set_option maxRecDepth 100000 in
set_option maxHeartbeats 8000000 in
theorem l08Pages_any (v : Value) (ws : List Int) (ps : List St) (es : List Int) (qs : List Se) (x : Ino) (w : World) (hd : RdDev w v ws ps es qs) (hP : pmB ws ps = true) (hB : blkB es qs = true) (hx : inoB x = true) :
    Calls Tryz.prog 95 #[v, x.v] w fun e w' => ∃ v', e = .returned v' ∧ Row w' 3 1 w.heap.size w'.heap.size v' (pgL ws ps es qs x x.size.toNat).length (ints (pgL ws ps es qs x x.size.toNat)) ∧ Below w.heap.size w w' := by
  have hv : x.v = .agg x.cs.toArray := rfl
  have LV := hideIt (fun w1 (hb : Below w.heap.size w w1) z (hz : tieB z = true) => l08Value_any v ws ps es qs z w1 (hd.below hb) hP hB hz)
  have TI : Hid (∀ j : Nat, j < 8 → tieB (x.map.getD j 0) = true) := fun j hj => by
    refine (ino_ties hx).1 _ ?_
    rw [List.getD_eq_getElem?_getD, List.getElem?_eq_getElem (show j < x.map.length from hj)]
    exact List.getElem_mem _
  obtain ⟨N, hN⟩ : ∃ N : Nat, x.size = (N : Int) := ⟨x.size.toNat, by have := (ino_parts hx).2.1; omega⟩
  have N8 : N ≤ 8 := by have := (ino_parts hx).2.1; omega
  obtain ⟨dW, eW, dP, eP, dS, eS, dQ, eQ, rfl, -, -⟩ := hd.form
  have EN := hideIt (show x.size.toNat = N by omega)
  rw [EN.out]
  clear hd hP hB hx EN
  obtain ⟨W, hW⟩ : ∃ W, W = (w.alloc (.cells #[.slice dW ws.length eW, .slice dP ps.length eP, .slice dS es.length eS, .slice dQ qs.length eQ] 71)).alloc (.cells x.cs.toArray 150) := ⟨_, rfl⟩
  have hzW : W.heap.size = w.heap.size + 1 + 1 := by rw [hW]; simp
  have CD : Hid (∀ w', Below W.heap.size W w' → w'.cell? ⟨w.heap.size, 0, none⟩ = some (.slice dW ws.length eW) ∧ w'.cell? ⟨w.heap.size, 1, none⟩ = some (.slice dP ps.length eP) ∧ w'.cell? ⟨w.heap.size, 2, none⟩ = some (.slice dS es.length eS) ∧ w'.cell? ⟨w.heap.size, 3, none⟩ = some (.slice dQ qs.length eQ)) := fun w' hb => by
    have : w'.heap[w.heap.size]? = some (.cells #[.slice dW ws.length eW, .slice dP ps.length eP, .slice dS es.length eS, .slice dQ qs.length eQ] 71 (0, 0)) := (hb.block _ (by omega)).trans (by rw [hW]; exact at_old (at_new rfl))
    obtain ⟨x0, x1, x2, x3, -, -, -, -⟩ := four_cells this
    exact ⟨x0, x1, x2, x3⟩
  have CA : Hid (∀ w', Below W.heap.size W w' → ∀ j, w'.cell? ⟨w.heap.size + 1, j, none⟩ = x.cs[j]?) := fun w' hb j => by
    have : w'.heap[w.heap.size + 1]? = some (.cells x.cs.toArray 150 (0, 0)) := (hb.block _ (by omega)).trans (by
      rw [hW]
      have := at_new (w := w.alloc (.cells #[.slice dW ws.length eW, .slice dP ps.length eP, .slice dS es.length eS, .slice dQ qs.length eQ] 71)) (o := .cells x.cs.toArray 150) rfl
      rw [World.size_alloc] at this
      exact this)
    exact (eight_at (xs := x.cs) this j).1
  have CS : Hid (∀ w', Below W.heap.size W w' → w'.cell? ⟨w.heap.size + 1, 1, none⟩ = some (.int .i64 (N : Int))) := fun w' hb => (CA.out w' hb 1).trans (by rw [← hN]; rfl)
  have CM : Hid (∀ w', Below W.heap.size W w' → ∀ m, m < 8 → w'.cell? ⟨w.heap.size + 1, 3 + m, none⟩ = some (.int .i64 (x.map.getD m 0))) := fun w' hb m hm => (CA.out w' hb (3 + m)).trans (x.at m hm)
  have BW : Hid (Below w.heap.size w W) := by rw [hW]; exact ((Below.refl _ _).alloc (Nat.le_refl _) _).alloc (by simp) _
  have hz : w.heap.size + 1 < W.heap.size := by omega
  have START : Hid (InI W (W.alloc (.cells #[] 3)) (.slice (some ⟨W.heap.size, 0, none⟩) 0 0) (pgL ws ps es qs x 0)) := ⟨World.ownsRow_lit W #[] 0 (Nat.le_refl _) (by simp [maxLen]) (by simp), (Below.refl _ _).alloc (Nat.le_refl _) _⟩
  clear CA hN hzW
  rw [hv]
  go_enter Tryz.func95, Tryz.ntmps95
  go_wp2
  rw [hW] at START
  simp only [World.size_alloc] at START
  go_loopw [5, 6] (fun vL i wr => ∃ m : Nat, m ≤ N ∧ i = .int .i64 (m : Int) ∧ Hid (InI W wr vL (pgL ws ps es qs x m))) (fun _ i _ => N - (intOf i).toNat)
  case atStart => exact ⟨0, by omega, rfl, by rw [hW]; exact START.out⟩
  case round =>
    obtain ⟨m, hm, rfl, J⟩ := hrel
    clear START hW
    have x1 := CS.out wr J.out.b
    have m0 : (0 : Int) ≤ (m : Int) := by omega
    have JW := hideIt (below_trans BW.out J.out.b BW.out.size)
    by_cases hlt : m < N
    · have m1 : (m : Int) < (N : Int) := by omega
      have m8 : (m : Int) < 8 := by omega
      have n8 : m < 8 := by omega
      have LV2 := hideIt (fun w1 hb => LV.out w1 hb _ (TI.out m n8))
      have EM := hideIt (pgL_step ws ps es qs x m)
      have KE : Hid (∀ w', Below W.heap.size W w' → w'.cell? ⟨w.heap.size, 0, none⟩ = some (.slice dW ws.length eW) ∧ w'.cell? ⟨w.heap.size, 1, none⟩ = some (.slice dP ps.length eP) ∧ w'.cell? ⟨w.heap.size, 2, none⟩ = some (.slice dS es.length eS) ∧ w'.cell? ⟨w.heap.size, 3, none⟩ = some (.slice dQ qs.length eQ) ∧ w'.cell? ⟨w.heap.size + 1, 3 + m, none⟩ = some (.int .i64 (x.map.getD m 0))) := fun w' hb =>
        ⟨(CD.out w' hb).1, (CD.out w' hb).2.1, (CD.out w' hb).2.2.1, (CD.out w' hb).2.2.2, CM.out w' hb m n8⟩
      have l2 : (pgL ws ps es qs x m).length ≤ 8 := by rw [pgL_len]; omega
      generalize pgV ws ps es qs (x.map.getD m 0) = y at *
      generalize x.map.getD m 0 = z at *
      obtain ⟨r0, r1, r2, r3, r4⟩ := KE.out wr J.out.b
      go_wp2_with fail
      go_region_held3 (fun w' => w'.cell? ⟨w.heap.size, 0, none⟩ = some (.slice dW ws.length eW) ∧ w'.cell? ⟨w.heap.size, 1, none⟩ = some (.slice dP ps.length eP) ∧ w'.cell? ⟨w.heap.size, 2, none⟩ = some (.slice dS es.length eS) ∧ w'.cell? ⟨w.heap.size, 3, none⟩ = some (.slice dQ qs.length eQ) ∧ w'.cell? ⟨w.heap.size + 1, 3 + m, none⟩ = some (.int .i64 z))
        (first | with_reducible exact KE.out _ G.out.b | with_reducible exact KE.out _ J4.out.b | with_reducible exact KE.out _ J3.out.b | with_reducible exact KE.out _ J.out.b | with_reducible exact KE.out _ J.out.b.drew)
        (first
          | (go_at_call 147; refine (LV2.out _ (by first | with_reducible exact JW.out | with_reducible exact JW.out.drew)).mono ?_; rintro e w3 ⟨rfl, hb3⟩; have J3 := hideIt (J.out.below (below_of_drew hb3)); clear hb3; obtain ⟨s0, s1, s2, s3, s4⟩ := KE.out _ J3.out.b; have J4 := hideIt (J3.out.below ((Below.refl _ _).alloc (Nat.le_refl _) (.cells #[.int .i64 y] 3))); have RB := hideIt (rd_int w3 y); have hz4 := J4.out.z)
          | (refine step_append_rd rfl (.tmp 14) (.tmp 21) 43 rfl W.heap.size 3 (.int .i64 0) 1 8 Tryz.underlying43 info3 rfl (by decide) _ _ _ rfl J4.out.l _ 1 _ rfl RB.out (one_int _) (by simp [maxLen]; omega) (by omega) hz4 ?_; intro vN wN hownN hgrN; have G := hideIt (J4.out.grow y hownN hgrN); clear hownN hgrN))
      all_goals
        rw [← EM.out] at G
        clear J J3 J4 RB r0 r1 r2 r3 r4 s0 s1 s2 s3 s4 x1
        go_wp2
        go_roundw
        case rel => exact ⟨m + 1, by omega, by go_num, G⟩
        case measure => simp [intOf]; omega
    · obtain rfl : m = N := by omega
      obtain ⟨-, aN, cN, hvN, -⟩ := (own_block J.out.l).rd
      subst hvN
      go_wp2
      go_ret
      exact ⟨_, rfl, (own_block J.out.l).wide (by omega) (Nat.le_refl _), JW.out⟩
end Go.Proofs.YtmeiionabonhnaaGreatDoor

namespace Go.Proofs.YtmeiionabonhnaaGreatDoor
open Go.RowKit
def ofT (ws : List Int) (ps : List St) (es : List Int) (qs : List Se) (x : Ino) : Th := ⟨x.kind, x.links, pgL ws ps es qs x x.size.toNat⟩
def ofL (ws : List Int) (ps : List St) (es : List Int) (qs : List Se) (ns : List Ino) : List Th := ns.map (ofT ws ps es qs)
theorem ofL_take {ws : List Int} {ps : List St} {es : List Int} {qs : List Se} {ns : List Ino} {k : Nat} (h : k < ns.length) : ofL ws ps es qs (ns.take (k + 1)) = ofL ws ps es qs (ns.take k) ++ [ofT ws ps es qs ns[k]] := by
  unfold ofL
  rw [List.take_add_one, List.getElem?_eq_getElem h, List.map_append]
  rfl
theorem thv_ones (t : Th) (a : Option Addr) (n c : Nat) : ∀ u ∈ thv [(t, .slice a n c)], u.oneCell' = true := by
  intro u hu
  simp [thv, thc] at hu
  rcases hu with rfl | rfl | rfl <;> rfl
theorem rd_thing (w1 : World) (t : Th) (v : Value) : Rd (w1.alloc (.cells #[.int .i64 t.kind, .int .i64 t.links, v] 102)) 3 (.slice (some ⟨w1.heap.size, 0, none⟩) 1 1) 1 (thv [(t, v)]) := by
  refine ⟨rfl, _, _, rfl, ⟨Nat.le_refl _, fun e => by cases e⟩, fun _ => ⟨w1.heap.size, 0, rfl, by simp, fun j hj => ?_⟩⟩
  rw [Nat.zero_add]
  exact (eight_at (xs := thc (t, v)) (at_new rfl) j).1
theorem th_mdT : (102 : Nat) ≠ 33 := by decide
theorem de_mdT : (140 : Nat) ≠ 33 := by decide
theorem in_mdT : (3 : Nat) ≠ 33 := by decide
theorem in_thT : (3 : Nat) ≠ 102 := by decide
theorem de_thT : (140 : Nat) ≠ 102 := by decide
structure RimT (W w : World) (bM : Nat) (vT vD : Value) (us : List (Th × Value)) (ds : List Den) : Prop where
  m : w.heap[bM]? = some (.cells #[vT, vD] 33 (0, 0))
  t : w.ownsRow W.heap.size 102 3 vT us.length (thv us)
  p : ∀ k (h : k < us.length), w.ownsRow W.heap.size 3 1 us[k].2 us[k].1.pages.length (ints us[k].1.pages)
  d : w.ownsRow W.heap.size 140 3 vD ds.length (dens ds)
  b : Below W.heap.size W w
  hb : W.heap.size ≤ bM
theorem RimT.lt {W w : World} {bM : Nat} {vT vD : Value} {us : List (Th × Value)} {ds : List Den} (h : RimT W w bM vT vD us ds) : bM < w.heap.size := (Array.getElem?_eq_some_iff.1 h.m).1
theorem RimT.z {W w : World} {bM : Nat} {vT vD : Value} {us : List (Th × Value)} {ds : List Den} (h : RimT W w bM vT vD us ds) : W.heap.size ≤ w.heap.size := h.b.size
theorem RimT.below {W w w' : World} {bM : Nat} {vT vD : Value} {us : List (Th × Value)} {ds : List Den} (h : RimT W w bM vT vD us ds) (hb : Below w.heap.size w w') : RimT W w' bM vT vD us ds :=
  ⟨(hb.block _ h.lt).trans h.m, ((own_block h.t).below hb (Nat.le_refl _)).1, fun k hk => ((own_block (h.p k hk)).below hb (Nat.le_refl _)).1, ((own_block h.d).below hb (Nat.le_refl _)).1, below_trans h.b hb h.z, h.hb⟩
theorem RimT.grow {W w w' : World} {bM : Nat} {vT vD v' : Value} {us : List (Th × Value)} {ds : List Den} (h : RimT W w bM vT vD us ds) (x : Th × Value) (hx : w.ownsRow W.heap.size 3 1 x.2 x.1.pages.length (ints x.1.pages)) (ho : w'.ownsRow W.heap.size 102 3 v' (us.length + 1) (thv us ++ thv [x])) (hg : w.grownBy w' vT.ownBlock) :
    w'.heap[bM]? = some (.cells #[vT, vD] 33 (0, 0)) ∧ RimT W (w'.setCell ⟨bM, 0, none⟩ v') bM v' vD (us ++ [x]) ds := by
  have hm : w'.heap[bM]? = some (.cells #[vT, vD] 33 (0, 0)) := (hg.block _ h.lt (own_type h.t h.m th_mdT).symm).trans h.m
  have hd := (Row.apart (own_block h.d) (own_block h.t) de_thT hg).1
  have hbw := h.b.grown hg h.z (fun q hq => (h.t.lt q hq).1)
  have hm2 : (w'.setCell ⟨bM, 0, none⟩ v').heap[bM]? = some (.cells #[v', vD] 33 (0, 0)) := eight_set (xs := [vT, vD]) hm 0 v'
  have keep : ∀ {v : Value} {n : Nat} {xs : List Value}, w.ownsRow W.heap.size 3 1 v n xs → (w'.setCell ⟨bM, 0, none⟩ v').ownsRow W.heap.size 3 1 v n xs := fun r => by
    have q := (Row.apart (own_block r) (own_block h.t) in_thT hg).1
    exact ownsRow_setCell_other q (own_type q hm in_mdT) _
  refine ⟨hm, hm2, ?_, fun k hk => ?_, ?_, hbw.setCell h.hb _, h.hb⟩
  · rw [thv_app, List.length_append]
    exact ownsRow_setCell_other ho (own_type ho hm th_mdT) _
  · by_cases e : k < us.length
    · rw [List.getElem_append_left e]
      exact keep (h.p k e)
    · have ek : k = us.length := by rw [List.length_append] at hk; simp at hk; omega
      subst ek
      rw [List.getElem_append_right (Nat.le_refl _)]
      simp only [Nat.sub_self, List.getElem_cons_zero]
      exact keep hx
  · exact ownsRow_setCell_other hd (own_type hd hm de_mdT) _
theorem RimT.startE {W w2 : World} {b : Nat} {vD : Value} {ds : List Den} (ho : w2.ownsRow W.heap.size 140 3 vD ds.length (dens ds)) (hr : w2.ownsRow W.heap.size 102 3 (.slice (some ⟨b, 0, none⟩) 0 0) 0 []) (hb : Below W.heap.size W w2) : RimT W (w2.alloc (.cells #[.slice (some ⟨b, 0, none⟩) 0 0, vD] 33)) w2.heap.size (.slice (some ⟨b, 0, none⟩) 0 0) vD [] ds := by
  have B : Below w2.heap.size w2 (w2.alloc (.cells #[.slice (some ⟨b, 0, none⟩) 0 0, vD] 33)) := (Below.refl _ _).alloc (Nat.le_refl _) _
  exact ⟨at_new rfl, ((own_block hr).below B (Nat.le_refl _)).1, fun k hk => absurd hk (by simp), ((own_block ho).below B (Nat.le_refl _)).1, below_trans hb B hb.size, hb.size⟩
theorem RimT.boxes {W w w' : World} {bM : Nat} {vT vD : Value} {us : List (Th × Value)} {ds : List Den} (h : RimT W w bM vT vD us ds) (hg : w.grownBy w' vT.ownBlock) : Below W.heap.size W w' ∧ ∀ (b : Nat) (cs : Array Value) (t : TypeId) (fr : Nat × Nat), w.heap[b]? = some (Obj.cells cs t fr) → (102 : Nat) ≠ t → w'.heap[b]? = some (Obj.cells cs t fr) :=
  ⟨h.b.grown hg h.z (fun q hq => (h.t.lt q hq).1), fun _ _ _ _ hb ne => (hg.block _ (Array.getElem?_eq_some_iff.1 hb).1 (own_type h.t hb ne).symm).trans hb⟩
theorem th_inT : (102 : Nat) ≠ 150 := by decide
def OwMd (w : World) (lo hi : Nat) (v : Value) (ts : List Th) (ds : List Den) : Prop := ∃ (vT vD : Value) (us : List (Th × Value)), v = .agg #[vT, vD] ∧ us.map Prod.fst = ts ∧ Row w 102 3 lo hi vT us.length (thv us) ∧ (∀ k (h : k < us.length), Row w 3 1 lo hi us[k].2 us[k].1.pages.length (ints us[k].1.pages)) ∧ Row w 140 3 lo hi vD ds.length (dens ds)
theorem OwMd.rd {w : World} {lo hi : Nat} {v : Value} {ts : List Th} {ds : List Den} (h : OwMd w lo hi v ts ds) : RdMd w v ts ds := by
  obtain ⟨vT, vD, us, rfl, e, a, b, c⟩ := h
  exact ⟨_, _, rfl, ⟨us, e, a.rd, fun k hk => (b k hk).rd⟩, c.rd⟩
theorem OwMd.outside {w w' : World} {lo hi : Nat} {v : Value} {ts : List Th} {ds : List Den} (h : OwMd w lo hi v ts ds) {lo' hi' : Nat} (ho : Outside lo' hi' w w') (hd : hi ≤ lo' ∨ hi' ≤ lo) (hz : hi ≤ w.heap.size) : OwMd w' lo hi v ts ds := by
  obtain ⟨vT, vD, us, rfl, e, a, b, c⟩ := h
  exact ⟨_, _, us, rfl, e, a.outside ho hd hz, fun k hk => (b k hk).outside ho hd hz, c.outside ho hd hz⟩
theorem OwMd.wide {w : World} {lo hi : Nat} {v : Value} {ts : List Th} {ds : List Den} (h : OwMd w lo hi v ts ds) {lo' hi' : Nat} (a1 : lo' ≤ lo) (b1 : hi ≤ hi') : OwMd w lo' hi' v ts ds := by
  obtain ⟨vT, vD, us, rfl, e, a, b, c⟩ := h
  exact ⟨_, _, us, rfl, e, a.wide a1 b1, fun k hk => (b k hk).wide a1 b1, c.wide a1 b1⟩
end Go.Proofs.YtmeiionabonhnaaGreatDoor

namespace Go.Proofs.YtmeiionabonhnaaGreatDoor
open Go.RowKit
section
variable {P : Program} {ops : Array Oper} {Q : Exit → Act → World → Prop} {md : Region.Mode} {S : World → Prop} {z : Nat}
def wpAnyT (P : Program) (md : Region.Mode) (ops : Array Oper) (Q : Exit → Act → World → Prop) (S : World → Prop) (z : Nat) : Nat → Array Bool → Act → World → Prop
  | 0, l, a, w => Region.ready md ops l = [] ∧ Q .normal a w
  | fuel + 1, l, a, w => (Region.ready md ops l = [] → Q .normal a w) ∧
    ∀ i ∈ Region.ready md ops l, wpOp P ops Q i (fun a' w' => (i ≠ z → S w') ∧ wpAnyT P md ops Q S z fuel (l.setIfInBounds i true) a' w') a w
theorem wpAny_of_T : ∀ (fuel : Nat) (l : Array Bool) (a : Act) (w : World), wpAnyT P md ops Q S z fuel l a w → wpAny P md ops Q fuel l a w
  | 0, _, _, _, h => h
  | fuel + 1, _, _, _, h => ⟨h.1, fun i hi => wpOp_mono (fun a' w' h' => wpAny_of_T fuel _ a' w' h'.2) (h.2 i hi)⟩
def DCl (md : Region.Mode) (ops : Array Oper) (l : Array Bool) : Prop := ∀ j oj, ops[j]? = some oj → l.getD j false = true → ∀ e ∈ oj.after, Region.binds md e = true → l.getD e.on false = true
def dcB (md : Region.Mode) (ops : Array Oper) (l : Array Bool) : Bool := (List.range ops.size).all fun j => !(l.getD j false) || ((ops[j]?).map (fun o => o.after.toList.all fun e => !(Region.binds md e) || l.getD e.on false)).getD true
theorem DCl.of {l : Array Bool} (h : dcB md ops l = true) : DCl md ops l := fun j oj hj hl e he hb => by
  unfold dcB at h
  rw [List.all_eq_true] at h
  have hjs : j < ops.size := (Array.getElem?_eq_some_iff.1 hj).1
  have q := h j (List.mem_range.2 hjs)
  rw [hl, hj] at q
  simp only [Bool.not_true, Bool.false_or, Option.map_some, Option.getD_some] at q
  rw [List.all_eq_true] at q
  have r := q e (Array.mem_toList_iff.2 he)
  rw [hb] at r
  simpa using r
theorem getD_keep {l : Array Bool} {j k : Nat} (h : l.getD k false = true) : (l.setIfInBounds j true).getD k false = true := by
  have hk : k < l.size := by
    rcases Nat.lt_or_ge k l.size with q | q
    · exact q
    · rw [Array.getD_eq_getD_getElem?, Array.getElem?_eq_none q] at h; cases h
  rw [Array.getD_eq_getD_getElem?] at h ⊢
  rw [Array.getElem?_setIfInBounds]
  by_cases e : j = k
  · subst e; simp [hk]
  · simp only [e, if_false]; exact h
theorem DCl.set {l : Array Bool} (h : DCl md ops l) {j : Nat} (hj : j ∈ Region.ready md ops l) : DCl md ops (l.setIfInBounds j true) := fun k ok hk hl e he hb => by
  obtain ⟨-, oj, hoj, hall⟩ := mem_ready.1 hj
  by_cases ek : k = j
  · subst ek
    obtain rfl := Option.some.inj (hoj.symm.trans hk)
    exact getD_keep (by simpa using hall e he hb)
  · rw [getD_set_ne false (Ne.symm ek)] at hl
    exact getD_keep (h k ok hk hl e he hb)
def pathB (md : Region.Mode) (ops : Array Oper) : Nat → List Nat → Bool
  | _, [] => true
  | i, k :: ks => ((ops[i]?).map (fun o => o.after.toList.any fun e => Region.binds md e && decide (e.on = k))).getD false && pathB md ops k ks
theorem edge_of {i k : Nat} (h : ((ops[i]?).map (fun o => o.after.toList.any fun e => Region.binds md e && decide (e.on = k))).getD false = true) : ∃ o, ops[i]? = some o ∧ ∃ e ∈ o.after, Region.binds md e = true ∧ e.on = k := by
  cases ho : ops[i]? with
  | none => rw [ho] at h; cases h
  | some o =>
    rw [ho] at h
    simp only [Option.map_some, Option.getD_some, List.any_eq_true, Bool.and_eq_true, decide_eq_true_eq] at h
    obtain ⟨e, he, hb, hk⟩ := h
    exact ⟨o, rfl, e, Array.mem_toList_iff.1 he, hb, hk⟩
theorem path_listed {l : Array Bool} (h : DCl md ops l) : ∀ (i : Nat) (ks : List Nat), pathB md ops i ks = true → l.getD i false = true → ∀ k ∈ ks, l.getD k false = true
  | _, [], _, _ => fun k hk => by cases hk
  | i, k :: ks, hp, hl => fun j hj => by
    unfold pathB at hp
    rw [Bool.and_eq_true] at hp
    obtain ⟨o, ho, e, he, hb, ek⟩ := edge_of hp.1
    have q := h i o ho hl e he hb
    rw [ek] at q
    rcases List.mem_cons.1 hj with rfl | hj
    · exact q
    · exact path_listed h k ks hp.2 q j hj
theorem path_ready {l : Array Bool} (h : DCl md ops l) {i : Nat} {ks : List Nat} (hp : pathB md ops z ks = true) (hm : i ∈ ks) (hr : z ∈ Region.ready md ops l) : l.getD i false = true := by
  cases ks with
  | nil => cases hm
  | cons k ks =>
    unfold pathB at hp
    rw [Bool.and_eq_true] at hp
    obtain ⟨o, ho, e, he, hb, ek⟩ := edge_of hp.1
    obtain ⟨-, oz, hoz, hall⟩ := mem_ready.1 hr
    obtain rfl := Option.some.inj (hoz.symm.trans ho)
    have q : l.getD k false = true := by have := hall e he hb; rw [ek] at this; simpa using this
    rcases List.mem_cons.1 hm with rfl | hm
    · exact q
    · exact path_listed h k ks hp.2 q i hm
theorem wpAnyT_first {i : Nat} {oi : Oper} {v : Value} (hi : ops[i]? = some oi) (hsel : ∀ (j : Nat) (o : Oper) cs b, ops[j]? = some o → o.op ≠ .select cs b)
    (hQ : ∀ c a w, Q (.panic c) (a.put oi.dst v) w → Q (.panic c) a w) {ks : List Nat} (hp : pathB md ops z ks = true) (hm : i ∈ ks) :
    ∀ (fuel : Nat) (listed : Array Bool) (a : Act) (w : World), DCl md ops listed →
      (∀ j oj, ops[j]? = some oj → j ≠ i → listed.getD j true = false → (∀ e ∈ oj.after, Region.binds md e = true → e.on ≠ i) → oi.apart ops oj = true) →
      i ∈ Region.ready md ops listed → YieldsIf P ops S oi v a → S w →
      wpAnyT P md ops Q S z fuel (listed.setIfInBounds i true) (a.put oi.dst v) w → wpAnyT P md ops Q S z (fuel + 1) listed a w := by
  intro fuel
  induction fuel with
  | zero =>
    intro listed a w _ _ hr hy hS H
    refine ⟨fun h => (by rw [h] at hr; cases hr), fun j hj => ?_⟩
    by_cases hji : j = i
    · subst hji; exact hy.wpOp hi hS ⟨fun _ => hS, H⟩
    · have := ready_mono hj hji
      rw [H.1] at this
      cases this
  | succ fuel ih =>
    intro listed a w hdc hfree hr hy hS H
    refine ⟨fun h => (by rw [h] at hr; cases hr), fun j hj => ?_⟩
    by_cases hji : j = i
    · subst hji; exact hy.wpOp hi hS ⟨fun _ => hS, H⟩
    · have h1 := H.2 j (ready_mono hj hji)
      obtain ⟨hjun, oj, hoj, hall⟩ := mem_ready.1 hj
      have h0 := (mem_ready.1 hr).1
      have unl : listed.getD i false = true → False := fun h1 => by
        rcases Nat.lt_or_ge i listed.size with h' | h'
        · simp [h'] at h0 h1; rw [h0] at h1; cases h1
        · simp [Array.getElem?_eq_none h'] at h1
      have hnot : ∀ e ∈ oj.after, Region.binds md e = true → e.on ≠ i := fun e he hb heq => by
        have h1 := hall e he hb
        rw [heq] at h1
        exact unl (by simpa using h1)
      have hjz : j ≠ z := fun e => unl (path_ready hdc hp hm (e ▸ hj))
      have h2 := wpOp_putIf hoj (hfree j oj hoj hji hjun hnot) (fun cs b => hsel i oi cs b hi) (fun cs b => hsel j oj cs b hoj) hQ hy h1
      have hfree' : ∀ k ok, ops[k]? = some ok → k ≠ i → (listed.setIfInBounds j true).getD k true = false →
          (∀ e ∈ ok.after, Region.binds md e = true → e.on ≠ i) → oi.apart ops ok = true := fun k ok hk hki hun hno => by
        refine hfree k ok hk hki ?_ hno
        by_cases hjk : j = k
        · subst hjk; exact hjun
        · rw [getD_set_ne true hjk] at hun; exact hun
      refine wpOp_mono (fun a' w' h3 => ⟨h3.2.1, ih (listed.setIfInBounds j true) a' w' (hdc.set hj) hfree' (ready_mono hr (Ne.symm hji)) h3.1 (h3.2.1 hjz) ?_⟩) h2
      rw [Array.setIfInBounds_comm _ _ hji]
      exact h3.2.2
theorem wpAnyT_take {i : Nat} {oi : Oper} {v : Value} {fuel : Nat} {listed : Array Bool} {a : Act} {w : World} (ks : List Nat) (hi : ops[i]? = some oi)
    (hc : (Region.noSelect ops && (Region.free md ops listed i && ((Region.ready md ops listed).contains i && (dcB md ops listed && (pathB md ops z ks && ks.contains i))))) = true)
    (hQ : ∀ c a w, Q (.panic c) (a.put oi.dst v) w → Q (.panic c) a w) (hS : S w) (hw : oi.guard = none) (hy : ∀ w, S w → (execOp a.eval oi).run P w = .ok (.value v) w)
    (h : wpAnyT P md ops Q S z fuel (listed.setIfInBounds i true) (a.put oi.dst v) w) : wpAnyT P md ops Q S z (fuel + 1) listed a w := by
  simp only [Bool.and_eq_true] at hc
  obtain ⟨hs, hf, hr, hd, hp, hk⟩ := hc
  exact wpAnyT_first hi (Region.noSelect_spec hs) hQ hp (by simpa using hk) fuel listed a w (DCl.of hd) (Region.free_spec hi hf) (by simpa using hr) (.inl ⟨by unfold Region.wanted; rw [hw], hy⟩) hS h
theorem wpAnyT_one {i : Nat} {o : Oper} {fuel : Nat} {l : Array Bool} {a : Act} {w : World} (ho : ops[i]? = some o) (hr : Region.ready md ops l = [i]) 
    (h : ∀ K' : Act → World → Prop, Hid (∀ a w, (i ≠ z → S w) → wpAnyT P md ops Q S z fuel (l.setIfInBounds i true) a w → K' a w) → if Region.wanted o (yielded ops a.tmps) = true then Oper.wp P o a w K' Q else K' (a.put o.dst undef) w) :
    wpAnyT P md ops Q S z (fuel + 1) l a w := by
  refine ⟨fun h0 => (by rw [hr] at h0; cases h0), fun j hj => ?_⟩
  rw [hr] at hj
  obtain rfl := List.mem_singleton.1 hj
  exact wpOp_step ho (fun K' hK => h K' (fun a w hS hW => hK a w ⟨hS, hW⟩))
theorem wpAnyT_done {l : Array Bool} {a : Act} {w : World} (hr : Region.ready md ops l = []) (h : Q .normal a w) : ∀ fuel, wpAnyT P md ops Q S z fuel l a w
  | 0 => ⟨hr, h⟩
  | _ + 1 => ⟨fun _ => h, by rw [hr]; simp⟩
theorem wp_region_T (z : Nat) (S : World → Prop) {id : Nat} {a : Act} {w : World} (hm : P.follows .mixedOrders = true) (hS : S w.drew)
    (h : S w.drew → wpAnyT P .any ops Q S z ops.size (Array.replicate ops.size false) a w.drew) : (Code.region id ops true).wp P Q a w :=
  wp_region_any hm (wpAny_of_T _ _ _ _ (h hS))
end
end Go.Proofs.YtmeiionabonhnaaGreatDoor
