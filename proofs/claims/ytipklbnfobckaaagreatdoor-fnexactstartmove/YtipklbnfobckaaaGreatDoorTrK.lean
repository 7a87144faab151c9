/- The first of the best pages is chosen: by the program. -/
import Derived.Test.YtipklbnfobckaaaGreatDoorZBQ
import Derived.BigQuiet
namespace Go.Proofs.YtipklbnfobckaaaGreatDoor
open Go.RowKit

set_option maxRecDepth 100000 in
theorem zhv (x : Mi) (w : World) : Calls Tryz.prog 269 #[.agg #[.int .i64 x.kind, .int .i64 x.at_, .int .i64 x.val]] w fun e w' => e = .returned (.int .i64 x.val) ∧ Below w.heap.size w w' := by
 have BB := zaa ((Below.refl w.heap.size w).alloc (Nat.le_refl _) (.cells #[.int .i64 x.kind, .int .i64 x.at_, .int .i64 x.val] 264))
 obtain ⟨c0, c1, c2⟩ := zbw (zah (w := w) (o := .cells #[.int .i64 x.kind, .int .i64 x.at_, .int .i64 x.val] 264) rfl)
 go_enter Tryz.func269, Tryz.ntmps269
 go_wp2
 go_ret
 exact ⟨rfl, BB.out⟩
theorem colder_wp (a b : Int) (w : World) : Calls Tryz.prog 205 #[.int .i64 a, .int .i64 b] w fun e w' => e = .returned (.int .i64 (min a b)) ∧ w' = w := by
 go_enter Tryz.func205, Tryz.ntmps205
 go_wp2
 go_ret
 exact ⟨rfl, rfl⟩
theorem hotter_wp (a b : Int) (w : World) : Calls Tryz.prog 207 #[.int .i64 a, .int .i64 b] w fun e w' => e = .returned (.int .i64 (max a b)) ∧ w' = w := by
 go_enter Tryz.func207, Tryz.ntmps207
 go_wp2
 go_ret
 exact ⟨rfl, rfl⟩
theorem zew {w : World} {b : Nat} {x y z : Value} {t : TypeId} (q : w.heap[b]? = some (.cells #[x, y, z] t (0, 0))) : w.frozen? ⟨b, 0, none⟩ = false ∧ w.frozen? ⟨b, 1, none⟩ = false ∧ w.frozen? ⟨b, 2, none⟩ = false := by simp [World.frozen?, q]
theorem wp_put {w : World} {b : Nat} {x y z : Value} {t : TypeId} (q : w.heap[b]? = some (.cells #[x, y, z] t (0, 0))) (x' y' z' : Value) : (((w.setCell ⟨b, 0, none⟩ x').setCell ⟨b, 1, none⟩ y').setCell ⟨b, 2, none⟩ z').heap[b]? = some (.cells #[x', y', z'] t (0, 0)) := by
 have h1 : (w.setCell ⟨b, 0, none⟩ x').heap[b]? = some (.cells #[x', y, z] t (0, 0)) := by simp [World.setCell, Array.getElem?_modify, q]
 have h2 : ((w.setCell ⟨b, 0, none⟩ x').setCell ⟨b, 1, none⟩ y').heap[b]? = some (.cells #[x', y', z] t (0, 0)) := by
  generalize w.setCell ⟨b, 0, none⟩ x' = w1 at *
  simp [World.setCell, Array.getElem?_modify, h1]
 generalize (w.setCell ⟨b, 0, none⟩ x').setCell ⟨b, 1, none⟩ y' = w2 at *
 simp [World.setCell, Array.getElem?_modify, h2]
/-- In the midst of choosing: the best so far, the answer's own box. -/
structure ChI (w wr : World) (c : Mi) : Prop where
 res : wr.heap[w.heap.size]? = some (.cells #[.int .i64 0, .int .i64 0, .int .i64 0] 264 (0, 0))
 box : wr.heap[w.heap.size + 1]? = some (.cells #[.int .i64 c.kind, .int .i64 c.at_, .int .i64 c.val] 264 (0, 0))
 b : Below w.heap.size w wr
theorem ChI.below {w wr w' : World} {c : Mi} (h : ChI w wr c) (hb : Below wr.heap.size wr w') : ChI w w' c :=
 ⟨(hb.block _ (Array.getElem?_eq_some_iff.1 h.res).1).trans h.res, (hb.block _ (Array.getElem?_eq_some_iff.1 h.box).1).trans h.box, zab h.b hb h.b.size⟩
theorem ChI.put {w wr : World} {c : Mi} (h : ChI w wr c) (x : Mi) : ChI w (((wr.setCell ⟨w.heap.size + 1, 0, none⟩ (.int .i64 x.kind)).setCell ⟨w.heap.size + 1, 1, none⟩ (.int .i64 x.at_)).setCell ⟨w.heap.size + 1, 2, none⟩ (.int .i64 x.val)) x :=
 ⟨by rw [Below.heap_setCell _ _ _ _ (by simp), Below.heap_setCell _ _ _ _ (by simp), Below.heap_setCell _ _ _ _ (by simp)]; exact h.res, wp_put h.box _ _ _, ((h.b.setCell (by simp) _).setCell (by simp) _).setCell (by simp) _⟩
theorem belW {a b c : World} (h1 : Below a.heap.size a b) (h2 : Below b.heap.size b c) : Below a.heap.size a c := zab h1 h2 h1.size
theorem chO_take (hot : Bool) (l : List Mi) (k : Nat) (hk : k < l.length) (h0 : 0 < k) : chO hot (l.take (k + 1)) = chT hot (chO hot (l.take k)) l[k] := by
 rw [List.take_succ_eq_append_getElem hk]
 refine chO_snoc hot _ _ (fun e => ?_)
 have := congrArg List.length e
 rw [List.length_take, List.length_nil] at this
 omega
theorem zty (hot : Bool) (l : List Mi) (hk : 0 < l.length) : chO hot (l.take (0 + 1)) = l[0] := by
 rw [List.take_succ_eq_append_getElem hk]
 rfl

set_option maxRecDepth 100000 in
set_option maxHeartbeats 16000000 in
theorem zno (v : Value) (l : List Mi) (w : World) (h : RdM w v l) (hn : l.length ≤ 128) :
  Calls Tryz.prog 267 #[v, .func (.func 269) #[] #[], .func (.func 205) #[] #[]] w fun e w' => e = .returned (.tuple #[(.agg #[.int .i64 (chO false l).kind, .int .i64 (chO false l).at_, .int .i64 (chO false l).val]), .bool (decide (0 < l.length))]) ∧ Below w.heap.size w w' := by
 obtain ⟨aL, cL, rfl, _, hc⟩ := h.shape
 have HC := zaa hc
 clear h hc
 obtain ⟨W, hW⟩ : ∃ W, W = (w.alloc (.cells #[.int .i64 0, .int .i64 0, .int .i64 0] 264)).alloc (.cells #[.int .i64 0, .int .i64 0, .int .i64 0] 264) := ⟨_, rfl⟩
 have ST : Hid (ChI w W (chO false (l.take 0))) := by
  rw [hW]
  refine ⟨?_, ?_, ((Below.refl _ _).alloc (Nat.le_refl _) _).alloc (by simp) _⟩
  ·have := zah (w := w) (o := .cells #[.int .i64 0, .int .i64 0, .int .i64 0] 264) rfl
   exact (((Below.refl _ _).alloc (Nat.le_refl _) _).block _ (by simp)).trans this
  ·have := zah (w := w.alloc (.cells #[.int .i64 0, .int .i64 0, .int .i64 0] 264)) (o := .cells #[.int .i64 0, .int .i64 0, .int .i64 0] 264) rfl
   rw [World.size_alloc] at this
   exact this
 have CF := zaa (fun hk => zty false l hk)
 have CT := zaa (fun k hk h0 => chO_take false l k hk h0)
 have CE := zaa (show chO false (l.take l.length) = chO false l by rw [List.take_length])
 go_enter Tryz.func267, Tryz.ntmps267
 go_upto_region 3 with fail
 rw [← hW]
 clear hW
 go_loopw [13] (fun i wr => ∃ k : Nat, k ≤ l.length ∧ i = .int .i64 (k : Int) ∧ Hid (ChI w wr (chO false (l.take k)))) (fun i _ => l.length - (intOf i).toNat)
 case atStart => exact ⟨0, by omega, rfl, ST⟩
 case round =>
  obtain ⟨k, hk, rfl, I⟩ := hrel
  clear ST
  have k0 : (0 : Int) ≤ (k : Int) := by omega
  by_cases hlt : k < l.length
  case neg =>
   obtain rfl : k = l.length := by omega
   rw [CE.out] at I
   obtain ⟨c0, c1, c2⟩ := zbw I.out.box
   obtain ⟨f0, f1, f2⟩ := zew I.out.res
   obtain ⟨r0, r1, r2⟩ := zbw I.out.res
   have BP : Hid (Below w.heap.size w (((wr.setCell ⟨w.heap.size, 0, none⟩ (.int .i64 (chO false l).kind)).setCell ⟨w.heap.size, 1, none⟩ (.int .i64 (chO false l).at_)).setCell ⟨w.heap.size, 2, none⟩ (.int .i64 (chO false l).val))) := ((I.out.b.setCell (Nat.le_refl _) _).setCell (Nat.le_refl _) _).setCell (Nat.le_refl _) _
   have EV : Hid ((0 < l.length) = (0 < (l.length : Int))) := by unfold Hid; rw [eq_iff_iff]; omega
   clear I CF CT
   go_wp2
   refine bodyPost_ret (v := .tuple #[.agg #[.int .i64 (chO false l).kind, .int .i64 (chO false l).at_, .int .i64 (chO false l).val], .bool (decide (0 < l.length))]) (by simp [results, Tryz.results267, go_sem, r0, r1, r2]) rfl ⟨rfl, BP.out⟩
  obtain ⟨b, o, rfl, hbl, hcell⟩ := HC.out (by omega)
  obtain ⟨a0, a1, a2⟩ := hcell k hlt
  have d0 := (I.out.b.cell (p := ⟨b, o + k * 3, none⟩) hbl).trans a0
  have d1 := (I.out.b.cell (p := ⟨b, o + k * 3 + 1, none⟩) hbl).trans a1
  have d2 := (I.out.b.cell (p := ⟨b, o + k * 3 + 2, none⟩) hbl).trans a2
  have k1 : (k : Int) < (l.length : Int) := by omega
  have CF1 := zaa (fun (e : k = 0) => show chO false (l.take (k + 1)) = l[k] by subst e; exact CF.out hlt)
  have CT1 := zaa (CT.out k hlt)
  clear a0 a1 a2 hcell
  generalize l[k] = x at *
  generalize chO false (l.take k) = c at *
  obtain ⟨nx, hnx⟩ : ∃ nx, chO false (l.take (k + 1)) = nx := ⟨_, rfl⟩
  have HN := zaa hnx
  rw [hnx] at CF1 CT1
  clear hnx CF CT
  obtain ⟨V, hV⟩ : ∃ V, V = wr.alloc (.cells #[.int .i64 x.kind, .int .i64 x.at_, .int .i64 x.val] 264) := ⟨_, rfl⟩
  have BV : Hid (Below wr.heap.size wr V) := by rw [hV]; exact (Below.refl _ _).alloc (Nat.le_refl _) _
  have XV : Hid (V.heap[wr.heap.size]? = some (.cells #[.int .i64 x.kind, .int .i64 x.at_, .int .i64 x.val] 264 (0, 0))) := by rw [hV]; exact zah rfl
  have IV := zaa (I.out.below BV.out)
  have hzl : wr.heap.size < V.heap.size := (Array.getElem?_eq_some_iff.1 XV.out).1
  by_cases ck : k = 0
  ·obtain rfl := CF1.out ck
   subst ck
   rw [Nat.zero_mul, Nat.add_zero] at d0 d1 d2
   clear CT1 CF1
   go_upto_region 5 with fail
   rw [← hV]
   clear hV
   have SQ : Hid (∀ nq, ChI w (V.drewN nq) c ∧ (V.drewN nq).heap[wr.heap.size]? = some (.cells #[.int .i64 nx.kind, .int .i64 nx.at_, .int .i64 nx.val] 264 (0, 0))) := fun nq => ⟨IV.out.below (zbi (Below.refl _ _) nq), ((zbi (Below.refl V.heap.size V) nq).block _ hzl).trans XV.out⟩
   go_wp2_with fail
   go_quiet (fail)
   generalize hVn : V.drewN nq = Vn
   have S1 := zaa (SQ.out nq).1
   have S2 := zaa (SQ.out nq).2
   rw [hVn] at S1 S2
   clear hVn
   obtain ⟨c0, c1, c2⟩ := zbw S2.out
   obtain ⟨g0, g1, g2⟩ := zbw S1.out.box
   obtain ⟨f0, f1, f2⟩ := zew S1.out.box
   have G := zaa (S1.out.put nx)
   go_wp2
   go_roundw
   case rel => exact ⟨0 + 1, by omega, by go_num, by rw [HN.out]; exact G⟩
   case measure => simp [intOf]; omega
  ·have q0 : ((k : Int) == 0) = false := by rw [beq_eq_false_iff_ne]; omega
   have CT2 : Hid (nx = chT false c x) := CT1.out (by omega)
   obtain ⟨mm, hmm⟩ : ∃ mm : Int, mm = min c.val x.val := ⟨_, rfl⟩
   have LB : Hid (∀ w1, Calls Tryz.prog 205 #[.int .i64 c.val, .int .i64 x.val] w1 fun e w' => e = .returned (.int .i64 mm) ∧ w' = w1) := fun w1 => by rw [hmm]; exact colder_wp _ _ w1
   have WAY : Hid (((mm != c.val) = true ∧ nx = x) ∨ ((mm != c.val) = false ∧ nx = c)) := by
    unfold Hid
    rw [CT2.out, hmm]
    unfold chT
    by_cases q : x.val < c.val
    ·rw [if_pos (.inr ⟨rfl, q⟩)]
     exact .inl ⟨by rw [bne_iff_ne]; omega, rfl⟩
    ·rw [if_neg (by simp; omega)]
     exact .inr ⟨by rw [bne_eq_false_iff_eq]; omega, rfl⟩
   have SK : Hid (∀ w', Below V.heap.size V w' → (w'.cell? ⟨w.heap.size + 1, 0, none⟩ = some (.int .i64 c.kind) ∧ w'.cell? ⟨w.heap.size + 1, 1, none⟩ = some (.int .i64 c.at_) ∧ w'.cell? ⟨w.heap.size + 1, 2, none⟩ = some (.int .i64 c.val)) ∧ w'.cell? ⟨wr.heap.size, 0, none⟩ = some (.int .i64 x.kind) ∧ w'.cell? ⟨wr.heap.size, 1, none⟩ = some (.int .i64 x.at_) ∧ w'.cell? ⟨wr.heap.size, 2, none⟩ = some (.int .i64 x.val)) := fun w' hb => ⟨zbw (IV.out.below hb).box, zbw ((hb.block _ hzl).trans XV.out)⟩
   clear CT1 CF1 CT2 hmm ck I
   go_upto_region 5 with fail
   rw [← hV]
   clear hV d0 d1 d2
   go_cut [33] (fun s wx => s = .bool (mm != c.val) ∧ Below V.heap.size V wx)
   case first =>
    go_region_held3 (fun w' => (w'.cell? ⟨w.heap.size + 1, 0, none⟩ = some (.int .i64 c.kind) ∧ w'.cell? ⟨w.heap.size + 1, 1, none⟩ = some (.int .i64 c.at_) ∧ w'.cell? ⟨w.heap.size + 1, 2, none⟩ = some (.int .i64 c.val)) ∧ w'.cell? ⟨wr.heap.size, 0, none⟩ = some (.int .i64 x.kind) ∧ w'.cell? ⟨wr.heap.size, 1, none⟩ = some (.int .i64 x.at_) ∧ w'.cell? ⟨wr.heap.size, 2, none⟩ = some (.int .i64 x.val))
     (exact SK.out _ (by repeat (first | with_reducible exact BF.out | with_reducible exact Below.refl _ _ | with_reducible refine Below.drew ?_)))
     (first
      | (go_at_call 269; (first | refine (zhv c _).mono ?_ | refine (zhv x _).mono ?_); rintro e w1 ⟨rfl, hb1⟩; have BF : Hid (Below V.heap.size V w1) := belW (by repeat (first | with_reducible exact BF.out | with_reducible exact Below.refl _ _ | with_reducible refine Below.drew ?_)) hb1; clear hb1)
      | (go_at_call 205; refine (LB.out _).mono ?_; rintro e w' ⟨rfl, hw'⟩; subst w'))
    all_goals
     go_wp2_with fail
     go_meet
     exact ⟨rfl, (by repeat (first | with_reducible exact BF.out | with_reducible refine Below.drew ?_))⟩
   case rest =>
   obtain ⟨rfl, hb5⟩ := hcut
   rename World => w5
   have I5 := zaa (IV.out.below hb5)
   obtain ⟨⟨g0, g1, g2⟩, c0, c1, c2⟩ := SK.out _ hb5
   obtain ⟨f0, f1, f2⟩ := zew I5.out.box
   clear hb5 SK LB IV XV BV
   rcases WAY.out with ⟨q, rfl⟩ | ⟨q, rfl⟩
   ·have G := zaa (I5.out.put nx)
    clear WAY
    go_wp2
    go_roundw
    case rel => exact ⟨k + 1, by omega, by go_num, by rw [HN.out]; exact G⟩
    case measure => simp [intOf]; omega
   ·clear WAY
    go_wp2
    go_roundw
    case rel => exact ⟨k + 1, by omega, by go_num, by rw [HN.out]; exact I5⟩
    case measure => simp [intOf]; omega

set_option maxRecDepth 100000 in
set_option maxHeartbeats 16000000 in
theorem zqu (v : Value) (l : List Mi) (w : World) (h : RdM w v l) (hn : l.length ≤ 128) :
  Calls Tryz.prog 267 #[v, .func (.func 269) #[] #[], .func (.func 207) #[] #[]] w fun e w' => e = .returned (.tuple #[(.agg #[.int .i64 (chO true l).kind, .int .i64 (chO true l).at_, .int .i64 (chO true l).val]), .bool (decide (0 < l.length))]) ∧ Below w.heap.size w w' := by
 obtain ⟨aL, cL, rfl, _, hc⟩ := h.shape
 have HC := zaa hc
 clear h hc
 obtain ⟨W, hW⟩ : ∃ W, W = (w.alloc (.cells #[.int .i64 0, .int .i64 0, .int .i64 0] 264)).alloc (.cells #[.int .i64 0, .int .i64 0, .int .i64 0] 264) := ⟨_, rfl⟩
 have ST : Hid (ChI w W (chO true (l.take 0))) := by
  rw [hW]
  refine ⟨?_, ?_, ((Below.refl _ _).alloc (Nat.le_refl _) _).alloc (by simp) _⟩
  ·have := zah (w := w) (o := .cells #[.int .i64 0, .int .i64 0, .int .i64 0] 264) rfl
   exact (((Below.refl _ _).alloc (Nat.le_refl _) _).block _ (by simp)).trans this
  ·have := zah (w := w.alloc (.cells #[.int .i64 0, .int .i64 0, .int .i64 0] 264)) (o := .cells #[.int .i64 0, .int .i64 0, .int .i64 0] 264) rfl
   rw [World.size_alloc] at this
   exact this
 have CF := zaa (fun hk => zty true l hk)
 have CT := zaa (fun k hk h0 => chO_take true l k hk h0)
 have CE := zaa (show chO true (l.take l.length) = chO true l by rw [List.take_length])
 go_enter Tryz.func267, Tryz.ntmps267
 go_upto_region 3 with fail
 rw [← hW]
 clear hW
 go_loopw [13] (fun i wr => ∃ k : Nat, k ≤ l.length ∧ i = .int .i64 (k : Int) ∧ Hid (ChI w wr (chO true (l.take k)))) (fun i _ => l.length - (intOf i).toNat)
 case atStart => exact ⟨0, by omega, rfl, ST⟩
 case round =>
  obtain ⟨k, hk, rfl, I⟩ := hrel
  clear ST
  have k0 : (0 : Int) ≤ (k : Int) := by omega
  by_cases hlt : k < l.length
  case neg =>
   obtain rfl : k = l.length := by omega
   rw [CE.out] at I
   obtain ⟨c0, c1, c2⟩ := zbw I.out.box
   obtain ⟨f0, f1, f2⟩ := zew I.out.res
   obtain ⟨r0, r1, r2⟩ := zbw I.out.res
   have BP : Hid (Below w.heap.size w (((wr.setCell ⟨w.heap.size, 0, none⟩ (.int .i64 (chO true l).kind)).setCell ⟨w.heap.size, 1, none⟩ (.int .i64 (chO true l).at_)).setCell ⟨w.heap.size, 2, none⟩ (.int .i64 (chO true l).val))) := ((I.out.b.setCell (Nat.le_refl _) _).setCell (Nat.le_refl _) _).setCell (Nat.le_refl _) _
   have EV : Hid ((0 < l.length) = (0 < (l.length : Int))) := by unfold Hid; rw [eq_iff_iff]; omega
   clear I CF CT
   go_wp2
   refine bodyPost_ret (v := .tuple #[.agg #[.int .i64 (chO true l).kind, .int .i64 (chO true l).at_, .int .i64 (chO true l).val], .bool (decide (0 < l.length))]) (by simp [results, Tryz.results267, go_sem, r0, r1, r2]) rfl ⟨rfl, BP.out⟩
  obtain ⟨b, o, rfl, hbl, hcell⟩ := HC.out (by omega)
  obtain ⟨a0, a1, a2⟩ := hcell k hlt
  have d0 := (I.out.b.cell (p := ⟨b, o + k * 3, none⟩) hbl).trans a0
  have d1 := (I.out.b.cell (p := ⟨b, o + k * 3 + 1, none⟩) hbl).trans a1
  have d2 := (I.out.b.cell (p := ⟨b, o + k * 3 + 2, none⟩) hbl).trans a2
  have k1 : (k : Int) < (l.length : Int) := by omega
  have CF1 := zaa (fun (e : k = 0) => show chO true (l.take (k + 1)) = l[k] by subst e; exact CF.out hlt)
  have CT1 := zaa (CT.out k hlt)
  clear a0 a1 a2 hcell
  generalize l[k] = x at *
  generalize chO true (l.take k) = c at *
  obtain ⟨nx, hnx⟩ : ∃ nx, chO true (l.take (k + 1)) = nx := ⟨_, rfl⟩
  have HN := zaa hnx
  rw [hnx] at CF1 CT1
  clear hnx CF CT
  obtain ⟨V, hV⟩ : ∃ V, V = wr.alloc (.cells #[.int .i64 x.kind, .int .i64 x.at_, .int .i64 x.val] 264) := ⟨_, rfl⟩
  have BV : Hid (Below wr.heap.size wr V) := by rw [hV]; exact (Below.refl _ _).alloc (Nat.le_refl _) _
  have XV : Hid (V.heap[wr.heap.size]? = some (.cells #[.int .i64 x.kind, .int .i64 x.at_, .int .i64 x.val] 264 (0, 0))) := by rw [hV]; exact zah rfl
  have IV := zaa (I.out.below BV.out)
  have hzl : wr.heap.size < V.heap.size := (Array.getElem?_eq_some_iff.1 XV.out).1
  by_cases ck : k = 0
  ·obtain rfl := CF1.out ck
   subst ck
   rw [Nat.zero_mul, Nat.add_zero] at d0 d1 d2
   clear CT1 CF1
   go_upto_region 5 with fail
   rw [← hV]
   clear hV
   have SQ : Hid (∀ nq, ChI w (V.drewN nq) c ∧ (V.drewN nq).heap[wr.heap.size]? = some (.cells #[.int .i64 nx.kind, .int .i64 nx.at_, .int .i64 nx.val] 264 (0, 0))) := fun nq => ⟨IV.out.below (zbi (Below.refl _ _) nq), ((zbi (Below.refl V.heap.size V) nq).block _ hzl).trans XV.out⟩
   go_wp2_with fail
   go_quiet (fail)
   generalize hVn : V.drewN nq = Vn
   have S1 := zaa (SQ.out nq).1
   have S2 := zaa (SQ.out nq).2
   rw [hVn] at S1 S2
   clear hVn
   obtain ⟨c0, c1, c2⟩ := zbw S2.out
   obtain ⟨g0, g1, g2⟩ := zbw S1.out.box
   obtain ⟨f0, f1, f2⟩ := zew S1.out.box
   have G := zaa (S1.out.put nx)
   go_wp2
   go_roundw
   case rel => exact ⟨0 + 1, by omega, by go_num, by rw [HN.out]; exact G⟩
   case measure => simp [intOf]; omega
  ·have q0 : ((k : Int) == 0) = false := by rw [beq_eq_false_iff_ne]; omega
   have CT2 : Hid (nx = chT true c x) := CT1.out (by omega)
   obtain ⟨mm, hmm⟩ : ∃ mm : Int, mm = max c.val x.val := ⟨_, rfl⟩
   have LB : Hid (∀ w1, Calls Tryz.prog 207 #[.int .i64 c.val, .int .i64 x.val] w1 fun e w' => e = .returned (.int .i64 mm) ∧ w' = w1) := fun w1 => by rw [hmm]; exact hotter_wp _ _ w1
   have WAY : Hid (((mm != c.val) = true ∧ nx = x) ∨ ((mm != c.val) = false ∧ nx = c)) := by
    unfold Hid
    rw [CT2.out, hmm]
    unfold chT
    by_cases q : c.val < x.val
    ·rw [if_pos (.inl ⟨rfl, q⟩)]
     exact .inl ⟨by rw [bne_iff_ne]; omega, rfl⟩
    ·rw [if_neg (by simp; omega)]
     exact .inr ⟨by rw [bne_eq_false_iff_eq]; omega, rfl⟩
   have SK : Hid (∀ w', Below V.heap.size V w' → (w'.cell? ⟨w.heap.size + 1, 0, none⟩ = some (.int .i64 c.kind) ∧ w'.cell? ⟨w.heap.size + 1, 1, none⟩ = some (.int .i64 c.at_) ∧ w'.cell? ⟨w.heap.size + 1, 2, none⟩ = some (.int .i64 c.val)) ∧ w'.cell? ⟨wr.heap.size, 0, none⟩ = some (.int .i64 x.kind) ∧ w'.cell? ⟨wr.heap.size, 1, none⟩ = some (.int .i64 x.at_) ∧ w'.cell? ⟨wr.heap.size, 2, none⟩ = some (.int .i64 x.val)) := fun w' hb => ⟨zbw (IV.out.below hb).box, zbw ((hb.block _ hzl).trans XV.out)⟩
   clear CT1 CF1 CT2 hmm ck I
   go_upto_region 5 with fail
   rw [← hV]
   clear hV d0 d1 d2
   go_cut [33] (fun s wx => s = .bool (mm != c.val) ∧ Below V.heap.size V wx)
   case first =>
    go_region_held3 (fun w' => (w'.cell? ⟨w.heap.size + 1, 0, none⟩ = some (.int .i64 c.kind) ∧ w'.cell? ⟨w.heap.size + 1, 1, none⟩ = some (.int .i64 c.at_) ∧ w'.cell? ⟨w.heap.size + 1, 2, none⟩ = some (.int .i64 c.val)) ∧ w'.cell? ⟨wr.heap.size, 0, none⟩ = some (.int .i64 x.kind) ∧ w'.cell? ⟨wr.heap.size, 1, none⟩ = some (.int .i64 x.at_) ∧ w'.cell? ⟨wr.heap.size, 2, none⟩ = some (.int .i64 x.val))
     (exact SK.out _ (by repeat (first | with_reducible exact BF.out | with_reducible exact Below.refl _ _ | with_reducible refine Below.drew ?_)))
     (first
      | (go_at_call 269; (first | refine (zhv c _).mono ?_ | refine (zhv x _).mono ?_); rintro e w1 ⟨rfl, hb1⟩; have BF : Hid (Below V.heap.size V w1) := belW (by repeat (first | with_reducible exact BF.out | with_reducible exact Below.refl _ _ | with_reducible refine Below.drew ?_)) hb1; clear hb1)
      | (go_at_call 207; refine (LB.out _).mono ?_; rintro e w' ⟨rfl, hw'⟩; subst w'))
    all_goals
     go_wp2_with fail
     go_meet
     exact ⟨rfl, (by repeat (first | with_reducible exact BF.out | with_reducible refine Below.drew ?_))⟩
   case rest =>
   obtain ⟨rfl, hb5⟩ := hcut
   rename World => w5
   have I5 := zaa (IV.out.below hb5)
   obtain ⟨⟨g0, g1, g2⟩, c0, c1, c2⟩ := SK.out _ hb5
   obtain ⟨f0, f1, f2⟩ := zew I5.out.box
   clear hb5 SK LB IV XV BV
   rcases WAY.out with ⟨q, rfl⟩ | ⟨q, rfl⟩
   ·have G := zaa (I5.out.put nx)
    clear WAY
    go_wp2
    go_roundw
    case rel => exact ⟨k + 1, by omega, by go_num, by rw [HN.out]; exact G⟩
    case measure => simp [intOf]; omega
   ·clear WAY
    go_wp2
    go_roundw
    case rel => exact ⟨k + 1, by omega, by go_num, by rw [HN.out]; exact I5⟩
    case measure => simp [intOf]; omega
end Go.Proofs.YtipklbnfobckaaaGreatDoor
