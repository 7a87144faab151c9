/- Rows of things: copied, counted. -/
import Derived.Test.YtmeiionabonhnaaGreatDoorZAK
import Derived.Deep.DeepCutAuto
namespace Go.Proofs.YtmeiionabonhnaaGreatDoor
open Go.RowKit
theorem th3 {w : World} {b : Nat} {t : TypeId} {x y z : Value} (h : w.heap[b]? = some (.cells #[x, y, z] t (0, 0))) : w.cell? ⟨b, 0, none⟩ = some x ∧ w.cell? ⟨b, 1, none⟩ = some y ∧ w.cell? ⟨b, 2, none⟩ = some z ∧ w.frozen? ⟨b, 0, none⟩ = false ∧ w.frozen? ⟨b, 1, none⟩ = false ∧ w.frozen? ⟨b, 2, none⟩ = false := by
  simp [World.cell?, World.frozen?, h]
set_option maxRecDepth 100000 in
set_option maxHeartbeats 4000000 in
theorem toThing_any (a b : Int) (v : Value) (zs : List Int) (w : World) (h : RdI w v zs) (hn : zs.length ≤ 1048576) :
    Calls Tryz.prog 73 #[.agg #[.int .i64 a, .int .i64 b, v]] w fun e w' => ∃ v', e = .returned (.agg #[.int .i64 a, .int .i64 b, v']) ∧ Row w' 3 1 w.heap.size w'.heap.size v' zs.length (ints zs) ∧ Below w.heap.size w w' := by
  have HR := hideIt h
  obtain ⟨ao, cap, rfl, -⟩ := h.shape
  clear h
  obtain ⟨w1, hw1⟩ : ∃ w1, w1 = ((w.alloc (.cells #[.int .i64 a, .int .i64 b, .slice ao zs.length cap] 131)).alloc (.cells #[.int .i64 0, .int .i64 0, .slice none 0 0] 102)).alloc (.cells #[.int .i64 a, .int .i64 b, .slice none 0 0] 102) := ⟨_, rfl⟩
  have z1 : w.heap.size + 3 ≤ w1.heap.size := by rw [hw1]; simp
  have B1 : Hid (Below w.heap.size w w1) := by
    rw [hw1]
    repeat (refine Below.alloc ?_ (by simp <;> omega) _)
    exact Below.refl _ _
  have X0 : Hid (w1.heap[w.heap.size]? = some (.cells #[.int .i64 a, .int .i64 b, .slice ao zs.length cap] 131 (0, 0))) := by
    rw [hw1]
    exact at_old (at_old (at_new rfl))
  have X1 : Hid (w1.heap[w.heap.size + 1]? = some (.cells #[.int .i64 0, .int .i64 0, .slice none 0 0] 102 (0, 0))) := by
    rw [hw1]
    exact at_old (at_new (by simp))
  have X2 : Hid (w1.heap[w.heap.size + 1 + 1]? = some (.cells #[.int .i64 a, .int .i64 b, .slice none 0 0] 102 (0, 0))) := by
    rw [hw1]
    exact at_new (by simp)
  go_enter Tryz.func73, Tryz.ntmps73
  go_upto_region 4 with fail
  rw [← hw1]
  clear hw1
  obtain ⟨x0, x1, x2, -⟩ := th3 X0.out
  go_wp2_with fail
  refine (toIntS_any _ zs w1 (Rd.below HR.out B1.out) hn).mono ?_
  rintro e w2 ⟨v2, rfl, hr2, hb2⟩
  obtain ⟨-, a2, c2, rfl, -⟩ := id hr2.rd
  have z2 := hb2.size
  have R2 := hideIt hr2
  have B2 := hideIt (below_trans B1.out hb2 B1.out.size)
  have Y1 := hideIt ((hb2.block _ (by omega)).trans X1.out)
  have Y2 := hideIt ((hb2.block _ (by omega)).trans X2.out)
  clear x0 x1 x2 X0 X1 X2 hr2 hb2 B1
  obtain ⟨p0, p1, p2, q0, q1, q2⟩ := th3 Y1.out
  obtain ⟨r0, r1, r2, s0, s1, s2⟩ := th3 Y2.out
  obtain ⟨w3, hw3⟩ : ∃ w3, w3 = w2.setCell ⟨w.heap.size + 1 + 1, 2, none⟩ (.slice a2 zs.length c2) := ⟨_, rfl⟩
  have Z1 : Hid (w3.heap[w.heap.size + 1]? = some (.cells #[.int .i64 0, .int .i64 0, .slice none 0 0] 102 (0, 0))) := by rw [hw3]; exact (Below.heap_setCell _ _ _ _ (by simp only; omega)).trans Y1.out
  have Z2 : Hid (w3.heap[w.heap.size + 1 + 1]? = some (.cells #[.int .i64 a, .int .i64 b, .slice a2 zs.length c2] 102 (0, 0))) := by
    rw [hw3]
    have q := Y2.out
    unfold Hid
    simp [World.setCell, Array.getElem?_modify, q]
  have O3 : Hid (Outside w.heap.size (w.heap.size + 3) w2 w3) := by rw [hw3]; exact Outside.setCell (Outside.refl _ _ _) (by simp only; omega) (by simp only; omega) _
  have z3 : w2.heap.size ≤ w3.heap.size ∧ w3.heap.size ≤ w2.heap.size := by rw [hw3]; simp
  go_upto_region 5 with fail
  rw [← hw3]
  clear hw3 p0 p1 p2 q0 q1 q2 r0 r1 r2 s0 s1 s2 Y1 Y2
  obtain ⟨p0, p1, p2, q0, q1, q2⟩ := th3 Z1.out
  obtain ⟨r0, r1, r2, -⟩ := th3 Z2.out
  obtain ⟨w4, hw4⟩ : ∃ w4, w4 = ((w3.setCell ⟨w.heap.size + 1, 0, none⟩ (.int .i64 a)).setCell ⟨w.heap.size + 1, 1, none⟩ (.int .i64 b)).setCell ⟨w.heap.size + 1, 2, none⟩ (.slice a2 zs.length c2) := ⟨_, rfl⟩
  have O4 : Hid (Outside w.heap.size (w.heap.size + 3) w2 w4) := by
    rw [hw4]
    repeat (refine Outside.setCell ?_ (by simp only; omega) (by simp only; omega) _)
    exact O3.out
  have z4 : w2.heap.size ≤ w4.heap.size := by rw [hw4]; simp; omega
  go_wp2
  refine bodyPost_ret (v := .agg #[.int .i64 a, .int .i64 b, .slice a2 zs.length c2]) (by simp [results, Tryz.results73, go_sem, p0, p1, p2]) rfl ?_
  rw [← hw4]
  exact ⟨_, rfl, (R2.out.outside O4.out (by omega) (Nat.le_refl _)).wide (by omega) z4, B2.out.trans (O4.out.below (Nat.le_refl _) (by omega))⟩
structure PaU (w : World) (lo hi b n : Nat) (us : List (Th × Value)) (ys : List Value) : Prop where
  row : Row w 102 3 lo hi (.slice (some ⟨b, 0, none⟩) n n) n ys
  fst : ∀ j, j < us.length * 3 → ys[j]? = (thv us)[j]?
  pg : ∀ k (h : k < us.length), Row w 3 1 lo hi us[k].2 us[k].1.pages.length (ints us[k].1.pages)
  ap : ∀ j k (hj : j < us.length) (hk : k < us.length), ¬ j = k → Apt us[j].2 us[k].2
theorem PaU.below {w w' : World} {lo hi b n : Nat} {us : List (Th × Value)} {ys : List Value} (h : PaU w lo hi b n us ys) {B : Nat} (hb : Below B w w') (hB : hi ≤ B) : PaU w' lo hi b n us ys := ⟨h.row.below hb hB, h.fst, fun k hk => (h.pg k hk).below hb hB, h.ap⟩
theorem PaU.wide {w : World} {lo hi b n : Nat} {us : List (Th × Value)} {ys : List Value} (h : PaU w lo hi b n us ys) {hi' : Nat} (q : hi ≤ hi') : PaU w lo hi' b n us ys := ⟨h.row.wide (Nat.le_refl _) q, h.fst, fun k hk => (h.pg k hk).wide (Nat.le_refl _) q, h.ap⟩
theorem PaU.other {w : World} {lo hi b n : Nat} {us : List (Th × Value)} {ys : List Value} (h : PaU w lo hi b n us ys) {v : Value} {lo' hi' m : Nat} {xs : List Value} (r : Row w 3 1 lo' hi' v m xs) : v.ownBlock ≠ some b := by
  rcases h.row.1.2 with ⟨e, _⟩ | ⟨g, cp, cur, e, _, hg, _⟩
  · cases e
  · cases e
    exact r.ne_type hg (by decide)
theorem PaU.put {w : World} {lo hi b n : Nat} {us : List (Th × Value)} {ys : List Value} (h : PaU w lo hi b n us ys) (k : Nat) (ek : us.length = k) (hk : k < n) (t : Th) (v : Value) (hr : Row w 3 1 lo hi v t.pages.length (ints t.pages)) (hap : ∀ j (hj : j < us.length), Apt us[j].2 v) :
    PaU (((w.setCell ⟨b, k * 3, none⟩ (.int .i64 t.kind)).setCell ⟨b, k * 3 + 1, none⟩ (.int .i64 t.links)).setCell ⟨b, k * 3 + 2, none⟩ v) lo hi b n (us ++ [(t, v)]) (put3 ys k (.int .i64 t.kind) (.int .i64 t.links) v) := by
  have L : (us ++ [(t, v)]).length = us.length + 1 := by simp
  have keep : ∀ {v' : Value} {m : Nat} {xs : List Value}, Row w 3 1 lo hi v' m xs → Row (((w.setCell ⟨b, k * 3, none⟩ (.int .i64 t.kind)).setCell ⟨b, k * 3 + 1, none⟩ (.int .i64 t.links)).setCell ⟨b, k * 3 + 2, none⟩ v) 3 1 lo hi v' m xs := fun r => ((r.setOther (a := ⟨b, k * 3, none⟩) (h.other r) _).setOther (a := ⟨b, k * 3 + 1, none⟩) (h.other r) _).setOther (a := ⟨b, k * 3 + 2, none⟩) (h.other r) _
  have yl := h.row.len
  refine ⟨h.row.put3 k _ _ _, fun j hj => ?_, fun j hj => ?_, fun i j hi hj ne => ?_⟩
  · rw [L] at hj
    rw [put3_at (by omega), thv_app]
    have tl := thv_len us
    split
    · rename_i e
      rw [e, List.getElem?_append_right (by rw [tl]; omega), tl, ek, show k * 3 + 2 - k * 3 = 2 by omega]
      rfl
    · split
      · rename_i e
        rw [e, List.getElem?_append_right (by rw [tl]; omega), tl, ek, show k * 3 + 1 - k * 3 = 1 by omega]
        rfl
      · split
        · rename_i e
          rw [e, List.getElem?_append_right (by rw [tl]; omega), tl, ek, show k * 3 - k * 3 = 0 by omega]
          rfl
        · rw [List.getElem?_append_left (by rw [tl]; omega)]
          exact h.fst j (by omega)
  · by_cases e : j < us.length
    · rw [List.getElem_append_left e]
      exact keep (h.pg j e)
    · have ej : j = us.length := by rw [L] at hj; omega
      subst ej
      rw [List.getElem_append_right (Nat.le_refl _)]
      simp only [Nat.sub_self, List.getElem_cons_zero]
      exact keep hr
  · rw [L] at hi hj
    by_cases e1 : i < us.length
    · by_cases e2 : j < us.length
      · rw [List.getElem_append_left e1, List.getElem_append_left e2]
        exact h.ap i j e1 e2 ne
      · have ej : j = us.length := by omega
        subst ej
        rw [List.getElem_append_left e1, List.getElem_append_right (Nat.le_refl _)]
        simp only [Nat.sub_self, List.getElem_cons_zero]
        exact hap i e1
    · have ei : i = us.length := by omega
      subst ei
      have e2 : j < us.length := by omega
      rw [List.getElem_append_right (Nat.le_refl _), List.getElem_append_left e2]
      simp only [Nat.sub_self, List.getElem_cons_zero]
      exact (hap j e2).symm
theorem PaU.done {w : World} {lo hi b n : Nat} {us : List (Th × Value)} {ys : List Value} (h : PaU w lo hi b n us ys) (en : us.length = n) : OwU w lo hi (.slice (some ⟨b, 0, none⟩) n n) us := by
  have yl := h.row.len
  have e : ys = thv us := by
    apply List.ext_getElem?
    intro j
    by_cases hj : j < us.length * 3
    · exact h.fst j hj
    · rw [List.getElem?_eq_none (by omega), List.getElem?_eq_none (by rw [thv_len]; omega)]
  subst en
  refine ⟨?_, h.pg, h.ap⟩
  rw [← e]
  exact h.row
set_option maxRecDepth 100000 in
set_option maxHeartbeats 4000000 in
theorem toThingS_any (v : Value) (ts : List Th) (w : World) (h : RdTh w v ts) (hn : ts.length ≤ 1048576) (hp : ∀ k (hk : k < ts.length), ts[k].pages.length ≤ 1048576) :
    Calls Tryz.prog 31 #[v] w fun e w' => ∃ v', e = .returned v' ∧ RowTh w' w.heap.size w'.heap.size v' ts ∧ Below w.heap.size w w' := by
  obtain ⟨us, rfl, r⟩ := h
  have HR := hideIt r
  have HP : Hid (∀ k (hk : k < us.length), us[k].1.pages.length ≤ 1048576) := fun k hk => by
    have := hp k (by rw [List.length_map]; exact hk)
    rw [List.getElem_map] at this
    exact this
  rw [List.length_map] at hn
  obtain ⟨ao, cap, rfl, -, hc⟩ := r.shape
  clear r hp
  have hmk := run_make_rows (P := Tryz.prog) 30 102 (.agg #[.int .i64 0, .int .i64 0, .slice none 0 0]) 3 40 Tryz.underlying30 infoThing .i64 .i64 us.length (by omega) (by omega)
  go_enter Tryz.func31, Tryz.ntmps31
  go_wp2
  go_loopw [4] (fun i wr => ∃ k : Nat, k ≤ us.length ∧ i = .int .i64 k ∧ (∃ xs ys, Hid (xs.length = k ∧ xs.map Prod.fst = (us.take k).map Prod.fst ∧ PaU wr w.heap.size wr.heap.size w.heap.size us.length xs ys)) ∧ Below w.heap.size w wr ∧ w.heap.size + 1 ≤ wr.heap.size) (fun i _ => us.length - (intOf i).toNat)
  case atStart =>
    refine ⟨0, by omega, rfl, ⟨[], _, rfl, rfl, ⟨(row_made w (.agg #[.int .i64 0, .int .i64 0, .slice none 0 0]) 3 us.length 102 (by simp [maxLen]; omega)).wide (Nat.le_refl _) (by simp), fun j hj => absurd hj (by simp), fun k hk => absurd hk (by simp), fun j k hj => absurd hj (by simp)⟩⟩, (Below.refl _ _).alloc (Nat.le_refl _) _, by simp⟩
  case round =>
    obtain ⟨k, hk, rfl, ⟨xs, ys, H⟩, hb, hz⟩ := hrel
    by_cases hlt : k < us.length
    · obtain ⟨b, o, rfl, hbl, hcell⟩ := hc (by omega)
      obtain ⟨c0, c1, c2⟩ := hcell k hlt
      have d0 := (hb.cell (p := ⟨b, o + k * 3, none⟩) hbl).trans c0
      have d1 := (hb.cell (p := ⟨b, o + k * 3 + 1, none⟩) hbl).trans c1
      have d2 := (hb.cell (p := ⟨b, o + k * 3 + 2, none⟩) hbl).trans c2
      have RP : Hid (RdI wr us[k].2 us[k].1.pages) := Rd.below (HR.out.2 k hlt) hb
      have pl := HP.out k hlt
      obtain ⟨x1, y1, ev, -⟩ := RP.out.shape
      rw [ev] at d2 RP
      have BW := hideIt hb
      have TK : Hid ((us.take (k + 1)).map Prod.fst = (us.take k).map Prod.fst ++ [us[k].1]) := by
        unfold Hid
        rw [List.take_add_one, List.getElem?_eq_getElem hlt, List.map_append]
        rfl
      clear hcell hc c0 c1 c2 hb ev HP HR
      generalize us[k].1 = t at *
      go_wp2_with fail
      refine (toThing_any _ _ _ t.pages _ RP.out pl).mono ?_
      rintro e w1 ⟨v1, rfl, hr1, hb1⟩
      obtain ⟨-, a1, c1, rfl, -⟩ := id hr1.rd
      have z1 := hb1.size
      obtain ⟨L0, M0, P0⟩ := H.out
      have AP : ∀ j (hj : j < xs.length), Apt xs[j].2 (.slice a1 t.pages.length c1) := fun j hj => apt_far (P0.pg j hj) hr1 (.inl (Nat.le_refl _))
      have P1 := (P0.below hb1 (Nat.le_refl _)).wide z1
      have P2 := hideIt (P1.put k L0 hlt t _ (hr1.wide (by omega) (Nat.le_refl _)) AP)
      obtain ⟨_, _, _, hsz, hfr, hcl⟩ := P1.row.at
      have hl := P1.row.len
      have f0 := hfr (k * 3)
      have f1 := hfr (k * 3 + 1)
      have f2 := hfr (k * 3 + 2)
      obtain ⟨y0', e0⟩ : ∃ y, w1.cell? ⟨w.heap.size, k * 3, none⟩ = some y := ⟨ys[k * 3]'(by omega), by rw [hcl _ (by omega)]; simp⟩
      obtain ⟨y1', e1⟩ : ∃ y, w1.cell? ⟨w.heap.size, k * 3 + 1, none⟩ = some y := ⟨ys[k * 3 + 1]'(by omega), by rw [hcl _ (by omega)]; simp⟩
      obtain ⟨y2', e2⟩ : ∃ y, w1.cell? ⟨w.heap.size, k * 3 + 2, none⟩ = some y := ⟨ys[k * 3 + 2]'(by omega), by rw [hcl _ (by omega)]; simp⟩
      have BH := hideIt (BW.out.trans (hb1.mono (show w.heap.size ≤ wr.heap.size by omega)))
      have LM : Hid ((xs ++ [(t, Value.slice a1 t.pages.length c1)]).length = k + 1 ∧ (xs ++ [(t, Value.slice a1 t.pages.length c1)]).map Prod.fst = (us.take (k + 1)).map Prod.fst) := ⟨by rw [List.length_append, L0]; rfl, by rw [TK.out, List.map_append, M0]; rfl⟩
      have B1 := hideIt (((BH.out.setCell (p := ⟨w.heap.size, k * 3, none⟩) (Nat.le_refl _) (.int .i64 t.kind)).setCell (p := ⟨w.heap.size, k * 3 + 1, none⟩) (Nat.le_refl _) (.int .i64 t.links)).setCell (p := ⟨w.heap.size, k * 3 + 2, none⟩) (Nat.le_refl _) (.slice a1 t.pages.length c1))
      clear hfr hcl hb1 d0 d1 d2 P1 P0 L0 M0 AP hr1 BW BH RP TK H
      go_wp2
      go_roundw
      case rel => exact ⟨k + 1, by omega, by go_num, ⟨_, _, LM.out.1, LM.out.2, P2.out.wide (by simp)⟩, B1.out, by simp; omega⟩
      case measure => simp [intOf]; omega
    · have e : k = us.length := by omega
      subst e
      clear hc HP HR
      go_wp2
      go_ret
      obtain ⟨L0, M0, P0⟩ := H.out
      rw [List.take_length] at M0
      exact ⟨_, rfl, ⟨xs, M0, P0.done L0⟩, hb⟩
set_option maxHeartbeats 2000000 in
theorem szThing_any (a b : Int) (ao : Option Addr) (n cap : Nat) (left : Int) (w : World) (hn : n ≤ maxLen) (h0 : 0 ≤ left) (h1 : left ≤ 1048576) :
    Calls Tryz.prog 65 #[.agg #[.int .i64 a, .int .i64 b, .slice ao n cap], .int .i64 left] w fun e w' => e = .returned (.int .i64 (less left n)) ∧ Below w.heap.size w w' := by
  have hb0 : Hid (Below w.heap.size w (w.alloc (.cells #[.int .i64 a, .int .i64 b, .slice ao n cap] 131))) := (Below.refl _ _).alloc (Nat.le_refl _) _
  have LS := hideIt (fun w1 => szIntS_any ao n cap left w1 hn h0 h1)
  by_cases c : left < n
  · have e : less left n = -1 := by unfold less; rw [if_pos c]
    rw [e] at LS ⊢
    clear e
    go_enter Tryz.func65, Tryz.ntmps65
    go_wp2_with (go_at_call 86; refine (LS.out _).mono ?_; rintro e w' ⟨rfl, rfl⟩)
    go_ret
    exact ⟨rfl, hb0.out⟩
  · have e : less left n = left - n := by unfold less; rw [if_neg c]
    rw [e] at LS ⊢
    clear e
    have c' : ¬ left - (n : Int) < 0 := by omega
    go_enter Tryz.func65, Tryz.ntmps65
    go_wp2_with (go_at_call 86; refine (LS.out _).mono ?_; rintro e w' ⟨rfl, rfl⟩)
    go_ret
    exact ⟨rfl, hb0.out⟩
set_option maxRecDepth 100000 in
set_option maxHeartbeats 4000000 in
theorem szThingS_any (v : Value) (ts : List Th) (left : Int) (w : World) (h : RdTh w v ts) (hn : ts.length ≤ maxLen) (hp : ∀ k (hk : k < ts.length), ts[k].pages.length ≤ maxLen) (h0 : 0 ≤ left) (h1 : left ≤ 1048576) :
    Calls Tryz.prog 27 #[v, .int .i64 left] w fun e w' => ∃ r : Int, e = .returned (.int .i64 r) ∧ (0 ≤ r → ts.length + totT ts ≤ 1048576 ∧ r ≤ 1048576) ∧ -1 ≤ r ∧ Below w.heap.size w w' := by
  obtain ⟨us, eu, r⟩ := h
  have UL : Hid (us.length = ts.length) := map_fst_len eu
  have UA : Hid (∀ k (hk : k < ts.length), (us[k]'(Nat.lt_of_lt_of_eq hk UL.out.symm)).1 = ts[k]) := fun k hk => map_fst_at eu k _
  have SH : Hid (∀ k (hk : k < ts.length), ∃ x y, (us[k]'(Nat.lt_of_lt_of_eq hk UL.out.symm)).2 = .slice x ts[k].pages.length y) := fun k hk => by
    obtain ⟨x, y, e⟩ := r.val k (Nat.lt_of_lt_of_eq hk UL.out.symm)
    rw [UA.out k hk] at e
    exact ⟨x, y, e⟩
  obtain ⟨ao, cap, rfl, -, hc⟩ := r.shape
  have HC : Hid (0 < ts.length → ∃ b o, ao = some ⟨b, o, none⟩ ∧ b < w.heap.size ∧ ∀ k (hk : k < ts.length), w.cell? ⟨b, o + k * 3, none⟩ = some (.int .i64 ts[k].kind) ∧ w.cell? ⟨b, o + k * 3 + 1, none⟩ = some (.int .i64 ts[k].links) ∧ w.cell? ⟨b, o + k * 3 + 2, none⟩ = some (us[k]'(Nat.lt_of_lt_of_eq hk UL.out.symm)).2) := fun hp => by
    obtain ⟨b, o, rfl, hbl, hcell⟩ := hc (Nat.lt_of_lt_of_eq hp UL.out.symm)
    refine ⟨b, o, rfl, hbl, fun k hk => ?_⟩
    obtain ⟨c0, c1, c2⟩ := hcell k (Nat.lt_of_lt_of_eq hk UL.out.symm)
    rw [UA.out k hk] at c0 c1
    exact ⟨c0, c1, c2⟩
  have TT : Hid (∀ k (hk : k < ts.length), totT (ts.take (k + 1)) = totT (ts.take k) + ts[k].pages.length) := fun k hk => totT_take hk
  have TZ : Hid (totT (ts.take 0) = 0) := rfl
  have TE : Hid (totT (ts.take ts.length) = totT ts) := by unfold Hid; rw [List.take_length]
  have HP := hideIt hp
  have hn' : ts.length ≤ maxLen := hn
  unfold maxLen at hn
  rw [UL.out]
  clear eu r hc UA hp
  generalize hTk : (fun k => totT (ts.take k)) = TK
  have TT2 : Hid (∀ k (hk : k < ts.length), TK (k + 1) = TK k + ts[k].pages.length) := by rw [← hTk]; exact TT.out
  have TZ2 : Hid (TK 0 = 0) := by rw [← hTk]; exact TZ.out
  have TE2 : Hid (TK ts.length = totT ts) := by rw [← hTk]; exact TE.out
  clear TT TZ TE hTk
  by_cases c : left < (ts.length : Int)
  · have c' : left - (ts.length : Int) < 0 := by omega
    go_enter Tryz.func27, Tryz.ntmps27
    go_wp2
    go_ret
    exact ⟨_, rfl, fun h => absurd h (by decide), by decide, Below.refl _ _⟩
  have c' : ¬ left - (ts.length : Int) < 0 := by omega
  go_enter Tryz.func27, Tryz.ntmps27
  go_wp2
  go_loopw [1, 5] (fun q i wr => ∃ k : Nat, k ≤ ts.length ∧ i = .int .i64 k ∧ (∃ m : Int, q = .int .i64 m ∧ 0 ≤ m ∧ Hid (m = left - (ts.length : Int) - (TK k : Int))) ∧ Below w.heap.size w wr) (fun _ i _ => ts.length - (intOf i).toNat)
  case atStart => exact ⟨0, by omega, rfl, ⟨_, rfl, by omega, by show _ = _; rw [TZ2.out]; simp⟩, Below.refl _ _⟩
  case round =>
    obtain ⟨k, hk, rfl, ⟨m, rfl, m0, em⟩, hb⟩ := hrel
    have me := em.out
    have mb : m ≤ 1048576 := by omega
    clear me
    by_cases hlt : k < ts.length
    · obtain ⟨b, o, rfl, hbl, hcell⟩ := HC.out (by omega)
      obtain ⟨c0, c1, c2⟩ := hcell k hlt
      have d0 := (hb.cell (p := ⟨b, o + k * 3, none⟩) hbl).trans c0
      have d1 := (hb.cell (p := ⟨b, o + k * 3 + 1, none⟩) hbl).trans c1
      have d2 := (hb.cell (p := ⟨b, o + k * 3 + 2, none⟩) hbl).trans c2
      obtain ⟨x1, y1, ev⟩ := SH.out k hlt
      rw [ev] at d2
      have pl := HP.out k hlt
      have tt := hideIt (TT2.out k hlt)
      have BW := hideIt hb
      clear hcell c0 c1 c2 hb ev HC SH HP TT2
      generalize ts[k].pages.length = p at *
      by_cases cc : m < (p : Int)
      · have e : less m p = -1 := by unfold less; rw [if_pos cc]
        go_wp2_with (go_at_call 65; refine (szThing_any _ _ _ p _ m _ pl m0 mb).mono ?_; rw [e]; rintro e' w1 ⟨rfl, hb1⟩)
        go_ret
        exact ⟨_, rfl, fun h => absurd h (by decide), by decide, BW.out.trans (hb1.mono BW.out.size)⟩
      · have e : less m p = m - p := by unfold less; rw [if_neg cc]
        have c3 : ¬ m - (p : Int) < 0 := by omega
        go_wp2_with (go_at_call 65; refine (szThing_any _ _ _ p _ m _ pl m0 mb).mono ?_; rw [e]; rintro e' w1 ⟨rfl, hb1⟩)
        go_roundw
        case rel => exact ⟨k + 1, by omega, by go_num, ⟨_, rfl, by omega, by show _ = _; have a := em.out; have b := tt.out; omega⟩, BW.out.trans (hb1.mono BW.out.size)⟩
        case measure => simp [intOf]; omega
    · have e : k = ts.length := by omega
      subst e
      go_wp2
      go_ret
      refine ⟨_, rfl, fun _ => ⟨?_, mb⟩, by omega, hb⟩
      have a := em.out
      have b := TE2.out
      omega
end Go.Proofs.YtmeiionabonhnaaGreatDoor
