/- Rows of answers: copied, counted. -/
import Derived.Test.YtmeiionabonhnaaGreatDoorZAG
import Derived.Test.YtmeiionabonhnaaGreatDoorZAK
import Derived.Test.YtmeiionabonhnaaGreatDoorThE
import Derived.Deep.DeepCutAuto
namespace Go.Proofs.YtmeiionabonhnaaGreatDoor
open Go.RowKit
structure PaAu (w : World) (lo hi b n : Nat) (us : List (Aw × Value)) (ys : List Value) : Prop where
  row : Row w 73 3 lo hi (.slice (some ⟨b, 0, none⟩) n n) n ys
  fst : ∀ j, j < us.length * 3 → ys[j]? = (awv us)[j]?
  pg : ∀ k (h : k < us.length), Row w 9 1 lo hi us[k].2 us[k].1.names.length (strs us[k].1.names)
  ap : ∀ j k (hj : j < us.length) (hk : k < us.length), ¬ j = k → Apt us[j].2 us[k].2
theorem PaAu.below {w w' : World} {lo hi b n : Nat} {us : List (Aw × Value)} {ys : List Value} (h : PaAu w lo hi b n us ys) {B : Nat} (hb : Below B w w') (hB : hi ≤ B) : PaAu w' lo hi b n us ys := ⟨h.row.below hb hB, h.fst, fun k hk => (h.pg k hk).below hb hB, h.ap⟩
theorem PaAu.wide {w : World} {lo hi b n : Nat} {us : List (Aw × Value)} {ys : List Value} (h : PaAu w lo hi b n us ys) {hi' : Nat} (q : hi ≤ hi') : PaAu w lo hi' b n us ys := ⟨h.row.wide (Nat.le_refl _) q, h.fst, fun k hk => (h.pg k hk).wide (Nat.le_refl _) q, h.ap⟩
theorem PaAu.other {w : World} {lo hi b n : Nat} {us : List (Aw × Value)} {ys : List Value} (h : PaAu w lo hi b n us ys) {v : Value} {lo' hi' m : Nat} {xs : List Value} (r : Row w 9 1 lo' hi' v m xs) : v.ownBlock ≠ some b := by
  rcases h.row.1.2 with ⟨e, _⟩ | ⟨g, cp, cur, e, _, hg, _⟩
  · cases e
  · cases e
    exact r.ne_type hg (by decide)
theorem PaAu.put {w : World} {lo hi b n : Nat} {us : List (Aw × Value)} {ys : List Value} (h : PaAu w lo hi b n us ys) (k : Nat) (ek : us.length = k) (hk : k < n) (t : Aw) (v : Value) (hr : Row w 9 1 lo hi v t.names.length (strs t.names)) (hap : ∀ j (hj : j < us.length), Apt us[j].2 v) :
    PaAu (((w.setCell ⟨b, k * 3, none⟩ (.int .i64 t.code)).setCell ⟨b, k * 3 + 1, none⟩ (.int .i64 t.val)).setCell ⟨b, k * 3 + 2, none⟩ v) lo hi b n (us ++ [(t, v)]) (put3 ys k (.int .i64 t.code) (.int .i64 t.val) v) := by
  have L : (us ++ [(t, v)]).length = us.length + 1 := by simp
  have keep : ∀ {v' : Value} {m : Nat} {xs : List Value}, Row w 9 1 lo hi v' m xs → Row (((w.setCell ⟨b, k * 3, none⟩ (.int .i64 t.code)).setCell ⟨b, k * 3 + 1, none⟩ (.int .i64 t.val)).setCell ⟨b, k * 3 + 2, none⟩ v) 9 1 lo hi v' m xs := fun r => ((r.setOther (a := ⟨b, k * 3, none⟩) (h.other r) _).setOther (a := ⟨b, k * 3 + 1, none⟩) (h.other r) _).setOther (a := ⟨b, k * 3 + 2, none⟩) (h.other r) _
  have yl := h.row.len
  refine ⟨h.row.put3 k _ _ _, fun j hj => ?_, fun j hj => ?_, fun i j hi hj ne => ?_⟩
  · rw [L] at hj
    rw [put3_at (by omega), awv_app]
    have tl := awv_len us
    split
    · rename_i e
      rw [e, List.getElem?_append_right (by rw [tl]; omega), tl, ek, show k * 3 + 2 - k * 3 = 2 by omega]
      rfl
    · split
      · rename_i e
        rw [e, List.getElem?_append_right (by rw [tl]; omega), tl, ek, show k * 3 + 1 - k * 3 = 1 by omega]
        rfl
      · split
        · rename_i e
          rw [e, List.getElem?_append_right (by rw [tl]; omega), tl, ek, show k * 3 - k * 3 = 0 by omega]
          rfl
        · rw [List.getElem?_append_left (by rw [tl]; omega)]
          exact h.fst j (by omega)
  · by_cases e : j < us.length
    · rw [List.getElem_append_left e]
      exact keep (h.pg j e)
    · have ej : j = us.length := by rw [L] at hj; omega
      subst ej
      rw [List.getElem_append_right (Nat.le_refl _)]
      simp only [Nat.sub_self, List.getElem_cons_zero]
      exact keep hr
  · rw [L] at hi hj
    by_cases e1 : i < us.length
    · by_cases e2 : j < us.length
      · rw [List.getElem_append_left e1, List.getElem_append_left e2]
        exact h.ap i j e1 e2 ne
      · have ej : j = us.length := by omega
        subst ej
        rw [List.getElem_append_left e1, List.getElem_append_right (Nat.le_refl _)]
        simp only [Nat.sub_self, List.getElem_cons_zero]
        exact hap i e1
    · have ei : i = us.length := by omega
      subst ei
      have e2 : j < us.length := by omega
      rw [List.getElem_append_right (Nat.le_refl _), List.getElem_append_left e2]
      simp only [Nat.sub_self, List.getElem_cons_zero]
      exact (hap j e2).symm
theorem PaAu.done {w : World} {lo hi b n : Nat} {us : List (Aw × Value)} {ys : List Value} (h : PaAu w lo hi b n us ys) (en : us.length = n) : OwAu w lo hi (.slice (some ⟨b, 0, none⟩) n n) us := by
  have yl := h.row.len
  have e : ys = awv us := by
    apply List.ext_getElem?
    intro j
    by_cases hj : j < us.length * 3
    · exact h.fst j hj
    · rw [List.getElem?_eq_none (by omega), List.getElem?_eq_none (by rw [awv_len]; omega)]
  subst en
  refine ⟨?_, h.pg, h.ap⟩
  rw [← e]
  exact h.row
set_option maxRecDepth 100000 in
set_option maxHeartbeats 4000000 in
theorem toAnswerS_any (v : Value) (ts : List Aw) (w : World) (h : RdAs w v ts) (hn : ts.length ≤ 1048576) (hp : ∀ k (hk : k < ts.length), ts[k].names.length ≤ 1048576) :
    Calls Tryz.prog 52 #[v] w fun e w' => ∃ v', e = .returned v' ∧ RowAs w' w.heap.size w'.heap.size v' ts ∧ Below w.heap.size w w' := by
  obtain ⟨us, rfl, r⟩ := h
  have HR := hideIt r
  have HP : Hid (∀ k (hk : k < us.length), us[k].1.names.length ≤ 1048576) := fun k hk => by
    have := hp k (by rw [List.length_map]; exact hk)
    rw [List.getElem_map] at this
    exact this
  rw [List.length_map] at hn
  obtain ⟨ao, cap, rfl, -, hc⟩ := r.shape
  clear r hp
  have hmk := run_make_rows (P := Tryz.prog) 77 73 (.agg #[.int .i64 0, .int .i64 0, .slice none 0 0]) 3 40 Tryz.underlying77 infoAnswer .i64 .i64 us.length (by omega) (by omega)
  go_enter Tryz.func52, Tryz.ntmps52
  go_wp2
  go_loopw [4] (fun i wr => ∃ k : Nat, k ≤ us.length ∧ i = .int .i64 k ∧ (∃ xs ys, Hid (xs.length = k ∧ xs.map Prod.fst = (us.take k).map Prod.fst ∧ PaAu wr w.heap.size wr.heap.size w.heap.size us.length xs ys)) ∧ Below w.heap.size w wr ∧ w.heap.size + 1 ≤ wr.heap.size) (fun i _ => us.length - (intOf i).toNat)
  case atStart =>
    refine ⟨0, by omega, rfl, ⟨[], _, rfl, rfl, ⟨(row_made w (.agg #[.int .i64 0, .int .i64 0, .slice none 0 0]) 3 us.length 73 (by simp [maxLen]; omega)).wide (Nat.le_refl _) (by simp), fun j hj => absurd hj (by simp), fun k hk => absurd hk (by simp), fun j k hj => absurd hj (by simp)⟩⟩, (Below.refl _ _).alloc (Nat.le_refl _) _, by simp⟩
  case round =>
    obtain ⟨k, hk, rfl, ⟨xs, ys, H⟩, hb, hz⟩ := hrel
    by_cases hlt : k < us.length
    · obtain ⟨b, o, rfl, hbl, hcell⟩ := hc (by omega)
      obtain ⟨c0, c1, c2⟩ := hcell k hlt
      have d0 := (hb.cell (p := ⟨b, o + k * 3, none⟩) hbl).trans c0
      have d1 := (hb.cell (p := ⟨b, o + k * 3 + 1, none⟩) hbl).trans c1
      have d2 := (hb.cell (p := ⟨b, o + k * 3 + 2, none⟩) hbl).trans c2
      have RP : Hid (RdT wr us[k].2 us[k].1.names) := Rd.below (HR.out.2 k hlt) hb
      have pl := HP.out k hlt
      obtain ⟨x1, y1, ev, -⟩ := RP.out.shape
      rw [ev] at d2 RP
      have BW := hideIt hb
      have TK : Hid ((us.take (k + 1)).map Prod.fst = (us.take k).map Prod.fst ++ [us[k].1]) := by
        unfold Hid
        rw [List.take_add_one, List.getElem?_eq_getElem hlt, List.map_append]
        rfl
      clear hcell hc c0 c1 c2 hb ev HP HR
      generalize us[k].1 = t at *
      go_wp2_with fail
      refine (toAnswer_any _ _ _ t.names _ _ RP.out pl).mono ?_
      rintro e w1 ⟨v1, rfl, hr1, hb1⟩
      obtain ⟨-, a1, c1, rfl, -⟩ := id hr1.rd
      have z1 := hb1.size
      obtain ⟨L0, M0, P0⟩ := H.out
      have AP : ∀ j (hj : j < xs.length), Apt xs[j].2 (.slice a1 t.names.length c1) := fun j hj => apt_far (P0.pg j hj) hr1 (.inl (Nat.le_refl _))
      have P1 := (P0.below hb1 (Nat.le_refl _)).wide z1
      have P2 := hideIt (P1.put k L0 hlt t _ (hr1.wide (by omega) (Nat.le_refl _)) AP)
      obtain ⟨_, _, _, hsz, hfr, hcl⟩ := P1.row.at
      have hl := P1.row.len
      have f0 := hfr (k * 3)
      have f1 := hfr (k * 3 + 1)
      have f2 := hfr (k * 3 + 2)
      obtain ⟨y0', e0⟩ : ∃ y, w1.cell? ⟨w.heap.size, k * 3, none⟩ = some y := ⟨ys[k * 3]'(by omega), by rw [hcl _ (by omega)]; simp⟩
      obtain ⟨y1', e1⟩ : ∃ y, w1.cell? ⟨w.heap.size, k * 3 + 1, none⟩ = some y := ⟨ys[k * 3 + 1]'(by omega), by rw [hcl _ (by omega)]; simp⟩
      obtain ⟨y2', e2⟩ : ∃ y, w1.cell? ⟨w.heap.size, k * 3 + 2, none⟩ = some y := ⟨ys[k * 3 + 2]'(by omega), by rw [hcl _ (by omega)]; simp⟩
      have BH := hideIt (BW.out.trans (hb1.mono (show w.heap.size ≤ wr.heap.size by omega)))
      have LM : Hid ((xs ++ [(t, Value.slice a1 t.names.length c1)]).length = k + 1 ∧ (xs ++ [(t, Value.slice a1 t.names.length c1)]).map Prod.fst = (us.take (k + 1)).map Prod.fst) := ⟨by rw [List.length_append, L0]; rfl, by rw [TK.out, List.map_append, M0]; rfl⟩
      have B1 := hideIt (((BH.out.setCell (p := ⟨w.heap.size, k * 3, none⟩) (Nat.le_refl _) (.int .i64 t.code)).setCell (p := ⟨w.heap.size, k * 3 + 1, none⟩) (Nat.le_refl _) (.int .i64 t.val)).setCell (p := ⟨w.heap.size, k * 3 + 2, none⟩) (Nat.le_refl _) (.slice a1 t.names.length c1))
      clear hfr hcl hb1 d0 d1 d2 P1 P0 L0 M0 AP hr1 BW BH RP TK H
      go_wp2
      go_roundw
      case rel => exact ⟨k + 1, by omega, by go_num, ⟨_, _, LM.out.1, LM.out.2, P2.out.wide (by simp)⟩, B1.out, by simp; omega⟩
      case measure => simp [intOf]; omega
    · have e : k = us.length := by omega
      subst e
      clear hc HP HR
      go_wp2
      go_ret
      obtain ⟨L0, M0, P0⟩ := H.out
      rw [List.take_length] at M0
      exact ⟨_, rfl, ⟨xs, M0, P0.done L0⟩, hb⟩
set_option maxRecDepth 100000 in
set_option maxHeartbeats 4000000 in
theorem szAnswerS_any (v : Value) (ts : List Aw) (left : Int) (w : World) (h : RdAs w v ts) (hn : ts.length ≤ maxLen) (hp : ∀ k (hk : k < ts.length), ts[k].names.length ≤ maxLen) (hs : ∀ k (hk : k < ts.length), ∀ j (hj : j < ts[k].names.length), ts[k].names[j].size ≤ maxLen) (h0 : 0 ≤ left) (h1 : left ≤ 1048576) :
    Calls Tryz.prog 46 #[v, .int .i64 left] w fun e w' => ∃ r : Int, e = .returned (.int .i64 r) ∧ (0 ≤ r → (ts.length ≤ 1048576 ∧ ∀ k (hk : k < ts.length), ts[k].names.length ≤ 1048576) ∧ r ≤ 1048576) ∧ -1 ≤ r ∧ Below w.heap.size w w' := by
  obtain ⟨us, eu, r⟩ := h
  have UL : Hid (us.length = ts.length) := aw_fst_len eu
  have UA : Hid (∀ k (hk : k < ts.length), (us[k]'(Nat.lt_of_lt_of_eq hk UL.out.symm)).1 = ts[k]) := fun k hk => aw_fst_at eu k _
  have SH : Hid (∀ k (hk : k < ts.length), RdT w (us[k]'(Nat.lt_of_lt_of_eq hk UL.out.symm)).2 ts[k].names) := fun k hk => by
    have e := r.2 k (Nat.lt_of_lt_of_eq hk UL.out.symm)
    rw [UA.out k hk] at e
    exact e
  obtain ⟨ao, cap, rfl, -, hc⟩ := r.shape
  have HC : Hid (0 < ts.length → ∃ b o, ao = some ⟨b, o, none⟩ ∧ b < w.heap.size ∧ ∀ k (hk : k < ts.length), w.cell? ⟨b, o + k * 3, none⟩ = some (.int .i64 ts[k].code) ∧ w.cell? ⟨b, o + k * 3 + 1, none⟩ = some (.int .i64 ts[k].val) ∧ w.cell? ⟨b, o + k * 3 + 2, none⟩ = some (us[k]'(Nat.lt_of_lt_of_eq hk UL.out.symm)).2) := fun hp => by
    obtain ⟨b, o, rfl, hbl, hcell⟩ := hc (Nat.lt_of_lt_of_eq hp UL.out.symm)
    refine ⟨b, o, rfl, hbl, fun k hk => ?_⟩
    obtain ⟨c0, c1, c2⟩ := hcell k (Nat.lt_of_lt_of_eq hk UL.out.symm)
    rw [UA.out k hk] at c0 c1
    exact ⟨c0, c1, c2⟩
  have HP := hideIt hp
  have HS := hideIt hs
  have hn' : ts.length ≤ maxLen := hn
  unfold maxLen at hn
  rw [UL.out]
  clear eu r hc UA hp hs
  by_cases c : left < (ts.length : Int)
  · have c' : left - (ts.length : Int) < 0 := by omega
    go_enter Tryz.func46, Tryz.ntmps46
    go_wp2
    go_ret
    exact ⟨_, rfl, fun h => absurd h (by decide), by decide, Below.refl _ _⟩
  have c' : ¬ left - (ts.length : Int) < 0 := by omega
  go_enter Tryz.func46, Tryz.ntmps46
  go_wp2
  go_loopw [1, 5] (fun q i wr => ∃ k : Nat, k ≤ ts.length ∧ i = .int .i64 k ∧ (∃ m : Int, q = .int .i64 m ∧ 0 ≤ m ∧ m ≤ 1048576) ∧ Hid (∀ j (hj : j < ts.length), j < k → ts[j].names.length ≤ 1048576) ∧ Below w.heap.size w wr) (fun _ i _ => ts.length - (intOf i).toNat)
  case atStart => exact ⟨0, by omega, rfl, ⟨_, rfl, by omega, by omega⟩, fun j hj h => absurd h (by omega), Below.refl _ _⟩
  case round =>
    obtain ⟨k, hk, rfl, ⟨m, rfl, m0, mb⟩, G, hb⟩ := hrel
    by_cases hlt : k < ts.length
    · obtain ⟨b, o, rfl, hbl, hcell⟩ := HC.out (by omega)
      obtain ⟨c0, c1, c2⟩ := hcell k hlt
      have d0 := (hb.cell (p := ⟨b, o + k * 3, none⟩) hbl).trans c0
      have d1 := (hb.cell (p := ⟨b, o + k * 3 + 1, none⟩) hbl).trans c1
      have d2 := (hb.cell (p := ⟨b, o + k * 3 + 2, none⟩) hbl).trans c2
      have R1 := SH.out k hlt
      obtain ⟨x1, y1, ev, -⟩ := R1.shape
      rw [ev] at d2 R1
      have pl := HP.out k hlt
      have ps := HS.out k hlt
      have BW := hideIt hb
      have RW := hideIt (Rd.below R1 hb)
      have GG : Hid (ts[k].names.length ≤ 1048576 → ∀ j (hj : j < ts.length), j < k + 1 → ts[j].names.length ≤ 1048576) := fun q j hj hjk => by
        by_cases e : j = k
        · subst e; exact q
        · exact G.out j hj (by omega)
      have LS := hideIt (fun (c v : Int) => szAnswer_any c v x1 ts[k].names y1 m wr RW.out pl ps m0 mb)
      clear hcell c0 c1 c2 hb ev HC SH HP HS R1 RW G pl ps
      generalize ts[k].names.length = p at *
      go_wp2_with fail
      refine (LS.out _ _).mono ?_
      rintro e w1 ⟨r, rfl, hr, hr1, hb1⟩
      have B1 := hideIt (BW.out.trans (hb1.mono BW.out.size))
      clear hb1 d0 d1 d2 LS
      by_cases cc : r < 0
      · clear GG hr
        go_wp2
        go_ret
        exact ⟨_, rfl, fun h => absurd h (by decide), by decide, B1.out⟩
      · obtain ⟨g1, g2⟩ := hr (by omega)
        have G2 := hideIt (GG.out g1)
        clear GG hr
        go_wp2
        go_roundw
        case rel => exact ⟨k + 1, by omega, by go_num, ⟨_, rfl, by omega, by omega⟩, G2.out, B1.out⟩
        case measure => simp [intOf]; omega
    · have e : k = ts.length := by omega
      subst e
      go_wp2
      go_ret
      exact ⟨_, rfl, fun _ => ⟨⟨by omega, fun j hj => G.out j hj hj⟩, by omega⟩, by omega, hb⟩
end Go.Proofs.YtmeiionabonhnaaGreatDoor
