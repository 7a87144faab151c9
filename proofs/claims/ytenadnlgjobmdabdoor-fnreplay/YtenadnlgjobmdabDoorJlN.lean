/- What crashes leave, for the program's own steps; more helpers of the journal's laws. -/
import Derived.Test.YtenadnlgjobmdabDoorJlM
import Derived.BigQuiet
import Derived.Deep.QuietTactic
namespace Go.Proofs.YtenadnlgjobmdabDoor
open Go.RowKit


theorem at_one (v : Value) (i : Int) (w : World) : Calls Tryd.prog 15 #[v, .int .i64 i, .int .i64 1] w fun e w' => e = .returned (.int .i64 0) ∧ Below w.heap.size w w' := by
  go_enter Tryd.func15, Tryd.ntmps15
  go_wp2
  go_ret
  exact ⟨rfl, Below.refl _ _⟩
theorem at_some (v : Value) (bs : List Int) (i n : Int) (w : World) (h : RdB w v bs) (hl : bs.length ≤ 1048576) (h0 : 0 ≤ i) (h1 : i ≤ 9) (hn : 1 ≤ n) (hn2 : n ≤ 100000) :
    Calls Tryd.prog 15 #[v, .int .i64 i, .int .i64 n] w fun e w' => ∃ x : Nat, e = .returned (.int .i64 (x : Int)) ∧ (x : Int) < n ∧ Below w.heap.size w w' := by
  by_cases c : n = 1
  · subst c
    refine (at_one v i w).mono ?_
    rintro e w' ⟨rfl, hb⟩
    exact ⟨0, rfl, by omega, hb⟩
  · refine (at_exact v bs i n w h hl h0 h1 (by omega) hn2).mono ?_
    rintro e w' ⟨rfl, hb⟩
    have := atV_bd bs i n (by omega)
    exact ⟨(atV bs i n).toNat, by rw [Int.toNat_of_nonneg this.1], by omega, hb⟩
/-- The beginning of a list of steps. -/
theorem mis_take (l : List Mi) (m j : Nat) (hj : j < m * 3) (hm : m ≤ l.length) : (mis l)[j]? = (mis (l.take m))[j]? := by
  have e : mis l = mis (l.take m) ++ mis (l.drop m) := by rw [← mis_append, List.take_append_drop]
  rw [e, List.getElem?_append_left (by rw [mis_len, List.length_take]; omega)]
theorem rd_take {w : World} {ao : Option Addr} {n c : Nat} {l : List Mi} {m : Nat} (h : RdM w (.slice ao n c) l) (hn : l.length = n) (hm : m ≤ n) : RdM w (.slice ao m c) (l.take m) := by
  subst hn
  obtain ⟨_, ao', cap, e, h2, h3⟩ := h
  injection e with e1 _ e3
  subst e1 e3
  have hl : (l.take m).length = m := by rw [List.length_take]; omega
  refine ⟨by rw [mis_len], ao, c, by rw [hl], ⟨by rw [hl]; omega, h2.2⟩, fun hp => ?_⟩
  rw [hl] at hp
  obtain ⟨b, o, rfl, hb, hcl⟩ := h3 (by omega)
  refine ⟨b, o, rfl, hb, fun j hj => ?_⟩
  rw [hl] at hj
  rw [hcl j (by omega)]
  exact mis_take l m j hj hm

set_option maxRecDepth 100000 in
set_option maxHeartbeats 1000000 in
/-- Two slices of one length: alike ones are found alike. -/
theorem sameInts_bool (va vb : Value) (xs ys : List Int) (n : Nat) (w : World) (hx : RdI w va xs) (hy : RdI w vb ys) (hxl : xs.length = n) (hyl : ys.length = n) (hn : n ≤ 100000) :
    Calls Tryd.prog 14 #[va, vb] w fun e w' => ∃ b : Bool, e = .returned (.bool b) ∧ (xs = ys → b = true) ∧ Below w.heap.size w w' := by
  by_cases c : xs = ys
  · subst c
    refine (sameIntsE_same va vb xs w hx hy (by omega)).mono ?_
    rintro e w' ⟨rfl, hb⟩
    exact ⟨true, rfl, fun _ => rfl, hb⟩
  · have C := hideIt c
    obtain ⟨ao, cap, e1, _, hc⟩ := hx.shape
    obtain ⟨ao2, cap2, e2, _, hc2⟩ := hy.shape
    rw [hxl] at e1
    rw [hyl] at e2
    subst e1 e2
    have XC : Hid (0 < n → ∃ b o, ao = some ⟨b, o, none⟩ ∧ b < w.heap.size ∧ ∀ k, k < n → w.cell? ⟨b, o + k, none⟩ = some (.int .i64 (xs[k]?.getD 0))) := fun h => by
      obtain ⟨b, o, e, hb, hh⟩ := hc (by omega)
      exact ⟨b, o, e, hb, fun k hk => by rw [hh k (by omega), List.getElem?_eq_getElem (by omega)]; rfl⟩
    have YC : Hid (0 < n → ∃ b o, ao2 = some ⟨b, o, none⟩ ∧ b < w.heap.size ∧ ∀ k, k < n → w.cell? ⟨b, o + k, none⟩ = some (.int .i64 (ys[k]?.getD 0))) := fun h => by
      obtain ⟨b, o, e, hb, hh⟩ := hc2 (by omega)
      exact ⟨b, o, e, hb, fun k hk => by rw [hh k (by omega), List.getElem?_eq_getElem (by omega)]; rfl⟩
    clear hx hy c hc hc2 hxl hyl
    go_enter Tryd.func14, Tryd.ntmps14
    go_wp2
    go_loopw [5] (fun i wr => ∃ k : Nat, k ≤ n ∧ i = .int .i64 k ∧ Below w.heap.size w wr) (fun i _ => n - (intOf i).toNat)
    case atStart => exact ⟨0, by omega, rfl, Below.refl _ _⟩
    case round =>
      obtain ⟨k, hk, rfl, hbw⟩ := hrel
      by_cases hlt : k < n
      · obtain ⟨b, o, rfl, hbl, hcell⟩ := XC.out (by omega)
        obtain ⟨b2, o2, rfl, hbl2, hcell2⟩ := YC.out (by omega)
        have hck := (hbw.cell (p := ⟨b, o + k, none⟩) hbl).trans (hcell k hlt)
        have hck2 := (hbw.cell (p := ⟨b2, o2 + k, none⟩) hbl2).trans (hcell2 k hlt)
        have hlt' : (k : Int) < (n : Int) := by omega
        have hge : (0 : Int) ≤ (k : Int) := by omega
        clear hcell hcell2
        generalize xs[k]?.getD 0 = x at *
        generalize ys[k]?.getD 0 = y at *
        by_cases q : (x != y) = true
        · go_wp2
          go_quiet (fail)
          go_wp2
          go_ret
          exact ⟨_, rfl, fun h => absurd h C.out, Below.drewN'' hbw _⟩
        · have q' : (x != y) = false := by simpa using q
          clear q
          go_wp2
          go_quiet (fail)
          go_wp2
          go_roundw
          case rel => exact ⟨k + 1, by omega, by go_num, Below.drewN'' hbw _⟩
          case measure => simp [intOf]; omega
      · go_wp2
        go_ret
        exact ⟨_, rfl, fun h => absurd h C.out, hbw⟩

theorem zero_drop {X : List Int} (hX : X.length = 336) (hz : Zero X) : X.drop 48 = zs336.drop 48 := drop_eq hX zs336_len (fun a h1 h2 => by rw [zs336_at a h2]; exact hz.2 a h1 h2)
/-- The journal's theorem, for one crash. -/
theorem atomic_math {us : List Se} (h : DrOK us) (hl : us.length ≤ 5) (m : Nat) (zs : List Int) :
    ∃ W P rl F, ms ((planL (upsL us)).take m) zs336 [] zs32 [] = ⟨0, W, P, zs32, []⟩ ∧ pmB W P = true ∧ pmB (crW W P zs) [] = true ∧ rpC (crW W P zs) [] = 0 ∧ rpL (crW W P zs) [] = rl ∧ rl.length ≤ 100 ∧
      ms rl (crW W P zs) [] zs32 [] = ⟨0, F, [], zs32, []⟩ ∧ pmB F [] = true ∧ F[8]?.getD 0 = 0 ∧ (F.drop 48 = zs336.drop 48 ∨ F.drop 48 = (layE zs336 us).drop 48) := by
  obtain ⟨W, P, e1, h1, h2, hc⟩ := plan_crash h hl m zs
  rcases hc with ⟨r1, r2, hx⟩ | ⟨r1, r2, hw⟩
  · refine ⟨W, P, [], crW W P zs, e1, h1, h2, r1, r2, by simp, none_done h2, h2, ?_, ?_⟩
    · rcases hx with hx | hx
      · exact hx.1
      · exact hx.1
    · rcases hx with hx | hx
      · exact .inl (zero_drop (pmB_iff.1 h2).1 hx)
      · exact .inr (done_due h (pmB_iff.1 h2).1 hx)
  · obtain ⟨F, e2, h3, hd⟩ := apply_done h hl h2 hw
    exact ⟨W, P, _, F, e1, h1, h2, r1, r2, by have := applyL_len us; omega, e2, h3, hd.1, .inr (done_due h (pmB_iff.1 h3).1 hd)⟩
/-- The journal's theorem, for a crash of the replay too. -/
theorem replay_math {us : List Se} (h : DrOK us) (hl : us.length ≤ 5) (m : Nat) (zs : List Int) :
    ∃ W P rl F, ms ((planL (upsL us)).take m) zs336 [] zs32 [] = ⟨0, W, P, zs32, []⟩ ∧ pmB W P = true ∧ pmB (crW W P zs) [] = true ∧ rpC (crW W P zs) [] = 0 ∧ rpL (crW W P zs) [] = rl ∧ rl.length ≤ 100 ∧
      ms rl (crW W P zs) [] zs32 [] = ⟨0, F, [], zs32, []⟩ ∧ pmB F [] = true ∧
      ∀ (m2 : Nat) (zs2 : List Int), ∃ W2 P2 rl2 F2, ms (rl.take m2) (crW W P zs) [] zs32 [] = ⟨0, W2, P2, zs32, []⟩ ∧ pmB W2 P2 = true ∧ pmB (crW W2 P2 zs2) [] = true ∧ rpC (crW W2 P2 zs2) [] = 0 ∧ rpL (crW W2 P2 zs2) [] = rl2 ∧ rl2.length ≤ 100 ∧
        ms rl2 (crW W2 P2 zs2) [] zs32 [] = ⟨0, F2, [], zs32, []⟩ ∧ pmB F2 [] = true ∧ F2.drop 48 = F.drop 48 := by
  obtain ⟨W, P, e1, h1, h2, hc⟩ := plan_crash h hl m zs
  rcases hc with ⟨r1, r2, hx⟩ | ⟨r1, r2, hw⟩
  · refine ⟨W, P, [], crW W P zs, e1, h1, h2, r1, r2, by simp, none_done h2, h2, fun m2 zs2 => ⟨crW W P zs, [], [], crW W P zs, ?_, h2, ?_, ?_, ?_, by simp, ?_, h2, rfl⟩⟩
    · rw [List.take_nil]; exact none_done h2
    all_goals rw [crash_sure]
    · exact h2
    · exact r1
    · exact r2
    · exact none_done h2
  · obtain ⟨F, e2, h3, hd⟩ := apply_done h hl h2 hw
    have hL := applyL_len us
    refine ⟨W, P, _, F, e1, h1, h2, r1, r2, by omega, e2, h3, fun m2 zs2 => ?_⟩
    have h0 : 0 < us.length := by
      apply Classical.byContradiction
      intro h0
      obtain rfl : us = [] := by cases us with | nil => rfl | cons u l => simp at h0
      have h8 : (crW W P zs)[8]?.getD 0 = 0 := hw.1
      have := (rp_zero h2 h8).2
      rw [r2] at this
      simp [applyL, seg, flushL] at this
    obtain ⟨W2, P2, e3, h4, h5, hc2⟩ := apply_crash h hl h2 h0 hw m2 zs2
    rcases hc2 with ⟨q1, q2, hd2⟩ | ⟨q1, q2, hw2⟩
    · exact ⟨W2, P2, [], _, e3, h4, h5, q1, q2, by simp, none_done h5, h5, (done_due h (pmB_iff.1 h5).1 hd2).trans (done_due h (pmB_iff.1 h3).1 hd).symm⟩
    · obtain ⟨F2, e4, h6, hd2⟩ := apply_done h hl h5 hw2
      exact ⟨W2, P2, _, F2, e3, h4, h5, q1, q2, by omega, e4, h6, (done_due h (pmB_iff.1 h6).1 hd2).trans (done_due h (pmB_iff.1 h3).1 hd).symm⟩
end Go.Proofs.YtenadnlgjobmdabDoor
