/- Updates that are right, and where they are stored: by the program. -/
import Derived.Test.YtjkdmhdehihcbaaGreatDoorJiF
import Derived.Test.YtjkdmhdehihcbaaGreatDoorZBM
namespace Go.Proofs.YtjkdmhdehihcbaaGreatDoor
open Go.RowKit
def upB (s : Se) : Bool := decide ((48 ≤ s.at_ ∧ s.at_ < 336) ∧ 0 ≤ s.val ∧ s.val < 1099511627776)
def upsBB (ps : List Se) : Bool := decide (∀ k (h : k < ps.length), upB ps[k] = true)
theorem upsBB_mk {ps : List Se} (h : ∀ k (h : k < ps.length), upB ps[k] = true) : upsBB ps = true := decide_eq_true h
theorem upsBB_not {ps : List Se} {k : Nat} (hk : k < ps.length) (h : upB ps[k] = false) : upsBB ps = false := decide_eq_false (fun x => by have := x k hk; rw [h] at this; cases this)
theorem upsBB_eq (us : List Se) : upsBB us = upsB us := by
  unfold upsBB upsB
  rw [decide_eq_decide]
  exact ⟨fun h k hk => of_decide_eq_true (h k hk), fun h k hk => decide_eq_true (h k hk)⟩
set_option maxHeartbeats 2000000 in
theorem isUpdate_any (s : Se) (w : World) : Calls Tryz.prog 34 #[.agg #[.int .i64 s.at_, .int .i64 s.val]] w fun e w' => e = .returned (.bool (upB s)) ∧ Below w.heap.size w w' := by
  obtain ⟨a, x⟩ := s
  simp only
  have hb0 : Below w.heap.size w (w.alloc (.cells #[.int .i64 a, .int .i64 x] 87)) := (Below.refl _ _).alloc (Nat.le_refl _) _
  by_cases c1 : 48 ≤ a
  case neg =>
    have E := hideIt (show upB ⟨a, x⟩ = false from decide_eq_false (fun h => c1 h.1.1))
    go_enter Tryz.func34, Tryz.ntmps34
    go_wp2
    go_ret
    exact ⟨ret_bool E.out.symm, hb0⟩
  by_cases c2 : placeB a = true
  case neg =>
    have c2' : placeB a = false := by simpa using c2
    have E := hideIt (show upB ⟨a, x⟩ = false from decide_eq_false (fun h => c2 (decide_eq_true ⟨by omega, h.1.2⟩)))
    have C2 := hideIt c2'
    clear c2 c2'
    go_enter Tryz.func34, Tryz.ntmps34
    go_wp2_with (go_at_call 72; refine (isPlace_any _ _).mono ?_; rw [C2.out]; rintro e w' ⟨rfl, rfl⟩)
    go_ret
    exact ⟨ret_bool E.out.symm, hb0⟩
  have E := hideIt (show upB ⟨a, x⟩ = wordB x by
    unfold upB wordB
    rw [decide_eq_decide]
    have := placeB_true c2
    simp only
    omega)
  have C2 := hideIt c2
  clear c2
  go_enter Tryz.func34, Tryz.ntmps34
  go_wp2_with (first | (go_at_call 72; refine (isPlace_any _ _).mono ?_; rw [C2.out]; rintro e w' ⟨rfl, rfl⟩) | (go_at_call 73; refine (isWord_any _ _).mono ?_; rintro e w' ⟨rfl, rfl⟩))
  go_ret
  exact ⟨ret_bool E.out.symm, hb0⟩
set_option maxHeartbeats 4000000 in
theorem everyUpdate_any (v : Value) (ps : List Se) (w : World) (h : RdE w v ps) (hn : ps.length ≤ 1048576) :
    Calls Tryz.prog 33 #[v, .func (.func 34) #[] #[]] w fun e w' => e = .returned (.bool (upsBB ps)) ∧ Below w.heap.size w w' := by
  obtain ⟨aP, cP, rfl, _, hcP⟩ := h.shape
  clear h
  go_enter Tryz.func33, Tryz.ntmps33
  go_wp2
  go_loopw [6, 9] (fun _ i wr => ∃ k : Nat, k ≤ ps.length ∧ i = .int .i64 k ∧ Hid (∀ j (h : j < ps.length), j < k → upB ps[j] = true) ∧ Below w.heap.size w wr) (fun _ i _ => ps.length - (intOf i).toNat)
  case atStart => exact ⟨0, by omega, rfl, fun j h a => absurd a (by omega), Below.refl _ _⟩
  case round =>
    obtain ⟨m, hm, rfl, H, hbw⟩ := hrel
    have hz := hbw.size
    by_cases hlt2 : m < ps.length
    · obtain ⟨b2, o2, rfl, hbl2, hcell2⟩ := hcP (by omega)
      obtain ⟨d0, d1⟩ := hcell2 m hlt2
      have e0 := (hbw.cell (p := ⟨b2, o2 + m * 2, none⟩) hbl2).trans d0
      have e1 := (hbw.cell (p := ⟨b2, o2 + m * 2 + 1, none⟩) hbl2).trans d1
      have hb1 := hideIt (hbw.alloc hz (.cells #[.int .i64 ps[m].at_, .int .i64 ps[m].val] 87))
      clear d0 d1 hcell2 hcP
      by_cases q : upB ps[m] = true
      · have Q := hideIt q
        clear q
        go_wp2_with (go_at_call 34; refine (isUpdate_any ps[m] _).mono ?_; rw [Q.out]; rintro e w' ⟨rfl, hw'⟩)
        have hw2 := hb1.out.trans (hw'.mono (by simp; omega))
        clear hb1 hw'
        go_roundw
        case rel =>
          refine ⟨m + 1, by omega, by go_num, fun j h a => ?_, hw2⟩
          by_cases e : j = m
          · subst e; exact Q.out
          · exact H.out j h (by omega)
        case measure => simp [intOf]; omega
      · have Q := hideIt (show upB ps[m] = false by simpa using q)
        have E := hideIt (upsBB_not hlt2 Q.out)
        clear q
        go_wp2_with (go_at_call 34; refine (isUpdate_any ps[m] _).mono ?_; rw [Q.out]; rintro e w' ⟨rfl, hw'⟩)
        have hw2 := hb1.out.trans (hw'.mono (by simp; omega))
        go_ret
        exact ⟨ret_bool E.out.symm, hw2⟩
    · have E := hideIt (upsBB_mk (fun j h => H.out j h (by omega)))
      go_wp2
      go_ret
      exact ⟨ret_bool E.out.symm, hbw⟩
theorem journalPlace_any (i : Nat) (w : World) (hi : i ≤ 1048576) : Calls Tryz.prog 111 #[.int .i64 (i : Int)] w fun e w' => e = .returned (.int .i64 (9 + 2 * (i : Int))) ∧ w' = w := by
  go_enter Tryz.func111, Tryz.ntmps111
  go_wp2
  go_ret
  exact ⟨rfl, rfl⟩
theorem inJournal_any (i : Nat) (a x : Int) (w : World) (hi : i ≤ 1048576) : Calls Tryz.prog 76 #[.int .i64 (i : Int), .agg #[.int .i64 a, .int .i64 x]] w fun e w' => ∃ v', e = .returned v' ∧ RdM w' v' [⟨1, 9 + 2 * (i : Int), a⟩, ⟨1, 9 + 2 * (i : Int) + 1, x⟩] ∧ Below w.heap.size w w' := by
  have R := hideIt (rd_mic2 (w.alloc (.cells #[.int .i64 a, .int .i64 x] 87)) 1 (9 + 2 * (i : Int)) a 1 (9 + 2 * (i : Int) + 1) x)
  have B : Hid (Below w.heap.size w ((w.alloc (.cells #[.int .i64 a, .int .i64 x] 87)).alloc (.cells #[.int .i64 1, .int .i64 (9 + 2 * (i : Int)), .int .i64 a, .int .i64 1, .int .i64 (9 + 2 * (i : Int) + 1), .int .i64 x] 41))) := ((Below.refl _ _).alloc (Nat.le_refl _) _).alloc (by simp) _
  go_enter Tryz.func76, Tryz.ntmps76
  go_wp2_with (go_at_call 111; refine (journalPlace_any _ _ hi).mono ?_; rintro e w' ⟨rfl, rfl⟩)
  go_ret
  exact ⟨_, rfl, by unfold RdM; simpa using R.out, B.out⟩
theorem inPlace_any (i : Nat) (a x : Int) (w : World) : Calls Tryz.prog 78 #[.int .i64 (i : Int), .agg #[.int .i64 a, .int .i64 x]] w fun e w' => ∃ v', e = .returned v' ∧ RdM w' v' [⟨1, a, x⟩] ∧ Below w.heap.size w w' := by
  have R := hideIt (rd_mic (w.alloc (.cells #[.int .i64 a, .int .i64 x] 87)) 1 a x)
  have B : Hid (Below w.heap.size w ((w.alloc (.cells #[.int .i64 a, .int .i64 x] 87)).alloc (.cells #[.int .i64 1, .int .i64 a, .int .i64 x] 41))) := ((Below.refl _ _).alloc (Nat.le_refl _) _).alloc (by simp) _
  go_enter Tryz.func78, Tryz.ntmps78
  go_wp2
  go_ret
  exact ⟨_, rfl, by unfold RdM; rw [mis_one_]; simpa using R.out, B.out⟩
theorem countStore_any (n : Int) (w : World) : Calls Tryz.prog 77 #[.int .i64 n] w fun e w' => ∃ v', e = .returned v' ∧ RdM w' v' [⟨1, 8, n⟩] ∧ Below w.heap.size w w' := by
  have R := hideIt (rd_mic w 1 8 n)
  have B : Hid (Below w.heap.size w (w.alloc (.cells #[.int .i64 1, .int .i64 8, .int .i64 n] 41))) := (Below.refl _ _).alloc (Nat.le_refl _) _
  go_enter Tryz.func77, Tryz.ntmps77
  go_wp2
  go_ret
  exact ⟨_, rfl, by unfold RdM; rw [mis_one_]; simpa using R.out, B.out⟩
theorem World.ownsRow.below {w w' : World} {base : Nat} {e : TypeId} {size : Nat} {v : Value} {n : Nat} {xs : List Value} (h : w.ownsRow base e size v n xs) (hb : Below w.heap.size w w') : w'.ownsRow base e size v n xs := by
  obtain ⟨hl, h⟩ := h
  refine ⟨hl, ?_⟩
  rcases h with h | ⟨g, cap, cur, h1, h2, h3, h4⟩
  · exact .inl h
  · exact .inr ⟨g, cap, cur, h1, h2, (hb.block g (Array.getElem?_eq_some_iff.1 h3).1).trans h3, h4⟩
set_option maxRecDepth 100000 in
set_option maxHeartbeats 4000000 in
theorem storesOf_J (v : Value) (us : List Se) (w : World) (h : RdE w v us) (hn : us.length ≤ 64) :
    Calls Tryz.prog 75 #[v, .func (.func 76) #[] #[]] w fun e w' => ∃ v', e = .returned v' ∧ Row w' 41 3 w.heap.size w'.heap.size v' (jlM us us.length).length (mis (jlM us us.length)) ∧ Below w.heap.size w w' := by
  obtain ⟨aU, cU, rfl, _, hcU⟩ := h.shape
  have HU := hideIt hcU
  clear h hcU
  go_enter Tryz.func75, Tryz.ntmps75
  go_wp2
  go_loopw [5, 6, 7, 10] (fun vL _ _ i wr => ∃ m : Nat, m ≤ us.length ∧ i = .int .i64 m ∧ Hid (wr.ownsRow w.heap.size 41 3 vL (jlM us m).length (mis (jlM us m)) ∧ Below w.heap.size w wr) ∧ w.heap.size ≤ wr.heap.size) (fun _ _ _ i _ => us.length - (intOf i).toNat)
  case atStart => exact ⟨0, by omega, rfl, ⟨World.ownsRow_nil _ _ _ _, Below.refl _ _⟩, Nat.le_refl _⟩
  case round =>
    obtain ⟨m, hm, rfl, I, hz⟩ := hrel
    by_cases hlt : m < us.length
    · obtain ⟨b, o, rfl, hbl, hcell⟩ := HU.out (by omega)
      obtain ⟨d0, d1⟩ := hcell m hlt
      have e0 := (I.out.2.cell (p := ⟨b, o + m * 2, none⟩) hbl).trans d0
      have e1 := (I.out.2.cell (p := ⟨b, o + m * 2 + 1, none⟩) hbl).trans d1
      have m0 : (0 : Int) ≤ (m : Int) := by omega
      have m1 : (m : Int) < (us.length : Int) := by omega
      have NX := hideIt (jlM_succ us m hlt)
      have hle := jlM_len us m
      clear d0 d1 hcell
      generalize us[m].at_ = a at *
      generalize us[m].val = x at *
      obtain ⟨wb, hwb⟩ : ∃ wb : World, wb = wr.alloc (.cells #[.int .i64 a, .int .i64 x] 87) := ⟨_, rfl⟩
      have BB : Hid (Below wr.heap.size wr wb) := by rw [hwb]; exact (Below.refl _ _).alloc (Nat.le_refl _) _
      have hzb : wr.heap.size ≤ wb.heap.size := BB.out.size
      have OB : Hid (wb.ownsRow w.heap.size 41 3 u5 (jlM us m).length (mis (jlM us m))) := by rw [hwb]; exact I.out.1.alloc _
      go_wp2_with (first
        | (go_at_call 76; rw [← hwb]; refine (inJournal_any m a x wb (by omega)).mono ?_; rintro e w1 ⟨v1, rfl, hr1, hb1⟩; have O1 := hideIt (World.ownsRow.below OB.out hb1); have R1 := hideIt hr1; have B1 := hideIt hb1; have hz1 : wb.heap.size ≤ w1.heap.size := hb1.size; obtain ⟨a1, c1, rfl, -, -⟩ := hr1.shape; clear hr1 hb1)
        | (at_builtin; refine wpList_append_rd _ rfl (.tmp 15) (.tmp 19) 30 rfl w.heap.size 41 (.agg #[.int .i64 0, .int .i64 0, .int .i64 0]) 3 24 Tryz.underlying30 infoMic rfl (by decide) _ _ _ rfl O1.out _ 2 _ rfl R1.out (mis_one _) (by simp [maxLen]; omega) (by omega) (by omega) ?_))
      intro vN wN hownN hgrN
      have hl := fun q hq => (O1.out.lt q hq).1
      have hzN := hgrN.size
      have G : Hid (wN.ownsRow w.heap.size 41 3 vN (jlM us (m + 1)).length (mis (jlM us (m + 1))) ∧ Below w.heap.size w wN) := by
        refine ⟨?_, ((I.out.2.trans (BB.out.mono hz)).trans (B1.out.mono (by omega))).grown hgrN (by omega) (fun q hq => hl q hq)⟩
        rw [NX.out, mis_append, List.length_append]
        exact hownN
      clear hownN hgrN hl
      go_wp2
      go_roundw
      case rel => exact ⟨m + 1, by omega, by go_num, G, by omega⟩
      case measure => simp [intOf]; omega
    · obtain rfl : m = us.length := by omega
      obtain ⟨aL, cL, hvL⟩ := RdM.form (own_block I.out.1).rd rfl
      subst hvL
      go_wp2
      go_ret
      exact ⟨_, rfl, own_block I.out.1, I.out.2⟩
set_option maxRecDepth 100000 in
set_option maxHeartbeats 4000000 in
theorem storesOf_P (v : Value) (us : List Se) (w : World) (h : RdE w v us) (hn : us.length ≤ 64) :
    Calls Tryz.prog 75 #[v, .func (.func 78) #[] #[]] w fun e w' => ∃ v', e = .returned v' ∧ Row w' 41 3 w.heap.size w'.heap.size v' (apM us us.length).length (mis (apM us us.length)) ∧ Below w.heap.size w w' := by
  obtain ⟨aU, cU, rfl, _, hcU⟩ := h.shape
  have HU := hideIt hcU
  clear h hcU
  go_enter Tryz.func75, Tryz.ntmps75
  go_wp2
  go_loopw [5, 6, 7, 10] (fun vL _ _ i wr => ∃ m : Nat, m ≤ us.length ∧ i = .int .i64 m ∧ Hid (wr.ownsRow w.heap.size 41 3 vL (apM us m).length (mis (apM us m)) ∧ Below w.heap.size w wr) ∧ w.heap.size ≤ wr.heap.size) (fun _ _ _ i _ => us.length - (intOf i).toNat)
  case atStart => exact ⟨0, by omega, rfl, ⟨World.ownsRow_nil _ _ _ _, Below.refl _ _⟩, Nat.le_refl _⟩
  case round =>
    obtain ⟨m, hm, rfl, I, hz⟩ := hrel
    by_cases hlt : m < us.length
    · obtain ⟨b, o, rfl, hbl, hcell⟩ := HU.out (by omega)
      obtain ⟨d0, d1⟩ := hcell m hlt
      have e0 := (I.out.2.cell (p := ⟨b, o + m * 2, none⟩) hbl).trans d0
      have e1 := (I.out.2.cell (p := ⟨b, o + m * 2 + 1, none⟩) hbl).trans d1
      have m0 : (0 : Int) ≤ (m : Int) := by omega
      have m1 : (m : Int) < (us.length : Int) := by omega
      have NX := hideIt (apM_succ us m hlt)
      have hle := apM_len us m
      clear d0 d1 hcell
      generalize us[m].at_ = a at *
      generalize us[m].val = x at *
      obtain ⟨wb, hwb⟩ : ∃ wb : World, wb = wr.alloc (.cells #[.int .i64 a, .int .i64 x] 87) := ⟨_, rfl⟩
      have BB : Hid (Below wr.heap.size wr wb) := by rw [hwb]; exact (Below.refl _ _).alloc (Nat.le_refl _) _
      have hzb : wr.heap.size ≤ wb.heap.size := BB.out.size
      have OB : Hid (wb.ownsRow w.heap.size 41 3 u5 (apM us m).length (mis (apM us m))) := by rw [hwb]; exact I.out.1.alloc _
      go_wp2_with (first
        | (go_at_call 78; rw [← hwb]; refine (inPlace_any m a x wb).mono ?_; rintro e w1 ⟨v1, rfl, hr1, hb1⟩; have O1 := hideIt (World.ownsRow.below OB.out hb1); have R1 := hideIt hr1; have B1 := hideIt hb1; have hz1 : wb.heap.size ≤ w1.heap.size := hb1.size; obtain ⟨a1, c1, rfl, -, -⟩ := hr1.shape; clear hr1 hb1)
        | (at_builtin; refine wpList_append_rd _ rfl (.tmp 15) (.tmp 19) 30 rfl w.heap.size 41 (.agg #[.int .i64 0, .int .i64 0, .int .i64 0]) 3 24 Tryz.underlying30 infoMic rfl (by decide) _ _ _ rfl O1.out _ 1 _ rfl R1.out (mis_one _) (by simp [maxLen]; omega) (by omega) (by omega) ?_))
      intro vN wN hownN hgrN
      have hl := fun q hq => (O1.out.lt q hq).1
      have hzN := hgrN.size
      have G : Hid (wN.ownsRow w.heap.size 41 3 vN (apM us (m + 1)).length (mis (apM us (m + 1))) ∧ Below w.heap.size w wN) := by
        refine ⟨?_, ((I.out.2.trans (BB.out.mono hz)).trans (B1.out.mono (by omega))).grown hgrN (by omega) (fun q hq => hl q hq)⟩
        rw [NX.out, mis_append, List.length_append]
        exact hownN
      clear hownN hgrN hl
      go_wp2
      go_roundw
      case rel => exact ⟨m + 1, by omega, by go_num, G, by omega⟩
      case measure => simp [intOf]; omega
    · obtain rfl : m = us.length := by omega
      obtain ⟨aL, cL, hvL⟩ := RdM.form (own_block I.out.1).rd rfl
      subst hvL
      go_wp2
      go_ret
      exact ⟨_, rfl, own_block I.out.1, I.out.2⟩
end Go.Proofs.YtjkdmhdehihcbaaGreatDoor
