/- The words with writes that are not sure: by the model. -/
import Derived.Test.YtbjcoeimcdodjaaDoorBlkBar
namespace Go.Proofs.YtbjcoeimcdodjaaDoor
open Go.RowKit
def hasE (ps : List Se) (k : Nat) : Bool := ps.any (fun p => p.at_ == (k : Int))
def unsNE (ps : List Se) (m : Nat) : List Nat := (List.range m).filter (hasE ps)
def unsLE (ps : List Se) (m : Nat) : List Int := (unsNE ps m).map (fun (k : Nat) => (k : Int))
theorem unsNE_succ (ps : List Se) (m : Nat) : unsNE ps (m + 1) = if hasE ps m = true then unsNE ps m ++ [m] else unsNE ps m := by
  unfold unsNE
  rw [List.range_succ, List.filter_append]
  by_cases h : hasE ps m = true
  · rw [if_pos h]; simp [h]
  · rw [if_neg h]; simp [h]
theorem unsLE_hit {ps : List Se} {m : Nat} (h : hasE ps m = true) : unsLE ps (m + 1) = unsLE ps m ++ [(m : Int)] := by
  unfold unsLE
  rw [unsNE_succ, if_pos h, List.map_append]
  rfl
theorem unsLE_miss {ps : List Se} {m : Nat} (h : hasE ps m = false) : unsLE ps (m + 1) = unsLE ps m := by
  unfold unsLE
  rw [unsNE_succ, if_neg (by rw [h]; simp)]
theorem unsLE_le (ps : List Se) (m : Nat) : (unsLE ps m).length ≤ m := by
  unfold unsLE unsNE
  rw [List.length_map]
  have := List.length_filter_le (hasE ps) (List.range m)
  simpa using this
theorem hasE_hit {ps : List Se} {m j : Nat} (hj : j < ps.length) (h : ps[j].at_ = (m : Int)) : hasE ps m = true := by
  unfold hasE
  rw [List.any_eq_true]
  exact ⟨ps[j], List.getElem_mem hj, by simpa using h⟩
theorem hasE_none {ps : List Se} {m : Nat} (h : ∀ j (hj : j < ps.length), ¬ ps[j].at_ = (m : Int)) : hasE ps m = false := by
  unfold hasE
  rw [List.any_eq_false]
  intro p hp
  obtain ⟨i, hi, rfl⟩ := List.getElem_of_mem hp
  simpa using h i hi
set_option maxRecDepth 100000 in
set_option maxHeartbeats 4000000 in
theorem l02Unsure_any (v : Value) (ws : List Int) (ps : List Se) (w : World) (h : RdBlk w v ws ps) (hp : ps.length ≤ 1048576) :
    Calls Tryd.prog 39 #[v] w fun e w' => ∃ v', e = .returned v' ∧ Row w' 3 1 w.heap.size w'.heap.size v' (unsLE ps 32).length (ints (unsLE ps 32)) ∧ Below w.heap.size w w' := by
  obtain ⟨vW, vP, rfl, h1, h2⟩ := h
  obtain ⟨aW, cW, rfl, _⟩ := h1.shape
  obtain ⟨aP, cP, rfl, _, hcP⟩ := h2.shape
  have HP := hideIt hcP
  clear h1 h2 hcP
  have hb0 : Below w.heap.size w (w.alloc (.cells #[.slice aW ws.length cW, .slice aP ps.length cP] 26)) := (Below.refl _ _).alloc (Nat.le_refl _) _
  have ho : ((w.alloc (.cells #[.slice aW ws.length cW, .slice aP ps.length cP] 26)).alloc (.cells #[] 3)).ownsRow (w.heap.size + 1) 3 1 (.slice (some ⟨w.heap.size + 1, 0, none⟩) 0 0) 0 [] := by
    simpa using World.ownsRow_lit (base := w.heap.size + 1) (e := 3) (size := 1) (w.alloc (.cells #[.slice aW ws.length cW, .slice aP ps.length cP] 26)) #[] 0 (by simp) (by simp) rfl
  have START := hideIt (And.intro ho (And.intro (at_old (o := .cells #[] 3) (at_new (w := w) (o := .cells #[.slice aW ws.length cW, .slice aP ps.length cP] 26) rfl)) (hb0.alloc (by simp) (.cells #[] 3))))
  clear hb0 ho
  go_enter Tryd.func39, Tryd.ntmps39
  go_wp2
  go_loopw [3, 4, 5] (fun vL i _ wr => ∃ m : Nat, m ≤ 32 ∧ i = .int .i64 m ∧ Hid (wr.ownsRow (w.heap.size + 1) 3 1 vL (unsLE ps m).length (ints (unsLE ps m)) ∧ wr.heap[w.heap.size]? = some (.cells #[.slice aW ws.length cW, .slice aP ps.length cP] 26 (0, 0)) ∧ Below w.heap.size w wr) ∧ w.heap.size + 1 ≤ wr.heap.size) (fun _ i _ _ => 32 - (intOf i).toNat)
  case atStart => exact ⟨0, by omega, rfl, ⟨by simpa [unsLE, unsNE, ints] using START.out.1, START.out.2⟩, by simp⟩
  case round =>
    obtain ⟨m, hm, rfl, I, hz⟩ := hrel
    obtain ⟨y1, y2, y3, y4⟩ := two_cells I.out.2.1
    by_cases hlt : m < 32
    · go_wp2
      go_loop [3, 5] (fun vL i => ∃ n : Nat, n ≤ ps.length ∧ i = .int .i64 n ∧ vL = u3 ∧ Hid (∀ j (hj : j < ps.length), j < n → ¬ ps[j].at_ = (m : Int))) (fun _ i => ps.length - (intOf i).toNat)
      case atStart => exact ⟨0, by omega, rfl, rfl, fun j _ h => absurd h (by omega)⟩
      case round =>
        obtain ⟨n, hn, rfl, rfl, H⟩ := hrel
        by_cases hlt2 : n < ps.length
        · obtain ⟨b, o, rfl, hbl, hcell⟩ := HP.out (by omega)
          have d0 := (I.out.2.2.cell (p := ⟨b, o + n * 2, none⟩) hbl).trans (hcell n hlt2).1
          clear hcell
          by_cases c : ps[n].at_ = (m : Int)
          · have c' : (ps[n].at_ == (m : Int)) = true := by simpa using c
            have E := hideIt (unsLE_hit (hasE_hit hlt2 c))
            clear c H
            have O2 := hideIt (I.out.1.alloc (.cells #[.int .i64 (m : Int)] 3))
            have HRD := hideIt (rd_int wr (m : Int))
            have hle := unsLE_le ps m
            go_wp2_with (at_builtin; refine wpList_append_rd _ rfl (.tmp 26) (.tmp 28) 23 rfl (w.heap.size + 1) 3 (.int .i64 0) 1 8 Tryd.underlying23 info3 rfl (by decide) _ _ _ rfl O2.out _ 1 _ rfl HRD.out (by simp [Value.oneCell']) (by simp [maxLen]; omega) (by omega) (by simp; omega) ?_)
            intro vN wN hownN hgrN
            have hl := fun k hk => (O2.out.lt k hk).1
            have hzN := hgrN.size
            simp only [World.size_alloc] at hzN
            have G : Hid (wN.ownsRow (w.heap.size + 1) 3 1 vN (unsLE ps (m + 1)).length (ints (unsLE ps (m + 1))) ∧ wN.heap[w.heap.size]? = some (.cells #[.slice aW ws.length cW, .slice (some ⟨b, o, none⟩) ps.length cP] 26 (0, 0)) ∧ Below w.heap.size w wN) := by
              refine ⟨?_, (hgrN.block w.heap.size (by simp; omega) (fun e => by have := hl _ e.symm; omega)).trans (at_old I.out.2.1), (I.out.2.2.alloc (by omega) (.cells #[.int .i64 (m : Int)] 3)).grown hgrN (by simp; omega) (fun k hk => by have := hl k hk; omega)⟩
              rw [E.out, ints_snoc, List.length_append]
              exact hownN
            clear hownN hgrN hl
            go_wp2
            go_roundw
            case rel => exact ⟨m + 1, by omega, by go_num, G, by omega⟩
            case measure => simp [intOf]; omega
          · have c' : (ps[n].at_ == (m : Int)) = false := by simpa using c
            have C := hideIt c
            clear c
            go_wp2
            go_round
            case rel =>
              refine ⟨n + 1, by omega, by go_num, rfl, fun j hj hjn => ?_⟩
              by_cases e : j = n
              · subst e; exact C.out
              · exact H.out j hj (by omega)
            case measure => simp [intOf]; omega
        · have E := hideIt (unsLE_miss (hasE_none (fun j hj => H.out j hj (by omega))))
          clear H
          go_wp2
          go_roundw
          case rel => exact ⟨m + 1, by omega, by go_num, by rw [E.out]; exact I, hz⟩
          case measure => simp [intOf]; omega
    · have e : m = 32 := by omega
      subst e
      obtain ⟨aL, cL, hvL⟩ := RdI.form (own_block I.out.1).rd rfl
      subst hvL
      go_wp2
      go_ret
      exact ⟨_, rfl, (own_block I.out.1).wide (by omega) (Nat.le_refl _), I.out.2.2⟩
def unsZE (ws : List Int) (ps : List Se) : List Int := if blkB ws ps = true then unsLE ps 32 else []
theorem unsE_not {ws : List Int} {ps : List Se} (h : blkB ws ps = false) : barC ws ps = 1 ∧ unsZE ws ps = [] := by
  unfold barC unsZE
  rw [h]
  exact ⟨rfl, rfl⟩
theorem unsE_ok {ws : List Int} {ps : List Se} (h : blkB ws ps = true) : barC ws ps = 0 ∧ unsZE ws ps = unsLE ps 32 := by
  unfold barC unsZE
  rw [h]
  exact ⟨rfl, rfl⟩
set_option maxHeartbeats 4000000 in
theorem specBlkUnsure_any (v : Value) (ws : List Int) (ps : List Se) (w : World) (h : RdBlk w v ws ps) (hw : ws.length ≤ 1048576) (hp : ps.length ≤ 1048576) :
    Calls Tryd.prog 15 #[v] w fun e w' => ∃ v', e = .returned (.tuple #[v', .int .i64 (barC ws ps)]) ∧ Row w' 3 1 w.heap.size w'.heap.size v' (unsZE ws ps).length (ints (unsZE ws ps)) ∧ Below w.heap.size w w' := by
  have HR := hideIt h
  obtain ⟨vW, vP, rfl, h1, h2⟩ := h
  obtain ⟨aW, cW, rfl, _⟩ := h1.shape
  obtain ⟨aP, cP, rfl, _⟩ := h2.shape
  clear h1 h2
  have hb0 : Below w.heap.size w (w.alloc (.cells #[.slice aW ws.length cW, .slice aP ps.length cP] 26)) := (Below.refl _ _).alloc (Nat.le_refl _) _
  by_cases hc : blkB ws ps = true
  · obtain ⟨e1, e2⟩ := unsE_ok hc
    rw [e1, e2]
    clear e1 e2
    go_enter Tryd.func15, Tryd.ntmps15
    go_wp2_with fail
    refine (specBlkOK_any _ ws ps _ (HR.out.below hb0) hw hp).mono ?_
    rintro e w1 ⟨rfl, hb1⟩
    have hz1 : w.heap.size + 1 ≤ w1.heap.size := by have := hb1.size; simp at this; omega
    have V0 := (hb1.block w.heap.size (by simp <;> omega)).trans (at_new rfl)
    obtain ⟨x1, x2, x3, x4⟩ := two_cells V0
    have B1 := hideIt (below_trans hb0 hb1 (by simp <;> omega))
    clear hb0 hb1 V0
    go_wp2_with fail
    refine (l02Unsure_any _ ws ps _ (HR.out.below B1.out) hp).mono ?_
    rintro e w2 ⟨v2, rfl, hr2, hb2⟩
    obtain ⟨aZ, cZ, rfl⟩ := RdI.form hr2.rd rfl
    have R := hideIt hr2
    have B2 := hideIt (below_trans B1.out hb2 (by omega))
    clear hr2 hb2
    go_wp2
    go_ret2
    exact ⟨_, rfl, R.out.wide (by omega) (Nat.le_refl _), B2.out⟩
  · have hc' : blkB ws ps = false := by simpa using hc
    clear hc
    obtain ⟨e1, e2⟩ := unsE_not hc'
    rw [e1, e2]
    clear e1 e2
    go_enter Tryd.func15, Tryd.ntmps15
    go_wp2_with fail
    refine (specBlkOK_any _ ws ps _ (HR.out.below hb0) hw hp).mono ?_
    rintro e w1 ⟨rfl, hb1⟩
    have hz1 : w.heap.size + 1 ≤ w1.heap.size := by have := hb1.size; simp at this; omega
    have B1 := hideIt (below_trans hb0 hb1 (by simp <;> omega))
    have ho : (w1.alloc (.cells #[] 3)).ownsRow w1.heap.size 3 1 (.slice (some ⟨w1.heap.size, 0, none⟩) 0 0) 0 [] := by
      simpa using World.ownsRow_lit (base := w1.heap.size) (e := 3) (size := 1) w1 #[] 0 (by simp) (by simp) rfl
    have O := hideIt ho
    clear hb0 hb1 ho
    go_wp2
    go_ret2
    exact ⟨_, rfl, (own_block O.out).wide (by omega) (Nat.le_refl _), B1.out.alloc (by omega) _⟩
end Go.Proofs.YtbjcoeimcdodjaaDoor
