/- The words with stores that are not sure: by the model. -/
import Derived.Test.YtbjcoeimcdodjaaZAL
namespace Go.Proofs.Ytbjcoeimcdodjaa
open Go.RowKit
def hasAt (ps : List St) (k : Nat) : Bool := ps.any (fun p => p.at_ == (k : Int))
def unsN (ps : List St) (m : Nat) : List Nat := (List.range m).filter (hasAt ps)
def unsL (ps : List St) (m : Nat) : List Int := (unsN ps m).map (fun (k : Nat) => (k : Int))
theorem unsN_succ (ps : List St) (m : Nat) : unsN ps (m + 1) = if hasAt ps m = true then unsN ps m ++ [m] else unsN ps m := by
  unfold unsN
  rw [List.range_succ, List.filter_append]
  by_cases h : hasAt ps m = true
  · rw [if_pos h]; simp [h]
  · rw [if_neg h]; simp [h]
theorem unsL_hit {ps : List St} {m : Nat} (h : hasAt ps m = true) : unsL ps (m + 1) = unsL ps m ++ [(m : Int)] := by
  unfold unsL
  rw [unsN_succ, if_pos h, List.map_append]
  rfl
theorem unsL_miss {ps : List St} {m : Nat} (h : hasAt ps m = false) : unsL ps (m + 1) = unsL ps m := by
  unfold unsL
  rw [unsN_succ, if_neg (by rw [h]; simp)]
theorem unsL_le (ps : List St) (m : Nat) : (unsL ps m).length ≤ m := by
  unfold unsL unsN
  rw [List.length_map]
  have := List.length_filter_le (hasAt ps) (List.range m)
  simpa using this
theorem hasAt_hit {ps : List St} {m j : Nat} (hj : j < ps.length) (h : ps[j].at_ = (m : Int)) : hasAt ps m = true := by
  unfold hasAt
  rw [List.any_eq_true]
  exact ⟨ps[j], List.getElem_mem hj, by simpa using h⟩
theorem hasAt_none {ps : List St} {m : Nat} (h : ∀ j (hj : j < ps.length), ¬ ps[j].at_ = (m : Int)) : hasAt ps m = false := by
  unfold hasAt
  rw [List.any_eq_false]
  intro p hp
  obtain ⟨i, hi, rfl⟩ := List.getElem_of_mem hp
  simpa using h i hi
set_option maxRecDepth 100000 in
set_option maxHeartbeats 4000000 in
theorem l01Unsure_any (v : Value) (ws : List Int) (ps : List St) (w : World) (h : RdPm w v ws ps) (hp : ps.length ≤ 1048576) :
    Calls Try.prog 60 #[v] w fun e w' => ∃ v', e = .returned v' ∧ Row w' 3 1 w.heap.size w'.heap.size v' (unsL ps 336).length (ints (unsL ps 336)) ∧ Below w.heap.size w w' := by
  obtain ⟨vW, vP, rfl, h1, h2⟩ := h
  obtain ⟨aW, cW, rfl, _⟩ := h1.shape
  obtain ⟨aP, cP, rfl, _, hcP⟩ := h2.shape
  have HP := hideIt hcP
  clear h1 h2 hcP
  have hb0 : Below w.heap.size w (w.alloc (.cells #[.slice aW ws.length cW, .slice aP ps.length cP] 26)) := (Below.refl _ _).alloc (Nat.le_refl _) _
  have ho : ((w.alloc (.cells #[.slice aW ws.length cW, .slice aP ps.length cP] 26)).alloc (.cells #[] 3)).ownsRow (w.heap.size + 1) 3 1 (.slice (some ⟨w.heap.size + 1, 0, none⟩) 0 0) 0 [] := by
    simpa using World.ownsRow_lit (base := w.heap.size + 1) (e := 3) (size := 1) (w.alloc (.cells #[.slice aW ws.length cW, .slice aP ps.length cP] 26)) #[] 0 (by simp) (by simp) rfl
  have START := hideIt (And.intro ho (And.intro (at_old (o := .cells #[] 3) (at_new (w := w) (o := .cells #[.slice aW ws.length cW, .slice aP ps.length cP] 26) rfl)) (hb0.alloc (by simp) (.cells #[] 3))))
  clear hb0 ho
  go_enter Try.func60, Try.ntmps60
  go_wp2
  go_loopw [3, 4, 5] (fun vL i _ wr => ∃ m : Nat, m ≤ 336 ∧ i = .int .i64 m ∧ Hid (wr.ownsRow (w.heap.size + 1) 3 1 vL (unsL ps m).length (ints (unsL ps m)) ∧ wr.heap[w.heap.size]? = some (.cells #[.slice aW ws.length cW, .slice aP ps.length cP] 26 (0, 0)) ∧ Below w.heap.size w wr) ∧ w.heap.size + 1 ≤ wr.heap.size) (fun _ i _ _ => 336 - (intOf i).toNat)
  case atStart => exact ⟨0, by omega, rfl, ⟨by simpa [unsL, unsN, ints] using START.out.1, START.out.2⟩, by simp⟩
  case round =>
    obtain ⟨m, hm, rfl, I, hz⟩ := hrel
    obtain ⟨y1, y2, y3, y4⟩ := two_cells I.out.2.1
    by_cases hlt : m < 336
    · go_wp2
      go_loop [3, 5] (fun vL i => ∃ n : Nat, n ≤ ps.length ∧ i = .int .i64 n ∧ vL = u3 ∧ Hid (∀ j (hj : j < ps.length), j < n → ¬ ps[j].at_ = (m : Int))) (fun _ i => ps.length - (intOf i).toNat)
      case atStart => exact ⟨0, by omega, rfl, rfl, fun j _ h => absurd h (by omega)⟩
      case round =>
        obtain ⟨n, hn, rfl, rfl, H⟩ := hrel
        by_cases hlt2 : n < ps.length
        · obtain ⟨b, o, rfl, hbl, hcell⟩ := HP.out (by omega)
          have d0 := (I.out.2.2.cell (p := ⟨b, o + n * 3, none⟩) hbl).trans (hcell n hlt2).1
          clear hcell
          by_cases c : ps[n].at_ = (m : Int)
          · have c' : (ps[n].at_ == (m : Int)) = true := by simpa using c
            have E := hideIt (unsL_hit (hasAt_hit hlt2 c))
            clear c H
            have O2 := hideIt (I.out.1.alloc (.cells #[.int .i64 (m : Int)] 3))
            have HRD := hideIt (rd_int wr (m : Int))
            have hle := unsL_le ps m
            go_wp2_with (at_builtin; refine wpList_append_rd _ rfl (.tmp 26) (.tmp 28) 23 rfl (w.heap.size + 1) 3 (.int .i64 0) 1 8 Try.underlying23 info3 rfl (by decide) _ _ _ rfl O2.out _ 1 _ rfl HRD.out (by simp [Value.oneCell']) (by simp [maxLen]; omega) (by omega) (by simp; omega) ?_)
            intro vN wN hownN hgrN
            have hl := fun k hk => (O2.out.lt k hk).1
            have hzN := hgrN.size
            simp only [World.size_alloc] at hzN
            have G : Hid (wN.ownsRow (w.heap.size + 1) 3 1 vN (unsL ps (m + 1)).length (ints (unsL ps (m + 1))) ∧ wN.heap[w.heap.size]? = some (.cells #[.slice aW ws.length cW, .slice (some ⟨b, o, none⟩) ps.length cP] 26 (0, 0)) ∧ Below w.heap.size w wN) := by
              refine ⟨?_, (hgrN.block w.heap.size (by simp; omega) (fun e => by have := hl _ e.symm; omega)).trans (at_old I.out.2.1), (I.out.2.2.alloc (by omega) (.cells #[.int .i64 (m : Int)] 3)).grown hgrN (by simp; omega) (fun k hk => by have := hl k hk; omega)⟩
              rw [E.out, ints_snoc, List.length_append]
              exact hownN
            clear hownN hgrN hl
            go_wp2
            go_roundw
            case rel => exact ⟨m + 1, by omega, by go_num, G, by omega⟩
            case measure => simp [intOf]; omega
          · have c' : (ps[n].at_ == (m : Int)) = false := by simpa using c
            have C := hideIt c
            clear c
            go_wp2
            go_round
            case rel =>
              refine ⟨n + 1, by omega, by go_num, rfl, fun j hj hjn => ?_⟩
              by_cases e : j = n
              · subst e; exact C.out
              · exact H.out j hj (by omega)
            case measure => simp [intOf]; omega
        · have E := hideIt (unsL_miss (hasAt_none (fun j hj => H.out j hj (by omega))))
          clear H
          go_wp2
          go_roundw
          case rel => exact ⟨m + 1, by omega, by go_num, by rw [E.out]; exact I, hz⟩
          case measure => simp [intOf]; omega
    · have e : m = 336 := by omega
      subst e
      obtain ⟨aL, cL, hvL⟩ := RdI.form (own_block I.out.1).rd rfl
      subst hvL
      go_wp2
      go_ret
      exact ⟨_, rfl, (own_block I.out.1).wide (by omega) (Nat.le_refl _), I.out.2.2⟩
def unsZ (ws : List Int) (ps : List St) : List Int := if pmB ws ps = true then unsL ps 336 else []
theorem uns_not {ws : List Int} {ps : List St} (h : pmB ws ps = false) : seenC ws ps = 1 ∧ unsZ ws ps = [] := by
  unfold seenC unsZ
  rw [h]
  exact ⟨rfl, rfl⟩
theorem uns_ok {ws : List Int} {ps : List St} (h : pmB ws ps = true) : seenC ws ps = 0 ∧ unsZ ws ps = unsL ps 336 := by
  unfold seenC unsZ
  rw [h]
  exact ⟨rfl, rfl⟩
end Go.Proofs.Ytbjcoeimcdodjaa
