/- A line flushed: by the model. -/
import Derived.Test.YtbjcoeimcdodjaaPmStoreI
namespace Go.Proofs.Ytbjcoeimcdodjaa
open Go.RowKit
theorem sts_get (l : List St) (j : Nat) (hj : j / 3 < l.length) : (sts l)[j]? = (l[j / 3]).cells[j % 3]? := by
  have := flatMap_at St.cells 3 St.cells_len l (j / 3) (j % 3) hj (Nat.mod_lt _ (by decide))
  rw [show j / 3 * 3 + j % 3 = j from by omega] at this
  exact this
theorem sts_setfl (l : List St) (m : Nat) (hm : m < l.length) (b : Bool) : (sts l).set (m * 3 + 2) (.bool b) = sts (l.set m ⟨l[m].at_, l[m].val, b⟩) := by
  apply List.ext_getElem?
  intro j
  by_cases hj : j < l.length * 3
  · have h3 : j / 3 < l.length := by omega
    have h3' : j / 3 < (l.set m ⟨l[m].at_, l[m].val, b⟩).length := by simpa using h3
    rw [set_at (by rw [sts_len]; exact hj), sts_get _ j h3', sts_get l j h3, List.getElem_set]
    by_cases e : m = j / 3
    · rw [if_pos e]
      subst e
      rcases (show j % 3 = 0 ∨ j % 3 = 1 ∨ j % 3 = 2 from by omega) with r | r | r
      · rw [if_neg (by omega), r]; rfl
      · rw [if_neg (by omega), r]; rfl
      · rw [if_pos (by omega), r]; rfl
    · rw [if_neg e, if_neg (by omega)]
  · rw [List.getElem?_eq_none (by rw [List.length_set, sts_len]; omega), List.getElem?_eq_none (by rw [sts_len, List.length_set]; omega)]
def fl1 (k : Int) (p : St) : St := if p.at_ / 8 = k / 8 then ⟨p.at_, p.val, true⟩ else p
def mix (k : Int) (ps : List St) (m : Nat) : List St := (ps.take m).map (fl1 k) ++ ps.drop m
theorem mix_len (k : Int) (ps : List St) (m : Nat) (hm : m ≤ ps.length) : (mix k ps m).length = ps.length := by simp [mix]; omega
theorem mix_zero (k : Int) (ps : List St) : mix k ps 0 = ps := by simp [mix]
theorem mix_all (k : Int) (ps : List St) : mix k ps ps.length = ps.map (fl1 k) := by simp [mix]
theorem mix_at (k : Int) (ps : List St) (m : Nat) (hm : m < ps.length) (h : m < (mix k ps m).length) : (mix k ps m)[m] = ps[m] := by
  have e : (mix k ps m)[m]? = ps[m]? := by
    unfold mix
    rw [List.getElem?_append_right (by rw [List.length_map, List.length_take]; omega)]
    simp [Nat.min_eq_left (Nat.le_of_lt hm)]
  rw [List.getElem?_eq_getElem h, List.getElem?_eq_getElem hm] at e
  exact Option.some.inj e
theorem mix_succ (k : Int) (ps : List St) (m : Nat) (hm : m < ps.length) : mix k ps (m + 1) = (mix k ps m).set m (fl1 k ps[m]) := by
  unfold mix
  rw [List.take_succ_eq_append_getElem hm, List.map_append, List.set_append_right _ _ (by rw [List.length_map, List.length_take]; omega)]
  simp only [List.map_cons, List.map_nil, List.length_map, List.length_take, Nat.min_eq_left (Nat.le_of_lt hm), Nat.sub_self]
  rw [List.drop_eq_getElem_cons hm, List.set_cons_zero, List.append_assoc]
  rfl
theorem mix_hit {k : Int} {ps : List St} {m : Nat} (hm : m < ps.length) (h : ps[m].at_ / 8 = k / 8) : (sts (mix k ps m)).set (m * 3 + 2) (.bool true) = sts (mix k ps (m + 1)) := by
  have hl : m < (mix k ps m).length := by rw [mix_len _ _ _ (by omega)]; exact hm
  rw [sts_setfl _ m hl, mix_succ k ps m hm, mix_at k ps m hm hl]
  unfold fl1
  rw [if_pos h]
theorem mix_miss {k : Int} {ps : List St} {m : Nat} (hm : m < ps.length) (h : ¬ ps[m].at_ / 8 = k / 8) : mix k ps (m + 1) = mix k ps m := by
  have hl : m < (mix k ps m).length := by rw [mix_len _ _ _ (by omega)]; exact hm
  rw [mix_succ k ps m hm]
  unfold fl1
  rw [if_neg h]
  have := mix_at k ps m hm hl
  rw [← this, List.set_getElem_self]
set_option maxHeartbeats 4000000 in
theorem l01Flush_any (v : Value) (ws : List Int) (ps : List St) (k : Nat) (w : World) (h : RdPm w v ws ps) (hp : ps.length ≤ 1048576) (hk : k < 336) (hok : ∀ j (h : j < ps.length), 0 ≤ ps[j].at_ ∧ ps[j].at_ < 336) :
    Calls Try.prog 51 #[v, .int .i64 (k : Int)] w fun e w' => ∃ v', e = .returned v' ∧ RdPm w' v' ws (ps.map (fl1 (k : Int))) ∧ Below w.heap.size w w' := by
  obtain ⟨vW, vP, rfl, h1, h2⟩ := h
  have H1 := hideIt h1
  have H2 := hideIt h2
  have HOK := hideIt hok
  obtain ⟨aW, cW, rfl, _⟩ := h1.shape
  obtain ⟨aP, cP, rfl, _⟩ := h2.shape
  clear h1 h2 hok
  have hb0 : Below w.heap.size w (((w.alloc (.cells #[.slice aW ws.length cW, .slice aP ps.length cP] 26)).alloc (.cells #[.slice none 0 0, .slice none 0 0] 26)).alloc (.cells #[] 45)) := by
    repeat (refine Below.alloc ?_ (by simp <;> omega) _)
    exact Below.refl _ _
  have ho0 : (((w.alloc (.cells #[.slice aW ws.length cW, .slice aP ps.length cP] 26)).alloc (.cells #[.slice none 0 0, .slice none 0 0] 26)).alloc (.cells #[] 45)).ownsRow (w.heap.size + 2) 45 3 (.slice (some ⟨w.heap.size + 1 + 1, 0, none⟩) 0 0) 0 [] := by
    simpa using World.ownsRow_lit (base := w.heap.size + 2) (e := 45) (size := 3) ((w.alloc (.cells #[.slice aW ws.length cW, .slice aP ps.length cP] 26)).alloc (.cells #[.slice none 0 0, .slice none 0 0] 26)) #[] 0 (by simp) (by simp) rfl
  have HO := hideIt ho0
  have HB := hideIt hb0
  clear ho0 hb0
  go_enter Try.func51, Try.ntmps51
  go_wp2_with (at_builtin; refine wpList_append_rd _ rfl (.tmp 6) (.tmp 8) 24 rfl (w.heap.size + 2) 45 (.agg #[.int .i64 0, .int .i64 0, .bool false]) 3 24 Try.underlying24 info52 rfl (by decide) _ 0 [] rfl HO.out _ ps.length (sts ps) rfl (Rd.below H2.out HB.out) (sts_one ps) (by simp [maxLen]; omega) (by omega) (by simp) ?_)
  intro v1 w1 hown1 hgr1
  have hown1 : w1.ownsRow (w.heap.size + 2) 45 3 v1 ps.length (sts ps) := by simpa using hown1
  obtain ⟨a1, c1, rfl⟩ := RdS.form (own_block hown1).rd rfl
  have hz1 : w.heap.size + 3 ≤ w1.heap.size := by have := hgr1.size; simp at this; omega
  have V0 := (hgr1.block w.heap.size (by simp <;> omega) (by simp [Value.ownBlock] <;> omega)).trans (at_old (at_old (at_new rfl)))
  have V1 := (hgr1.block (w.heap.size + 1) (by simp <;> omega) (by simp [Value.ownBlock] <;> omega)).trans (at_old (at_new (by simp)))
  have B1 := HB.out.grown hgr1 (by simp <;> omega) (fun k hk => by simp [Value.ownBlock] at hk; omega)
  obtain ⟨x1, x2, x3, x4⟩ := two_cells V0
  have RH : Hid (Row (w1.setCell ⟨w.heap.size, 1, none⟩ (.slice a1 ps.length c1)) 45 3 (w.heap.size + 2) w1.heap.size (.slice a1 ps.length c1) ps.length (sts ps)) := (own_block hown1).same (fun b h1 _ => Below.heap_setCell _ _ _ _ (by simp only; omega))
  have VH := hideIt (And.intro (two_set1 V0 (.slice a1 ps.length c1)) ((Below.heap_setCell w1 ⟨w.heap.size, 1, none⟩ (.slice a1 ps.length c1) (w.heap.size + 1) (by simp)).trans V1))
  have BH := hideIt (B1.setCell (p := ⟨w.heap.size, 1, none⟩) (Nat.le_refl _) (.slice a1 ps.length c1))
  clear hown1 hgr1 V0 V1 B1
  go_wp2
  go_loopw [5] (fun i wr => ∃ m : Nat, m ≤ ps.length ∧ i = .int .i64 m ∧ Row wr 45 3 (w.heap.size + 2) w1.heap.size (.slice a1 ps.length c1) ps.length (sts (mix (k : Int) ps m)) ∧ (wr.heap[w.heap.size]? = some (.cells #[.slice aW ws.length cW, .slice a1 ps.length c1] 26 (0, 0)) ∧ wr.heap[w.heap.size + 1]? = some (.cells #[.slice none 0 0, .slice none 0 0] 26 (0, 0))) ∧ Below w.heap.size w wr ∧ w1.heap.size ≤ wr.heap.size) (fun i _ => ps.length - (intOf i).toNat)
  case atStart => exact ⟨0, by omega, rfl, by rw [mix_zero]; exact RH.out, VH.out, BH.out, by simp⟩
  case round =>
    obtain ⟨m, hm, rfl, hrow, hv, hb, hz⟩ := hrel
    obtain ⟨y1, y2, y3, y4⟩ := two_cells hv.1
    by_cases hlt : m < ps.length
    · have hl := mix_len (k : Int) ps m hm
      obtain ⟨_, ao', cap', e', _, hc⟩ := hrow.rd
      cases e'
      obtain ⟨b, o, rfl, hbl, _⟩ := hc (by omega)
      obtain ⟨rfl, hb1, hb2, _, hfr, hcl⟩ := hrow.at
      have hml : m < (mix (k : Int) ps m).length := by omega
      have e0 := (hcl (m * 3) (by omega)).trans (sts_at0 _ m hml)
      have e2 := (hcl (m * 3 + 2) (by omega)).trans (sts_at2 _ m hml)
      rw [mix_at _ _ _ hlt hml] at e0 e2
      have f2 := hfr (m * 3 + 2)
      obtain ⟨q0, q1⟩ := HOK.out m hlt
      have ST := hideIt (hrow.stored (m * 3 + 2) (.bool true))
      have BH2 := hideIt (hb.setCell (p := ⟨b, m * 3 + 2, none⟩) (by simp only; omega) (.bool true))
      have VH2 := hideIt (And.intro ((Below.heap_setCell wr ⟨b, m * 3 + 2, none⟩ (.bool true) w.heap.size (by simp only; omega)).trans hv.1) ((Below.heap_setCell wr ⟨b, m * 3 + 2, none⟩ (.bool true) (w.heap.size + 1) (by simp only; omega)).trans hv.2))
      have RM := hideIt hrow
      have VM := hideIt hv
      clear hrow hc hfr hcl hv hl
      by_cases c : ps[m].at_ / 8 = (k : Int) / 8
      · have c' : (ps[m].at_ / 8 == (k : Int) / 8) = true := by simpa using c
        have E := hideIt (mix_hit hlt c)
        clear c
        go_wp2
        go_roundw
        case rel => exact ⟨m + 1, by omega, by go_num, E.out ▸ ST.out, VH2.out, BH2.out, by simp; omega⟩
        case measure => simp [intOf]; omega
      · have c' : (ps[m].at_ / 8 == (k : Int) / 8) = false := by simpa using c
        have E := hideIt (mix_miss hlt c)
        clear c
        go_wp2
        go_roundw
        case rel => exact ⟨m + 1, by omega, by go_num, E.out ▸ RM.out, VM.out, hb, hz⟩
        case measure => simp [intOf]; omega
    · have e : m = ps.length := by omega
      subst e
      obtain ⟨t1, t2, t3, t4⟩ := two_cells hv.2
      have RM := hideIt hrow
      clear hrow hv
      go_wp2
      refine bodyPost_ret (v := .agg #[.slice aW ws.length cW, .slice a1 ps.length c1]) (by simp [results, Try.results51, go_sem, t1, t2]) rfl ?_
      have B3 := (hb.setCell (p := ⟨w.heap.size + 1, 0, none⟩) (by simp only; omega) (.slice aW ws.length cW)).setCell (p := ⟨w.heap.size + 1, 1, none⟩) (by simp only; omega) (.slice a1 ps.length c1)
      refine ⟨_, rfl, ⟨_, _, rfl, Rd.below H1.out B3, ?_⟩, B3⟩
      have R3 := (RM.out.same (w' := (wr.setCell ⟨w.heap.size + 1, 0, none⟩ (.slice aW ws.length cW)).setCell ⟨w.heap.size + 1, 1, none⟩ (.slice a1 ps.length c1)) (fun b h1 h2 => by rw [Below.heap_setCell _ _ _ _ (by simp only; omega), Below.heap_setCell _ _ _ _ (by simp only; omega)])).rd
      unfold RdS
      rw [mix_all] at R3
      rw [List.length_map]
      exact R3
end Go.Proofs.Ytbjcoeimcdodjaa
