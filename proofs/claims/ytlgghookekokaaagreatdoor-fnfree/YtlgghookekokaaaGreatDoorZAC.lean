/- Several texts laid together: PmFlush, PmFence, BlkRead, BlkSm. -/
import Derived.Test.YtlgghookekokaaaGreatDoorZAB
namespace Go.Proofs.YtlgghookekokaaaGreatDoor
open Go.RowKit

theorem sts_get (l : List St) (j : Nat) (hj : j / 3 < l.length) : (sts l)[j]? = (l[j / 3]).cells[j % 3]? := by
  have := flatMap_at St.cells 3 St.cells_len l (j / 3) (j % 3) hj (Nat.mod_lt _ (by decide))
  rw [show j / 3 * 3 + j % 3 = j from by omega] at this
  exact this
/-- A flag laid. -/
theorem sts_setfl (l : List St) (m : Nat) (hm : m < l.length) (b : Bool) : (sts l).set (m * 3 + 2) (.bool b) = sts (l.set m ⟨l[m].at_, l[m].val, b⟩) := by
  apply List.ext_getElem?
  intro j
  by_cases hj : j < l.length * 3
  · have h3 : j / 3 < l.length := by omega
    have h3' : j / 3 < (l.set m ⟨l[m].at_, l[m].val, b⟩).length := by simpa using h3
    rw [set_at (by rw [sts_len]; exact hj), sts_get _ j h3', sts_get l j h3, List.getElem_set]
    by_cases e : m = j / 3
    · rw [if_pos e]
      subst e
      rcases (show j % 3 = 0 ∨ j % 3 = 1 ∨ j % 3 = 2 from by omega) with r | r | r
      · rw [if_neg (by omega), r]; rfl
      · rw [if_neg (by omega), r]; rfl
      · rw [if_pos (by omega), r]; rfl
    · rw [if_neg e, if_neg (by omega)]
  · rw [List.getElem?_eq_none (by rw [List.length_set, sts_len]; omega), List.getElem?_eq_none (by rw [sts_len, List.length_set]; omega)]

/-- A store of the line is flushed; any other is as it was. -/
def fl1 (k : Int) (p : St) : St := if p.at_ / 8 = k / 8 then ⟨p.at_, p.val, true⟩ else p
def mix (k : Int) (ps : List St) (m : Nat) : List St := (ps.take m).map (fl1 k) ++ ps.drop m
theorem mix_len (k : Int) (ps : List St) (m : Nat) (hm : m ≤ ps.length) : (mix k ps m).length = ps.length := by simp [mix]; omega
theorem mix_zero (k : Int) (ps : List St) : mix k ps 0 = ps := by simp [mix]
theorem mix_all (k : Int) (ps : List St) : mix k ps ps.length = ps.map (fl1 k) := by simp [mix]
theorem mix_at (k : Int) (ps : List St) (m : Nat) (hm : m < ps.length) (h : m < (mix k ps m).length) : (mix k ps m)[m] = ps[m] := by
  have e : (mix k ps m)[m]? = ps[m]? := by
    unfold mix
    rw [List.getElem?_append_right (by rw [List.length_map, List.length_take]; omega)]
    simp [Nat.min_eq_left (Nat.le_of_lt hm)]
  rw [List.getElem?_eq_getElem h, List.getElem?_eq_getElem hm] at e
  exact Option.some.inj e
theorem mix_succ (k : Int) (ps : List St) (m : Nat) (hm : m < ps.length) : mix k ps (m + 1) = (mix k ps m).set m (fl1 k ps[m]) := by
  unfold mix
  rw [List.take_succ_eq_append_getElem hm, List.map_append, List.set_append_right _ _ (by rw [List.length_map, List.length_take]; omega)]
  simp only [List.map_cons, List.map_nil, List.length_map, List.length_take, Nat.min_eq_left (Nat.le_of_lt hm), Nat.sub_self]
  rw [List.drop_eq_getElem_cons hm, List.set_cons_zero, List.append_assoc]
  rfl
theorem mix_hit {k : Int} {ps : List St} {m : Nat} (hm : m < ps.length) (h : ps[m].at_ / 8 = k / 8) : (sts (mix k ps m)).set (m * 3 + 2) (.bool true) = sts (mix k ps (m + 1)) := by
  have hl : m < (mix k ps m).length := by rw [mix_len _ _ _ (by omega)]; exact hm
  rw [sts_setfl _ m hl, mix_succ k ps m hm, mix_at k ps m hm hl]
  unfold fl1
  rw [if_pos h]
theorem mix_miss {k : Int} {ps : List St} {m : Nat} (hm : m < ps.length) (h : ¬ ps[m].at_ / 8 = k / 8) : mix k ps (m + 1) = mix k ps m := by
  have hl : m < (mix k ps m).length := by rw [mix_len _ _ _ (by omega)]; exact hm
  rw [mix_succ k ps m hm]
  unfold fl1
  rw [if_neg h]
  have := mix_at k ps m hm hl
  rw [← this, List.set_getElem_self]

set_option maxHeartbeats 4000000 in
theorem l01Flush_any (v : Value) (ws : List Int) (ps : List St) (k : Nat) (w : World) (h : RdPm w v ws ps) (hp : ps.length ≤ 1048576) (hk : k < 336) (hok : ∀ j (h : j < ps.length), 0 ≤ ps[j].at_ ∧ ps[j].at_ < 336) :
    Calls Tryz.prog 236 #[v, .int .i64 (k : Int)] w fun e w' => ∃ v', e = .returned v' ∧ RdPm w' v' ws (ps.map (fl1 (k : Int))) ∧ Below w.heap.size w w' := by
  obtain ⟨vW, vP, rfl, h1, h2⟩ := h
  have H1 := hideIt h1
  have H2 := hideIt h2
  have HOK := hideIt hok
  obtain ⟨aW, cW, rfl, _⟩ := h1.shape
  obtain ⟨aP, cP, rfl, _⟩ := h2.shape
  clear h1 h2 hok
  have hb0 : Below w.heap.size w (((w.alloc (.cells #[.slice aW ws.length cW, .slice aP ps.length cP] 31)).alloc (.cells #[.slice none 0 0, .slice none 0 0] 31)).alloc (.cells #[] 143)) := by
    repeat (refine Below.alloc ?_ (by simp <;> omega) _)
    exact Below.refl _ _
  have ho0 : (((w.alloc (.cells #[.slice aW ws.length cW, .slice aP ps.length cP] 31)).alloc (.cells #[.slice none 0 0, .slice none 0 0] 31)).alloc (.cells #[] 143)).ownsRow (w.heap.size + 2) 143 3 (.slice (some ⟨w.heap.size + 1 + 1, 0, none⟩) 0 0) 0 [] := by
    simpa using World.ownsRow_lit (base := w.heap.size + 2) (e := 143) (size := 3) ((w.alloc (.cells #[.slice aW ws.length cW, .slice aP ps.length cP] 31)).alloc (.cells #[.slice none 0 0, .slice none 0 0] 31)) #[] 0 (by simp) (by simp) rfl
  have HO := hideIt ho0
  have HB := hideIt hb0
  clear ho0 hb0
  go_enter Tryz.func236, Tryz.ntmps236
  go_wp2_with (at_builtin; refine wpList_append_rd _ rfl (.tmp 6) (.tmp 8) 29 rfl (w.heap.size + 2) 143 (.agg #[.int .i64 0, .int .i64 0, .bool false]) 3 24 Tryz.underlying29 info52 rfl (by decide) _ 0 [] rfl HO.out _ ps.length (sts ps) rfl (Rd.below H2.out HB.out) (sts_one ps) (by simp [maxLen]; omega) (by omega) (by simp) ?_)
  intro v1 w1 hown1 hgr1
  have hown1 : w1.ownsRow (w.heap.size + 2) 143 3 v1 ps.length (sts ps) := by simpa using hown1
  obtain ⟨a1, c1, rfl⟩ := RdS.form (own_block hown1).rd rfl
  have hz1 : w.heap.size + 3 ≤ w1.heap.size := by have := hgr1.size; simp at this; omega
  have V0 := (hgr1.block w.heap.size (by simp <;> omega) (by simp [Value.ownBlock] <;> omega)).trans (at_old (at_old (at_new rfl)))
  have V1 := (hgr1.block (w.heap.size + 1) (by simp <;> omega) (by simp [Value.ownBlock] <;> omega)).trans (at_old (at_new (by simp)))
  have B1 := HB.out.grown hgr1 (by simp <;> omega) (fun k hk => by simp [Value.ownBlock] at hk; omega)
  obtain ⟨x1, x2, x3, x4⟩ := two_cells V0
  have RH : Hid (Row (w1.setCell ⟨w.heap.size, 1, none⟩ (.slice a1 ps.length c1)) 143 3 (w.heap.size + 2) w1.heap.size (.slice a1 ps.length c1) ps.length (sts ps)) := (own_block hown1).same (fun b h1 _ => Below.heap_setCell _ _ _ _ (by simp only; omega))
  have VH := hideIt (And.intro (two_set1 V0 (.slice a1 ps.length c1)) ((Below.heap_setCell w1 ⟨w.heap.size, 1, none⟩ (.slice a1 ps.length c1) (w.heap.size + 1) (by simp)).trans V1))
  have BH := hideIt (B1.setCell (p := ⟨w.heap.size, 1, none⟩) (Nat.le_refl _) (.slice a1 ps.length c1))
  clear hown1 hgr1 V0 V1 B1
  go_wp2
  go_loopw [5] (fun i wr => ∃ m : Nat, m ≤ ps.length ∧ i = .int .i64 m ∧ Row wr 143 3 (w.heap.size + 2) w1.heap.size (.slice a1 ps.length c1) ps.length (sts (mix (k : Int) ps m)) ∧ (wr.heap[w.heap.size]? = some (.cells #[.slice aW ws.length cW, .slice a1 ps.length c1] 31 (0, 0)) ∧ wr.heap[w.heap.size + 1]? = some (.cells #[.slice none 0 0, .slice none 0 0] 31 (0, 0))) ∧ Below w.heap.size w wr ∧ w1.heap.size ≤ wr.heap.size) (fun i _ => ps.length - (intOf i).toNat)
  case atStart => exact ⟨0, by omega, rfl, by rw [mix_zero]; exact RH.out, VH.out, BH.out, by simp⟩
  case round =>
    obtain ⟨m, hm, rfl, hrow, hv, hb, hz⟩ := hrel
    obtain ⟨y1, y2, y3, y4⟩ := two_cells hv.1
    by_cases hlt : m < ps.length
    · have hl := mix_len (k : Int) ps m hm
      obtain ⟨_, ao', cap', e', _, hc⟩ := hrow.rd
      cases e'
      obtain ⟨b, o, rfl, hbl, _⟩ := hc (by omega)
      obtain ⟨rfl, hb1, hb2, _, hfr, hcl⟩ := hrow.at
      have hml : m < (mix (k : Int) ps m).length := by omega
      have e0 := (hcl (m * 3) (by omega)).trans (sts_at0 _ m hml)
      have e2 := (hcl (m * 3 + 2) (by omega)).trans (sts_at2 _ m hml)
      rw [mix_at _ _ _ hlt hml] at e0 e2
      have f2 := hfr (m * 3 + 2)
      obtain ⟨q0, q1⟩ := HOK.out m hlt
      have ST := hideIt (hrow.stored (m * 3 + 2) (.bool true))
      have BH2 := hideIt (hb.setCell (p := ⟨b, m * 3 + 2, none⟩) (by simp only; omega) (.bool true))
      have VH2 := hideIt (And.intro ((Below.heap_setCell wr ⟨b, m * 3 + 2, none⟩ (.bool true) w.heap.size (by simp only; omega)).trans hv.1) ((Below.heap_setCell wr ⟨b, m * 3 + 2, none⟩ (.bool true) (w.heap.size + 1) (by simp only; omega)).trans hv.2))
      have RM := hideIt hrow
      have VM := hideIt hv
      clear hrow hc hfr hcl hv hl
      by_cases c : ps[m].at_ / 8 = (k : Int) / 8
      · have c' : (ps[m].at_ / 8 == (k : Int) / 8) = true := by simpa using c
        have E := hideIt (mix_hit hlt c)
        clear c
        go_wp2
        go_roundw
        case rel => exact ⟨m + 1, by omega, by go_num, E.out ▸ ST.out, VH2.out, BH2.out, by simp; omega⟩
        case measure => simp [intOf]; omega
      · have c' : (ps[m].at_ / 8 == (k : Int) / 8) = false := by simpa using c
        have E := hideIt (mix_miss hlt c)
        clear c
        go_wp2
        go_roundw
        case rel => exact ⟨m + 1, by omega, by go_num, E.out ▸ RM.out, VM.out, hb, hz⟩
        case measure => simp [intOf]; omega
    · have e : m = ps.length := by omega
      subst e
      obtain ⟨t1, t2, t3, t4⟩ := two_cells hv.2
      have RM := hideIt hrow
      clear hrow hv
      go_wp2
      refine bodyPost_ret (v := .agg #[.slice aW ws.length cW, .slice a1 ps.length c1]) (by simp [results, Tryz.results236, go_sem, t1, t2]) rfl ?_
      have B3 := (hb.setCell (p := ⟨w.heap.size + 1, 0, none⟩) (by simp only; omega) (.slice aW ws.length cW)).setCell (p := ⟨w.heap.size + 1, 1, none⟩) (by simp only; omega) (.slice a1 ps.length c1)
      refine ⟨_, rfl, ⟨_, _, rfl, Rd.below H1.out B3, ?_⟩, B3⟩
      have R3 := (RM.out.same (w' := (wr.setCell ⟨w.heap.size + 1, 0, none⟩ (.slice aW ws.length cW)).setCell ⟨w.heap.size + 1, 1, none⟩ (.slice a1 ps.length c1)) (fun b h1 h2 => by rw [Below.heap_setCell _ _ _ _ (by simp only; omega), Below.heap_setCell _ _ _ _ (by simp only; omega)])).rd
      unfold RdS
      rw [mix_all] at R3
      rw [List.length_map]
      exact R3
end Go.Proofs.YtlgghookekokaaaGreatDoor

namespace Go.Proofs.YtlgghookekokaaaGreatDoor
open Go.RowKit

/-- The words behind a fence, a store after the other; and what is left. -/
def fenW (ws : List Int) (ps : List St) : List Int := ps.foldl (fun acc p => if p.fl then acc.set p.at_.toNat p.val else acc) ws
def fenP (ps : List St) : List St := ps.filter (fun p => !p.fl)
theorem fenW_snoc (ws : List Int) (ps : List St) (p : St) : fenW ws (ps ++ [p]) = if p.fl then (fenW ws ps).set p.at_.toNat p.val else fenW ws ps := by simp [fenW]
theorem fenW_len (ws : List Int) : ∀ ps : List St, (fenW ws ps).length = ws.length := by
  intro ps
  unfold fenW
  induction ps generalizing ws with
  | nil => rfl
  | cons p ps ih =>
    rw [List.foldl_cons, ih]
    split <;> simp
theorem fenP_snoc (ps : List St) (p : St) : fenP (ps ++ [p]) = if p.fl then fenP ps else fenP ps ++ [p] := by
  unfold fenP
  rw [List.filter_append]
  cases h : p.fl <;> simp [h]
theorem fenP_le (ps : List St) : (fenP ps).length ≤ ps.length := List.length_filter_le _ _


/-- In the midst of a fence: the words so far, the stores, what is left so far. -/
structure FenInv (w wr : World) (ws : List Int) (ps : List St) (lo hi : Nat) (vW vP vL : Value) (m : Nat) : Prop where
  words : Row wr 3 1 lo hi vW ws.length (ints (fenW ws (ps.take m)))
  left : wr.ownsRow hi 143 3 vL (fenP (ps.take m)).length (sts (fenP (ps.take m)))
  pend : Row wr 143 3 lo hi vP ps.length (sts ps)
  box : wr.heap[w.heap.size]? = some (.cells #[vW, vP] 31 (0, 0))
  res : wr.heap[w.heap.size + 1]? = some (.cells #[.slice none 0 0, .slice none 0 0] 31 (0, 0))
  below : Below w.heap.size w wr
  size : hi ≤ wr.heap.size

theorem FenInv.hit {w wr : World} {ws : List Int} {ps : List St} {lo hi : Nat} {b n cap : Nat} {vP vL : Value} {m : Nat} (h : FenInv w wr ws ps lo hi (.slice (some ⟨b, 0, none⟩) n cap) vP vL m) (hm : m < ps.length) (hf : ps[m].fl = true) (hlo : w.heap.size + 2 ≤ lo) (o : Obj) (hn : n = ws.length) :
    FenInv w ((wr.setCell ⟨b, ps[m].at_.toNat, none⟩ (.int .i64 ps[m].val)).alloc o) ws ps lo hi (.slice (some ⟨b, 0, none⟩) n cap) vP vL (m + 1) := by
  subst hn
  obtain ⟨h1, h2, h3, h4, h5, h6, h7⟩ := h
  obtain ⟨_, hb1, hb2, _⟩ := h1.at
  have e1 : fenW ws (ps.take (m + 1)) = (fenW ws (ps.take m)).set ps[m].at_.toNat ps[m].val := by rw [take_snoc ps m hm, fenW_snoc, if_pos hf]
  have e2 : fenP (ps.take (m + 1)) = fenP (ps.take m) := by rw [take_snoc ps m hm, fenP_snoc, if_pos hf]
  refine ⟨?_, ?_, ?_, ?_, ?_, ?_, ?_⟩
  · rw [e1, ← ints_set]
    exact (h1.stored _ _).alloc (by simp; omega) o
  · rw [e2]
    exact ((own_block h2).same (w' := wr.setCell ⟨b, ps[m].at_.toNat, none⟩ (.int .i64 ps[m].val)) (fun k hk _ => Below.heap_setCell _ _ _ _ (by simp only; omega))).1.alloc o
  · exact (h3.apart h1 (by decide) (World.ownsRow.stored h1.1 _ _).2).alloc (by simp; omega) o
  · refine at_old ?_
    rw [Below.heap_setCell _ _ _ _ (by simp only; omega)]; exact h4
  · refine at_old ?_
    rw [Below.heap_setCell _ _ _ _ (by simp only; omega)]; exact h5
  · exact (h6.setCell (by simp only; omega) _).alloc (by simp; exact h6.size) o
  · simp; omega

theorem FenInv.miss {w wr w' : World} {ws : List Int} {ps : List St} {lo hi : Nat} {vW vP vL vL' : Value} {m : Nat} (h : FenInv w wr ws ps lo hi vW vP vL m) (hm : m < ps.length) (hf : ps[m].fl = false) (hlo : w.heap.size + 2 ≤ lo) (hhi : lo ≤ hi) (o o' : Obj)
    (ho : w'.ownsRow hi 143 3 vL' ((fenP (ps.take m)).length + 1) (sts (fenP (ps.take m)) ++ St.cells ps[m])) (hg : ((wr.alloc o).alloc o').grownBy w' vL.ownBlock) : FenInv w w' ws ps lo hi vW vP vL' (m + 1) := by
  obtain ⟨h1, h2, h3, h4, h5, h6, h7⟩ := h
  have hl := fun k hk => (((h2.alloc o).alloc o').lt k hk).1
  have e1 : fenW ws (ps.take (m + 1)) = fenW ws (ps.take m) := by rw [take_snoc ps m hm, fenW_snoc, hf]; rfl
  have e2 : fenP (ps.take (m + 1)) = fenP (ps.take m) ++ [ps[m]] := by rw [take_snoc ps m hm, fenP_snoc, hf]; rfl
  have keep : ∀ k, k < hi → w'.heap[k]? = ((wr.alloc o).alloc o').heap[k]? := fun k hk => hg.block k (by simp; omega) (fun e => by have := hl k e.symm; omega)
  have l4 := (Array.getElem?_eq_some_iff.1 h4).1
  refine ⟨?_, ?_, ?_, ?_, ?_, ?_, ?_⟩
  · rw [e1]
    exact ((h1.alloc h7 o).alloc (by simp; omega) o').same (fun k _ hk => keep k hk)
  · rw [e2, List.length_append, sts_snoc]; exact ho
  · exact ((h3.alloc h7 o).alloc (by simp; omega) o').same (fun k _ hk => keep k hk)
  · rw [keep _ (by omega)]; exact at_old (at_old h4)
  · rw [keep _ (by omega)]; exact at_old (at_old h5)
  · exact ((h6.alloc h6.size o).alloc (by simp; have := h6.size; omega) o').grown hg (by simp; have := h6.size; omega) (fun k hk => by have := hl k hk; omega)
  · have := hg.size; simp at this; omega

set_option maxHeartbeats 4000000 in
theorem l01Fence_any (v : Value) (ws : List Int) (ps : List St) (w : World) (h : RdPm w v ws ps) (hw : ws.length ≤ 1048576) (hp : ps.length ≤ 1048576) (hok : ∀ j (h : j < ps.length), 0 ≤ ps[j].at_ ∧ ps[j].at_ < ws.length) :
    Calls Tryz.prog 237 #[v] w fun e w' => ∃ v', e = .returned v' ∧ RowPm w' w.heap.size w'.heap.size v' (fenW ws ps) (fenP ps) ∧ Below w.heap.size w w' := by
  have HR := hideIt h
  obtain ⟨vW, vP, rfl, h1, h2⟩ := h
  obtain ⟨aW, cW, rfl, _⟩ := h1.shape
  obtain ⟨aP, cP, rfl, _⟩ := h2.shape
  have HOK := hideIt hok
  clear h1 h2 hok
  have hb0 : Below w.heap.size w ((w.alloc (.cells #[.slice aW ws.length cW, .slice aP ps.length cP] 31)).alloc (.cells #[.slice none 0 0, .slice none 0 0] 31)) := by
    repeat (refine Below.alloc ?_ (by simp <;> omega) _)
    exact Below.refl _ _
  go_enter Tryz.func237, Tryz.ntmps237
  go_wp2_with fail
  refine (l01Own_any _ ws ps _ (HR.out.below hb0) (by omega) (by omega)).mono ?_
  rintro e w2 ⟨v2, rfl, hr2, hb2⟩
  obtain ⟨vW2, vP2, rfl, hI2, hS2⟩ := hr2
  obtain ⟨aW2, cW2, rfl⟩ := RdI.form hI2.rd rfl
  obtain ⟨aP2, cP2, rfl⟩ := RdS.form hS2.rd rfl
  simp only [World.size_alloc] at hI2 hS2
  have hz2 : w.heap.size + 2 ≤ w2.heap.size := by have := hb2.size; simp at this; omega
  have V0 := (hb2.block w.heap.size (by simp <;> omega)).trans (at_old (at_new rfl))
  have V1 := (hb2.block (w.heap.size + 1) (by simp)).trans (at_new (by simp))
  have B2 := below_trans hb0 hb2 (by simp <;> omega)
  obtain ⟨x1, x2, x3, x4⟩ := two_cells V0
  have INV : Hid (FenInv w (((w2.setCell ⟨w.heap.size, 0, none⟩ (.slice aW2 ws.length cW2)).setCell ⟨w.heap.size, 1, none⟩ (.slice aP2 ps.length cP2)).alloc (.cells #[] 143)) ws ps (w.heap.size + 1 + 1) w2.heap.size (.slice aW2 ws.length cW2) (.slice aP2 ps.length cP2) (.slice (some ⟨w2.heap.size, 0, none⟩) 0 0) 0) := by
    refine ⟨?_, ?_, ?_, ?_, ?_, ?_, ?_⟩
    · refine ((hI2.same fun b hb1 _ => ?_).alloc (by simp) _)
      rw [Below.heap_setCell _ _ _ _ (by simp only; omega), Below.heap_setCell _ _ _ _ (by simp only; omega)]
    · have := World.ownsRow_lit (base := w2.heap.size) (e := 143) (size := 3) ((w2.setCell ⟨w.heap.size, 0, none⟩ (.slice aW2 ws.length cW2)).setCell ⟨w.heap.size, 1, none⟩ (.slice aP2 ps.length cP2)) #[] 0 (by simp) (by simp) rfl
      simpa [fenP, sts] using this
    · refine ((hS2.same fun b hb1 _ => ?_).alloc (by simp) _)
      rw [Below.heap_setCell _ _ _ _ (by simp only; omega), Below.heap_setCell _ _ _ _ (by simp only; omega)]
    · exact at_old (two_set1 (two_set0 V0 _) _)
    · refine at_old ?_
      rw [Below.heap_setCell _ _ _ _ (by simp only; omega), Below.heap_setCell _ _ _ _ (by simp only; omega)]
      exact V1
    · exact ((B2.setCell (by simp only; omega) _).setCell (by simp only; omega) _).alloc (by simp; omega) _
    · simp
  clear hb0 hb2 hI2 hS2 V0 V1 B2
  go_wp2
  go_loopw [3, 4, 5] (fun vL i _ wr => ∃ m : Nat, m ≤ ps.length ∧ i = .int .i64 m ∧ Hid (FenInv w wr ws ps (w.heap.size + 1 + 1) w2.heap.size (.slice aW2 ws.length cW2) (.slice aP2 ps.length cP2) vL m)) (fun _ i _ _ => ps.length - (intOf i).toNat)
  case atStart => exact ⟨0, by omega, rfl, INV⟩
  case round =>
    obtain ⟨m, hm, rfl, I⟩ := hrel
    obtain ⟨y1, y2, y3, y4⟩ := two_cells I.out.box
    by_cases hlt : m < ps.length
    · obtain ⟨_, ao', cap', e', _, hc⟩ := I.out.pend.rd
      cases e'
      obtain ⟨b, o, rfl, hbl, _⟩ := hc (by omega)
      obtain ⟨rfl, _, _, _, hfr, hcl⟩ := I.out.pend.at
      have e0 := (hcl (m * 3) (by omega)).trans (sts_at0 _ m hlt)
      have e1 := (hcl (m * 3 + 1) (by omega)).trans (sts_at1 _ m hlt)
      have e2 := (hcl (m * 3 + 2) (by omega)).trans (sts_at2 _ m hlt)
      obtain ⟨q0, q1⟩ := HOK.out m hlt
      have hsz := I.out.size
      clear hc hfr hcl
      cases hf : ps[m].fl
      · rw [hf] at e2
        have ec : St.cells ⟨ps[m].at_, ps[m].val, false⟩ = St.cells ps[m] := by simp [St.cells, hf]
        have hr := rd_one (wr.alloc (.cells #[.int .i64 ps[m].at_, .int .i64 ps[m].val, .bool false] 143)) ps[m].at_ ps[m].val false
        simp only [World.size_alloc] at hr
        have HRD := hideIt hr
        have HOW := hideIt ((I.out.left.alloc (.cells #[.int .i64 ps[m].at_, .int .i64 ps[m].val, .bool false] 143)).alloc (.cells #[.int .i64 ps[m].at_, .int .i64 ps[m].val, .bool false] 143))
        have hfl := fenP_le (ps.take m)
        rw [List.length_take] at hfl
        have EC := hideIt ec
        have HF := hideIt hf
        have HS := hideIt hsz
        clear hr ec hf hsz
        go_wp2_with (at_builtin; refine wpList_append_rd _ rfl (.tmp 30) (.tmp 32) 29 rfl w2.heap.size 143 (.agg #[.int .i64 0, .int .i64 0, .bool false]) 3 24 Tryz.underlying29 info52 rfl (by decide) _ _ _ rfl HOW.out _ 1 (St.cells ⟨ps[m].at_, ps[m].val, false⟩) rfl HRD.out (cells_one _) (by simp [maxLen]; omega) (by omega) (by have := HS.out; simp; omega) ?_)
        intro vN wN hownN hgrN
        have I1 := hideIt (I.out.miss hlt HF.out (Nat.le_refl _) hz2 _ _ (by rw [← EC.out]; exact hownN) hgrN)
        clear hownN hgrN
        go_wp2
        go_roundw
        case rel => exact ⟨m + 1, by omega, by go_num, I1⟩
        case measure => simp [intOf]; omega
      · rw [hf] at e2
        obtain ⟨_, aw', cw', ew', _, hcw⟩ := I.out.words.rd
        cases ew'
        obtain ⟨bw, ow, rfl, hblw, _⟩ := hcw (by omega)
        obtain ⟨rfl, _, _, _, hfrw, hclw⟩ := (I.out.words.alloc hsz (.cells #[.int .i64 ps[m].at_, .int .i64 ps[m].val, .bool true] 143)).at
        have hj : ps[m].at_.toNat < (fenW ws (ps.take m)).length := by rw [fenW_len]; omega
        have g0 := hfrw ps[m].at_.toNat
        have g1 := (hclw ps[m].at_.toNat (by omega)).trans (ints_at _ _ hj)
        have I1 := hideIt (I.out.hit hlt hf (Nat.le_refl _) (.cells #[.int .i64 ps[m].at_, .int .i64 ps[m].val, .bool true] 143) rfl)
        obtain ⟨z1, z2, _, _⟩ := two_cells (at_old (o := .cells #[.int .i64 ps[m].at_, .int .i64 ps[m].val, .bool true] 143) I.out.box)
        clear hcw hfrw hclw
        go_wp2
        go_roundw
        case rel => exact ⟨m + 1, by omega, by go_num, I1⟩
        case measure => simp [intOf]; omega
    · have e : m = ps.length := by omega
      subst e
      obtain ⟨aL, cL, hvL⟩ := RdS.form (own_block I.out.left).rd (n := (fenP ps).length) (by rw [List.take_length])
      subst hvL
      obtain ⟨t1, t2, t3, t4⟩ := two_cells I.out.res
      have hsz := I.out.size
      go_wp2
      have I2 := I.out
      refine bodyPost_ret (v := .agg #[.slice aW2 ws.length cW2, .slice aL (fenP ps).length cL]) (by simp [results, Tryz.results237, go_sem, t1, t2]) rfl ?_
      refine ⟨_, rfl, ⟨_, _, rfl, ?_, ?_⟩, ((I2.below.setCell (by simp only; omega) _).setCell (by simp only; omega) _).setCell (by simp only; omega) _⟩
      · rw [fenW_len]
        have := I2.words
        rw [List.take_length] at this
        refine (this.same fun b h1 h2 => ?_).wide (by omega) (by simp; omega)
        rw [Below.heap_setCell _ _ _ _ (by simp only; omega), Below.heap_setCell _ _ _ _ (by simp only; omega), Below.heap_setCell _ _ _ _ (by simp only; omega)]
      · have := own_block I2.left
        rw [List.take_length] at this
        refine (this.same fun b h1 h2 => ?_).wide (by omega) (by simp)
        rw [Below.heap_setCell _ _ _ _ (by simp only; omega), Below.heap_setCell _ _ _ _ (by simp only; omega), Below.heap_setCell _ _ _ _ (by simp only; omega)]
end Go.Proofs.YtlgghookekokaaaGreatDoor

namespace Go.Proofs.YtlgghookekokaaaGreatDoor
open Go.RowKit

/-- The last of some writes at a place, or what was there. -/
def lastE (at_ d : Int) (ps : List Se) : Int := ps.foldl (fun acc p => if p.at_ = at_ then p.val else acc) d
theorem lastE_none {at_ d : Int} : ∀ {ps : List Se}, (∀ p ∈ ps, ¬ p.at_ = at_) → lastE at_ d ps = d
  | [], _ => rfl
  | p :: ps, h => by
    show lastE at_ (if p.at_ = at_ then p.val else d) ps = d
    rw [if_neg (h p (by simp))]
    exact lastE_none (fun q hq => h q (by simp [hq]))
theorem lastE_append (at_ d : Int) (ps qs : List Se) : lastE at_ d (ps ++ qs) = lastE at_ (lastE at_ d ps) qs := by simp [lastE]
theorem lastE_hit {at_ d : Int} {ps : List Se} {k : Nat} (hk : k < ps.length) (h : ps[k].at_ = at_) (ha : ∀ j (hj : j < ps.length), k < j → ¬ ps[j].at_ = at_) : lastE at_ d ps = ps[k].val := by
  have e : ps = ps.take k ++ (ps[k] :: ps.drop (k + 1)) := by rw [← List.drop_eq_getElem_cons hk, List.take_append_drop]
  conv => lhs; rw [e]
  rw [lastE_append]
  show lastE at_ (if ps[k].at_ = at_ then ps[k].val else _) (ps.drop (k + 1)) = _
  rw [if_pos h]
  apply lastE_none
  intro p hp
  obtain ⟨i, hi, rfl⟩ := List.getElem_of_mem hp
  rw [List.getElem_drop]
  exact ha _ _ (by omega)

set_option maxHeartbeats 2000000 in
theorem l02Read_any (v : Value) (ws : List Int) (ps : List Se) (at_ : Nat) (w : World) (h : RdBlk w v ws ps) (hw : ws.length ≤ 1048576) (hp : ps.length ≤ 1048576) (ha : at_ < ws.length) :
    Calls Tryz.prog 234 #[v, .int .i64 (at_ : Int)] w fun e w' => e = .returned (.int .i64 (lastE (at_ : Int) ws[at_] ps)) ∧ Below w.heap.size w w' := by
  obtain ⟨vW, vP, rfl, h1, h2⟩ := h
  obtain ⟨aW, cW, rfl, _, hcW⟩ := h1.shape
  obtain ⟨aP, cP, rfl, _, hcP⟩ := h2.shape
  clear h1 h2
  obtain ⟨bW, oW, rfl, hbW, hcellW⟩ := hcW (by omega)
  have hb0 : Below w.heap.size w (w.alloc (.cells #[.slice (some ⟨bW, oW, none⟩) ws.length cW, .slice aP ps.length cP] 34)) := (Below.refl _ _).alloc (Nat.le_refl _) _
  have hcw := (hb0.cell (p := ⟨bW, oW + at_, none⟩) hbW).trans (hcellW at_ ha)
  clear hcW hcellW
  go_enter Tryz.func234, Tryz.ntmps234
  go_wp2
  go_loop [5] (fun i => ∃ k : Nat, k ≤ ps.length ∧ i = .int .i64 ((k : Int) - 1) ∧ Hid (∀ j (h : j < ps.length), k ≤ j → ¬ ps[j].at_ = (at_ : Int))) (fun i => (intOf i + 1).toNat)
  case atStart => exact ⟨ps.length, Nat.le_refl _, rfl, fun j h a => absurd h (by omega)⟩
  case round =>
    obtain ⟨k, hk, rfl, H⟩ := hrel
    cases k with
    | zero =>
      have E := hideIt (lastE_none (d := ws[at_]) (fun p hp => by obtain ⟨i, hi, rfl⟩ := List.getElem_of_mem hp; exact H.out i hi (by omega)))
      clear H hcP
      go_wp2
      go_ret
      exact ⟨ret_int E.out.symm, hb0⟩
    | succ m =>
      have em : (((m + 1 : Nat) : Int) - 1) = (m : Int) := by omega
      rw [em]
      clear em
      obtain ⟨b, o, rfl, hbl, hcell⟩ := hcP (by omega)
      obtain ⟨d0, d1⟩ := hcell m (by omega)
      have e0 := (hb0.cell (p := ⟨b, o + m * 2, none⟩) hbl).trans d0
      have e1 := (hb0.cell (p := ⟨b, o + m * 2 + 1, none⟩) hbl).trans d1
      clear d0 d1 hcell hcP
      have hm : m < ps.length := by omega
      by_cases c : ps[m].at_ = (at_ : Int)
      · have c' : (ps[m].at_ == (at_ : Int)) = true := by simpa using c
        have E := hideIt (lastE_hit (d := ws[at_]) hm c (fun j hj hlt => H.out j hj (by omega)))
        clear H c
        go_wp2
        go_ret
        exact ⟨ret_int E.out.symm, hb0⟩
      · have c' : (ps[m].at_ == (at_ : Int)) = false := by simpa using c
        have C := hideIt c
        clear c
        go_wp2
        go_round
        case rel =>
          refine ⟨m, by omega, by go_num, fun j hj hle => ?_⟩
          by_cases e : j = m
          · subst e; exact C.out
          · exact H.out j hj (by omega)
        case measure => simp [intOf] <;> omega

end Go.Proofs.YtlgghookekokaaaGreatDoor

namespace Go.Proofs.YtlgghookekokaaaGreatDoor
open Go.RowKit

theorem ses_one (ps : List Se) : ∀ u ∈ ses ps, u.oneCell' = true := by
  intro u hu
  simp only [ses, List.mem_flatMap, Se.cells] at hu
  obtain ⟨s, _, hs⟩ := hu
  simp at hs
  rcases hs with rfl | rfl <;> rfl
theorem RowBlk.setCell {w : World} {lo hi : Nat} {v : Value} {ws : List Int} {ps : List Se} (h : RowBlk w lo hi v ws ps) {a : Addr} (ha : a.block < lo) (u : Value) : RowBlk (w.setCell a u) lo hi v ws ps := by
  obtain ⟨vW, vP, rfl, h1, h2⟩ := h
  exact ⟨vW, vP, rfl, h1.same (fun b hb _ => Below.heap_setCell _ _ _ _ (by omega)), h2.same (fun b hb _ => Below.heap_setCell _ _ _ _ (by omega))⟩
theorem RowBlk.alloc {w : World} {lo hi : Nat} {v : Value} {ws : List Int} {ps : List Se} (h : RowBlk w lo hi v ws ps) (hi1 : hi ≤ w.heap.size) (o : Obj) : RowBlk (w.alloc o) lo hi v ws ps :=
  h.below ((Below.refl _ _).alloc (Nat.le_refl _) o) hi1
theorem RowBlk.zero (w : World) (lo hi : Nat) : RowBlk w lo hi (.agg #[.slice none 0 0, .slice none 0 0]) [] [] := ⟨_, _, rfl, RowZ.nil _ _ _, Row.nil _ _ _ _ _⟩
theorem ses_snoc (ps : List Se) (s : Se) : ses (ps ++ [s]) = ses ps ++ s.cells := by simp [ses]
/-- The shape of a slice, its length as it is wanted. -/
theorem RdE.form {w : World} {v : Value} {ps : List Se} (h : RdE w v ps) {n : Nat} (hn : ps.length = n) : ∃ ao cap, v = .slice ao n cap := by
  obtain ⟨ao, cap, e, _⟩ := h.shape
  exact ⟨ao, cap, by rw [← hn]; exact e⟩
/-- One write, laid in a block of its own, as a slice of one. -/
theorem rd_sec (w1 : World) (a x : Int) : Rd (w1.alloc (.cells #[.int .i64 a, .int .i64 x] 153)) 2 (.slice (some ⟨w1.heap.size, 0, none⟩) 1 1) 1 (Se.cells ⟨a, x⟩) := by
  refine ⟨rfl, _, _, rfl, ⟨Nat.le_refl _, fun e => by cases e⟩, fun _ => ⟨w1.heap.size, 0, rfl, by simp, fun j hj => ?_⟩⟩
  obtain ⟨e0, e1, _, _⟩ := two_cells (at_new (w := w1) (o := .cells #[.int .i64 a, .int .i64 x] 153) rfl)
  rw [Nat.zero_add]
  rcases (show j = 0 ∨ j = 1 from by omega) with rfl | rfl
  · exact e0
  · exact e1
end Go.Proofs.YtlgghookekokaaaGreatDoor
