/- Texts and answers: copied, counted. -/
import Derived.Test.YtkchiplcjlgflaaDoorZAP
import Derived.Test.YtkchiplcjlgflaaDoorMem
import Derived.Test.YtkchiplcjlgflaaDoorZAC
import Derived.Deep.RegionWith
import Derived.Deep.OwnRows
import Derived.Deep.QuietTactic
import Derived.BigQuiet
namespace Go.Proofs.YtkchiplcjlgflaaDoor
open Go.RowKit
theorem rowT_of_rowIs {w : World} {g : Nat} {zs : List ByteArray} {f : Nat → Value} {lo hi : Nat} (h : w.rowIs g 9 zs.length f) (hf : ∀ i (h : i < zs.length), f i = .string zs[i]) (h1 : lo ≤ g) (h2 : g < hi) (hm : zs.length ≤ maxLen) :
    Row w 9 1 lo hi (.slice (some ⟨g, 0, none⟩) zs.length zs.length) zs.length (strs zs) := by
  obtain ⟨c, hb, hn, hc⟩ := h
  refine ⟨⟨by simp [strs], .inr ⟨g, zs.length, c, rfl, h1, hb, Nat.le_refl _, hm, by omega, ?_⟩⟩, fun k hk => by cases hk; exact h2⟩
  apply List.ext_getElem?
  intro i
  by_cases hi : i < zs.length
  · rw [List.getElem?_take, if_pos (by omega), strs_at zs i hi, Array.getElem?_toList, hc i hi, hf i hi]
  · rw [List.getElem?_eq_none (by simp; omega), List.getElem?_eq_none (by simp [strs]; omega)]
set_option maxHeartbeats 2000000 in
theorem toStringS_any (v : Value) (zs : List ByteArray) (w : World) (h : RdT w v zs) (hn : zs.length ≤ 1048576) :
    Calls Tryd.prog 17 #[v] w fun e w' => ∃ v', e = .returned v' ∧ Row w' 9 1 w.heap.size w'.heap.size v' zs.length (strs zs) ∧ Below w.heap.size w w' := by
  obtain ⟨ao, cap, rfl, hcap, hc⟩ := h.shape
  have hmk := run_make_row' (P := Tryd.prog) 24 9 (.string ⟨#[]⟩) 16 Tryd.underlying24 info9 rfl .i64 .i64 zs.length (by omega) (by omega)
  go_enter Tryd.func17, Tryd.ntmps17
  go_wp2
  go_loopw [4] (fun i wr => ∃ k : Nat, k ≤ zs.length ∧ i = .int .i64 k ∧ wr.rowIs w.heap.size 9 zs.length (fun j => if h : j < k ∧ j < zs.length then .string zs[j] else .string ⟨#[]⟩) ∧ Below w.heap.size w wr ∧ wr.heap.size = w.heap.size + 1) (fun i _ => zs.length - (intOf i).toNat)
  case atStart =>
    refine ⟨0, by omega, rfl, ?_, (Below.refl _ _).alloc (Nat.le_refl _) _, by simp⟩
    exact (World.rowIs_made w (.string ⟨#[]⟩) zs.length 9).congr (fun i hi => by simp)
  case round =>
    obtain ⟨k, hk, rfl, hrow, hb, hz⟩ := hrel
    by_cases hlt : k < zs.length
    · obtain ⟨b, o, rfl, hbl, hcell⟩ := hc (by omega)
      have hck : wr.cell? ⟨b, o + k, none⟩ = some (.string zs[k]) := (hb.cell (p := ⟨b, o + k, none⟩) hbl).trans (hcell k hlt)
      have hfr := hrow.frozen k
      have hce := hrow.cell hlt
      have R := hrow.set k (.string zs[k])
      have B := hb.setCell (p := ⟨w.heap.size, k, none⟩) (Nat.le_refl _) (.string zs[k])
      have RH := hideIt R
      have BH := hideIt B
      clear R B hrow hcell hc
      go_wp2
      go_roundw
      case rel =>
        refine ⟨k + 1, by omega, by go_num, RH.out.congr (fun j hj => ?_), BH.out, by simp [hz]⟩
        by_cases e : j = k
        · subst e; simp [hj]
        · by_cases e2 : j < k
          · simp [e, e2, hj, show j < k + 1 by omega]
          · simp [e, e2, show ¬ j < k + 1 by omega]
      case measure => simp [intOf]; omega
    · have e : k = zs.length := by omega
      subst e
      go_wp2
      go_ret
      refine ⟨_, rfl, rowT_of_rowIs hrow (fun i hi => by simp [hi]) (Nat.le_refl _) (by omega) (by simp [maxLen]; omega), hb⟩
set_option maxHeartbeats 2000000 in
theorem szStringS_any (ao : Option Addr) (ss : List ByteArray) (cap : Nat) (left : Int) (w : World) (h : RdT w (.slice ao ss.length cap) ss) (hn : ss.length ≤ maxLen) (hs : ∀ k (hk : k < ss.length), ss[k].size ≤ maxLen) (h0 : 0 ≤ left) (h1 : left ≤ 1048576) :
    Calls Tryd.prog 11 #[.slice ao ss.length cap, .int .i64 left] w fun e w' => ∃ r : Int, e = .returned (.int .i64 r) ∧ (0 ≤ r → ss.length ≤ 1048576 ∧ r ≤ 1048576) ∧ -1 ≤ r ∧ w' = w := by
  obtain ⟨ao', cap', e, hcap, hc⟩ := h.shape
  cases e
  unfold maxLen at hn hs
  clear h
  have HC := hideIt hc
  have HS := hideIt hs
  clear hc hs hcap
  by_cases c : left < (ss.length : Int)
  · have c' : left - (ss.length : Int) < 0 := by omega
    go_enter Tryd.func11, Tryd.ntmps11
    go_wp2
    go_ret
    exact ⟨-1, rfl, fun h => absurd h (by decide), by decide, rfl⟩
  · have c' : ¬ left - (ss.length : Int) < 0 := by omega
    have hl : ss.length ≤ 1048576 := by omega
    go_enter Tryd.func11, Tryd.ntmps11
    go_wp2
    go_loop [1, 5] (fun l i => ∃ k : Nat, k ≤ ss.length ∧ i = .int .i64 k ∧ ∃ z : Int, l = .int .i64 z ∧ 0 ≤ z ∧ z ≤ 1048576) (fun _ i => ss.length - (intOf i).toNat)
    case atStart => exact ⟨0, by omega, rfl, _, rfl, by omega, by omega⟩
    case round =>
      obtain ⟨k, hk, rfl, z, rfl, z0, z1⟩ := hrel
      by_cases hlt : k < ss.length
      · obtain ⟨b, o, rfl, hbl, hcell⟩ := HC.out (by omega)
        have hck := hcell k hlt
        have hsz := HS.out k hlt
        clear hcell HC HS
        generalize ss[k] = x at hck hsz
        by_cases d : z < (x.size : Int)
        · have d' : z - (x.size : Int) < 0 := by omega
          go_wp2
          go_ret
          exact ⟨-1, rfl, fun h => absurd h (by decide), by decide, rfl⟩
        · have d' : ¬ z - (x.size : Int) < 0 := by omega
          go_wp2
          go_round
          case rel => exact ⟨k + 1, by omega, by go_num, z - (x.size : Int), by go_num, by omega, by omega⟩
          case measure => simp [intOf]; omega
      · have e : k = ss.length := by omega
        subst e
        go_wp2
        go_ret
        exact ⟨z, rfl, fun _ => by omega, by omega, rfl⟩
set_option maxHeartbeats 2000000 in
theorem szAnswer_any (c v : Int) (ao : Option Addr) (ss : List ByteArray) (cap : Nat) (left : Int) (w : World) (h : RdT w (.slice ao ss.length cap) ss) (hn : ss.length ≤ maxLen) (hs : ∀ k (hk : k < ss.length), ss[k].size ≤ maxLen) (h0 : 0 ≤ left) (h1 : left ≤ 1048576) :
    Calls Tryd.prog 5 #[.agg #[.int .i64 c, .int .i64 v, .slice ao ss.length cap], .int .i64 left] w fun e w' => ∃ r : Int, e = .returned (.int .i64 r) ∧ (0 ≤ r → ss.length ≤ 1048576 ∧ r ≤ 1048576) ∧ -1 ≤ r ∧ Below w.heap.size w w' := by
  have BW : Hid (Below w.heap.size w (w.alloc (.cells #[.int .i64 c, .int .i64 v, .slice ao ss.length cap] 26))) := (Below.refl _ _).alloc (Nat.le_refl _) _
  have LS := hideIt (szStringS_any ao ss cap left _ (Rd.below h BW.out) hn hs h0 h1)
  clear h hn hs
  go_enter Tryd.func5, Tryd.ntmps5
  go_wp2_with fail
  refine LS.out.mono ?_
  rintro e w1 ⟨r, rfl, hr, hr1, hw1⟩
  subst w1
  clear LS
  by_cases c : r < 0
  · go_wp2
    go_ret
    exact ⟨-1, rfl, fun h => absurd h (by decide), by decide, BW.out⟩
  · go_wp2
    go_ret
    exact ⟨r, rfl, hr, hr1, BW.out⟩
theorem tr3_set0 {w : World} {b : Nat} {t : TypeId} {x y z : Value} (h : w.heap[b]? = some (.cells #[x, y, z] t (0, 0))) (u : Value) : (w.setCell ⟨b, 0, none⟩ u).heap[b]? = some (.cells #[u, y, z] t (0, 0)) := by simp [World.setCell, Array.getElem?_modify, h]
theorem tr3_set1 {w : World} {b : Nat} {t : TypeId} {x y z : Value} (h : w.heap[b]? = some (.cells #[x, y, z] t (0, 0))) (u : Value) : (w.setCell ⟨b, 1, none⟩ u).heap[b]? = some (.cells #[x, u, z] t (0, 0)) := by simp [World.setCell, Array.getElem?_modify, h]
set_option maxRecDepth 100000 in
set_option maxHeartbeats 4000000 in
theorem toAnswer_any (c v : Int) (ao : Option Addr) (ss : List ByteArray) (cap : Nat) (w : World) (h : RdT w (.slice ao ss.length cap) ss) (hn : ss.length ≤ 1048576) :
    Calls Tryd.prog 8 #[.agg #[.int .i64 c, .int .i64 v, .slice ao ss.length cap]] w fun e w' => ∃ vN, e = .returned (.agg #[.int .i64 c, .int .i64 v, vN]) ∧ Row w' 9 1 w.heap.size w'.heap.size vN ss.length (strs ss) ∧ Below w.heap.size w w' := by
  obtain ⟨V, hV⟩ : ∃ V, V = (((w.alloc (.cells #[.int .i64 c, .int .i64 v, .slice ao ss.length cap] 26)).alloc (.cells #[.int .i64 0, .int .i64 0, .slice none 0 0] 33)).alloc (.cells #[.int .i64 0, .int .i64 0, .slice none 0 0] 33)) := ⟨_, rfl⟩
  have hzV : V.heap.size = w.heap.size + 1 + 1 + 1 := by rw [hV]; simp
  have BV : Hid (Below w.heap.size w V) := by rw [hV]; exact (((Below.refl _ _).alloc (Nat.le_refl _) _).alloc (by simp) _).alloc (by simp <;> omega) _
  have X0 : Hid (V.heap[w.heap.size]? = some (.cells #[.int .i64 c, .int .i64 v, .slice ao ss.length cap] 26 (0, 0))) := by rw [hV]; exact at_old (at_old (at_new rfl))
  have Y0 : Hid (V.heap[w.heap.size + 1]? = some (.cells #[.int .i64 0, .int .i64 0, .slice none 0 0] 33 (0, 0))) := by rw [hV]; exact at_old (at_new (by simp))
  have Z0 : Hid (V.heap[w.heap.size + 1 + 1]? = some (.cells #[.int .i64 0, .int .i64 0, .slice none 0 0] 33 (0, 0))) := by rw [hV]; exact at_new (by simp)
  obtain ⟨V1, hV1⟩ : ∃ V1, V1 = (V.setCell ⟨w.heap.size + 1 + 1, 0, none⟩ (.int .i64 c)).setCell ⟨w.heap.size + 1 + 1, 1, none⟩ (.int .i64 v) := ⟨_, rfl⟩
  have O1 : Outside (w.heap.size + 2) (w.heap.size + 3) V V1 := by rw [hV1]; exact ((Outside.refl _ _ _).setCell (a := ⟨w.heap.size + 1 + 1, 0, none⟩) (by simp only; omega) (by simp only; omega) _).setCell (a := ⟨w.heap.size + 1 + 1, 1, none⟩) (by simp only; omega) (by simp only; omega) _
  have hz1 : w.heap.size + 3 ≤ V1.heap.size ∧ V1.heap.size ≤ w.heap.size + 3 := by rw [hV1]; simp [World.setCell, hzV]
  have BV1 : Hid (Below w.heap.size w V1) := BV.out.trans (O1.below (by omega) (by omega))
  have X1 : Hid (V1.heap[w.heap.size]? = some (.cells #[.int .i64 c, .int .i64 v, .slice ao ss.length cap] 26 (0, 0))) := (O1.block _ (by omega) (by omega)).trans X0.out
  have Y1 : Hid (V1.heap[w.heap.size + 1]? = some (.cells #[.int .i64 0, .int .i64 0, .slice none 0 0] 33 (0, 0))) := (O1.block _ (by omega) (by omega)).trans Y0.out
  have Z1 : Hid (V1.heap[w.heap.size + 1 + 1]? = some (.cells #[.int .i64 c, .int .i64 v, .slice none 0 0] 33 (0, 0))) := by rw [hV1]; exact tr3_set1 (tr3_set0 Z0.out _) _
  have LT := hideIt (toStringS_any (.slice ao ss.length cap) ss V1 (Rd.below h BV1.out) hn)
  clear h O1
  obtain ⟨x0, x1, x2, -⟩ := tri3 X0.out
  obtain ⟨z0, z1, z2, z3, z4, z5⟩ := tri3 Z0.out
  have hzV' := hideIt hzV
  clear hzV
  go_enter Tryd.func8, Tryd.ntmps8
  go_upto_region 2 with fail
  rw [← hV]
  clear hV
  go_upto_region 4 with fail
  rw [← hV1]
  clear x0 x1 x2 z0 z1 z2 z3 z4 z5 X0 Y0 Z0 BV hV1
  obtain ⟨x0, x1, x2, -⟩ := tri3 X1.out
  go_wp2_with fail
  refine LT.out.mono ?_
  rintro e w1 ⟨v1, rfl, hr1, hb1⟩
  obtain ⟨-, aN, cN, rfl, -⟩ := hr1.rd
  have zz := hb1.size
  have B1 := hideIt (below_trans BV1.out hb1 BV1.out.size)
  have Y2 := hideIt ((hb1.block _ (by omega)).trans Y1.out)
  have Z2 := hideIt ((hb1.block _ (by omega)).trans Z1.out)
  have R2 : Hid (Row w1 9 1 (w.heap.size + 3) w1.heap.size (.slice aN ss.length cN) ss.length (strs ss)) := hr1.wide (by omega) (Nat.le_refl _)
  clear hr1 hb1 LT X1 Y1 Z1 x0 x1 x2 BV1
  obtain ⟨y0, y1, y2, y3, y4, y5⟩ := tri3 Y2.out
  obtain ⟨z0, z1, z2, z3, z4, z5⟩ := tri3 Z2.out
  go_wp2
  refine bodyPost_ret (v := .agg #[.int .i64 c, .int .i64 v, .slice aN ss.length cN]) (by simp [results, Tryd.results8, go_sem, y0, y1, y2]) rfl ?_
  have O : Outside (w.heap.size + 1) (w.heap.size + 3) w1 ((((w1.setCell ⟨w.heap.size + 1 + 1, 2, none⟩ (.slice aN ss.length cN)).setCell ⟨w.heap.size + 1, 0, none⟩ (.int .i64 c)).setCell ⟨w.heap.size + 1, 1, none⟩ (.int .i64 v)).setCell ⟨w.heap.size + 1, 2, none⟩ (.slice aN ss.length cN)) := by
    repeat (refine Outside.setCell ?_ (by simp only; omega) (by simp only; omega) _)
    exact Outside.refl _ _ _
  have hz3 := O.size
  exact ⟨_, rfl, (R2.out.outside O (by omega) (Nat.le_refl _)).wide (by omega) (by omega), B1.out.trans (O.below (by omega) (by omega))⟩
end Go.Proofs.YtkchiplcjlgflaaDoor
