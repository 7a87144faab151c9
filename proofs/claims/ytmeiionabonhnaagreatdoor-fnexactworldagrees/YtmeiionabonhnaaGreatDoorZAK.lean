/- Several texts laid together: FqA, FqB, ThB, ThC. -/
import Derived.Test.YtmeiionabonhnaaGreatDoorZAJ
import Derived.Test.YtmeiionabonhnaaGreatDoorZAF
import Derived.Test.YtmeiionabonhnaaGreatDoorZAB
import Derived.Deep.RegionWith
namespace Go.Proofs.YtmeiionabonhnaaGreatDoor
open Go.RowKit
def RowW (w : World) (lo hi : Nat) (v : Value) (td : List Mi) : Prop := RdM w v td ∧ (∀ b, v.ownBlock = some b → lo ≤ b ∧ b < hi ∧ b < w.heap.size ∧ (∀ j, w.frozen? ⟨b, j, none⟩ = false) ∧ ∃ o n c, v = .slice (some ⟨b, o, none⟩) n c)
theorem RowW.same {w w' : World} {lo hi : Nat} {v : Value} {td : List Mi} (h : RowW w lo hi v td) (hz : w.heap.size ≤ w'.heap.size) (hs : ∀ b, lo ≤ b → b < hi → b < w.heap.size → w'.heap[b]? = w.heap[b]?) : RowW w' lo hi v td :=
  ⟨Rd.same h.1 hz (fun b hb e => hs b (h.2 b e).1 (h.2 b e).2.1 hb), fun b e => by
    obtain ⟨h1, h2, h3, h4, h5⟩ := h.2 b e
    refine ⟨h1, h2, Nat.lt_of_lt_of_le h3 hz, fun j => ?_, h5⟩
    have := h4 j
    unfold World.frozen? at this ⊢
    simp only [hs b h1 h2 h3]
    exact this⟩
theorem RowW.below {w w' : World} {lo hi : Nat} {v : Value} {td : List Mi} (h : RowW w lo hi v td) {B : Nat} (hb : Below B w w') (hB : hi ≤ B) : RowW w' lo hi v td := h.same hb.size (fun b _ h2 _ => hb.block b (by omega))
theorem RowW.outside {w w' : World} {lo hi : Nat} {v : Value} {td : List Mi} (h : RowW w lo hi v td) {lo' hi' : Nat} (ho : Outside lo' hi' w w') (hd : hi ≤ lo' ∨ hi' ≤ lo) : RowW w' lo hi v td := h.same ho.size (fun b h1 h2 h3 => ho.block b h3 (by omega))
theorem RowW.wide {w : World} {lo hi : Nat} {v : Value} {td : List Mi} (h : RowW w lo hi v td) {lo' hi' : Nat} (h1 : lo' ≤ lo) (h2 : hi ≤ hi') : RowW w lo' hi' v td := ⟨h.1, fun b e => by obtain ⟨a, b', c, d⟩ := h.2 b e; exact ⟨by omega, by omega, c, d⟩⟩
theorem RowW.of_row {w : World} {lo hi : Nat} {v : Value} {td : List Mi} (h : Row w 206 3 lo hi v td.length (mis td)) : RowW w lo hi v td := by
  refine ⟨h.rd, fun b e => ?_⟩
  rcases h.shape with ⟨rfl, _⟩ | ⟨b', cap, rfl, _, _⟩
  · cases e
  · cases e
    obtain ⟨_, h1, h2, h3, h4, _⟩ := h.at
    exact ⟨h1, h2, (h.1.lt _ rfl).2, h4, _, _, _, rfl⟩
def RdF (w : World) (v : Value) (ws : List Int) (ps : List St) (es : List Int) (qs : List Se) (hs : List Int) (td : List Mi) (cd vl : Int) (nm : List ByteArray) (fr : Bool) : Prop :=
  ∃ aW cW aP cP aS cS aQ cQ aH cH aT cT aN cN, v = .agg #[.slice aW ws.length cW, .slice aP ps.length cP, .slice aS es.length cS, .slice aQ qs.length cQ, .slice aH hs.length cH, .slice aT td.length cT, .int .i64 cd, .int .i64 vl, .slice aN nm.length cN, .bool fr] ∧ RdDev w (.agg #[.slice aW ws.length cW, .slice aP ps.length cP, .slice aS es.length cS, .slice aQ qs.length cQ]) ws ps es qs ∧ RdI w (.slice aH hs.length cH) hs ∧ RdM w (.slice aT td.length cT) td ∧ RdT w (.slice aN nm.length cN) nm
theorem RdF.below {w w' : World} {v : Value} {ws : List Int} {ps : List St} {es : List Int} {qs : List Se} {hs : List Int} {td : List Mi} {cd vl : Int} {nm : List ByteArray} {fr : Bool} (h : RdF w v ws ps es qs hs td cd vl nm fr) (s : Below w.heap.size w w') : RdF w' v ws ps es qs hs td cd vl nm fr := by
  obtain ⟨aW, cW, aP, cP, aS, cS, aQ, cQ, aH, cH, aT, cT, aN, cN, rfl, a, b, c, d⟩ := h
  exact ⟨aW, cW, aP, cP, aS, cS, aQ, cQ, aH, cH, aT, cT, aN, cN, rfl, a.below s, Rd.below b s, Rd.below c s, Rd.below d s⟩
structure FarF (lo hi ld ud lh uh lt ut ln un : Nat) : Prop where
  d0 : lo ≤ ld
  d1 : ud ≤ hi
  h0 : lo ≤ lh
  h1 : uh ≤ hi
  t0 : lo ≤ lt
  t1 : ut ≤ hi
  n0 : lo ≤ ln
  n1 : un ≤ hi
  dh : ud ≤ lh ∨ uh ≤ ld
  dt : ud ≤ lt ∨ ut ≤ ld
  dn : ud ≤ ln ∨ un ≤ ld
  ht : uh ≤ lt ∨ ut ≤ lh
  hn : uh ≤ ln ∨ un ≤ lh
  tn : ut ≤ ln ∨ un ≤ lt
def RowF (w : World) (lo hi : Nat) (v : Value) (ws : List Int) (ps : List St) (es : List Int) (qs : List Se) (hs : List Int) (td : List Mi) (cd vl : Int) (nm : List ByteArray) (fr : Bool) : Prop :=
  ∃ vW vP vS vQ vH vT vN ld ud lh uh lt ut ln un, v = .agg #[vW, vP, vS, vQ, vH, vT, .int .i64 cd, .int .i64 vl, vN, .bool fr] ∧ RowDev w ld ud (.agg #[vW, vP, vS, vQ]) ws ps es qs ∧ Row w 3 1 lh uh vH hs.length (ints hs) ∧ RowW w lt ut vT td ∧ Row w 9 1 ln un vN nm.length (strs nm) ∧ FarF lo hi ld ud lh uh lt ut ln un
theorem RowF.rd {w : World} {lo hi : Nat} {v : Value} {ws : List Int} {ps : List St} {es : List Int} {qs : List Se} {hs : List Int} {td : List Mi} {cd vl : Int} {nm : List ByteArray} {fr : Bool} (h : RowF w lo hi v ws ps es qs hs td cd vl nm fr) : RdF w v ws ps es qs hs td cd vl nm fr := by
  obtain ⟨vW, vP, vS, vQ, vH, vT, vN, ld, ud, lh, uh, lt, ut, ln, un, rfl, a, b, c, d, -⟩ := h
  obtain ⟨aW, cW, aP, cP, aS, cS, aQ, cQ, e, -, -⟩ := a.rd.form
  cases e
  obtain ⟨-, aH, cH, rfl, -⟩ := b.rd
  obtain ⟨-, aT, cT, rfl, -⟩ := c.1
  obtain ⟨-, aN, cN, rfl, -⟩ := d.rd
  exact ⟨aW, cW, aP, cP, aS, cS, aQ, cQ, aH, cH, aT, cT, aN, cN, rfl, a.rd, b.rd, c.1, d.rd⟩
theorem RowF.below {w w' : World} {lo hi : Nat} {v : Value} {ws : List Int} {ps : List St} {es : List Int} {qs : List Se} {hs : List Int} {td : List Mi} {cd vl : Int} {nm : List ByteArray} {fr : Bool} (h : RowF w lo hi v ws ps es qs hs td cd vl nm fr) {B : Nat} (hb : Below B w w') (hB : hi ≤ B) : RowF w' lo hi v ws ps es qs hs td cd vl nm fr := by
  obtain ⟨vW, vP, vS, vQ, vH, vT, vN, ld, ud, lh, uh, lt, ut, ln, un, rfl, a, b, c, d, f⟩ := h
  have := f.d1; have := f.h1; have := f.t1; have := f.n1
  exact ⟨vW, vP, vS, vQ, vH, vT, vN, ld, ud, lh, uh, lt, ut, ln, un, rfl, a.below hb (by omega), b.below hb (by omega), c.below hb (by omega), d.below hb (by omega), f⟩
theorem RowF.outside {w w' : World} {lo hi : Nat} {v : Value} {ws : List Int} {ps : List St} {es : List Int} {qs : List Se} {hs : List Int} {td : List Mi} {cd vl : Int} {nm : List ByteArray} {fr : Bool} (h : RowF w lo hi v ws ps es qs hs td cd vl nm fr) {lo' hi' : Nat} (ho : Outside lo' hi' w w') (hd : hi ≤ lo' ∨ hi' ≤ lo) (hz : hi ≤ w.heap.size) : RowF w' lo hi v ws ps es qs hs td cd vl nm fr := by
  obtain ⟨vW, vP, vS, vQ, vH, vT, vN, ld, ud, lh, uh, lt, ut, ln, un, rfl, a, b, c, d, f⟩ := h
  have := f.d0; have := f.h0; have := f.t0; have := f.n0
  have := f.d1; have := f.h1; have := f.t1; have := f.n1
  exact ⟨vW, vP, vS, vQ, vH, vT, vN, ld, ud, lh, uh, lt, ut, ln, un, rfl, a.outside ho (by omega) (by omega), b.outside ho (by omega) (by omega), c.outside ho (by omega), d.outside ho (by omega) (by omega), f⟩
theorem RowF.wide {w : World} {lo hi : Nat} {v : Value} {ws : List Int} {ps : List St} {es : List Int} {qs : List Se} {hs : List Int} {td : List Mi} {cd vl : Int} {nm : List ByteArray} {fr : Bool} (h : RowF w lo hi v ws ps es qs hs td cd vl nm fr) {lo' hi' : Nat} (p : lo' ≤ lo) (q : hi ≤ hi') : RowF w lo' hi' v ws ps es qs hs td cd vl nm fr := by
  obtain ⟨vW, vP, vS, vQ, vH, vT, vN, ld, ud, lh, uh, lt, ut, ln, un, rfl, a, b, c, d, f⟩ := h
  exact ⟨vW, vP, vS, vQ, vH, vT, vN, ld, ud, lh, uh, lt, ut, ln, un, rfl, a, b, c, d, ⟨Nat.le_trans p f.d0, Nat.le_trans f.d1 q, Nat.le_trans p f.h0, Nat.le_trans f.h1 q, Nat.le_trans p f.t0, Nat.le_trans f.t1 q, Nat.le_trans p f.n0, Nat.le_trans f.n1 q, f.dh, f.dt, f.dn, f.ht, f.hn, f.tn⟩⟩
theorem RowF.form {w : World} {lo hi : Nat} {v : Value} {ws : List Int} {ps : List St} {es : List Int} {qs : List Se} {hs : List Int} {td : List Mi} {cd vl : Int} {nm : List ByteArray} {fr : Bool} (h : RowF w lo hi v ws ps es qs hs td cd vl nm fr) : ∃ aW cW aP cP aS cS aQ cQ aH cH aT cT aN cN, v = .agg #[.slice aW ws.length cW, .slice aP ps.length cP, .slice aS es.length cS, .slice aQ qs.length cQ, .slice aH hs.length cH, .slice aT td.length cT, .int .i64 cd, .int .i64 vl, .slice aN nm.length cN, .bool fr] := by
  obtain ⟨aW, cW, aP, cP, aS, cS, aQ, cQ, aH, cH, aT, cT, aN, cN, rfl, -⟩ := h.rd
  exact ⟨aW, cW, aP, cP, aS, cS, aQ, cQ, aH, cH, aT, cT, aN, cN, rfl⟩
end Go.Proofs.YtmeiionabonhnaaGreatDoor

namespace Go.Proofs.YtmeiionabonhnaaGreatDoor
open Go.RowKit
theorem rowT_of_rowIs {w : World} {g : Nat} {zs : List ByteArray} {f : Nat → Value} {lo hi : Nat} (h : w.rowIs g 9 zs.length f) (hf : ∀ i (h : i < zs.length), f i = .string zs[i]) (h1 : lo ≤ g) (h2 : g < hi) (hm : zs.length ≤ maxLen) :
    Row w 9 1 lo hi (.slice (some ⟨g, 0, none⟩) zs.length zs.length) zs.length (strs zs) := by
  obtain ⟨c, hb, hn, hc⟩ := h
  refine ⟨⟨by simp [strs], .inr ⟨g, zs.length, c, rfl, h1, hb, Nat.le_refl _, hm, by omega, ?_⟩⟩, fun k hk => by cases hk; exact h2⟩
  apply List.ext_getElem?
  intro i
  by_cases hi : i < zs.length
  · rw [List.getElem?_take, if_pos (by omega), strs_at zs i hi, Array.getElem?_toList, hc i hi, hf i hi]
  · rw [List.getElem?_eq_none (by simp; omega), List.getElem?_eq_none (by simp [strs]; omega)]
set_option maxHeartbeats 2000000 in
theorem toStringS_any (v : Value) (zs : List ByteArray) (w : World) (h : RdT w v zs) (hn : zs.length ≤ 1048576) :
    Calls Tryz.prog 151 #[v] w fun e w' => ∃ v', e = .returned v' ∧ Row w' 9 1 w.heap.size w'.heap.size v' zs.length (strs zs) ∧ Below w.heap.size w w' := by
  obtain ⟨ao, cap, rfl, hcap, hc⟩ := h.shape
  have hmk := run_make_row' (P := Tryz.prog) 27 9 (.string ⟨#[]⟩) 16 Tryz.underlying27 info9 rfl .i64 .i64 zs.length (by omega) (by omega)
  go_enter Tryz.func151, Tryz.ntmps151
  go_wp2
  go_loopw [4] (fun i wr => ∃ k : Nat, k ≤ zs.length ∧ i = .int .i64 k ∧ wr.rowIs w.heap.size 9 zs.length (fun j => if h : j < k ∧ j < zs.length then .string zs[j] else .string ⟨#[]⟩) ∧ Below w.heap.size w wr ∧ wr.heap.size = w.heap.size + 1) (fun i _ => zs.length - (intOf i).toNat)
  case atStart =>
    refine ⟨0, by omega, rfl, ?_, (Below.refl _ _).alloc (Nat.le_refl _) _, by simp⟩
    exact (World.rowIs_made w (.string ⟨#[]⟩) zs.length 9).congr (fun i hi => by simp)
  case round =>
    obtain ⟨k, hk, rfl, hrow, hb, hz⟩ := hrel
    by_cases hlt : k < zs.length
    · obtain ⟨b, o, rfl, hbl, hcell⟩ := hc (by omega)
      have hck : wr.cell? ⟨b, o + k, none⟩ = some (.string zs[k]) := (hb.cell (p := ⟨b, o + k, none⟩) hbl).trans (hcell k hlt)
      have hfr := hrow.frozen k
      have hce := hrow.cell hlt
      have R := hrow.set k (.string zs[k])
      have B := hb.setCell (p := ⟨w.heap.size, k, none⟩) (Nat.le_refl _) (.string zs[k])
      have RH := hideIt R
      have BH := hideIt B
      clear R B hrow hcell hc
      go_wp2
      go_roundw
      case rel =>
        refine ⟨k + 1, by omega, by go_num, RH.out.congr (fun j hj => ?_), BH.out, by simp [hz]⟩
        by_cases e : j = k
        · subst e; simp [hj]
        · by_cases e2 : j < k
          · simp [e, e2, hj, show j < k + 1 by omega]
          · simp [e, e2, show ¬ j < k + 1 by omega]
      case measure => simp [intOf]; omega
    · have e : k = zs.length := by omega
      subst e
      go_wp2
      go_ret
      refine ⟨_, rfl, rowT_of_rowIs hrow (fun i hi => by simp [hi]) (Nat.le_refl _) (by omega) (by simp [maxLen]; omega), hb⟩
set_option maxHeartbeats 2000000 in
theorem szStringS_any (ao : Option Addr) (ss : List ByteArray) (cap : Nat) (left : Int) (w : World) (h : RdT w (.slice ao ss.length cap) ss) (hn : ss.length ≤ maxLen) (hs : ∀ k (hk : k < ss.length), ss[k].size ≤ maxLen) (h0 : 0 ≤ left) (h1 : left ≤ 1048576) :
    Calls Tryz.prog 140 #[.slice ao ss.length cap, .int .i64 left] w fun e w' => ∃ r : Int, e = .returned (.int .i64 r) ∧ (0 ≤ r → ss.length ≤ 1048576 ∧ r ≤ 1048576) ∧ -1 ≤ r ∧ w' = w := by
  obtain ⟨ao', cap', e, hcap, hc⟩ := h.shape
  cases e
  unfold maxLen at hn hs
  clear h
  have HC := hideIt hc
  have HS := hideIt hs
  clear hc hs hcap
  by_cases c : left < (ss.length : Int)
  · have c' : left - (ss.length : Int) < 0 := by omega
    go_enter Tryz.func140, Tryz.ntmps140
    go_wp2
    go_ret
    exact ⟨-1, rfl, fun h => absurd h (by decide), by decide, rfl⟩
  · have c' : ¬ left - (ss.length : Int) < 0 := by omega
    have hl : ss.length ≤ 1048576 := by omega
    go_enter Tryz.func140, Tryz.ntmps140
    go_wp2
    go_loop [1, 5] (fun l i => ∃ k : Nat, k ≤ ss.length ∧ i = .int .i64 k ∧ ∃ z : Int, l = .int .i64 z ∧ 0 ≤ z ∧ z ≤ 1048576) (fun _ i => ss.length - (intOf i).toNat)
    case atStart => exact ⟨0, by omega, rfl, _, rfl, by omega, by omega⟩
    case round =>
      obtain ⟨k, hk, rfl, z, rfl, z0, z1⟩ := hrel
      by_cases hlt : k < ss.length
      · obtain ⟨b, o, rfl, hbl, hcell⟩ := HC.out (by omega)
        have hck := hcell k hlt
        have hsz := HS.out k hlt
        clear hcell HC HS
        generalize ss[k] = x at hck hsz
        by_cases d : z < (x.size : Int)
        · have d' : z - (x.size : Int) < 0 := by omega
          go_wp2
          go_ret
          exact ⟨-1, rfl, fun h => absurd h (by decide), by decide, rfl⟩
        · have d' : ¬ z - (x.size : Int) < 0 := by omega
          go_wp2
          go_round
          case rel => exact ⟨k + 1, by omega, by go_num, z - (x.size : Int), by go_num, by omega, by omega⟩
          case measure => simp [intOf]; omega
      · have e : k = ss.length := by omega
        subst e
        go_wp2
        go_ret
        exact ⟨z, rfl, fun _ => by omega, by omega, rfl⟩
set_option maxHeartbeats 2000000 in
theorem szAnswer_any (c v : Int) (ao : Option Addr) (ss : List ByteArray) (cap : Nat) (left : Int) (w : World) (h : RdT w (.slice ao ss.length cap) ss) (hn : ss.length ≤ maxLen) (hs : ∀ k (hk : k < ss.length), ss[k].size ≤ maxLen) (h0 : 0 ≤ left) (h1 : left ≤ 1048576) :
    Calls Tryz.prog 88 #[.agg #[.int .i64 c, .int .i64 v, .slice ao ss.length cap], .int .i64 left] w fun e w' => ∃ r : Int, e = .returned (.int .i64 r) ∧ (0 ≤ r → ss.length ≤ 1048576 ∧ r ≤ 1048576) ∧ -1 ≤ r ∧ Below w.heap.size w w' := by
  have BW : Hid (Below w.heap.size w (w.alloc (.cells #[.int .i64 c, .int .i64 v, .slice ao ss.length cap] 54))) := (Below.refl _ _).alloc (Nat.le_refl _) _
  have LS := hideIt (szStringS_any ao ss cap left _ (Rd.below h BW.out) hn hs h0 h1)
  clear h hn hs
  go_enter Tryz.func88, Tryz.ntmps88
  go_wp2_with fail
  refine LS.out.mono ?_
  rintro e w1 ⟨r, rfl, hr, hr1, hw1⟩
  subst w1
  clear LS
  by_cases c : r < 0
  · go_wp2
    go_ret
    exact ⟨-1, rfl, fun h => absurd h (by decide), by decide, BW.out⟩
  · go_wp2
    go_ret
    exact ⟨r, rfl, hr, hr1, BW.out⟩
theorem tr3_set0 {w : World} {b : Nat} {t : TypeId} {x y z : Value} (h : w.heap[b]? = some (.cells #[x, y, z] t (0, 0))) (u : Value) : (w.setCell ⟨b, 0, none⟩ u).heap[b]? = some (.cells #[u, y, z] t (0, 0)) := by simp [World.setCell, Array.getElem?_modify, h]
theorem tr3_set1 {w : World} {b : Nat} {t : TypeId} {x y z : Value} (h : w.heap[b]? = some (.cells #[x, y, z] t (0, 0))) (u : Value) : (w.setCell ⟨b, 1, none⟩ u).heap[b]? = some (.cells #[x, u, z] t (0, 0)) := by simp [World.setCell, Array.getElem?_modify, h]
set_option maxRecDepth 100000 in
set_option maxHeartbeats 4000000 in
theorem toAnswer_any (c v : Int) (ao : Option Addr) (ss : List ByteArray) (cap : Nat) (w : World) (h : RdT w (.slice ao ss.length cap) ss) (hn : ss.length ≤ 1048576) :
    Calls Tryz.prog 99 #[.agg #[.int .i64 c, .int .i64 v, .slice ao ss.length cap]] w fun e w' => ∃ vN, e = .returned (.agg #[.int .i64 c, .int .i64 v, vN]) ∧ Row w' 9 1 w.heap.size w'.heap.size vN ss.length (strs ss) ∧ Below w.heap.size w w' := by
  obtain ⟨V, hV⟩ : ∃ V, V = (((w.alloc (.cells #[.int .i64 c, .int .i64 v, .slice ao ss.length cap] 54)).alloc (.cells #[.int .i64 0, .int .i64 0, .slice none 0 0] 73)).alloc (.cells #[.int .i64 0, .int .i64 0, .slice none 0 0] 73)) := ⟨_, rfl⟩
  have hzV : V.heap.size = w.heap.size + 1 + 1 + 1 := by rw [hV]; simp
  have BV : Hid (Below w.heap.size w V) := by rw [hV]; exact (((Below.refl _ _).alloc (Nat.le_refl _) _).alloc (by simp) _).alloc (by simp <;> omega) _
  have X0 : Hid (V.heap[w.heap.size]? = some (.cells #[.int .i64 c, .int .i64 v, .slice ao ss.length cap] 54 (0, 0))) := by rw [hV]; exact at_old (at_old (at_new rfl))
  have Y0 : Hid (V.heap[w.heap.size + 1]? = some (.cells #[.int .i64 0, .int .i64 0, .slice none 0 0] 73 (0, 0))) := by rw [hV]; exact at_old (at_new (by simp))
  have Z0 : Hid (V.heap[w.heap.size + 1 + 1]? = some (.cells #[.int .i64 0, .int .i64 0, .slice none 0 0] 73 (0, 0))) := by rw [hV]; exact at_new (by simp)
  obtain ⟨V1, hV1⟩ : ∃ V1, V1 = (V.setCell ⟨w.heap.size + 1 + 1, 0, none⟩ (.int .i64 c)).setCell ⟨w.heap.size + 1 + 1, 1, none⟩ (.int .i64 v) := ⟨_, rfl⟩
  have O1 : Outside (w.heap.size + 2) (w.heap.size + 3) V V1 := by rw [hV1]; exact ((Outside.refl _ _ _).setCell (a := ⟨w.heap.size + 1 + 1, 0, none⟩) (by simp only; omega) (by simp only; omega) _).setCell (a := ⟨w.heap.size + 1 + 1, 1, none⟩) (by simp only; omega) (by simp only; omega) _
  have hz1 : w.heap.size + 3 ≤ V1.heap.size ∧ V1.heap.size ≤ w.heap.size + 3 := by rw [hV1]; simp [World.setCell, hzV]
  have BV1 : Hid (Below w.heap.size w V1) := BV.out.trans (O1.below (by omega) (by omega))
  have X1 : Hid (V1.heap[w.heap.size]? = some (.cells #[.int .i64 c, .int .i64 v, .slice ao ss.length cap] 54 (0, 0))) := (O1.block _ (by omega) (by omega)).trans X0.out
  have Y1 : Hid (V1.heap[w.heap.size + 1]? = some (.cells #[.int .i64 0, .int .i64 0, .slice none 0 0] 73 (0, 0))) := (O1.block _ (by omega) (by omega)).trans Y0.out
  have Z1 : Hid (V1.heap[w.heap.size + 1 + 1]? = some (.cells #[.int .i64 c, .int .i64 v, .slice none 0 0] 73 (0, 0))) := by rw [hV1]; exact tr3_set1 (tr3_set0 Z0.out _) _
  have LT := hideIt (toStringS_any (.slice ao ss.length cap) ss V1 (Rd.below h BV1.out) hn)
  clear h O1
  obtain ⟨x0, x1, x2, -⟩ := tri3 X0.out
  obtain ⟨z0, z1, z2, z3, z4, z5⟩ := tri3 Z0.out
  have hzV' := hideIt hzV
  clear hzV
  go_enter Tryz.func99, Tryz.ntmps99
  go_upto_region 2 with fail
  rw [← hV]
  clear hV
  go_upto_region 4 with fail
  rw [← hV1]
  clear x0 x1 x2 z0 z1 z2 z3 z4 z5 X0 Y0 Z0 BV hV1
  obtain ⟨x0, x1, x2, -⟩ := tri3 X1.out
  go_wp2_with fail
  refine LT.out.mono ?_
  rintro e w1 ⟨v1, rfl, hr1, hb1⟩
  obtain ⟨-, aN, cN, rfl, -⟩ := hr1.rd
  have zz := hb1.size
  have B1 := hideIt (below_trans BV1.out hb1 BV1.out.size)
  have Y2 := hideIt ((hb1.block _ (by omega)).trans Y1.out)
  have Z2 := hideIt ((hb1.block _ (by omega)).trans Z1.out)
  have R2 : Hid (Row w1 9 1 (w.heap.size + 3) w1.heap.size (.slice aN ss.length cN) ss.length (strs ss)) := hr1.wide (by omega) (Nat.le_refl _)
  clear hr1 hb1 LT X1 Y1 Z1 x0 x1 x2 BV1
  obtain ⟨y0, y1, y2, y3, y4, y5⟩ := tri3 Y2.out
  obtain ⟨z0, z1, z2, z3, z4, z5⟩ := tri3 Z2.out
  go_wp2
  refine bodyPost_ret (v := .agg #[.int .i64 c, .int .i64 v, .slice aN ss.length cN]) (by simp [results, Tryz.results99, go_sem, y0, y1, y2]) rfl ?_
  have O : Outside (w.heap.size + 1) (w.heap.size + 3) w1 ((((w1.setCell ⟨w.heap.size + 1 + 1, 2, none⟩ (.slice aN ss.length cN)).setCell ⟨w.heap.size + 1, 0, none⟩ (.int .i64 c)).setCell ⟨w.heap.size + 1, 1, none⟩ (.int .i64 v)).setCell ⟨w.heap.size + 1, 2, none⟩ (.slice aN ss.length cN)) := by
    repeat (refine Outside.setCell ?_ (by simp only; omega) (by simp only; omega) _)
    exact Outside.refl _ _ _
  have hz3 := O.size
  exact ⟨_, rfl, (R2.out.outside O (by omega) (Nat.le_refl _)).wide (by omega) (by omega), B1.out.trans (O.below (by omega) (by omega))⟩
end Go.Proofs.YtmeiionabonhnaaGreatDoor

namespace Go.Proofs.YtmeiionabonhnaaGreatDoor
open Go.RowKit
set_option maxHeartbeats 2000000 in
theorem eqThing_same (a b : Int) (va vb : Value) (zs : List Int) (w : World) (ha : RdI w va zs) (hb : RdI w vb zs) (hn : zs.length ≤ 2147483648) :
    Calls Tryz.prog 82 #[.agg #[.int .i64 a, .int .i64 b, va], .agg #[.int .i64 a, .int .i64 b, vb]] w fun e w' => e = .returned (.bool true) ∧ Below w.heap.size w w' := by
  have HA := hideIt ha
  have HB := hideIt hb
  obtain ⟨ao, cap, rfl, -⟩ := ha.shape
  obtain ⟨ao2, cap2, rfl, -⟩ := hb.shape
  clear ha hb
  have hb0 : Below w.heap.size w ((w.alloc (.cells #[.int .i64 a, .int .i64 b, .slice ao zs.length cap] 102)).alloc (.cells #[.int .i64 a, .int .i64 b, .slice ao2 zs.length cap2] 102)) := by
    repeat (refine Below.alloc ?_ (by simp <;> omega) _)
    exact Below.refl _ _
  have B0 := hideIt hb0
  clear hb0
  go_enter Tryz.func82, Tryz.ntmps82
  go_wp2_with (go_at_call 103; refine (eqIntS_same _ _ zs _ (Rd.below HA.out B0.out) (Rd.below HB.out B0.out) hn).mono ?_; rintro e w1 ⟨rfl, hb1⟩)
  go_ret
  exact ⟨rfl, below_trans B0.out hb1 B0.out.size⟩
set_option maxHeartbeats 4000000 in
theorem eqThingU_same (va vb : Value) (us vs : List (Th × Value)) (w : World) (ha : RdU w va us) (hb : RdU w vb vs) (he : us.map Prod.fst = vs.map Prod.fst) (hn : us.length ≤ 2147483648) (hp : ∀ k (h : k < us.length), us[k].1.pages.length ≤ 2147483648) :
    Calls Tryz.prog 37 #[va, vb] w fun e w' => e = .returned (.bool true) ∧ Below w.heap.size w w' := by
  have HA := hideIt ha
  have HB := hideIt hb
  have el : us.length = vs.length := by have := congrArg List.length he; simpa using this
  have EL := hideIt el
  have EA : Hid (∀ k (h : k < us.length), us[k].1 = (vs[k]'(Nat.lt_of_lt_of_eq h EL.out)).1) := fun k h => by
    have := congrArg (fun l => l[k]?) he
    simpa [h, show k < vs.length by omega] using this
  obtain ⟨ao, cap, rfl, hcap, hc⟩ := ha.shape
  obtain ⟨ao2, cap2, rfl, hcap2, hc2⟩ := hb.shape
  rw [← el]
  have HP := hideIt hp
  clear ha hb he hp el
  go_enter Tryz.func37, Tryz.ntmps37
  go_wp2
  go_loopw [5] (fun i wr => ∃ k : Nat, k ≤ us.length ∧ i = .int .i64 k ∧ Below w.heap.size w wr) (fun i _ => us.length - (intOf i).toNat)
  case atStart => exact ⟨0, by omega, rfl, Below.refl _ _⟩
  case round =>
    obtain ⟨k, hk, rfl, hbw⟩ := hrel
    by_cases hlt : k < us.length
    · obtain ⟨b, o, rfl, hbl, hcell⟩ := hc (by omega)
      obtain ⟨b2, o2, rfl, hbl2, hcell2⟩ := hc2 (by have := EL.out; omega)
      obtain ⟨c0, c1, c2⟩ := hcell k hlt
      obtain ⟨c3, c4, c5⟩ := hcell2 k (Nat.lt_of_lt_of_eq hlt EL.out)
      rw [← EA.out k hlt] at c3 c4
      have d0 := (hbw.cell (p := ⟨b, o + k * 3, none⟩) hbl).trans c0
      have d1 := (hbw.cell (p := ⟨b, o + k * 3 + 1, none⟩) hbl).trans c1
      have d2 := (hbw.cell (p := ⟨b, o + k * 3 + 2, none⟩) hbl).trans c2
      have d3 := (hbw.cell (p := ⟨b2, o2 + k * 3, none⟩) hbl2).trans c3
      have d4 := (hbw.cell (p := ⟨b2, o2 + k * 3 + 1, none⟩) hbl2).trans c4
      have d5 := (hbw.cell (p := ⟨b2, o2 + k * 3 + 2, none⟩) hbl2).trans c5
      have hlt' : (k : Int) < (us.length : Int) := by omega
      have hge : (0 : Int) ≤ (k : Int) := by omega
      have hz := hbw.size
      have BW := hideIt hbw
      have R1 : Hid (RdI w us[k].2 us[k].1.pages) := HA.out.2 k hlt
      have R2 : Hid (RdI w (vs[k]'(Nat.lt_of_lt_of_eq hlt EL.out)).2 us[k].1.pages) := by
        have := HB.out.2 k (Nat.lt_of_lt_of_eq hlt EL.out)
        rw [← EA.out k hlt] at this
        exact this
      have hpk := HP.out k hlt
      obtain ⟨x1, y1, e1, -⟩ := R1.out.shape
      obtain ⟨x2, y2, e2, -⟩ := R2.out.shape
      rw [e1] at d2 R1
      rw [e2] at d5 R2
      clear hcell hcell2 hc hc2 c0 c1 c2 c3 c4 c5 hbw e1 e2 EA HA HB HP
      generalize us[k].1.pages = zs at *
      generalize us[k].1.kind = q1 at *
      generalize us[k].1.links = q2 at *
      go_wp2_with fail
      go_region_with (go_at_call 82; refine (eqThing_same _ _ _ _ zs _ (Rd.below R1.out (by first | exact BW.out | exact BW.out.drew)) (Rd.below R2.out (by first | exact BW.out | exact BW.out.drew)) hpk).mono ?_; rintro e w1 ⟨rfl, hb1⟩)
      all_goals
        go_wp2
        go_roundw
        case rel => exact ⟨k + 1, by omega, by go_num, BW.out.trans (Below.mono (Below.trans ((Below.refl _ _).drew) ‹_›) hz)⟩
        case measure => simp [intOf]; omega
    · go_wp2
      go_ret
      exact ⟨rfl, hbw⟩
theorem eqThingS_same (va vb : Value) (ts : List Th) (w : World) (ha : RdTh w va ts) (hb : RdTh w vb ts) (hn : ts.length ≤ 2147483648) (hp : ∀ k (h : k < ts.length), ts[k].pages.length ≤ 2147483648) :
    Calls Tryz.prog 37 #[va, vb] w fun e w' => e = .returned (.bool true) ∧ Below w.heap.size w w' := by
  obtain ⟨us, eu, ru⟩ := ha
  obtain ⟨vs, ev, rv⟩ := hb
  refine eqThingU_same va vb us vs w ru rv (by rw [eu, ev]) (by rw [map_fst_len eu]; exact hn) (fun k h => ?_)
  rw [map_fst_at eu k h]
  exact hp k _
end Go.Proofs.YtmeiionabonhnaaGreatDoor

namespace Go.Proofs.YtmeiionabonhnaaGreatDoor
open Go.RowKit
def kT (k0 : Int) (ts : List Th) (j : Nat) : Int := k0 + 2 * (j : Int) + (totT (ts.take j) : Int)
end Go.Proofs.YtmeiionabonhnaaGreatDoor
