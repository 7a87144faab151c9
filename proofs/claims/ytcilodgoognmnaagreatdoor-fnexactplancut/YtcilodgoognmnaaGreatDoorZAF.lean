/- Several texts laid together: SecS, SecT, UpL, ImC. -/
import Derived.Test.YtcilodgoognmnaaGreatDoorZAB
import Derived.Deep.RegionWith
import Derived.Test.YtcilodgoognmnaaGreatDoorImB
import Derived.Deep.RegionHeld3
import Derived.Laws.OwnMore
namespace Go.Proofs.YtcilodgoognmnaaGreatDoor
open Go.RowKit

/-- A write that is not sure: where, and what. -/
structure Se where
  at_ : Int
  val : Int
deriving DecidableEq

def Se.cells (s : Se) : List Value := [.int .i64 s.at_, .int .i64 s.val]
def ses (ps : List Se) : List Value := ps.flatMap Se.cells

theorem Se.cells_len (s : Se) : s.cells.length = 2 := rfl
theorem ses_len (ps : List Se) : (ses ps).length = ps.length * 2 := flatMap_len _ 2 Se.cells_len ps
theorem ses_at0 (ps : List Se) (k : Nat) (h : k < ps.length) : (ses ps)[k * 2]? = some (.int .i64 ps[k].at_) := flatMap_at _ 2 Se.cells_len ps k 0 h (by omega)
theorem ses_at1 (ps : List Se) (k : Nat) (h : k < ps.length) : (ses ps)[k * 2 + 1]? = some (.int .i64 ps[k].val) := flatMap_at _ 2 Se.cells_len ps k 1 h (by omega)

/-- A slice of writes that can be read. -/
def RdE (w : World) (v : Value) (ps : List Se) : Prop := Rd w 2 v ps.length (ses ps)
theorem RdE.shape {w : World} {v : Value} {ps : List Se} (h : RdE w v ps) : ∃ ao cap, v = .slice ao ps.length cap ∧ ps.length ≤ cap ∧ (0 < ps.length → ∃ b o, ao = some ⟨b, o, none⟩ ∧ b < w.heap.size ∧
    ∀ k (h : k < ps.length), w.cell? ⟨b, o + k * 2, none⟩ = some (.int .i64 ps[k].at_) ∧ w.cell? ⟨b, o + k * 2 + 1, none⟩ = some (.int .i64 ps[k].val)) := by
  obtain ⟨_, ao, cap, rfl, h2, h3⟩ := h
  refine ⟨ao, cap, rfl, h2.1, fun hn => ?_⟩
  obtain ⟨b, o, rfl, hb, hc⟩ := h3 hn
  exact ⟨b, o, rfl, hb, fun k hk => ⟨(hc (k * 2) (by omega)).trans (ses_at0 ps k hk), (hc (k * 2 + 1) (by omega)).trans (ses_at1 ps k hk)⟩⟩

/-- Two cells laid at element k. -/
def put2 (ys : List Value) (k : Nat) (a b : Value) : List Value := (ys.set (k * 2) a).set (k * 2 + 1) b
theorem put2_at {ys : List Value} {k : Nat} {a b : Value} {j : Nat} (hj : j < ys.length) : (put2 ys k a b)[j]? = if j = k * 2 + 1 then some b else if j = k * 2 then some a else ys[j]? := by
  unfold put2
  rw [set_at (by simpa using hj), set_at hj]
theorem put2_step {ys : List Value} {ps : List Se} {k : Nat} (hk : k < ps.length) (hl : ys.length = ps.length * 2) (h : ∀ j, j < k * 2 → ys[j]? = (ses ps)[j]?) :
    ∀ j, j < (k + 1) * 2 → (put2 ys k (.int .i64 ps[k].at_) (.int .i64 ps[k].val))[j]? = (ses ps)[j]? := by
  intro j hj
  rw [put2_at (by omega)]
  split
  · rename_i e; rw [e, ses_at1 ps k hk]
  · split
    · rename_i e; rw [e, ses_at0 ps k hk]
    · exact h j (by omega)
theorem ses_all {ys : List Value} {ps : List Se} (hl : ys.length = ps.length * 2) (h : ∀ j, j < ps.length * 2 → ys[j]? = (ses ps)[j]?) : ys = ses ps := by
  apply List.ext_getElem?
  intro j
  by_cases hj : j < ps.length * 2
  · exact h j hj
  · rw [List.getElem?_eq_none (by omega), List.getElem?_eq_none (by rw [ses_len]; omega)]
theorem Row.put2 {w : World} {e : TypeId} {lo hi : Nat} {b n cap : Nat} {ys : List Value} (h : Row w e 2 lo hi (.slice (some ⟨b, 0, none⟩) n cap) n ys) (k : Nat) (x y : Value) :
    Row ((w.setCell ⟨b, k * 2, none⟩ x).setCell ⟨b, k * 2 + 1, none⟩ y) e 2 lo hi (.slice (some ⟨b, 0, none⟩) n cap) n (put2 ys k x y) :=
  (h.stored (k * 2) x).stored (k * 2 + 1) y

end Go.Proofs.YtcilodgoognmnaaGreatDoor

namespace Go.Proofs.YtcilodgoognmnaaGreatDoor
open Go.RowKit

/-- The i-th of the marks from k on. -/
def markE (k : Int) (i : Nat) : Se := ⟨k + 2 * (i : Int), k + 2 * (i : Int) + 1⟩
def marksE (k : Int) (n : Nat) : List Se := (List.range n).map (markE k)
theorem marksE_len (k : Int) (n : Nat) : (marksE k n).length = n := by simp [marksE]
theorem marksE_at (k : Int) (n i : Nat) (h : i < (marksE k n).length) : (marksE k n)[i] = markE k i := by simp [marksE]

/-- Cells of writes: numbers. -/
def IsSes (xs : List Value) (n : Nat) : Prop := ∀ k, k < n → ∃ a b, xs[k * 2]? = some (.int .i64 a) ∧ xs[k * 2 + 1]? = some (.int .i64 b)
theorem isSes (ps : List Se) : IsSes (ses ps) ps.length := fun k hk => ⟨_, _, ses_at0 ps k hk, ses_at1 ps k hk⟩
theorem IsSes.put2 {ys : List Value} {n : Nat} (h : IsSes ys n) (hl : ys.length = n * 2) (k : Nat) (a b : Int) : IsSes (put2 ys k (.int .i64 a) (.int .i64 b)) n := by
  intro j hj
  rw [put2_at (by omega), put2_at (by omega)]
  by_cases e : j = k
  · subst e
    exact ⟨a, b, by simp, by simp⟩
  · obtain ⟨x, y, h0, h1⟩ := h j hj
    refine ⟨x, y, ?_, ?_⟩
    · rw [if_neg (by omega), if_neg (by omega)]; exact h0
    · rw [if_neg (by omega), if_neg (by omega)]; exact h1

end Go.Proofs.YtcilodgoognmnaaGreatDoor

namespace Go.Proofs.YtcilodgoognmnaaGreatDoor
open Go.RowKit

theorem infoUp : (Tryz.prog.info? 130).map (fun i => (i.zero, i.size, i.bytes)) = some (some (.agg #[.int .i64 0, .int .i64 0]), 2, 16) := by kernel_rfl

set_option maxHeartbeats 1000000 in
theorem eqUpdate_same (a v : Int) (w : World) : Calls Tryz.prog 69 #[.agg #[.int .i64 a, .int .i64 v], .agg #[.int .i64 a, .int .i64 v]] w fun e w' => e = .returned (.bool true) ∧ Below w.heap.size w w' := by
  go_enter Tryz.func69, Tryz.ntmps69
  go_wp2
  go_ret
  refine ⟨rfl, ?_⟩
  repeat (refine Below.alloc ?_ (by simp <;> omega) _)
  exact Below.refl _ _

set_option maxHeartbeats 2000000 in
/-- Two slices of writes that read alike are found alike. -/
theorem eqUpdateS_same (va vb : Value) (ps : List Se) (w : World) (ha : RdE w va ps) (hb : RdE w vb ps) (hn : ps.length ≤ 2147483648) :
    Calls Tryz.prog 23 #[va, vb] w fun e w' => e = .returned (.bool true) ∧ Below w.heap.size w w' := by
  obtain ⟨ao, cap, rfl, hcap, hc⟩ := ha.shape
  obtain ⟨ao2, cap2, rfl, hcap2, hc2⟩ := hb.shape
  clear ha hb
  go_enter Tryz.func23, Tryz.ntmps23
  go_wp2
  go_loopw [5] (fun i wr => ∃ k : Nat, k ≤ ps.length ∧ i = .int .i64 k ∧ Below w.heap.size w wr) (fun i _ => ps.length - (intOf i).toNat)
  case atStart => exact ⟨0, by omega, rfl, Below.refl _ _⟩
  case round =>
    obtain ⟨k, hk, rfl, hbw⟩ := hrel
    by_cases hlt : k < ps.length
    · obtain ⟨b, o, rfl, hbl, hcell⟩ := hc (by omega)
      obtain ⟨b2, o2, rfl, hbl2, hcell2⟩ := hc2 (by omega)
      obtain ⟨c0, c1⟩ := hcell k hlt
      obtain ⟨c3, c4⟩ := hcell2 k hlt
      have d0 := (hbw.cell (p := ⟨b, o + k * 2, none⟩) hbl).trans c0
      have d1 := (hbw.cell (p := ⟨b, o + k * 2 + 1, none⟩) hbl).trans c1
      have d3 := (hbw.cell (p := ⟨b2, o2 + k * 2, none⟩) hbl2).trans c3
      have d4 := (hbw.cell (p := ⟨b2, o2 + k * 2 + 1, none⟩) hbl2).trans c4
      have hlt' : (k : Int) < (ps.length : Int) := by omega
      have hge : (0 : Int) ≤ (k : Int) := by omega
      have hz := hbw.size
      clear hcell hcell2 hc hc2 c0 c1 c3 c4
      go_wp2_with fail
      go_region_with (go_at_call 69; refine (eqUpdate_same _ _ _).mono ?_; rintro e w1 ⟨rfl, hb1⟩)
      all_goals
        go_wp2
        go_roundw
        case rel => exact ⟨k + 1, by omega, by go_num, hbw.trans (Below.mono (Below.trans ((Below.refl _ _).drew) ‹_›) hz)⟩
        case measure => simp [intOf]; omega
    · go_wp2
      go_ret
      exact ⟨rfl, hbw⟩

set_option maxHeartbeats 2000000 in
/-- A slice of writes of the call's own is marked, and nothing else is written. -/
theorem markUpdateS_any (v : Value) (n : Nat) (xs : List Value) (k0 : Int) (lo hi : Nat) (w : World) (h : Row w 130 2 lo hi v n xs) (hx : IsSes xs n) (hn : n ≤ 2147483648) (h0 : 0 ≤ k0) (h1 : k0 ≤ 1099511627776) :
    Calls Tryz.prog 26 #[v, .int .i64 k0] w fun e w' => e = .returned (.int .i64 (k0 + 2 * n)) ∧ Row w' 130 2 lo hi v n (ses (marksE k0 n)) ∧ w.grownBy w' v.ownBlock ∧ w'.heap.size = w.heap.size := by
  obtain ⟨hlen, ao, cap, rfl, hcap, hc⟩ := h.rd
  go_enter Tryz.func26, Tryz.ntmps26
  go_wp2
  go_loopw [1, 5] (fun c i wr => ∃ k : Nat, k ≤ n ∧ i = .int .i64 k ∧ c = .int .i64 (k0 + 2 * k) ∧ (∃ ys : List Value, Row wr 130 2 lo hi (.slice ao n cap) n ys ∧ IsSes ys n ∧ ∀ j, j < k * 2 → ys[j]? = (ses (marksE k0 n))[j]?) ∧ w.grownBy wr (Value.slice ao n cap).ownBlock ∧ wr.heap.size = w.heap.size) (fun _ i _ => n - (intOf i).toNat)
  case atStart => exact ⟨0, by omega, rfl, by simp, ⟨xs, h, hx, fun j hj => absurd hj (by omega)⟩, World.grownBy.refl _ _, rfl⟩
  case round =>
    obtain ⟨k, hk, rfl, rfl, ⟨ys, hrow, hys, hd⟩, hout, hz⟩ := hrel
    clear h hx hc hlen
    by_cases hlt : k < n
    · obtain ⟨hlen, ao', cap', e', _, hc⟩ := hrow.rd
      cases e'
      obtain ⟨b, o, rfl, hbl, _⟩ := hc (by omega)
      obtain ⟨rfl, hb1, hb2, _, hfr, hcl⟩ := hrow.at
      obtain ⟨x, y, q0, q1⟩ := hys k hlt
      have f0 := hfr (k * 2)
      have f1 := hfr (k * 2 + 1)
      have e0 := (hcl (k * 2) (by omega)).trans q0
      have e1 := (hcl (k * 2 + 1) (by omega)).trans q1
      have PH := hideIt (hrow.put2 k (.int .i64 (k0 + 2 * k)) (.int .i64 (k0 + 2 * k + 1)))
      have OH := hideIt (grown_setCell (grown_setCell hout (a := ⟨b, k * 2, none⟩) rfl (.int .i64 (k0 + 2 * k))) (a := ⟨b, k * 2 + 1, none⟩) rfl (.int .i64 (k0 + 2 * k + 1)))
      have IH := hideIt (hys.put2 hlen k (k0 + 2 * k) (k0 + 2 * k + 1))
      have DH : Hid (∀ j, j < (k + 1) * 2 → (put2 ys k (.int .i64 (k0 + 2 * k)) (.int .i64 (k0 + 2 * k + 1)))[j]? = (ses (marksE k0 n))[j]?) := by
        have hk' : k < (marksE k0 n).length := by rw [marksE_len]; exact hlt
        have := put2_step (ps := marksE k0 n) hk' (by rw [marksE_len]; exact hlen) hd
        rw [marksE_at] at this
        exact this
      clear hrow hys hd hc hfr hcl q0 q1
      go_wp2
      go_roundw
      case rel => exact ⟨k + 1, by omega, by go_num, by go_num, ⟨_, PH.out, IH.out, DH.out⟩, OH.out, by simp [hz]⟩
      case measure => simp [intOf]; omega
    · have e : k = n := by omega
      subst e
      have hl := hrow.len
      have RH := hideIt hrow
      have DH := hideIt hd
      clear hrow hys hd
      go_wp2
      go_ret
      have e := ses_all (ps := marksE k0 k) (by rw [marksE_len]; exact hl) (by rw [marksE_len]; exact DH.out)
      exact ⟨rfl, e ▸ RH.out, hout, hz⟩

set_option maxHeartbeats 2000000 in
theorem heldUpdateS_any (v : Value) (n : Nat) (k0 : Int) (w : World) (h : RdE w v (marksE k0 n)) (hn : n ≤ 2147483648) (h0 : 0 ≤ k0) (h1 : k0 ≤ 1099511627776) :
    Calls Tryz.prog 27 #[v, .int .i64 k0] w fun e w' => e = .returned (.int .i64 (k0 + 2 * n)) ∧ w' = w := by
  obtain ⟨ao, cap, rfl, hcap, hc⟩ := h.shape
  simp only [marksE_len] at hcap hc ⊢
  clear h
  go_enter Tryz.func27, Tryz.ntmps27
  go_wp2
  go_loop [1, 5] (fun c i => ∃ k : Nat, k ≤ n ∧ i = .int .i64 k ∧ c = .int .i64 (k0 + 2 * k)) (fun _ i => n - (intOf i).toNat)
  case atStart => exact ⟨0, by omega, rfl, by simp⟩
  case round =>
    obtain ⟨k, hk, rfl, rfl⟩ := hrel
    by_cases hlt : k < n
    · obtain ⟨b, o, rfl, hbl, hcell⟩ := hc (by omega)
      obtain ⟨c0, c1⟩ := hcell k hlt
      rw [marksE_at] at c0 c1
      simp only [markE] at c0 c1
      clear hcell hc
      go_wp2
      go_round
      case rel => exact ⟨k + 1, by omega, by go_num, by go_num⟩
      case measure => simp [intOf]; omega
    · have e : k = n := by omega
      subst e
      go_wp2
      go_ret
      exact ⟨rfl, rfl⟩

end Go.Proofs.YtcilodgoognmnaaGreatDoor

namespace Go.Proofs.YtcilodgoognmnaaGreatDoor
open Go.RowKit

theorem rd_upd (w1 : World) (x y : Int) : Rd (w1.alloc (.cells #[.int .i64 x, .int .i64 y] 130)) 2 (.slice (some ⟨w1.heap.size, 0, none⟩) 1 1) 1 (ses [⟨x, y⟩]) := by
  refine ⟨rfl, _, _, rfl, ⟨Nat.le_refl _, fun e => by cases e⟩, fun _ => ⟨w1.heap.size, 0, rfl, by simp, fun j hj => ?_⟩⟩
  obtain ⟨e0, e1, _, _⟩ := two_cells (at_new (w := w1) (o := .cells #[.int .i64 x, .int .i64 y] 130) rfl)
  rcases (show j = 0 ∨ j = 1 by omega) with rfl | rfl
  · exact e0
  · exact e1
theorem ses_ones (l : List Se) : ∀ u ∈ ses l, u.oneCell' = true := by
  intro u hu
  simp only [ses, List.mem_flatMap] at hu
  obtain ⟨m, _, hm⟩ := hu
  simp [Se.cells] at hm
  rcases hm with rfl | rfl <;> rfl
theorem ses_app (l l' : List Se) : ses (l ++ l') = ses l ++ ses l' := by simp [ses]
/-- A row of updates that grows. -/
structure UpI (W w : World) (vL : Value) (ls : List Se) : Prop where
  l : w.ownsRow W.heap.size 130 2 vL ls.length (ses ls)
  b : Below W.heap.size W w
theorem UpI.z {W w : World} {vL : Value} {ls : List Se} (h : UpI W w vL ls) : W.heap.size ≤ w.heap.size := h.b.size
theorem UpI.below {W w w' : World} {vL : Value} {ls : List Se} (h : UpI W w vL ls) (hb : Below w.heap.size w w') : UpI W w' vL ls :=
  ⟨((own_block h.l).below hb (Nat.le_refl _)).1, below_trans h.b hb h.z⟩
theorem UpI.grow {W w w' : World} {vL v' : Value} {ls : List Se} (h : UpI W w vL ls) (ms : List Se) (ho : w'.ownsRow W.heap.size 130 2 v' (ls.length + ms.length) (ses ls ++ ses ms)) (hg : w.grownBy w' vL.ownBlock) : UpI W w' v' (ls ++ ms) :=
  ⟨by rw [ses_app, List.length_append]; exact ho, h.b.grown hg h.z (fun q hq => (h.l.lt q hq).1)⟩
end Go.Proofs.YtcilodgoognmnaaGreatDoor
