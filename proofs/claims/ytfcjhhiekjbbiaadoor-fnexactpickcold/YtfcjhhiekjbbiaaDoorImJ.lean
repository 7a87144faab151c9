/- Images: as the laws hand them on, alike, and their room. -/
import Derived.Test.YtfcjhhiekjbbiaaDoorImI
namespace Go.Proofs.YtfcjhhiekjbbiaaDoor
open Go.RowKit

/-- What is left of a room. -/
def lessN (left : Int) (n : Nat) : Int := if left < n then -1 else left - n


/-- An image that can be read: its words, and its stores. -/
def RdIm (w : World) (v : Value) (ws : List Ino) (ps : List Den) : Prop := ∃ vW vP, v = .agg #[vW, vP] ∧ RdN w vW ws ∧ RdD w vP ps
/-- An image of a call's own. -/
def RowIm (w : World) (lo hi : Nat) (v : Value) (ws : List Ino) (ps : List Den) : Prop := ∃ vW vP, v = .agg #[vW, vP] ∧ Row w 56 11 lo hi vW ws.length (inos ws) ∧ Row w 59 3 lo hi vP ps.length (dens ps)

theorem RowIm.rd {w : World} {lo hi : Nat} {v : Value} {ws : List Ino} {ps : List Den} (h : RowIm w lo hi v ws ps) : RdIm w v ws ps := by
  obtain ⟨vW, vP, rfl, h1, h2⟩ := h
  exact ⟨vW, vP, rfl, h1.rd, h2.rd⟩
theorem RdIm.below {w w' : World} {v : Value} {ws : List Ino} {ps : List Den} (h : RdIm w v ws ps) (hb : Below w.heap.size w w') : RdIm w' v ws ps := by
  obtain ⟨vW, vP, rfl, h1, h2⟩ := h
  exact ⟨vW, vP, rfl, Rd.below h1 hb, Rd.below h2 hb⟩
theorem RowIm.below {w w' : World} {lo hi : Nat} {v : Value} {ws : List Ino} {ps : List Den} (h : RowIm w lo hi v ws ps) {B : Nat} (hb : Below B w w') (hB : hi ≤ B) : RowIm w' lo hi v ws ps := by
  obtain ⟨vW, vP, rfl, h1, h2⟩ := h
  exact ⟨vW, vP, rfl, h1.below hb hB, h2.below hb hB⟩
theorem RowIm.wide {w : World} {lo hi : Nat} {v : Value} {ws : List Ino} {ps : List Den} (h : RowIm w lo hi v ws ps) {lo' hi' : Nat} (h1 : lo' ≤ lo) (h2 : hi ≤ hi') : RowIm w lo' hi' v ws ps := by
  obtain ⟨vW, vP, rfl, a, b⟩ := h
  exact ⟨vW, vP, rfl, a.wide h1 h2, b.wide h1 h2⟩

set_option maxHeartbeats 2000000 in
theorem toImage_any (v : Value) (ws : List Ino) (ps : List Den) (w : World) (h : RdIm w v ws ps) (hw : ws.length ≤ 1048576) (hp : ps.length ≤ 1048576) :
    Calls Tryd.prog 7 #[v] w fun e w' => ∃ v', e = .returned v' ∧ RowIm w' w.heap.size w'.heap.size v' ws ps ∧ Below w.heap.size w w' := by
  obtain ⟨vW, vP, rfl, h1, h2⟩ := h
  have H1 := hideIt h1
  have H2 := hideIt h2
  obtain ⟨aW, cW, eW, _⟩ := h1.shape
  obtain ⟨aP, cP, eP, _⟩ := h2.shape
  clear h1 h2
  subst eW eP
  go_enter Tryd.func7, Tryd.ntmps7
  go_wp2_with fail
  have hb0 : Below w.heap.size w (((w.alloc (.cells #[.slice aW ws.length cW, .slice aP ps.length cP] 25)).alloc (.cells #[.slice none 0 0, .slice none 0 0] 33)).alloc (.cells #[.slice none 0 0, .slice none 0 0] 33)) := by
    repeat (refine Below.alloc ?_ (by simp <;> omega) _)
    exact Below.refl _ _
  refine (toInodeS_any _ ws _ (Rd.below H1.out hb0) hw).mono ?_
  rintro e w1 ⟨v1, rfl, hr1, hb1⟩
  obtain ⟨_, a1, c1, rfl, _⟩ := hr1.rd
  have hz1 : w.heap.size + 3 ≤ w1.heap.size := by have := hb1.size; simp at this; omega
  have V0 := (hb1.block w.heap.size (by simp <;> omega)).trans (at_old (at_old (at_new rfl)))
  have V1 := (hb1.block (w.heap.size + 1) (by simp <;> omega)).trans (at_old (at_new (by simp)))
  have V2 := (hb1.block (w.heap.size + 1 + 1) (by simp <;> omega)).trans (at_new (by simp))
  have B1 := hideIt (hb0.trans (hb1.mono (by simp <;> omega)))
  have R1 := hideIt hr1
  obtain ⟨x1, x2, _, _⟩ := two_cells V0
  obtain ⟨y1, y2, y3, y4⟩ := two_cells V2
  have V2' := two_set0 V2 (.slice a1 ws.length c1)
  have V1' := (Below.heap_setCell w1 ⟨w.heap.size + 1 + 1, 0, none⟩ (.slice a1 ws.length c1) (w.heap.size + 1) (by simp)).trans V1
  have VH := hideIt (And.intro V1' V2')
  clear hb0 hb1 hr1 V0 V1 V2 V1' V2'
  go_wp2_with fail
  have hb2 := B1.out.setCell (p := ⟨w.heap.size + 1 + 1, 0, none⟩) (by simp; omega) (.slice a1 ws.length c1)
  refine (toDirentS_any _ ps _ (Rd.below H2.out hb2) hp).mono ?_
  rintro e w2 ⟨v2, rfl, hr2, hb3⟩
  obtain ⟨_, a2, c2, rfl, _⟩ := hr2.rd
  have hz2 : w1.heap.size ≤ w2.heap.size := by have := hb3.size; simpa using this
  have V1 := (hb3.block _ (by simp; omega)).trans VH.out.1
  have V2 := (hb3.block _ (by simp; omega)).trans VH.out.2
  have B2 := hideIt (hb2.trans (hb3.mono (by simp; omega)))
  have K2 := hideIt hb3
  have R2 := hideIt hr2
  clear hb2 hb3 hr2
  obtain ⟨z1, z2, z3, z4⟩ := two_cells V2
  obtain ⟨t1, t2, t3, t4⟩ := two_cells V1
  clear V1 V2
  go_wp2
  refine bodyPost_ret (v := .agg #[.slice a1 ws.length c1, .slice a2 ps.length c2]) (by simp [results, Tryd.results7, go_sem, t1, t2]) rfl ?_
  refine ⟨_, rfl, ⟨_, _, rfl, (R1.out.same fun b h1 h2 => ?_).wide (by simp; omega) (by simp; omega), (R2.out.same fun b h1 h2 => ?_).wide (by simp; omega) (by simp)⟩, ?_⟩
  · simp only [World.size_alloc] at h1
    rw [Below.heap_setCell _ _ _ _ (by simp only; omega), Below.heap_setCell _ _ _ _ (by simp only; omega), Below.heap_setCell _ _ _ _ (by simp only; omega), K2.out.block b (by simp; omega), Below.heap_setCell _ _ _ _ (by simp only; omega)]
  · simp at h1
    rw [Below.heap_setCell _ _ _ _ (by simp only; omega), Below.heap_setCell _ _ _ _ (by simp only; omega), Below.heap_setCell _ _ _ _ (by simp only; omega)]
  · exact ((B2.out.setCell (by simp only; omega) _).setCell (by simp only; omega) _).setCell (by simp only; omega) _

set_option maxHeartbeats 2000000 in
theorem eqImage_same (va vb : Value) (ws : List Ino) (ps : List Den) (w : World) (ha : RdIm w va ws ps) (hb : RdIm w vb ws ps) (hw : ws.length ≤ 2147483648) (hp : ps.length ≤ 2147483648) :
    Calls Tryd.prog 10 #[va, vb] w fun e w' => e = .returned (.bool true) ∧ Below w.heap.size w w' := by
  obtain ⟨vW, vP, rfl, h1, h2⟩ := ha
  obtain ⟨uW, uP, rfl, h3, h4⟩ := hb
  obtain ⟨aW, cW, rfl, _⟩ := h1.shape
  obtain ⟨aP, cP, rfl, _⟩ := h2.shape
  obtain ⟨bW, dW, rfl, _⟩ := h3.shape
  obtain ⟨bP, dP, rfl, _⟩ := h4.shape
  have H1 := hideIt h1
  have H2 := hideIt h2
  have H3 := hideIt h3
  have H4 := hideIt h4
  clear h1 h2 h3 h4
  go_enter Tryd.func10, Tryd.ntmps10
  go_wp2_with fail
  have hb0 : Below w.heap.size w ((w.alloc (.cells #[.slice aW ws.length cW, .slice aP ps.length cP] 33)).alloc (.cells #[.slice bW ws.length dW, .slice bP ps.length dP] 33)) := by
    repeat (refine Below.alloc ?_ (by simp <;> omega) _)
    exact Below.refl _ _
  refine (eqInodeS_same _ _ ws _ (Rd.below H1.out hb0) (Rd.below H3.out hb0) hw).mono ?_
  rintro e w1 ⟨rfl, hb1⟩
  have hz1 : w.heap.size + 2 ≤ w1.heap.size := by have := hb1.size; simp at this; omega
  have V0 := (hb1.block w.heap.size (by simp <;> omega)).trans (at_old (at_new rfl))
  have V1 := (hb1.block (w.heap.size + 1) (by simp <;> omega)).trans (at_new (by simp))
  have B1 := hb0.trans (hb1.mono (by simp <;> omega))
  obtain ⟨x1, x2, _, _⟩ := two_cells V0
  obtain ⟨y1, y2, _, _⟩ := two_cells V1
  clear hb0 hb1 V0 V1
  go_wp2_with fail
  refine (eqDirentS_same _ _ ps _ (Rd.below H2.out B1) (Rd.below H4.out B1) hp).mono ?_
  rintro e w2 ⟨rfl, hb2⟩
  go_wp2
  go_ret
  exact ⟨rfl, B1.trans (hb2.mono (by omega))⟩

theorem szInodeS_any (ao : Option Addr) (n cap : Nat) (left : Int) (w : World) (hn : n ≤ maxLen) (h0 : 0 ≤ left) (h1 : left ≤ 1048576) :
    Calls Tryd.prog 14 #[.slice ao n cap, .int .i64 left] w fun e w' => e = .returned (.int .i64 (lessN left n)) ∧ w' = w := by
  unfold maxLen at hn
  by_cases h : left < n
  · have e : lessN left n = -1 := by unfold lessN; rw [if_pos h]
    rw [e]; clear e
    go_enter Tryd.func14, Tryd.ntmps14
    go_wp2
    go_ret
    exact ⟨rfl, rfl⟩
  · have e : lessN left n = left - n := by unfold lessN; rw [if_neg h]
    rw [e]; clear e
    go_enter Tryd.func14, Tryd.ntmps14
    go_wp2
    go_ret
    exact ⟨rfl, rfl⟩

/-- What is left behind an image: its inodes, its entries and their names are counted. -/
def roomI (n : Nat) (ps : List Den) : Int := if (1048576 : Int) < n then -1 else roomD ps ps.length (1048576 - n)

set_option maxRecDepth 100000 in
set_option maxHeartbeats 4000000 in
theorem szImage_any (aW : Option Addr) (n cW : Nat) (vP : Value) (ps : List Den) (w : World) (hn : n ≤ maxLen) (hp : RdD w vP ps) (hm : ps.length ≤ maxLen) (hs : ∀ k (h : k < ps.length), ps[k].name.size ≤ maxLen) :
    Calls Tryd.prog 5 #[.agg #[.slice aW n cW, vP], .int .i64 1048576] w fun e w' => e = .returned (.int .i64 (roomI n ps)) ∧ Below w.heap.size w w' := by
  have HP := hideIt hp
  obtain ⟨aP, cP, rfl, _⟩ := hp.shape
  clear hp
  have LI := hideIt (fun w1 => szInodeS_any aW n cW 1048576 w1 hn (by omega) (by omega))
  have hb0 := hideIt (show Below w.heap.size w (w.alloc (.cells #[.slice aW n cW, .slice aP ps.length cP] 25)) from (Below.refl _ _).alloc (Nat.le_refl _) _)
  by_cases c1 : (1048576 : Int) < (n : Int)
  · have e1 : lessN 1048576 n = -1 := by unfold lessN; rw [if_pos c1]
    have e2 : roomI n ps = -1 := by unfold roomI; rw [if_pos c1]
    rw [e1] at LI
    rw [e2]
    clear e1 e2
    go_enter Tryd.func5, Tryd.ntmps5
    go_wp2_with (go_at_call 14; refine (LI.out _).mono ?_; rintro e w' ⟨rfl, rfl⟩)
    go_ret
    exact ⟨rfl, hb0.out⟩
  · have e1 : lessN 1048576 n = 1048576 - n := by unfold lessN; rw [if_neg c1]
    have e2 : roomI n ps = roomD ps ps.length (1048576 - n) := by unfold roomI; rw [if_neg c1]
    rw [e1] at LI
    rw [e2]
    have LD := hideIt (fun w1 h => szDirentS_any (.slice aP ps.length cP) ps (1048576 - n) w1 h hm hs (by omega) (by omega))
    have rl := roomD_le ps (1048576 - n) (by omega) ps.length
    have l0 : ¬ (1048576 : Int) - n < 0 := by omega
    generalize roomD ps ps.length (1048576 - n) = r at *
    clear e1 e2 hs hm
    have ER := hideIt (show r < 0 → r = -1 by omega)
    by_cases q : r < 0
    · obtain rfl := ER.out q
      go_enter Tryd.func5, Tryd.ntmps5
      go_wp2_with (first | (go_at_call 14; refine (LI.out _).mono ?_; rintro e w' ⟨rfl, rfl⟩) | (go_at_call 15; refine (LD.out _ (Rd.below HP.out hb0.out)).mono ?_; rintro e w1 ⟨rfl, hb1⟩))
      go_ret
      exact ⟨rfl, below_trans hb0.out hb1 hb0.out.size⟩
    · go_enter Tryd.func5, Tryd.ntmps5
      go_wp2_with (first | (go_at_call 14; refine (LI.out _).mono ?_; rintro e w' ⟨rfl, rfl⟩) | (go_at_call 15; refine (LD.out _ (Rd.below HP.out hb0.out)).mono ?_; rintro e w1 ⟨rfl, hb1⟩))
      go_ret
      exact ⟨rfl, below_trans hb0.out hb1 hb0.out.size⟩
end Go.Proofs.YtfcjhhiekjbbiaaDoor
