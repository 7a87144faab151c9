/- What is flushed made sure: by the program, and by the model. -/
import Derived.Test.YtbjalmiheipjjaaDoorZAK
import Derived.Test.YtbjalmiheipjjaaDoorPmFlushI
namespace Go.Proofs.YtbjalmiheipjjaaDoor
open Go.RowKit
def fenceC (ws : List Int) (ps : List St) : Int := if pmB ws ps = true then 0 else 1
def fenceWs (ws : List Int) (ps : List St) : List Int := if pmB ws ps = true then fenW ws ps else []
def fencePs (ws : List Int) (ps : List St) : List St := if pmB ws ps = true then fenP ps else []
theorem fence_not {ws : List Int} {ps : List St} (h : pmB ws ps = false) : fenceC ws ps = 1 ∧ fenceWs ws ps = [] ∧ fencePs ws ps = [] := by
  unfold fenceC fenceWs fencePs
  rw [h]
  exact ⟨rfl, rfl, rfl⟩
theorem fence_ok {ws : List Int} {ps : List St} (h : pmB ws ps = true) : fenceC ws ps = 0 ∧ fenceWs ws ps = fenW ws ps ∧ fencePs ws ps = fenP ps := by
  unfold fenceC fenceWs fencePs
  rw [h]
  exact ⟨rfl, rfl, rfl⟩
structure FenInvI (w wr : World) (ws : List Int) (ps : List St) (lo hi : Nat) (vW vL : Value) (m : Nat) : Prop where
  words : Row wr 3 1 lo hi vW ws.length (ints (fenW ws (ps.take m)))
  left : wr.ownsRow (hi + 1) 97 3 vL (fenP (ps.take m)).length (sts (fenP (ps.take m)))
  aft : wr.heap[hi]? = some (.cells #[vW, vL] 31 (0, 0))
  res : wr.heap[w.heap.size + 1]? = some (.cells #[.slice none 0 0, .slice none 0 0] 31 (0, 0))
  below : Below w.heap.size w wr
  size : hi + 1 ≤ wr.heap.size
theorem FenInvI.hit {w wr : World} {ws : List Int} {ps : List St} {lo hi : Nat} {b n cap : Nat} {vL : Value} {m : Nat} (h : FenInvI w wr ws ps lo hi (.slice (some ⟨b, 0, none⟩) n cap) vL m) (hm : m < ps.length) (hf : ps[m].fl = true) (hlo : w.heap.size + 2 ≤ lo) (o : Obj) (hn : n = ws.length) :
    FenInvI w ((wr.setCell ⟨b, ps[m].at_.toNat, none⟩ (.int .i64 ps[m].val)).alloc o) ws ps lo hi (.slice (some ⟨b, 0, none⟩) n cap) vL (m + 1) := by
  subst hn
  obtain ⟨h1, h2, h4, h5, h6, h7⟩ := h
  obtain ⟨_, hb1, hb2, _⟩ := h1.at
  have e1 : fenW ws (ps.take (m + 1)) = (fenW ws (ps.take m)).set ps[m].at_.toNat ps[m].val := by rw [take_snoc ps m hm, fenW_snoc, if_pos hf]
  have e2 : fenP (ps.take (m + 1)) = fenP (ps.take m) := by rw [take_snoc ps m hm, fenP_snoc, if_pos hf]
  refine ⟨?_, ?_, ?_, ?_, ?_, ?_⟩
  · rw [e1, ← ints_set]
    exact (h1.stored _ _).alloc (by simp; omega) o
  · rw [e2]
    exact ((own_block h2).same (w' := wr.setCell ⟨b, ps[m].at_.toNat, none⟩ (.int .i64 ps[m].val)) (fun k hk _ => Below.heap_setCell _ _ _ _ (by simp only; omega))).1.alloc o
  · refine at_old ?_
    rw [Below.heap_setCell _ _ _ _ (by simp only; omega)]; exact h4
  · refine at_old ?_
    rw [Below.heap_setCell _ _ _ _ (by simp only; omega)]; exact h5
  · exact (h6.setCell (by simp only; omega) _).alloc (by simp; exact h6.size) o
  · simp; omega
theorem FenInvI.miss {w wr w' : World} {ws : List Int} {ps : List St} {lo hi : Nat} {vW vL vL' : Value} {m : Nat} (h : FenInvI w wr ws ps lo hi vW vL m) (hm : m < ps.length) (hf : ps[m].fl = false) (hlo : w.heap.size + 2 ≤ lo) (hhi : lo ≤ hi) (o o' : Obj)
    (ho : w'.ownsRow (hi + 1) 97 3 vL' ((fenP (ps.take m)).length + 1) (sts (fenP (ps.take m)) ++ St.cells ps[m])) (hg : ((wr.alloc o).alloc o').grownBy w' vL.ownBlock) :
    FenInvI w (w'.setCell ⟨hi, 1, none⟩ vL') ws ps lo hi vW vL' (m + 1) ∧ w'.heap[hi]? = some (.cells #[vW, vL] 31 (0, 0)) := by
  obtain ⟨h1, h2, h4, h5, h6, h7⟩ := h
  have hl := fun k hk => (((h2.alloc o).alloc o').lt k hk).1
  have e1 : fenW ws (ps.take (m + 1)) = fenW ws (ps.take m) := by rw [take_snoc ps m hm, fenW_snoc, hf]; rfl
  have e2 : fenP (ps.take (m + 1)) = fenP (ps.take m) ++ [ps[m]] := by rw [take_snoc ps m hm, fenP_snoc, hf]; rfl
  have keep : ∀ k, k < hi + 1 → w'.heap[k]? = ((wr.alloc o).alloc o').heap[k]? := fun k hk => hg.block k (by simp; omega) (fun e => by have := hl k e.symm; omega)
  have l5 := (Array.getElem?_eq_some_iff.1 h5).1
  have a4 : w'.heap[hi]? = some (.cells #[vW, vL] 31 (0, 0)) := by rw [keep _ (by omega)]; exact at_old (at_old h4)
  refine ⟨⟨?_, ?_, ?_, ?_, ?_, ?_⟩, a4⟩
  · rw [e1]
    refine ((h1.alloc (by omega) o).alloc (by simp; omega) o').same (fun k hk1 hk => ?_)
    rw [Below.heap_setCell _ _ _ _ (by simp only; omega), keep k (by omega)]
  · rw [e2, List.length_append, sts_snoc]
    exact ((own_block ho).same (w' := w'.setCell ⟨hi, 1, none⟩ vL') (fun k hk _ => Below.heap_setCell _ _ _ _ (by simp only; omega))).1
  · exact two_set1 a4 vL'
  · rw [Below.heap_setCell _ _ _ _ (by simp only; omega), keep _ (by omega)]; exact at_old (at_old h5)
  · exact (((h6.alloc h6.size o).alloc (by simp; have := h6.size; omega) o').grown hg (by simp; have := h6.size; omega) (fun k hk => by have := hl k hk; omega)).setCell (by simp only; omega) _
  · have := hg.size; simp at this; simp; omega
theorem RdS.head {w : World} {q : Value} {ps : List St} {m : Nat} (h : RdS w q (ps.drop m)) (hm : m < ps.length) : ∃ b o cap, q = .slice (some ⟨b, o, none⟩) (ps.length - m) cap ∧ ps.length - m ≤ cap ∧ b < w.heap.size ∧ w.cell? ⟨b, o, none⟩ = some (.int .i64 ps[m].at_) ∧ w.cell? ⟨b, o + 1, none⟩ = some (.int .i64 ps[m].val) ∧ w.cell? ⟨b, o + 2, none⟩ = some (.bool ps[m].fl) := by
  have hdl : (ps.drop m).length = ps.length - m := by simp
  obtain ⟨aq, cq, eq, hcq, hcells⟩ := h.shape
  obtain ⟨b, o, rfl, hbl, hcell⟩ := hcells (by omega)
  obtain ⟨e0, e1, e2⟩ := hcell 0 (by omega)
  simp only [Nat.zero_mul, Nat.add_zero, List.getElem_drop] at e0 e1 e2
  exact ⟨b, o, cq, by rw [← hdl]; exact eq, by omega, hbl, e0, e1, e2⟩
theorem RdS.next {w : World} {ps : List St} {m : Nat} {b o cap : Nat} (h : RdS w (.slice (some ⟨b, o, none⟩) (ps.length - m) cap) (ps.drop m)) (hm : m < ps.length) {ao : Option Addr} (h1 : ¬ cap = 1 → ao = some ⟨b, o + 3, none⟩) (h2 : ao ≠ none) {n c : Nat} (hn : n = ps.length - m - 1) (hc : c = cap - 1) : RdS w (.slice ao n c) (ps.drop (m + 1)) := by
  obtain ⟨_, ao', cap', e, ⟨hle, _⟩, hcell⟩ := h
  have hdl : (ps.drop m).length = ps.length - m := by simp
  simp only [Value.slice.injEq] at e
  obtain ⟨rfl, e1, rfl⟩ := e
  have hdl' : (ps.drop (m + 1)).length = n := by simp; omega
  refine ⟨sts_len _, ao, c, by rw [hdl'], ⟨by rw [hdl']; omega, fun e => absurd e h2⟩, fun hpos => ?_⟩
  rw [hdl'] at hpos
  obtain ⟨b', o', e2, hb, hcl⟩ := hcell (by omega)
  cases e2
  refine ⟨b, o + 3, h1 (by omega), hb, fun j hj => ?_⟩
  have hx : sts (ps.drop m) = St.cells ps[m] ++ sts (ps.drop (m + 1)) := by
    show (ps.drop m).flatMap St.cells = St.cells ps[m] ++ (ps.drop (m + 1)).flatMap St.cells
    rw [List.drop_eq_getElem_cons hm, List.flatMap_cons]
  have := hcl (3 + j) (by omega)
  rw [hx, List.getElem?_append_right (by rw [St.cells_len]; omega), St.cells_len, Nat.add_sub_cancel_left] at this
  rw [Nat.add_assoc]
  exact this
set_option maxHeartbeats 4000000 in
theorem implPmFence_any (v : Value) (ws : List Int) (ps : List St) (w : World) (h : RdPm w v ws ps) (hw : ws.length ≤ 1048576) (hp : ps.length ≤ 1048576) :
    Calls Tryd.prog 52 #[v] w fun e w' => ∃ v', e = .returned (.tuple #[v', .int .i64 (fenceC ws ps)]) ∧ RowPm w' w.heap.size w'.heap.size v' (fenceWs ws ps) (fencePs ws ps) ∧ Below w.heap.size w w' := by
  have HR := hideIt h
  obtain ⟨vW, vP, rfl, h1, h2⟩ := h
  have H1 := hideIt h1
  have H2 := hideIt h2
  obtain ⟨aW, cW, rfl, _⟩ := h1.shape
  obtain ⟨aP, cP, rfl, _⟩ := h2.shape
  clear h1 h2
  have hb0 : Below w.heap.size w ((w.alloc (.cells #[.slice aW ws.length cW, .slice aP ps.length cP] 31)).alloc (.cells #[.slice none 0 0, .slice none 0 0] 31)) := by
    repeat (refine Below.alloc ?_ (by simp <;> omega) _)
    exact Below.refl _ _
  by_cases hc : pmB ws ps = true
  · obtain ⟨e1, e2, e3⟩ := fence_ok hc
    rw [e1, e2, e3]
    clear e1 e2 e3
    have OK := hideIt (pmB_in hc)
    go_enter Tryd.func52, Tryd.ntmps52
    go_wp2_with fail
    refine (implPmOK_any _ ws ps _ (HR.out.below hb0) hw hp).mono ?_
    rintro e w1 ⟨rfl, hb1⟩
    have hz1 : w.heap.size + 2 ≤ w1.heap.size := by have := hb1.size; simp at this; omega
    have V0 := (hb1.block w.heap.size (by simp <;> omega)).trans (at_old (at_new rfl))
    have V1 := (hb1.block (w.heap.size + 1) (by simp)).trans (at_new (by simp))
    obtain ⟨x1, x2, x3, x4⟩ := two_cells V0
    have B1 := hideIt (below_trans hb0 hb1 (by simp <;> omega))
    have VH := hideIt (And.intro V0 V1)
    clear hb0 hb1 V0 V1
    go_wp2_with (at_builtin; refine wpList_append_rd _ rfl (.const (.slice none 0 0)) (.tmp 12) 28 rfl w1.heap.size 3 (.int .i64 0) 1 8 Tryd.underlying28 info3 rfl (by decide) _ 0 [] rfl (World.ownsRow_nil _ _ _ _) _ ws.length (ints ws) rfl (Rd.below H1.out B1.out) (ints_one ws) (by simp [maxLen]; omega) (by omega) (Nat.le_refl _) ?_)
    intro v2 w2 hown2 hgr2
    have hown2 : w2.ownsRow w1.heap.size 3 1 v2 ws.length (ints ws) := by simpa using hown2
    obtain ⟨aW2, cW2, rfl⟩ := RdI.form (own_block hown2).rd rfl
    have hz2 : w1.heap.size ≤ w2.heap.size := hgr2.size
    have B2 := B1.out.grown hgr2 (by omega) (fun k hk => by cases hk)
    have V0 := (hgr2.block w.heap.size (by omega) (by simp [Value.ownBlock])).trans VH.out.1
    have V1 := (hgr2.block (w.heap.size + 1) (by omega) (by simp [Value.ownBlock])).trans VH.out.2
    have INV : Hid (FenInvI w (w2.alloc (.cells #[.slice aW2 ws.length cW2, .slice none 0 0] 31)) ws ps w1.heap.size w2.heap.size (.slice aW2 ws.length cW2) (.slice none 0 0) 0) :=
      ⟨(own_block hown2).alloc (Nat.le_refl _) _, World.ownsRow_nil _ _ _ _, at_new rfl, at_old V1, B2.alloc (by omega) _, by simp⟩
    obtain ⟨z1, z2, z3, z4⟩ := two_cells (at_old (o := .cells #[.slice aW2 ws.length cW2, .slice none 0 0] 31) V0)
    clear x1 x2 x3 x4 hown2 hgr2 B2 V0 V1
    go_wp2
    go_loopw [5, 6] (fun q _ wr => ∃ m : Nat, m ≤ ps.length ∧ RdS w q (ps.drop m) ∧ ∃ vL, Hid (FenInvI w wr ws ps w1.heap.size w2.heap.size (.slice aW2 ws.length cW2) vL m)) (fun q _ _ => match q with | .slice _ n _ => n | _ => 0)
    case atStart => exact ⟨0, by omega, by simpa using H2.out, _, INV⟩
    case round =>
      obtain ⟨m, hm, hq, vL, I⟩ := hrel
      obtain ⟨y1, y2, y3, y4⟩ := two_cells I.out.aft
      by_cases hlt : m < ps.length
      · obtain ⟨b, o, cq, rfl, hcq, hbl, e0, e1, e2⟩ := hq.head hlt
        have d0 := (I.out.below.cell (p := ⟨b, o, none⟩) hbl).trans e0
        have d1 := (I.out.below.cell (p := ⟨b, o + 1, none⟩) hbl).trans e1
        have d2 := (I.out.below.cell (p := ⟨b, o + 2, none⟩) hbl).trans e2
        have Q := hideIt hq
        have hsz := I.out.size
        obtain ⟨q0, q1⟩ := OK.out m hlt
        clear hq e0 e1 e2
        cases hf : ps[m].fl
        · rw [hf] at d2
          have ec : St.cells ⟨ps[m].at_, ps[m].val, false⟩ = St.cells ps[m] := by simp [St.cells, hf]
          have hr := rd_one (wr.alloc (.cells #[.int .i64 ps[m].at_, .int .i64 ps[m].val, .bool false] 97)) ps[m].at_ ps[m].val false
          simp only [World.size_alloc] at hr
          have HRD := hideIt hr
          have HOW := hideIt ((I.out.left.alloc (.cells #[.int .i64 ps[m].at_, .int .i64 ps[m].val, .bool false] 97)).alloc (.cells #[.int .i64 ps[m].at_, .int .i64 ps[m].val, .bool false] 97))
          have hfl := fenP_le (ps.take m)
          rw [List.length_take] at hfl
          have EC := hideIt ec
          have HF := hideIt hf
          have HS := hideIt hsz
          obtain ⟨s1, s2, _, _⟩ := two_cells (at_old (o := .cells #[.int .i64 ps[m].at_, .int .i64 ps[m].val, .bool false] 97) I.out.aft)
          obtain ⟨aL, cL, hvL⟩ := RdS.form (own_block I.out.left).rd rfl
          subst hvL
          clear hr ec hf hsz
          go_wp2_with (at_builtin; refine wpList_append_rd _ rfl (.tmp 35) (.tmp 37) 29 rfl (w2.heap.size + 1) 97 (.agg #[.int .i64 0, .int .i64 0, .bool false]) 3 24 Tryd.underlying29 info52 rfl (by decide) _ _ _ rfl HOW.out _ 1 (St.cells ⟨ps[m].at_, ps[m].val, false⟩) rfl HRD.out (cells_one _) (by simp [maxLen]; omega) (by omega) (by have := HS.out; simp; omega) ?_)
          intro vN wN hownN hgrN
          obtain ⟨iN, aN⟩ := I.out.miss hlt HF.out hz1 hz2 _ _ (by rw [← EC.out]; exact hownN) hgrN
          obtain ⟨aN', cN', eN⟩ : ∃ ao cap, vN = .slice ao ((fenP (ps.take m)).length + 1) cap := by
            obtain ⟨_, ao, cap, e, _⟩ := (own_block hownN).rd
            exact ⟨ao, cap, e⟩
          subst eN
          have I1 := hideIt iN
          obtain ⟨n1, n2, n3, n4⟩ := two_cells aN
          clear hownN hgrN iN aN
          go_wp2
          go_roundw
          case rel => exact ⟨m + 1, by omega, Q.out.next hlt (fun h => if_neg h) (by split <;> simp) rfl rfl, _, I1⟩
          case measure => show ps.length - m - 1 < ps.length - m; omega
        · rw [hf] at d2
          obtain ⟨_, aw', cw', ew', _, hcw⟩ := I.out.words.rd
          cases ew'
          obtain ⟨bw, ow, rfl, hblw, _⟩ := hcw (by omega)
          obtain ⟨rfl, _, _, _, hfrw, hclw⟩ := (I.out.words.alloc (by omega) (.cells #[.int .i64 ps[m].at_, .int .i64 ps[m].val, .bool true] 97)).at
          have hj : ps[m].at_.toNat < (fenW ws (ps.take m)).length := by rw [fenW_len]; omega
          have g0 := hfrw ps[m].at_.toNat
          have g1 := (hclw ps[m].at_.toNat (by omega)).trans (ints_at _ _ hj)
          have I1 := hideIt (I.out.hit hlt hf hz1 (.cells #[.int .i64 ps[m].at_, .int .i64 ps[m].val, .bool true] 97) rfl)
          obtain ⟨s1, s2, _, _⟩ := two_cells (at_old (o := .cells #[.int .i64 ps[m].at_, .int .i64 ps[m].val, .bool true] 97) I.out.aft)
          clear hcw hfrw hclw
          go_wp2
          go_roundw
          case rel => exact ⟨m + 1, by omega, Q.out.next hlt (fun h => if_neg h) (by split <;> simp) rfl rfl, _, I1⟩
          case measure => show ps.length - m - 1 < ps.length - m; omega
      · have e : m = ps.length := by omega
        subst e
        obtain ⟨aq, cq, eq⟩ := hq.form (n := 0) (by simp)
        subst eq
        obtain ⟨aL, cL, hvL⟩ := RdS.form (own_block I.out.left).rd (n := (fenP ps).length) (by rw [List.take_length])
        subst hvL
        obtain ⟨t1, t2, t3, t4⟩ := two_cells I.out.res
        have hsz := I.out.size
        clear hq
        go_wp2
        have I2 := I.out
        refine bodyPost_ret (v := .tuple #[.agg #[.slice aW2 ws.length cW2, .slice aL (fenP ps).length cL], .int .i64 0]) (by simp [results, Tryd.results52, go_sem, t1, t2]) rfl ?_
        refine ⟨_, rfl, ⟨_, _, rfl, ?_, ?_⟩, (I2.below.setCell (by simp only; omega) _).setCell (by simp only; omega) _⟩
        · rw [fenW_len]
          have := I2.words
          rw [List.take_length] at this
          refine (this.same fun b h1 h2 => ?_).wide (by omega) (by simp; omega)
          rw [Below.heap_setCell _ _ _ _ (by simp only; omega), Below.heap_setCell _ _ _ _ (by simp only; omega)]
        · have := own_block I2.left
          rw [List.take_length] at this
          refine (this.same fun b h1 h2 => ?_).wide (by omega) (by simp)
          rw [Below.heap_setCell _ _ _ _ (by simp only; omega), Below.heap_setCell _ _ _ _ (by simp only; omega)]
  · have hc' : pmB ws ps = false := by simpa using hc
    clear hc
    obtain ⟨e1, e2, e3⟩ := fence_not hc'
    rw [e1, e2, e3]
    clear e1 e2 e3
    go_enter Tryd.func52, Tryd.ntmps52
    go_wp2_with fail
    refine (implPmOK_any _ ws ps _ (HR.out.below hb0) hw hp).mono ?_
    rintro e w1 ⟨rfl, hb1⟩
    have V1 := (hb1.block (w.heap.size + 1) (by simp)).trans (at_new (by simp))
    obtain ⟨t1, t2, t3, t4⟩ := two_cells V1
    have B1 := hideIt (below_trans hb0 hb1 (by simp <;> omega))
    clear hb0 hb1 V1
    go_wp2
    refine bodyPost_ret (v := .tuple #[.agg #[.slice none 0 0, .slice none 0 0], .int .i64 1]) (by simp [results, Tryd.results52, go_sem, t1, t2]) rfl ?_
    exact ⟨_, rfl, RowPm.zero _ _ _, (B1.out.setCell (by simp only; omega) _).setCell (by simp only; omega) _⟩
end Go.Proofs.YtbjalmiheipjjaaDoor
