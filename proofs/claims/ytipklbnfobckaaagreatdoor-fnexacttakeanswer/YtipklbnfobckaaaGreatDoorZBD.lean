/- Several texts laid together: DrawP, OpenA, Open, SeenM, PmFlushI. -/
import Derived.Test.YtipklbnfobckaaaGreatDoorZBC
import Derived.Test.YtipklbnfobckaaaGreatDoorZAI
import Derived.Test.YtipklbnfobckaaaGreatDoorZAJ
import Derived.Test.YtipklbnfobckaaaGreatDoorZAH
import Derived.Deep.RegionWith
import Derived.Test.YtipklbnfobckaaaGreatDoorZAB
import Derived.ProofKit
import Derived.OpenShut
import Derived.ShutString
import Derived.ChangeOld
import Derived.Lib.SmallJoins
import Derived.Deep.Slices
import Derived.Deep.Strs
import Derived.Test.YtipklbnfobckaaaGreatDoorZAC
namespace Go.Proofs.YtipklbnfobckaaaGreatDoor
open Go.RowKit

/-- A memory that the document allows, with at most n stores. -/
structure PmP (ws : List Int) (ps : List St) (n : Nat) : Prop where
  len : ws.length = 336
  few : ps.length ≤ n
  word : ∀ z ∈ ws, 0 ≤ z ∧ z < 1099511627776
  store : ∀ p ∈ ps, (0 ≤ p.at_ ∧ p.at_ < 336) ∧ 0 ≤ p.val ∧ p.val < 1099511627776
  ord : ps.Pairwise (fun p q => p.at_ = q.at_ → q.fl = true → p.fl = true)
theorem PmP.ok {ws : List Int} {ps : List St} {n : Nat} (h : PmP ws ps n) (hn : n ≤ 400) : pmB ws ps = true :=
  pmB_mk h.len (Nat.le_trans h.few hn) (fun _ hk => decide_eq_true (h.word _ (List.getElem_mem hk))) (fun _ hk => ⟨decide_eq_true (h.store _ (List.getElem_mem hk)).1, decide_eq_true (h.store _ (List.getElem_mem hk)).2⟩)
theorem PmP.at {ws : List Int} {ps : List St} {n : Nat} (h : PmP ws ps n) : ∀ j (hj : j < ps.length), 0 ≤ ps[j].at_ ∧ ps[j].at_ < 336 := fun _ hj => (h.store _ (List.getElem_mem hj)).1
theorem PmP.zero : PmP (List.replicate 336 0) [] 0 :=
  ⟨List.length_replicate .., Nat.le_refl _, fun z hz => by obtain ⟨_, rfl⟩ := List.mem_replicate.1 hz; omega, fun p hp => by simp at hp, List.Pairwise.nil⟩

end Go.Proofs.YtipklbnfobckaaaGreatDoor

namespace Go.Proofs.YtipklbnfobckaaaGreatDoor
open Go.ChangeShapes Go.WideShapes Go.ChangeAt Go.RowKit Go.Joins

theorem own : ownKnob Tryz.prog.godebug = none := by kernel_rfl
theorem laidOut : laidOutB Tryz.prog = true := by kernel_rfl
theorem cells3 : Tryz.prog.cellsOf 3 = 1 := by kernel_rfl
theorem cells4 : Tryz.prog.cellsOf 4 = 1 := by kernel_rfl

theorem exists_list {α : Type} {P : Nat → α → Prop} : ∀ (n : Nat), (∀ i, i < n → ∃ x, P i x) → ∃ l : List α, l.length = n ∧ ∀ i (hi : i < l.length), P i l[i]
  | 0, _ => ⟨[], rfl, fun i hi => absurd hi (by simp)⟩
  | n + 1, h => by
    obtain ⟨l, hl, hp⟩ := exists_list n (fun i hi => h i (by omega))
    obtain ⟨x, hx⟩ := h n (by omega)
    refine ⟨l ++ [x], by simp [hl], fun i hi => ?_⟩
    by_cases e : i < l.length
    · rw [List.getElem_append_left e]; exact hp i e
    · have e' : i = n := by simp at hi; omega
      subst e'
      rw [List.getElem_append_right (by omega)]
      simpa [hl] using hx

section

variable {H : Type} {enc : TypeId × Value → H} {W : World} {sp : Nat → Bool} {held : Bool} {fuel : Nat} {v : Value} {y : DataW H × List MemPlace}

theorem open_RdI (h : DataW.trod enc Tryz.prog W 0 sp held fuel 22 [v] = some y) : ∃ zs : List Int, RdI W v zs ∧ zs.length ≤ maxLen ∧ ∀ z ∈ zs, (Lit.int .i64 z).wf = true := by
  rcases open_ints Tryz.underlying22 Tryz.underlying3 cells3 h with ⟨hcs, _⟩ | ⟨a, len, cap, zs, hcs, _, hl, hm, hz, _, hcell, hwz⟩
  · simp only [List.cons.injEq, and_true] at hcs
    subst hcs
    exact ⟨[], ⟨rfl, none, 0, rfl, ⟨Nat.le_refl _, fun _ => rfl⟩, fun h => absurd h (by simp)⟩, by simp, fun z hz => by simp at hz⟩
  · simp only [List.cons.injEq, and_true] at hcs
    subst hcs
    have hzl : len ≤ zs.length := by rw [hz]; split <;> omega
    have e : (zs.take len).length = len := by simp; omega
    refine ⟨zs.take len, ⟨by simp [ints], some a, cap, by rw [e], ⟨by rw [e]; exact hl, fun e => by cases e⟩, fun hn => ?_⟩, by rw [e]; omega, fun z hz => hwz z (List.mem_of_mem_take hz)⟩
    rw [e] at hn
    obtain ⟨b, off, spot⟩ := a
    have hc := hcell 0 (by omega)
    have hspot : spot = none := by simpa [Addr.add] using World.cell?_spot hc
    subst hspot
    refine ⟨b, off, rfl, World.block_lt_of_cell? W _ (by simpa [Addr.add] using hc), fun j hj => ?_⟩
    rw [e] at hj
    have hc := hcell j (by omega)
    rw [Addr.add_lit] at hc
    rw [hc, ints_at _ j (by rw [e]; omega)]
    simp [List.getD, show j < zs.length by omega]

end

end Go.Proofs.YtipklbnfobckaaaGreatDoor

namespace Go.Proofs.YtipklbnfobckaaaGreatDoor
open Go.ChangeShapes Go.WideShapes Go.ChangeAt Go.RowKit Go.Joins

theorem cellsStore : Tryz.prog.cellsOf 230 = 3 := by kernel_rfl
theorem cellsPm : Tryz.prog.cellsOf 25 = 2 := by kernel_rfl

section

variable {H : Type} {enc : TypeId × Value → H} {W : World} {sp : Nat → Bool} {held : Bool} {fuel : Nat} {v : Value} {y : DataW H × List MemPlace}

set_option maxRecDepth 100000 in
theorem open_RdS (h : DataW.trod enc Tryz.prog W 0 sp held fuel 23 [v] = some y) : ∃ ps : List St, RdS W v ps ∧ ps.length ≤ maxLen ∧ ∀ p ∈ ps, (Lit.int .i64 p.at_).wf = true ∧ (Lit.int .i64 p.val).wf = true := by
  rcases Deep.open_slice Tryz.underlying23 h with ⟨hcs, _⟩ | ⟨a, len, cap, m, n, D, Pl, hcs, _, hl, hm, hmm, _, hel⟩
  · simp only [List.cons.injEq, and_true] at hcs
    subst hcs
    exact ⟨[], ⟨rfl, none, 0, rfl, ⟨Nat.le_refl _, fun _ => rfl⟩, fun h => absurd h (by simp)⟩, by simp, fun p hp => by simp at hp⟩
  · simp only [List.cons.injEq, and_true] at hcs
    subst hcs
    have hlm : len ≤ m := by rw [hmm]; split <;> omega
    have one : ∀ i, i < len → ∃ s : St, (W.cell? ((a.add (i * 3)).add 0) = some (.int .i64 s.at_) ∧ W.cell? ((a.add (i * 3)).add 1) = some (.int .i64 s.val) ∧ W.cell? ((a.add (i * 3)).add 2) = some (.bool s.fl)) ∧ (Lit.int .i64 s.at_).wf = true ∧ (Lit.int .i64 s.val).wf = true := by
      intro i hi
      obtain ⟨cs, hcs, ht⟩ := hel i (by omega)
      rw [cellsStore] at hcs
      obtain ⟨_, hlen, hc⟩ := World.cells?_some hcs
      obtain ⟨y0, y1, y2, n', _, _, t0, t1, t2⟩ := Deep.trod_struct3 Tryz.underlying230 ht
      obtain ⟨z0, e0, _, w0⟩ := DataW.trod_int Tryz.underlying3 t0
      obtain ⟨z1, e1, _, w1⟩ := DataW.trod_int Tryz.underlying3 t1
      obtain ⟨z2, e2, _⟩ := DataW.trod_bool Tryz.underlying4 t2
      simp only [cells3, cells4] at e0 e1 e2
      match cs, hlen with
      | [c0, c1, c2], _ =>
        simp at e0 e1 e2
        subst e0 e1 e2
        exact ⟨⟨z0, z1, z2⟩, ⟨by simpa using hc 0 (by omega), by simpa using hc 1 (by omega), by simpa using hc 2 (by omega)⟩, w0, w1⟩
    obtain ⟨ps, hpl, hps⟩ := exists_list len one
    refine ⟨ps, ⟨sts_len ps, some a, cap, by rw [hpl], ⟨by rw [hpl]; exact hl, fun e => by cases e⟩, fun hn => ?_⟩, by rw [hpl]; omega, fun p hp => ?_⟩
    · obtain ⟨b, off, spot⟩ := a
      have hc := (hps 0 hn).1.1
      have hspot : spot = none := by simpa [Addr.add] using World.cell?_spot hc
      subst hspot
      refine ⟨b, off, rfl, World.block_lt_of_cell? W _ (by simpa [Addr.add] using hc), fun j hj => ?_⟩
      have hk : j / 3 < ps.length := by omega
      obtain ⟨⟨q0, q1, q2⟩, _⟩ := hps (j / 3) hk
      simp only [Addr.add_lit, Nat.add_zero] at q0 q1 q2
      have hj3 : j = j / 3 * 3 + j % 3 := by omega
      rcases (show j % 3 = 0 ∨ j % 3 = 1 ∨ j % 3 = 2 from by omega) with r | r | r
      · rw [hj3, r, Nat.add_zero, q0, sts_at0 ps _ hk]
      · rw [hj3, r, ← Nat.add_assoc, q1, sts_at1 ps _ hk]
      · rw [hj3, r, ← Nat.add_assoc, q2, sts_at2 ps _ hk]
    · obtain ⟨i, hi, rfl⟩ := List.getElem_of_mem hp
      exact (hps i hi).2

end

end Go.Proofs.YtipklbnfobckaaaGreatDoor

namespace Go.Proofs.YtipklbnfobckaaaGreatDoor
open Go.RowKit

/-- Behind the region that draws a place and flushes there. -/
structure CutF (w3 wx : World) (ws : List Int) (ps : List St) (k : Int) (aW aP : Option Addr) (cW cP bx : Nat) : Prop where
  k0 : 0 ≤ k
  k1 : k < 336
  lo : w3.heap.size ≤ bx
  hi : bx < wx.heap.size
  box : wx.heap[bx]? = some (.cells #[.slice aW 336 cW, .slice aP ps.length cP] 41 (0, 0))
  rd : RdPm wx (.agg #[.slice aW 336 cW, .slice aP ps.length cP]) ws (ps.map (fl1 k))
  below : Below w3.heap.size w3 wx
theorem CutF.drew {w3 wx : World} {ws : List Int} {ps : List St} {k : Int} {aW aP : Option Addr} {cW cP bx : Nat} (h : CutF w3 wx ws ps k aW aP cW cP bx) : CutF w3 wx.drew ws ps k aW aP cW cP bx :=
  ⟨h.k0, h.k1, h.lo, h.hi, h.box, h.rd.below ((Below.refl _ _).drew), h.below.drew⟩
end Go.Proofs.YtipklbnfobckaaaGreatDoor

namespace Go.Proofs.YtipklbnfobckaaaGreatDoor
open Go.RowKit

def flushWs (ws : List Int) (ps : List St) (at_ : Int) : List Int := if askC ws ps at_ = 0 then ws else []
def flushPs (ws : List Int) (ps : List St) (at_ : Int) : List St := if askC ws ps at_ = 0 then ps.map (fl1 at_) else []
theorem flush_not {ws : List Int} {ps : List St} {at_ : Int} (h : ¬ askC ws ps at_ = 0) : flushWs ws ps at_ = [] ∧ flushPs ws ps at_ = [] := by
  unfold flushWs flushPs
  rw [if_neg h, if_neg h]
  exact ⟨rfl, rfl⟩
theorem flush_ok {ws : List Int} {ps : List St} {at_ : Int} (h : askC ws ps at_ = 0) : flushWs ws ps at_ = ws ∧ flushPs ws ps at_ = ps.map (fl1 at_) := by
  unfold flushWs flushPs
  rw [if_pos h, if_pos h]
  exact ⟨rfl, rfl⟩

set_option maxHeartbeats 4000000 in
theorem implPmFlush_any (v : Value) (ws : List Int) (ps : List St) (at_ : Int) (w : World) (h : RdPm w v ws ps) (hw : ws.length ≤ 1048576) (hp : ps.length ≤ 1048576) :
    Calls Tryz.prog 276 #[v, .int .i64 at_] w fun e w' => ∃ v', e = .returned (.tuple #[v', .int .i64 (askC ws ps at_)]) ∧ RowPm w' w.heap.size w'.heap.size v' (flushWs ws ps at_) (flushPs ws ps at_) ∧ Below w.heap.size w w' := by
  have HR := hideIt h
  obtain ⟨vW, vP, rfl, h1, h2⟩ := h
  obtain ⟨aW, cW, rfl, _⟩ := h1.shape
  obtain ⟨aP, cP, rfl, _⟩ := h2.shape
  clear h1 h2
  have hb0 : Below w.heap.size w ((w.alloc (.cells #[.slice aW ws.length cW, .slice aP ps.length cP] 41)).alloc (.cells #[.slice none 0 0, .slice none 0 0] 41)) := by
    repeat (refine Below.alloc ?_ (by simp <;> omega) _)
    exact Below.refl _ _
  rcases askC_cases ws ps at_ with hc | ⟨hc, hok, k, rfl, hk, hkl⟩
  · obtain ⟨e2, e3⟩ := flush_not (ws := ws) (ps := ps) (at_ := at_) (by rcases hc with hc | hc <;> simp [hc])
    rw [e2, e3]
    clear e2 e3
    have hne : (askC ws ps at_ != 0) = true := by rcases hc with hc | hc <;> simp [hc]
    clear hc
    go_enter Tryz.func276, Tryz.ntmps276
    go_wp2_with fail
    refine (placeFault_any _ ws ps _ _ (HR.out.below hb0) hw hp).mono ?_
    rintro e w1 ⟨rfl, hb1⟩
    have V1 := (hb1.block (w.heap.size + 1) (by simp)).trans (at_new (by simp))
    obtain ⟨t1, t2, t3, t4⟩ := two_cells V1
    have B1 := hideIt (below_trans hb0 hb1 (by simp <;> omega))
    clear hb0 hb1 V1
    go_wp2
    refine bodyPost_ret (v := .tuple #[.agg #[.slice none 0 0, .slice none 0 0], .int .i64 (askC ws ps at_)]) (by simp [results, Tryz.results276, go_sem, t1, t2]) rfl ?_
    exact ⟨_, rfl, RowPm.zero _ _ _, (B1.out.setCell (by simp only; omega) _).setCell (by simp only; omega) _⟩
  · obtain ⟨e2, e3⟩ := flush_ok hc
    rw [e2, e3]
    clear e2 e3
    have C := hideIt hc
    have OK := hideIt (pmB_at hok)
    clear hc hok
    go_enter Tryz.func276, Tryz.ntmps276
    go_wp2_with fail
    refine (placeFault_any _ ws ps _ _ (HR.out.below hb0) hw hp).mono ?_
    rw [C.out]
    rintro e w1 ⟨rfl, hb1⟩
    have hz1 : w.heap.size + 2 ≤ w1.heap.size := by have := hb1.size; simp at this; omega
    have V0 := (hb1.block w.heap.size (by simp <;> omega)).trans (at_old (at_new rfl))
    have V1 := (hb1.block (w.heap.size + 1) (by simp)).trans (at_new (by simp))
    obtain ⟨x1, x2, x3, x4⟩ := two_cells V0
    have B1 := hideIt (below_trans hb0 hb1 (by simp <;> omega))
    have VH := hideIt V1
    clear hb0 hb1 V0 V1
    go_wp2_with fail
    refine (copyPm_any _ ws ps _ (HR.out.below B1.out) (by omega) (by omega)).mono ?_
    rintro e w2 ⟨v2, rfl, hr2, hb2⟩
    obtain ⟨vW2, vP2, rfl, hI2, hS2⟩ := hr2
    obtain ⟨aW2, cW2, rfl⟩ := RdI.form hI2.rd rfl
    obtain ⟨aP2, cP2, rfl⟩ := RdS.form hS2.rd rfl
    have hz2 := hb2.size
    have B2 := hideIt ((below_trans B1.out hb2 (by omega)).alloc (by omega) (.cells #[.slice aW2 ws.length cW2, .slice aP2 ps.length cP2] 41))
    have V2 := hideIt (at_old (o := .cells #[.slice aW2 ws.length cW2, .slice aP2 ps.length cP2] 41) ((hb2.block _ hz1).trans VH.out))
    have bb : Below w2.heap.size w2 (w2.alloc (.cells #[.slice aW2 ws.length cW2, .slice aP2 ps.length cP2] 41)) := (Below.refl _ _).alloc (Nat.le_refl _) _
    have RI := hideIt (hI2.below bb (Nat.le_refl _))
    have RS := hideIt (hS2.below bb (Nat.le_refl _))
    have V7 : Hid ((w2.alloc (.cells #[.slice aW2 ws.length cW2, .slice aP2 ps.length cP2] 41)).heap[w2.heap.size]? = some (.cells #[.slice aW2 ws.length cW2, .slice aP2 ps.length cP2] 41 (0, 0))) := at_new rfl
    clear hb2 hI2 hS2 bb x1 x2 x3 x4
    go_wp2
    go_loopw [8, 21] (fun _ i wr => ∃ m : Nat, m ≤ ps.length ∧ i = .int .i64 m ∧ Row wr 165 3 w1.heap.size w2.heap.size (.slice aP2 ps.length cP2) ps.length (sts (mix (k : Int) ps m)) ∧ Row wr 3 1 w1.heap.size w2.heap.size (.slice aW2 ws.length cW2) ws.length (ints ws) ∧ (wr.heap[w2.heap.size]? = some (.cells #[.slice aW2 ws.length cW2, .slice aP2 ps.length cP2] 41 (0, 0)) ∧ wr.heap[w.heap.size + 1]? = some (.cells #[.slice none 0 0, .slice none 0 0] 41 (0, 0))) ∧ Below w.heap.size w wr ∧ w2.heap.size + 1 ≤ wr.heap.size) (fun _ i _ => ps.length - (intOf i).toNat)
    case atStart => exact ⟨0, by omega, rfl, by rw [mix_zero]; exact RS.out, RI.out, ⟨V7.out, V2.out⟩, B2.out, by simp⟩
    case round =>
      obtain ⟨m, hm, rfl, hrow, hint, hv, hb, hz⟩ := hrel
      obtain ⟨y1, y2, y3, y4⟩ := two_cells hv.1
      by_cases hlt : m < ps.length
      · have hl := mix_len (k : Int) ps m hm
        obtain ⟨_, ao', cap', e', _, hc⟩ := hrow.rd
        cases e'
        obtain ⟨b, o, rfl, hbl, _⟩ := hc (by omega)
        obtain ⟨rfl, hb1, hb2, _, hfr, hcl⟩ := hrow.at
        have hml : m < (mix (k : Int) ps m).length := by omega
        have e0 := (hcl (m * 3) (by omega)).trans (sts_at0 _ m hml)
        have e2 := (hcl (m * 3 + 2) (by omega)).trans (sts_at2 _ m hml)
        rw [mix_at _ _ _ hlt hml] at e0 e2
        have f2 := hfr (m * 3 + 2)
        obtain ⟨q0, q1⟩ := OK.out m hlt
        have ST := hideIt (hrow.stored (m * 3 + 2) (.bool true))
        have IT := hideIt (hint.apart hrow (by decide) (World.ownsRow.stored hrow.1 (m * 3 + 2) (.bool true)).2)
        have BH2 := hideIt (hb.setCell (p := ⟨b, m * 3 + 2, none⟩) (by simp only; omega) (.bool true))
        have VH2 := hideIt (And.intro ((Below.heap_setCell wr ⟨b, m * 3 + 2, none⟩ (.bool true) w2.heap.size (by simp only; omega)).trans hv.1) ((Below.heap_setCell wr ⟨b, m * 3 + 2, none⟩ (.bool true) (w.heap.size + 1) (by simp only; omega)).trans hv.2))
        have RM := hideIt hrow
        have IM := hideIt hint
        have VM := hideIt hv
        clear hrow hint hc hfr hcl hv hl
        by_cases c : ps[m].at_ / 8 = (k : Int) / 8
        · have c' : (ps[m].at_ / 8 == (k : Int) / 8) = true := by simpa using c
          have E := hideIt (mix_hit hlt c)
          clear c
          go_wp2
          go_roundw
          case rel => exact ⟨m + 1, by omega, by go_num, E.out ▸ ST.out, IT.out, VH2.out, BH2.out, by simp; omega⟩
          case measure => simp [intOf]; omega
        · have c' : (ps[m].at_ / 8 == (k : Int) / 8) = false := by simpa using c
          have E := hideIt (mix_miss hlt c)
          clear c
          go_wp2
          go_roundw
          case rel => exact ⟨m + 1, by omega, by go_num, E.out ▸ RM.out, IM.out, VM.out, hb, hz⟩
          case measure => simp [intOf]; omega
      · have e : m = ps.length := by omega
        subst e
        obtain ⟨t1, t2, t3, t4⟩ := two_cells hv.2
        have RM := hideIt hrow
        have IM := hideIt hint
        clear hrow hint hv
        go_wp2
        rw [C.out]
        refine bodyPost_ret (v := .tuple #[.agg #[.slice aW2 ws.length cW2, .slice aP2 ps.length cP2], .int .i64 0]) (by simp [results, Tryz.results276, go_sem, t1, t2]) rfl ?_
        have hrow : RowPm wr w1.heap.size w2.heap.size (.agg #[.slice aW2 ws.length cW2, .slice aP2 ps.length cP2]) ws (ps.map (fl1 (k : Int))) := by
          refine ⟨_, _, rfl, IM.out, ?_⟩
          rw [List.length_map, ← mix_all]
          exact RM.out
        exact ⟨_, rfl, ((hrow.setCell (by simp only; omega) _).setCell (by simp only; omega) _).wide (by omega) (by simp; omega), (hb.setCell (by simp only; omega) _).setCell (by simp only; omega) _⟩
end Go.Proofs.YtipklbnfobckaaaGreatDoor
