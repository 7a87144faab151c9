/- A write more: by the program. -/
import Derived.Test.YtbdmfjlbjohanaaDoorBlkWrite
import Derived.Deep.DeepCutAuto
import Derived.Deep.RegionLaw
namespace Go.Proofs.YtbdmfjlbjohanaaDoor
open Go.RowKit

theorem writeWs_len (ws : List Int) (ps : List Se) (at_ x : Int) : (writeWs ws ps at_ x).length ≤ ws.length := by unfold writeWs; split <;> simp
theorem writePs_len (ws : List Int) (ps : List Se) (at_ x : Int) : (writePs ws ps at_ x).length ≤ ps.length + 1 := by
  unfold writePs
  split
  · simp
  · split <;> simp
theorem below_allocW {a w : World} (h : Below a.heap.size a w) (o : Obj) : Below a.heap.size a (w.alloc o) := h.alloc h.size o
theorem Row.grownNone {a b : World} {e : TypeId} {size lo hi : Nat} {v : Value} {n : Nat} {xs : List Value} (h : Row a e size lo hi v n xs) (hg : a.grownBy b none) (hh : hi ≤ a.heap.size) : Row b e size lo b.heap.size v n xs :=
  (h.same (fun k _ hk => hg.block k (by omega) (by simp))).wide (Nat.le_refl _) (Nat.le_trans hh hg.size)

/-- Behind the region that copies a device into a variable. -/
structure WCut (w1 wx : World) (ws : List Int) (ps : List Se) (aW aP : Option Addr) (cW cP bx : Nat) : Prop where
  lo : w1.heap.size ≤ bx
  box : wx.heap[bx]? = some (.cells #[.slice aW ws.length cW, .slice aP ps.length cP] 26 (0, 0))
  rw_ : Row wx 3 1 w1.heap.size wx.heap.size (.slice aW ws.length cW) ws.length (ints ws)
  rp : Row wx 53 2 w1.heap.size wx.heap.size (.slice aP ps.length cP) ps.length (ses ps)
  below : Below w1.heap.size w1 wx
theorem WCut.drew {w1 wx : World} {ws : List Int} {ps : List Se} {aW aP : Option Addr} {cW cP bx : Nat} (h : WCut w1 wx ws ps aW aP cW cP bx) : WCut w1 wx.drew ws ps aW aP cW cP bx :=
  ⟨h.lo, h.box, h.rw_.same (fun _ _ _ => rfl), h.rp.same (fun _ _ _ => rfl), h.below.drew⟩
theorem WCut.new {w1 wf : World} {ws : List Int} {ps : List Se} {aW aP : Option Addr} {cW cP : Nat} (hb : Below w1.heap.size w1 wf) (r1 : Row wf 3 1 w1.heap.size wf.heap.size (.slice aW ws.length cW) ws.length (ints ws)) (r2 : Row wf 53 2 w1.heap.size wf.heap.size (.slice aP ps.length cP) ps.length (ses ps)) :
    WCut w1 (wf.alloc (.cells #[.slice aW ws.length cW, .slice aP ps.length cP] 26)) ws ps aW aP cW cP wf.heap.size :=
  ⟨hb.size, at_new rfl, (r1.alloc (Nat.le_refl _) _).wide (Nat.le_refl _) (by simp), (r2.alloc (Nat.le_refl _) _).wide (Nat.le_refl _) (by simp), below_allocW hb _⟩
theorem WCut.old {w1 wf : World} {ws : List Int} {ps : List Se} {aW aP : Option Addr} {cW cP bx : Nat} (hb : Below w1.heap.size w1 wf) (r1 : Row wf 3 1 w1.heap.size wf.heap.size (.slice aW ws.length cW) ws.length (ints ws)) (r2 : Row wf 53 2 w1.heap.size wf.heap.size (.slice aP ps.length cP) ps.length (ses ps)) (hx : w1.heap.size ≤ bx) (hv : wf.heap[bx]? = some (.cells #[.slice none 0 0, .slice none 0 0] 26 (0, 0))) :
    WCut w1 ((wf.setCell ⟨bx, 0, none⟩ (.slice aW ws.length cW)).setCell ⟨bx, 1, none⟩ (.slice aP ps.length cP)) ws ps aW aP cW cP bx := by
  have n1 := r1.ne_type hv (by decide)
  have n2 := r2.ne_type hv (by decide)
  exact ⟨hx, two_set1 (two_set0 hv _) _, ((r1.setOther n1 _).setOther n1 _).wide (Nat.le_refl _) (by simp), ((r2.setOther n2 _).setOther n2 _).wide (Nat.le_refl _) (by simp), (hb.setCell (by simp only; omega) _).setCell (by simp only; omega) _⟩

set_option maxHeartbeats 8000000 in
theorem implBlkWrite_any (v : Value) (ws : List Int) (ps : List Se) (at_ x : Int) (w : World) (h : RdBlk w v ws ps) (hw : ws.length ≤ 1048576) (hp : ps.length ≤ 1048576) :
    Calls Tryd.prog 8 #[v, .int .i64 at_, .int .i64 x] w fun e w' => ∃ v', e = .returned (.tuple #[v', .int .i64 (writeC ws ps at_ x)]) ∧ RowBlk w' w.heap.size w'.heap.size v' (writeWs ws ps at_ x) (writePs ws ps at_ x) ∧ Below w.heap.size w w' := by
  have HR := hideIt h
  obtain ⟨vW, vP, rfl, h1, h2⟩ := h
  have H1 := hideIt h1
  have H2 := hideIt h2
  obtain ⟨aW, cW, rfl, _⟩ := h1.shape
  obtain ⟨aP, cP, rfl, _⟩ := h2.shape
  clear h1 h2
  have hb0 : Below w.heap.size w ((w.alloc (.cells #[.slice aW ws.length cW, .slice aP ps.length cP] 26)).alloc (.cells #[.slice none 0 0, .slice none 0 0] 26)) := by
    repeat (refine Below.alloc ?_ (by simp <;> omega) _)
    exact Below.refl _ _
  by_cases hg : askE ws ps at_ = 0 ∧ wordB x = true
  case neg =>
    rcases write_cases ws ps at_ x with ⟨hc, e1, e2, e3⟩ | ⟨hc, hx, e1, e2, e3⟩ | ⟨hc, hx, hl, e1, e2, e3⟩ | ⟨hc, hx, hl, e1, e2, e3⟩
    · rw [e1, e2, e3]
      clear e1 e2 e3 hg
      have hne : (askE ws ps at_ != 0) = true := by rcases hc with hc | hc <;> simp [hc]
      clear hc
      go_enter Tryd.func8, Tryd.ntmps8
      go_wp2_with fail
      refine (sectorFault_any _ ws ps _ _ (HR.out.below hb0) hw hp).mono ?_
      rintro e w1 ⟨rfl, hb1⟩
      have V1 := (hb1.block (w.heap.size + 1) (by simp)).trans (at_new (by simp))
      obtain ⟨t1, t2, t3, t4⟩ := two_cells V1
      have B1 := hideIt (below_trans hb0 hb1 (by simp <;> omega))
      clear hb0 hb1 V1
      go_wp2
      refine bodyPost_ret (v := .tuple #[.agg #[.slice none 0 0, .slice none 0 0], .int .i64 (askE ws ps at_)]) (by simp [results, Tryd.results8, go_sem, t1, t2]) rfl ?_
      exact ⟨_, rfl, RowBlk.zero _ _ _, (B1.out.setCell (by simp only; omega) _).setCell (by simp only; omega) _⟩
    · rw [e1, e2, e3]
      clear e1 e2 e3 hg
      have C := hideIt hc
      clear hc
      go_enter Tryd.func8, Tryd.ntmps8
      go_wp2_with fail
      refine (sectorFault_any _ ws ps _ _ (HR.out.below hb0) hw hp).mono ?_
      rw [C.out]
      rintro e w1 ⟨rfl, hb1⟩
      have hz1 : w.heap.size + 2 ≤ w1.heap.size := by have := hb1.size; simp at this; omega
      have V0 := (hb1.block w.heap.size (by simp <;> omega)).trans (at_old (at_new rfl))
      have V1 := (hb1.block (w.heap.size + 1) (by simp)).trans (at_new (by simp))
      obtain ⟨x1, x2, x3, x4⟩ := two_cells V0
      obtain ⟨t1, t2, t3, t4⟩ := two_cells V1
      have B1 := hideIt (below_trans hb0 hb1 (by simp <;> omega))
      clear hb0 hb1 V0 V1
      go_wp2_with (go_at_call 29; refine (isWord_any _ _).mono ?_; rintro e w1 ⟨rfl, rfl⟩)
      refine bodyPost_ret (v := .tuple #[.agg #[.slice none 0 0, .slice none 0 0], .int .i64 4]) (by simp [results, Tryd.results8, go_sem, t1, t2]) rfl ?_
      exact ⟨_, rfl, RowBlk.zero _ _ _, (B1.out.setCell (by simp only; omega) _).setCell (by simp only; omega) _⟩
    · exact absurd ⟨hc, hx⟩ hg
    · exact absurd ⟨hc, hx⟩ hg
  obtain ⟨hc, hx⟩ := hg
  have C := hideIt hc
  clear hc
  go_enter Tryd.func8, Tryd.ntmps8
  go_wp2_with fail
  refine (sectorFault_any _ ws ps _ _ (HR.out.below hb0) hw hp).mono ?_
  rw [C.out]
  rintro e w1 ⟨rfl, hb1⟩
  have hz1 : w.heap.size + 2 ≤ w1.heap.size := by have := hb1.size; simp at this; omega
  have V0 := (hb1.block w.heap.size (by simp <;> omega)).trans (at_old (at_new rfl))
  have V1 := (hb1.block (w.heap.size + 1) (by simp)).trans (at_new (by simp))
  have B1 := hideIt (below_trans hb0 hb1 (by simp <;> omega))
  have VH := hideIt (And.intro V0 V1)
  have H1w := hideIt (Rd.below H1.out B1.out)
  have H2w := hideIt (Rd.below H2.out B1.out)
  obtain ⟨x1, x2, x3, x4⟩ := two_cells V0
  clear hb0 hb1 V0 V1
  go_upto_region 6 with (go_at_call 29; refine (isWord_any _ _).mono ?_; rintro e w1 ⟨rfl, rfl⟩)
  go_cut [9] (fun s wx => ∃ (aW aP : Option Addr) (cW cP bx : Nat), s = .pointer (some ⟨bx, 0, none⟩) ∧ Hid (WCut w1 wx ws ps aW aP cW cP bx))
  case first =>
    obtain ⟨q0, q1, _, _⟩ := two_cells (at_old (o := .cells #[.slice none 0 0, .slice none 0 0] 26) VH.out.1)
    go_region_law (first
      | (refine step_append_rd rfl (.const (.slice none 0 0)) (.tmp 22) 23 rfl w1.heap.size 3 (.int .i64 0) 1 8 Tryd.underlying23 info3 rfl (by decide) (.slice none 0 0) 0 [] rfl (World.ownsRow_nil _ _ _ _) (.slice aW ws.length cW) ws.length (ints ws) rfl (Rd.below H1w.out (by repeat (first | exact BE.out | exact Below.refl _ _ | refine below_allocW ?_ _ | refine Below.drew ?_))) (ints_one ws) (by simp [maxLen]; omega) (by omega) (Below.size (B := w1.heap.size) (by repeat (first | exact BE.out | exact Below.refl _ _ | refine below_allocW ?_ _ | refine Below.drew ?_))) ?_; intro vA wA hownA hgrA; have hownA : wA.ownsRow w1.heap.size 3 1 vA ws.length (ints ws) := (by simpa using hownA); have BA : Hid (Below w1.heap.size w1 wA) := Below.grown (by repeat (first | exact BE.out | exact Below.refl _ _ | refine below_allocW ?_ _ | refine Below.drew ?_)) hgrA (Below.size (B := w1.heap.size) (by repeat (first | exact BE.out | exact Below.refl _ _ | refine below_allocW ?_ _ | refine Below.drew ?_))) (fun k hk => by cases hk); (first | (have KAo := hideIt (Row.grownNone (KE.out.alloc (Nat.le_refl _) (.cells #[.slice none 0 0, .slice none 0 0] 26)) hgrA (by simp))) | (have KAo := hideIt (Row.grownNone KE.out hgrA (Nat.le_refl _))) | skip); have KA := hideIt (own_block hownA); (first | (have XA : Hid (wA.heap[w1.heap.size]? = some (.cells #[.slice none 0 0, .slice none 0 0] 26 (0, 0))) := (hgrA.block w1.heap.size (Array.getElem?_eq_some_iff.1 XE.out).1 (fun e => by cases e)).trans XE.out; obtain ⟨sA0, sA1, sA2, sA3⟩ := two_cells XA.out) | (have XA : Hid (wA.heap[wE.heap.size]? = some (.cells #[.slice none 0 0, .slice none 0 0] 26 (0, 0))) := (hgrA.block wE.heap.size (by rw [World.size_alloc]; exact Nat.lt_succ_self _) (fun e => by cases e)).trans (at_new rfl); obtain ⟨sA0, sA1, sA2, sA3⟩ := two_cells XA.out) | (have XA : Hid (wA.heap[w1.heap.size]? = some (.cells #[.slice none 0 0, .slice none 0 0] 26 (0, 0))) := (hgrA.block w1.heap.size (by show _ < (World.alloc _ _).heap.size; rw [World.size_alloc]; exact Nat.lt_succ_self _) (fun e => by cases e)).trans (at_new rfl); obtain ⟨sA0, sA1, sA2, sA3⟩ := two_cells XA.out) | skip); obtain ⟨_, aA, cA, rfl, _⟩ := (own_block hownA).rd; obtain ⟨pA0, pA1, _, _⟩ := two_cells ((BA.out.block w.heap.size (by omega)).trans VH.out.1); obtain ⟨rA0, rA1, _, _⟩ := two_cells (at_old (o := .cells #[.slice none 0 0, .slice none 0 0] 26) ((BA.out.block w.heap.size (by omega)).trans VH.out.1)))
      | (refine step_append_rd rfl (.const (.slice none 0 0)) (.tmp 25) 24 rfl w1.heap.size 53 (.agg #[.int .i64 0, .int .i64 0]) 2 16 Tryd.underlying24 infoSec rfl (by decide) (.slice none 0 0) 0 [] rfl (World.ownsRow_nil _ _ _ _) (.slice aP ps.length cP) ps.length (ses ps) rfl (Rd.below H2w.out (by repeat (first | exact BA.out | exact Below.refl _ _ | refine below_allocW ?_ _ | refine Below.drew ?_))) (ses_one ps) (by simp [maxLen]; omega) (by omega) (Below.size (B := w1.heap.size) (by repeat (first | exact BA.out | exact Below.refl _ _ | refine below_allocW ?_ _ | refine Below.drew ?_))) ?_; intro vE wE hownE hgrE; have hownE : wE.ownsRow w1.heap.size 53 2 vE ps.length (ses ps) := (by simpa using hownE); have BE : Hid (Below w1.heap.size w1 wE) := Below.grown (by repeat (first | exact BA.out | exact Below.refl _ _ | refine below_allocW ?_ _ | refine Below.drew ?_)) hgrE (Below.size (B := w1.heap.size) (by repeat (first | exact BA.out | exact Below.refl _ _ | refine below_allocW ?_ _ | refine Below.drew ?_))) (fun k hk => by cases hk); (first | (have KEo := hideIt (Row.grownNone (KA.out.alloc (Nat.le_refl _) (.cells #[.slice none 0 0, .slice none 0 0] 26)) hgrE (by simp))) | (have KEo := hideIt (Row.grownNone KA.out hgrE (Nat.le_refl _))) | skip); have KE := hideIt (own_block hownE); (first | (have XE : Hid (wE.heap[w1.heap.size]? = some (.cells #[.slice none 0 0, .slice none 0 0] 26 (0, 0))) := (hgrE.block w1.heap.size (Array.getElem?_eq_some_iff.1 XA.out).1 (fun e => by cases e)).trans XA.out; obtain ⟨sE0, sE1, sE2, sE3⟩ := two_cells XE.out) | (have XE : Hid (wE.heap[wA.heap.size]? = some (.cells #[.slice none 0 0, .slice none 0 0] 26 (0, 0))) := (hgrE.block wA.heap.size (by rw [World.size_alloc]; exact Nat.lt_succ_self _) (fun e => by cases e)).trans (at_new rfl); obtain ⟨sE0, sE1, sE2, sE3⟩ := two_cells XE.out) | (have XE : Hid (wE.heap[w1.heap.size]? = some (.cells #[.slice none 0 0, .slice none 0 0] 26 (0, 0))) := (hgrE.block w1.heap.size (by show _ < (World.alloc _ _).heap.size; rw [World.size_alloc]; exact Nat.lt_succ_self _) (fun e => by cases e)).trans (at_new rfl); obtain ⟨sE0, sE1, sE2, sE3⟩ := two_cells XE.out) | skip); obtain ⟨_, aE, cE, rfl, _⟩ := (own_block hownE).rd; obtain ⟨pE0, pE1, _, _⟩ := two_cells ((BE.out.block w.heap.size (by omega)).trans VH.out.1); obtain ⟨rE0, rE1, _, _⟩ := two_cells (at_old (o := .cells #[.slice none 0 0, .slice none 0 0] 26) ((BE.out.block w.heap.size (by omega)).trans VH.out.1))))
    all_goals
      go_wp2_with fail
      go_meet
      refine ⟨aA, aE, cA, cE, _, rfl, ?_⟩
      first
        | exact WCut.new BE.out KEo.out KE.out
        | exact (WCut.new BE.out KEo.out KE.out).drew
        | exact WCut.new BA.out KA.out KAo.out
        | exact (WCut.new BA.out KA.out KAo.out).drew
        | exact WCut.old BE.out KEo.out KE.out (Nat.le_refl _) XE.out
        | exact WCut.old BE.out KEo.out KE.out BA.out.size XE.out
        | exact WCut.old BA.out KA.out KAo.out (Nat.le_refl _) XA.out
        | exact WCut.old BA.out KA.out KAo.out BE.out.size XA.out
        | exact (WCut.old BE.out KEo.out KE.out (Nat.le_refl _) XE.out).drew
        | exact (WCut.old BE.out KEo.out KE.out BA.out.size XE.out).drew
        | exact (WCut.old BA.out KA.out KAo.out (Nat.le_refl _) XA.out).drew
        | exact (WCut.old BA.out KA.out KAo.out BE.out.size XA.out).drew
  case rest =>
  obtain ⟨aW2, aP2, cW2, cP2, bx, rfl, K⟩ := hcut
  have hbx := K.out.lo
  have hzc := K.out.below.size
  have B2 := hideIt (below_trans B1.out K.out.below (by omega))
  have V2 := hideIt ((K.out.below.block (w.heap.size + 1) (by omega)).trans VH.out.2)
  clear x1 x2 x3 x4
  by_cases hl : ps.length = 400
  · have hE : writeC ws ps at_ x = 7 ∧ writeWs ws ps at_ x = ws ∧ writePs ws ps at_ x = ps := by
      have hc := C.out
      rcases write_cases ws ps at_ x with ⟨hc', _⟩ | ⟨_, hx', _⟩ | ⟨_, _, _, e⟩ | ⟨_, _, hl', _⟩
      · omega
      · rw [hx] at hx'; cases hx'
      · exact e
      · exact absurd hl hl'
    have HE := hideIt hE
    have hl' : ((ps.length : Int) == 400) = true := by simp [hl]
    clear hE hl
    obtain ⟨x1, x2, x3, x4⟩ := two_cells K.out.box
    obtain ⟨t5, t6, t7, t8⟩ := two_cells V2.out
    go_wp2
    refine bodyPost_ret (v := .tuple #[.agg #[.slice aW2 ws.length cW2, .slice aP2 ps.length cP2], .int .i64 7]) (by simp [results, Tryd.results8, go_sem, t5, t6]) rfl ?_
    rw [HE.out.1, HE.out.2.1, HE.out.2.2]
    have hrow : RowBlk wc w1.heap.size wc.heap.size (.agg #[.slice aW2 ws.length cW2, .slice aP2 ps.length cP2]) ws ps := ⟨_, _, rfl, K.out.rw_.z, K.out.rp⟩
    exact ⟨_, rfl, ((hrow.setCell (by simp only; omega) _).setCell (by simp only; omega) _).wide (by omega) (by simp), (B2.out.setCell (by simp only; omega) _).setCell (by simp only; omega) _⟩
  · have hE : writeC ws ps at_ x = 0 ∧ writeWs ws ps at_ x = ws ∧ writePs ws ps at_ x = ps ++ [⟨at_, x⟩] := by
      have hc := C.out
      rcases write_cases ws ps at_ x with ⟨hc', _⟩ | ⟨_, hx', _⟩ | ⟨_, _, hl', _⟩ | ⟨_, _, _, e⟩
      · omega
      · rw [hx] at hx'; cases hx'
      · exact absurd hl' hl
      · exact e
    have HE := hideIt hE
    have hl' : ((ps.length : Int) == 400) = false := by simp; omega
    clear hE hl
    obtain ⟨x1, x2, x3, x4⟩ := two_cells K.out.box
    have V9 := hideIt (at_old (o := .cells #[.int .i64 at_, .int .i64 x] 53) K.out.box)
    have V3 := hideIt (at_old (o := .cells #[.int .i64 at_, .int .i64 x] 53) V2.out)
    have B3 := hideIt (B2.out.alloc (by omega) (.cells #[.int .i64 at_, .int .i64 x] 53))
    have RI3 := hideIt (K.out.rw_.alloc (Nat.le_refl _) (.cells #[.int .i64 at_, .int .i64 x] 53))
    have RS3 := hideIt (K.out.rp.alloc (Nat.le_refl _) (.cells #[.int .i64 at_, .int .i64 x] 53))
    have HR2 := hideIt (rd_sec wc at_ x)
    go_wp2_with (at_builtin; refine wpList_append_rd _ rfl (.tmp 34) (.tmp 38) 24 rfl w1.heap.size 53 (.agg #[.int .i64 0, .int .i64 0]) 2 16 Tryd.underlying24 infoSec rfl (by decide) _ ps.length (ses ps) rfl RS3.out.1 _ 1 (Se.cells ⟨at_, x⟩) rfl HR2.out (fun u hu => by simp [Se.cells] at hu; rcases hu with rfl | rfl <;> rfl) (by simp [maxLen]; omega) (by omega) (by simp; omega) ?_)
    intro v3 w3 hown3 hgr3
    have hr3 : Row w3 53 2 w1.heap.size w3.heap.size v3 (ps ++ [(⟨at_, x⟩ : Se)]).length (ses (ps ++ [⟨at_, x⟩])) := by
      rw [ses_snoc, List.length_append]
      exact own_block hown3
    obtain ⟨aP3, cP3, rfl⟩ := RdE.form hr3.rd (n := ps.length + 1) (by simp)
    have hz3 : wc.heap.size + 1 ≤ w3.heap.size := by have := hgr3.size; simp at this; omega
    have hbl : bx < (wc.alloc (.cells #[.int .i64 at_, .int .i64 x] 53)).heap.size := (Array.getElem?_eq_some_iff.1 V9.out).1
    have hne : ¬ some bx = (Value.slice aP2 ps.length cP2).ownBlock := fun e => RS3.out.ne_type V9.out (by decide) e.symm
    have hne1 : ¬ some (w.heap.size + 1) = (Value.slice aP2 ps.length cP2).ownBlock := fun e => RS3.out.ne_type V3.out (by decide) e.symm
    have W0 := (hgr3.block bx hbl hne).trans V9.out
    have W1 := (hgr3.block (w.heap.size + 1) (by simp; omega) hne1).trans V3.out
    have N4 := hideIt (hr3.ne_type W0 (by decide))
    have RI4 := hideIt (RI3.out.apart RS3.out (by decide) hgr3)
    have N5 := hideIt (RI4.out.ne_type W0 (by decide))
    have RS4 := hideIt hr3
    have B4 := hideIt (B3.out.grown hgr3 (by simp <;> omega) (fun k hk => by have := (RS3.out.1.lt k hk).1; omega))
    obtain ⟨x5, x6, x7, x8⟩ := two_cells W0
    obtain ⟨t5, t6, t7, t8⟩ := two_cells W1
    clear hown3 hgr3 hr3 W0 W1 hne hne1 hbl x1 x2 x3 x4
    have hbn : ¬ bx = w.heap.size + 1 := by omega
    go_wp2
    refine bodyPost_ret (v := .tuple #[.agg #[.slice aW2 ws.length cW2, .slice aP3 (ps.length + 1) cP3], .int .i64 0]) (by simp [results, Tryd.results8, go_sem, t5, t6]) rfl ?_
    rw [HE.out.1, HE.out.2.1, HE.out.2.2]
    refine ⟨_, rfl, ⟨_, _, rfl, Row.z ?_, ?_⟩, ((B4.out.setCell (by simp only; omega) _).setCell (by simp only; omega) _).setCell (by simp only; omega) _⟩
    · refine Row.wide (((RI4.out.setOther (a := ⟨bx, 1, none⟩) N5.out (.slice aP3 (ps.length + 1) cP3)).same fun b h1 h2 => ?_)) (by omega) (by simp; omega)
      rw [Below.heap_setCell _ _ _ _ (by simp only; omega), Below.heap_setCell _ _ _ _ (by simp only; omega)]
    · refine Row.wide (((RS4.out.setOther (a := ⟨bx, 1, none⟩) N4.out (.slice aP3 (ps.length + 1) cP3)).same fun b h1 h2 => ?_)) (by omega) (by simp)
      rw [Below.heap_setCell _ _ _ _ (by simp only; omega), Below.heap_setCell _ _ _ _ (by simp only; omega)]
end Go.Proofs.YtbdmfjlbjohanaaDoor
