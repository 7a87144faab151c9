/- Models: counted. -/
import Derived.Test.YtihmihkhkmadmaaDoorMdA
import Derived.Test.YtihmihkhkmadmaaDoorZAM
namespace Go.Proofs.YtihmihkhkmadmaaDoor
open Go.RowKit
theorem roomD_small {ps : List Den} {left : Int} (h0 : 0 ≤ left) (h1 : left ≤ 1048576) (h : ¬ roomD ps ps.length left < 0) : ps.length ≤ 1048576 := by
  rcases Nat.lt_or_ge 1048576 ps.length with q | q
  · exfalso
    have := roomD_neg ps left h0 0 (by unfold roomD; rw [if_pos (by omega)]; omega) ps.length
    rw [Nat.zero_add] at this
    omega
  · exact q
set_option maxRecDepth 100000 in
set_option maxHeartbeats 4000000 in
theorem szModel_any (v : Value) (ts : List Th) (ps : List Den) (left : Int) (w : World) (h : RdMd w v ts ps) (hn : ts.length ≤ maxLen) (hg : ∀ k (hk : k < ts.length), ts[k].pages.length ≤ maxLen) (hm : ps.length ≤ maxLen) (hs : ∀ k (h : k < ps.length), ps[k].name.size ≤ maxLen) (h0 : 0 ≤ left) (h1 : left ≤ 1048576) :
    Calls Tryd.prog 10 #[v, .int .i64 left] w fun e w' => ∃ r : Int, e = .returned (.int .i64 r) ∧ (0 ≤ r → (ts.length + totT ts ≤ 1048576 ∧ ps.length ≤ 1048576) ∧ r ≤ 1048576) ∧ -1 ≤ r ∧ Below w.heap.size w w' := by
  obtain ⟨vW, vP, rfl, hI, hD⟩ := h
  have LT := hideIt (fun w1 (hb : Below w.heap.size w w1) => szThingS_any vW ts left w1 (hI.below hb) hn hg h0 h1)
  have LD := hideIt (fun (q : Int) w1 (hb : Below w.heap.size w w1) (a : 0 ≤ q) (b : q ≤ 1048576) => szDirentS_any vP ps q w1 (Rd.below hD hb) hm hs a b)
  obtain ⟨aW, cW, hvW⟩ := hI.form
  obtain ⟨aP, cP, hvP, _⟩ := hD.shape
  subst hvW hvP
  clear hI hD hs hm hg hn
  obtain ⟨W, hW⟩ : ∃ W : World, W = w.alloc (.cells #[.slice aW ts.length cW, .slice aP ps.length cP] 33) := ⟨_, rfl⟩
  have BW : Hid (Below w.heap.size w W) := by rw [hW]; exact (Below.refl _ _).alloc (Nat.le_refl _) _
  have VW : Hid (W.heap[w.heap.size]? = some (.cells #[.slice aW ts.length cW, .slice aP ps.length cP] 33 (0, 0))) := by rw [hW]; exact at_new rfl
  have hz : w.heap.size < W.heap.size := by rw [hW]; simp
  go_enter Tryd.func10, Tryd.ntmps10
  go_wp2_with fail
  rw [← hW]
  clear hW
  refine (LT.out W BW.out).mono ?_
  rintro e w1 ⟨q, rfl, hq, hq1, hb1⟩
  have B1 := hideIt (below_trans BW.out hb1 BW.out.size)
  have V1 := hideIt ((hb1.block _ hz).trans VW.out)
  have HQ := hideIt hq
  clear hb1 LT hq
  by_cases c : q < 0
  · clear LD
    go_wp2
    go_ret
    exact ⟨_, rfl, fun z => absurd z (by decide), by decide, B1.out⟩
  · obtain ⟨x0, x1, _, _⟩ := two_cells V1.out
    have hq2 := HQ.out (by omega)
    have hq3 := hq2.2
    have HT := hideIt hq2.1
    clear hq2
    go_wp2_with fail
    refine (LD.out q w1 B1.out (by omega) hq3).mono ?_
    rintro e w2 ⟨rfl, hb2⟩
    have rl := roomD_le ps q (by omega) ps.length
    have RS := hideIt (fun z => roomD_small (ps := ps) (left := q) (by omega) hq3 z)
    have B2 := hideIt (below_trans B1.out hb2 B1.out.size)
    clear hb2 LD x0 x1
    generalize roomD ps ps.length q = r at *
    by_cases d : r < 0
    · have : r = -1 := by omega
      subst this
      go_wp2
      go_ret
      exact ⟨_, rfl, fun z => absurd z (by decide), by decide, B2.out⟩
    · go_wp2
      go_ret
      exact ⟨_, rfl, fun _ => ⟨⟨HT.out, RS.out d⟩, by omega⟩, by omega, B2.out⟩
end Go.Proofs.YtihmihkhkmadmaaDoor
