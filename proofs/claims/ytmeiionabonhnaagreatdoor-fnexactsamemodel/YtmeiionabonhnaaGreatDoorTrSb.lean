/- SameModel: by the model. -/
import Derived.Test.YtmeiionabonhnaaGreatDoorTrSa
namespace Go.Proofs.YtmeiionabonhnaaGreatDoor
open Go.RowKit
def smB (ta tb : List Th) (pa pb : List Den) : Bool := (modB ta pa && modB tb pb) && decide (liL ta pa = liL tb pb)
def smC (ta tb : List Th) (pa pb : List Den) : Int := if (modB ta pa && modB tb pb) = true then 0 else 1
set_option maxRecDepth 100000 in
set_option maxHeartbeats 4000000 in
theorem specSameModel_any (va vb : Value) (ta tb : List Th) (pa pb : List Den) (w : World) (ha : RdMd w va ta pa) (hb : RdMd w vb tb pb) (hna : ta.length ≤ 1048576) (hnb : tb.length ≤ 1048576) (hpa : pa.length ≤ 1048576) (hpb : pb.length ≤ 1048576) (hsa : ∀ k (h : k < pa.length), pa[k].name.size ≤ maxLen) (hsb : ∀ k (h : k < pb.length), pb[k].name.size ≤ maxLen) :
    Calls Tryz.prog 16 #[va, vb] w fun e w' => e = .returned (.tuple #[.bool (smB ta tb pa pb), .int .i64 (smC ta tb pa pb)]) ∧ Below w.heap.size w w' := by
  have LA := hideIt (fun w1 (h1 : Below w.heap.size w w1) => specModelOK_any va ta pa w1 (ha.below h1) hna hpa hsa)
  have LB := hideIt (fun w1 (h1 : Below w.heap.size w w1) => specModelOK_any vb tb pb w1 (hb.below h1) hnb hpb hsb)
  have LS := hideIt (fun (ma : modB ta pa = true) (mb : modB tb pb = true) w1 (h1 : Below w.heap.size w w1) => l12Same_any va vb ta tb pa pb w1 (ha.below h1) (hb.below h1) hna hnb ma mb)
  obtain ⟨aA, cA, dA, eA, rfl⟩ := ha.form
  obtain ⟨aB, cB, dB, eB, rfl⟩ := hb.form
  clear ha hb hna hnb hpa hpb hsa hsb
  obtain ⟨V, hV⟩ : ∃ V, V = (w.alloc (.cells #[.slice aA ta.length cA, .slice dA pa.length eA] 33)).alloc (.cells #[.slice aB tb.length cB, .slice dB pb.length eB] 33) := ⟨_, rfl⟩
  have BV : Hid (Below w.heap.size w V) := by rw [hV]; exact ((Below.refl _ _).alloc (Nat.le_refl _) _).alloc (by simp) _
  have XA : Hid (V.heap[w.heap.size]? = some (.cells #[.slice aA ta.length cA, .slice dA pa.length eA] 33 (0, 0))) := by rw [hV]; exact at_old (at_new rfl)
  have XB : Hid (V.heap[w.heap.size + 1]? = some (.cells #[.slice aB tb.length cB, .slice dB pb.length eB] 33 (0, 0))) := by
    rw [hV]
    have := at_new (w := w.alloc (.cells #[.slice aA ta.length cA, .slice dA pa.length eA] 33)) (o := .cells #[.slice aB tb.length cB, .slice dB pb.length eB] 33) rfl
    rw [World.size_alloc] at this
    exact this
  have zB : w.heap.size + 1 < V.heap.size := (Array.getElem?_eq_some_iff.1 XB.out).1
  obtain ⟨x0, x1, -⟩ := two_cells XA.out
  cases ma : modB ta pa with
  | false =>
    rw [ma] at LA
    rw [show smB ta tb pa pb = false by unfold smB; rw [ma]; rfl, show smC ta tb pa pb = 1 by unfold smC; rw [ma]; rfl]
    clear ma LB LS XB
    go_enter Tryz.func16, Tryz.ntmps16
    go_upto_region 1 with fail
    rw [← hV]
    clear hV
    go_wp2_with fail
    refine (LA.out V BV.out).mono ?_
    rintro e w1 ⟨rfl, hb1⟩
    have B1 := hideIt (below_trans BV.out hb1 BV.out.size)
    clear hb1 x0 x1 LA
    go_wp2
    go_ret2
    exact ⟨rfl, B1.out⟩
  | true =>
    rw [ma] at LA
    have LS1 := hideIt (LS.out ma)
    cases mb : modB tb pb with
    | false =>
      rw [mb] at LB
      rw [show smB ta tb pa pb = false by unfold smB; rw [mb, Bool.and_false]; rfl, show smC ta tb pa pb = 1 by unfold smC; rw [mb, Bool.and_false]; rfl]
      clear ma mb LS LS1
      go_enter Tryz.func16, Tryz.ntmps16
      go_upto_region 1 with fail
      rw [← hV]
      clear hV
      go_wp2_with fail
      refine (LA.out V BV.out).mono ?_
      rintro e w1 ⟨rfl, hb1⟩
      have B1 := hideIt (below_trans BV.out hb1 BV.out.size)
      obtain ⟨y0, y1, -⟩ := two_cells ((hb1.block (w.heap.size + 1) zB).trans XB.out)
      clear hb1 x0 x1 LA
      go_wp2_with fail
      refine (LB.out w1 B1.out).mono ?_
      rintro e w2 ⟨rfl, hb2⟩
      have B2 := hideIt (below_trans B1.out hb2 B1.out.size)
      clear hb2 y0 y1 LB
      go_wp2
      go_ret2
      exact ⟨rfl, B2.out⟩
    | true =>
      rw [mb] at LB
      have LS2 := hideIt (LS1.out mb)
      rw [show smB ta tb pa pb = decide (liL ta pa = liL tb pb) by unfold smB; rw [ma, mb]; rfl, show smC ta tb pa pb = 0 by unfold smC; rw [ma, mb]; rfl]
      clear ma mb LS LS1
      generalize decide (liL ta pa = liL tb pb) = ans at *
      go_enter Tryz.func16, Tryz.ntmps16
      go_upto_region 1 with fail
      rw [← hV]
      clear hV
      go_wp2_with fail
      refine (LA.out V BV.out).mono ?_
      rintro e w1 ⟨rfl, hb1⟩
      have B1 := hideIt (below_trans BV.out hb1 BV.out.size)
      have z1 : w.heap.size + 1 < w1.heap.size := by have := hb1.size; omega
      have XA1 := hideIt ((hb1.block w.heap.size (by omega)).trans XA.out)
      have XB1 := hideIt ((hb1.block (w.heap.size + 1) zB).trans XB.out)
      obtain ⟨y0, y1, -⟩ := two_cells XB1.out
      clear hb1 x0 x1 LA XA XB BV zB
      go_wp2_with fail
      refine (LB.out w1 B1.out).mono ?_
      rintro e w2 ⟨rfl, hb2⟩
      have B2 := hideIt (below_trans B1.out hb2 B1.out.size)
      obtain ⟨x0, x1, -⟩ := two_cells ((hb2.block w.heap.size (by omega)).trans XA1.out)
      obtain ⟨u0, u1, -⟩ := two_cells ((hb2.block (w.heap.size + 1) z1).trans XB1.out)
      clear hb2 y0 y1 LB XA1 XB1 B1
      go_wp2_with fail
      refine (LS2.out w2 B2.out).mono ?_
      rintro e w3 ⟨rfl, hb3⟩
      have B3 := hideIt (below_trans B2.out hb3 B2.out.size)
      clear hb3 x0 x1 u0 u1 LS2
      go_wp2
      go_ret2
      exact ⟨rfl, B3.out⟩
end Go.Proofs.YtmeiionabonhnaaGreatDoor
