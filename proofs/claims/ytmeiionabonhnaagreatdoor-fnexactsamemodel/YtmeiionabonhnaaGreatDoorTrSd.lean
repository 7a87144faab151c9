/- SameModel: by the program. -/
import Derived.Test.YtmeiionabonhnaaGreatDoorTrSc
namespace Go.Proofs.YtmeiionabonhnaaGreatDoor
open Go.RowKit
theorem mt_no {ts : List Th} {ps : List Den} (h : modB ts ps = false) : mtL ts ps = [] ∧ mtC ts ps = 1 := ⟨if_neg (by rw [h]; decide), if_neg (by rw [h]; decide)⟩
theorem mt_yes {ts : List Th} {ps : List Den} (h : modB ts ps = true) : mtL ts ps = liL ts ps ∧ mtC ts ps = 0 := ⟨if_pos h, if_pos h⟩
set_option maxRecDepth 100000 in
set_option maxHeartbeats 4000000 in
theorem implSameModel_any (va vb : Value) (ta tb : List Th) (pa pb : List Den) (w : World) (ha : RdMd w va ta pa) (hb : RdMd w vb tb pb) (hna : ta.length ≤ 1048576) (hnb : tb.length ≤ 1048576) (hpa : pa.length ≤ 1048576) (hpb : pb.length ≤ 1048576) (hsa : ∀ k (h : k < pa.length), pa[k].name.size ≤ maxLen) (hsb : ∀ k (h : k < pb.length), pb[k].name.size ≤ maxLen) (hT : TS w) (hE : ED w) (hF : FD w) (hQ : PT w) :
    Calls Tryz.prog 17 #[va, vb] w fun e w' => e = .returned (.tuple #[.bool (smB ta tb pa pb), .int .i64 (smC ta tb pa pb)]) ∧ Below w.heap.size w w' := by
  have LA := hideIt (fun w1 (h1 : Below w.heap.size w w1) => implModelText_any va ta pa w1 (ha.below h1) hna hpa hsa (hT.below h1) (hE.below h1) (hF.below h1) (hQ.below h1))
  have LB := hideIt (fun w1 (h1 : Below w.heap.size w w1) => implModelText_any vb tb pb w1 (hb.below h1) hnb hpb hsb (hT.below h1) (hE.below h1) (hF.below h1) (hQ.below h1))
  obtain ⟨aA, cA, dA, eA, rfl⟩ := ha.form
  obtain ⟨aB, cB, dB, eB, rfl⟩ := hb.form
  clear ha hb hna hnb hpa hpb hsa hsb hT hE hF hQ
  obtain ⟨V, hV⟩ : ∃ V, V = (w.alloc (.cells #[.slice aA ta.length cA, .slice dA pa.length eA] 33)).alloc (.cells #[.slice aB tb.length cB, .slice dB pb.length eB] 33) := ⟨_, rfl⟩
  have BV : Hid (Below w.heap.size w V) := by rw [hV]; exact ((Below.refl _ _).alloc (Nat.le_refl _) _).alloc (by simp) _
  have XA : Hid (V.heap[w.heap.size]? = some (.cells #[.slice aA ta.length cA, .slice dA pa.length eA] 33 (0, 0))) := by rw [hV]; exact at_old (at_new rfl)
  have XB : Hid (V.heap[w.heap.size + 1]? = some (.cells #[.slice aB tb.length cB, .slice dB pb.length eB] 33 (0, 0))) := by
    rw [hV]
    have := at_new (w := w.alloc (.cells #[.slice aA ta.length cA, .slice dA pa.length eA] 33)) (o := .cells #[.slice aB tb.length cB, .slice dB pb.length eB] 33) rfl
    rw [World.size_alloc] at this
    exact this
  have zB : w.heap.size + 1 < V.heap.size := (Array.getElem?_eq_some_iff.1 XB.out).1
  obtain ⟨x0, x1, -⟩ := two_cells XA.out
  cases ma : modB ta pa with
  | false =>
    rw [(mt_no ma).1, (mt_no ma).2] at LA
    rw [show smB ta tb pa pb = false by unfold smB; rw [ma]; rfl, show smC ta tb pa pb = 1 by unfold smC; rw [ma]; rfl]
    clear ma LB XB
    go_enter Tryz.func17, Tryz.ntmps17
    go_upto_region 1 with fail
    rw [← hV]
    clear hV
    go_wp2_with fail
    refine (LA.out V BV.out).mono ?_
    rintro e w1 ⟨v1, rfl, -, hb1⟩
    have B1 := hideIt (below_trans BV.out hb1 BV.out.size)
    clear hb1 x0 x1 LA
    go_wp2
    go_ret2
    exact ⟨rfl, B1.out⟩
  | true =>
    have la := liL_len ma
    rw [(mt_yes ma).1, (mt_yes ma).2] at LA
    cases mb : modB tb pb with
    | false =>
      rw [(mt_no mb).1, (mt_no mb).2] at LB
      rw [show smB ta tb pa pb = false by unfold smB; rw [mb, Bool.and_false]; rfl, show smC ta tb pa pb = 1 by unfold smC; rw [mb, Bool.and_false]; rfl]
      clear ma mb la
      go_enter Tryz.func17, Tryz.ntmps17
      go_upto_region 1 with fail
      rw [← hV]
      clear hV
      go_wp2_with fail
      refine (LA.out V BV.out).mono ?_
      rintro e w1 ⟨v1, rfl, -, hb1⟩
      have B1 := hideIt (below_trans BV.out hb1 BV.out.size)
      obtain ⟨y0, y1, -⟩ := two_cells ((hb1.block (w.heap.size + 1) zB).trans XB.out)
      clear hb1 x0 x1 LA
      go_upto_region 4 with fail
      go_wp2_with fail
      refine (LB.out w1 B1.out).mono ?_
      rintro e w2 ⟨v2, rfl, -, hb2⟩
      have B2 := hideIt (below_trans B1.out hb2 B1.out.size)
      clear hb2 y0 y1 LB
      go_wp2
      go_ret2
      exact ⟨rfl, B2.out⟩
    | true =>
      rw [(mt_yes mb).1, (mt_yes mb).2] at LB
      rw [show smB ta tb pa pb = decide (liL ta pa = liL tb pb) by unfold smB; rw [ma, mb]; rfl, show smC ta tb pa pb = 0 by unfold smC; rw [ma, mb]; rfl]
      clear ma mb
      have LQ := hideIt (fun v1 v2 w1 h1 h2 => equalT_any v1 v2 (liL ta pa) (liL tb pb) w1 h1 h2 (by omega))
      generalize decide (liL ta pa = liL tb pb) = ans at *
      go_enter Tryz.func17, Tryz.ntmps17
      go_upto_region 1 with fail
      rw [← hV]
      clear hV
      go_wp2_with fail
      refine (LA.out V BV.out).mono ?_
      rintro e w1 ⟨v1, rfl, hr1, hb1⟩
      have B1 := hideIt (below_trans BV.out hb1 BV.out.size)
      have RP1 : Hid (RdT w1 v1 (liL ta pa)) := hr1.rd
      obtain ⟨y0, y1, -⟩ := two_cells ((hb1.block (w.heap.size + 1) zB).trans XB.out)
      clear hb1 hr1 x0 x1 LA XA XB
      go_upto_region 4 with fail
      go_wp2_with fail
      refine (LB.out w1 B1.out).mono ?_
      rintro e w2 ⟨v2, rfl, hr2, hb2⟩
      have B2 := hideIt (below_trans B1.out hb2 B1.out.size)
      have RP2 : Hid (RdT w2 v1 (liL ta pa)) := Rd.below RP1.out hb2
      have RR2 : Hid (RdT w2 v2 (liL tb pb)) := hr2.rd
      clear hb2 hr2 y0 y1 LB B1 RP1
      go_upto_region 7 with fail
      go_wp2_with fail
      refine (LQ.out _ _ w2 RP2.out RR2.out).mono ?_
      rintro e w3 ⟨rfl, hb3⟩
      have B3 := hideIt (below_trans B2.out hb3 B2.out.size)
      clear hb3 LQ RP2 RR2
      go_wp2
      go_ret2
      exact ⟨rfl, B3.out⟩
end Go.Proofs.YtmeiionabonhnaaGreatDoor
