/- Whether two models tell the same lines: by the model. -/
import Derived.Test.YtmeiionabonhnaaGreatDoorTqC
namespace Go.Proofs.YtmeiionabonhnaaGreatDoor
open Go.RowKit
def liL (ts : List Th) (ps : List Den) : List ByteArray := (pthN (imgM ts) ps 16 0 ⟨#[]⟩).map (lnT ts ps)
theorem liL_len {ts : List Th} {ps : List Den} (hm : modB ts ps = true) : (liL ts ps).length ≤ 24 := by
  have hi : imgB (imgM ts) ps = true := by
    cases q : imgB (imgM ts) ps with
    | true => rfl
    | false => rw [mod_not q] at hm; cases hm
  unfold liL
  rw [List.length_map]
  exact pthN_len hi 16 0 0 ⟨#[]⟩ rfl
set_option maxRecDepth 100000 in
set_option maxHeartbeats 4000000 in
theorem l12Same_any (va vb : Value) (ta tb : List Th) (pa pb : List Den) (w : World) (ha : RdMd w va ta pa) (hb : RdMd w vb tb pb) (hna : ta.length ≤ 1048576) (hnb : tb.length ≤ 1048576) (hma : modB ta pa = true) (hmb : modB tb pb = true) :
    Calls Tryz.prog 42 #[va, vb] w fun e w' => e = .returned (.bool (decide (liL ta pa = liL tb pb))) ∧ Below w.heap.size w w' := by
  have LA := hideIt (fun w1 (h1 : Below w.heap.size w w1) => l12Text_any va ta pa w1 (ha.below h1) hna hma)
  have LB := hideIt (fun w1 (h1 : Below w.heap.size w w1) => l12Text_any vb tb pb w1 (hb.below h1) hnb hmb)
  obtain ⟨aA, cA, dA, eA, rfl⟩ := ha.form
  obtain ⟨aB, cB, dB, eB, rfl⟩ := hb.form
  have PL := liL_len hma
  clear ha hb hna hnb hma hmb
  rw [show (pthN (imgM ta) pa 16 0 ⟨#[]⟩).map (lnT ta pa) = liL ta pa from rfl] at LA
  rw [show (pthN (imgM tb) pb 16 0 ⟨#[]⟩).map (lnT tb pb) = liL tb pb from rfl] at LB
  generalize liL ta pa = P at *
  generalize liL tb pb = R at *
  obtain ⟨ans, ea⟩ : ∃ ans, ans = decide (P = R) := ⟨_, rfl⟩
  rw [← ea]
  have EA := hideIt ea
  clear ea
  obtain ⟨V, hV⟩ : ∃ V, V = (w.alloc (.cells #[.slice aA ta.length cA, .slice dA pa.length eA] 33)).alloc (.cells #[.slice aB tb.length cB, .slice dB pb.length eB] 33) := ⟨_, rfl⟩
  have BV : Hid (Below w.heap.size w V) := by rw [hV]; exact ((Below.refl _ _).alloc (Nat.le_refl _) _).alloc (by simp) _
  have XA : Hid (V.heap[w.heap.size]? = some (.cells #[.slice aA ta.length cA, .slice dA pa.length eA] 33 (0, 0))) := by rw [hV]; exact at_old (at_new rfl)
  have XB : Hid (V.heap[w.heap.size + 1]? = some (.cells #[.slice aB tb.length cB, .slice dB pb.length eB] 33 (0, 0))) := by
    rw [hV]
    have := at_new (w := w.alloc (.cells #[.slice aA ta.length cA, .slice dA pa.length eA] 33)) (o := .cells #[.slice aB tb.length cB, .slice dB pb.length eB] 33) rfl
    rw [World.size_alloc] at this
    exact this
  have zB : w.heap.size + 1 < V.heap.size := (Array.getElem?_eq_some_iff.1 XB.out).1
  go_enter Tryz.func42, Tryz.ntmps42
  go_upto_region 1 with fail
  rw [← hV]
  clear hV
  obtain ⟨x0, x1, -⟩ := two_cells XA.out
  go_wp2_with fail
  refine (LA.out V BV.out).mono ?_
  rintro e w1 ⟨v1, rfl, hr1, hb1⟩
  have B1 := hideIt (below_trans BV.out hb1 BV.out.size)
  have XB1 := hideIt ((hb1.block (w.heap.size + 1) zB).trans XB.out)
  have RP1 : Hid (RdT w1 v1 P) := hr1.rd
  clear hr1 hb1 x0 x1 XA XB LA BV zB
  obtain ⟨aP, cP, rfl, -, -⟩ := RP1.out.shape
  obtain ⟨x0, x1, -⟩ := two_cells XB1.out
  go_wp2_with fail
  refine (LB.out w1 B1.out).mono ?_
  rintro e w2 ⟨v2, rfl, hr2, hb2⟩
  have B2 := hideIt (below_trans B1.out hb2 B1.out.size)
  have RP2 : Hid (RdT w2 (.slice aP P.length cP) P) := Rd.below RP1.out hb2
  have RR2 : Hid (RdT w2 v2 R) := hr2.rd
  clear hr2 hb2 x0 x1 XB1 RP1 LB B1
  obtain ⟨aP', cP', eq, -, hcP⟩ := RP2.out.shape
  cases eq
  obtain ⟨aR, cR, rfl, -, hcR⟩ := RR2.out.shape
  have HP := hideIt hcP
  have HR := hideIt hcR
  clear hcP hcR RP2 RR2
  by_cases c : P.length = R.length
  rotate_left
  · have c1 : ¬ (P.length : Int) = (R.length : Int) := by omega
    have c2 : ((P.length : Int) == (R.length : Int)) = false := beq_eq_false_iff_ne.2 c1
    obtain rfl : ans = false := EA.out.trans (decide_eq_false (show ¬ P = R from fun e => c (by rw [e])))
    clear c HP HR EA
    go_wp2
    go_ret
    exact ⟨rfl, B2.out⟩
  have c1 : (P.length : Int) = (R.length : Int) := by omega
  have c2 : ((P.length : Int) == (R.length : Int)) = true := beq_iff_eq.2 c1
  have CL := hideIt c
  clear c
  have YES : Hid ((∀ j (h : j < P.length) (h' : j < R.length), P[j] = R[j]) → ans = true) := fun h => EA.out.trans (decide_eq_true (List.ext_getElem CL.out h))
  have NO : Hid (∀ j (h : j < P.length) (h' : j < R.length), P[j] ≠ R[j] → ans = false) := fun j h h' n => EA.out.trans (decide_eq_false (fun e => n (by subst e; rfl)))
  clear EA
  go_upto_region 5 with fail
  clear c1 c2
  go_wp2_with fail
  go_loopg [7] P.length (fun g i wr => ∃ k : Nat, k + g = P.length ∧ i = .int .i64 k ∧ Hid (Below w2.heap.size w2 wr) ∧ Hid (∀ j (h : j < P.length) (h' : j < R.length), j < k → P[j] = R[j]))
  case atStart => exact ⟨0, by omega, rfl, Below.refl _ _, fun j h h' q => absurd q (by omega)⟩
  case round =>
    obtain ⟨k, hk, rfl, BQ, H⟩ := hrel
    have BW := hideIt (below_trans B2.out BQ.out B2.out.size)
    have k0 : (0 : Int) ≤ (k : Int) := by omega
    by_cases hlt : k < P.length
    · have hlr : k < R.length := by have := CL.out; omega
      have k1 : (k : Int) < (P.length : Int) := by omega
      have k2 : (k : Int) < (R.length : Int) := by omega
      obtain ⟨bP, oP, rfl, lP, hcP⟩ := HP.out (by omega)
      obtain ⟨bR, oR, rfl, lR, hcR⟩ := HR.out (by omega)
      have d0 := (BQ.out.cell (p := ⟨bP, oP + k, none⟩) lP).trans (hcP k hlt)
      have d1 := (BQ.out.cell (p := ⟨bR, oR + k, none⟩) lR).trans (hcR k hlr)
      by_cases c : P[k] = R[k]
      · have H2 : Hid (∀ j (h : j < P.length) (h' : j < R.length), j < k + 1 → P[j] = R[j]) := fun j h h' q => by
          by_cases e : j = k
          · subst e; exact c
          · exact H.out j h h' (by omega)
        rw [← c] at d1
        have hk2 : Hid ((k + 1) + (P.length - (k + 1)) = P.length) := by unfold Hid; omega
        have hg2 : P.length - (k + 1) < gk := by omega
        clear H YES NO c hcP hcR
        have CL2 : P.length ≤ R.length := by have := CL.out; omega
        clear CL
        generalize P[k] = x at *
        go_upto_region 8 with fail
        go_quiet (fail)
        go_wp2
        go_roundg (P.length - (k + 1))
        case measure => exact hg2
        case rel => exact ⟨k + 1, hk2.out, by go_num, below_drewS BQ.out _, H2.out⟩
      · obtain rfl : ans = false := NO.out k hlt hlr c
        have c3 : (P[k].toList == R[k].toList) = false := by
          rw [beq_eq_false_iff_ne]
          intro e
          exact c (ByteArray.ext (Array.ext' (by rw [← Lib.toList_data, ← Lib.toList_data]; exact e)))
        clear H YES NO hcP hcR CL
        generalize P[k] = x at *
        generalize R[k] = y at *
        go_upto_region 8 with fail
        go_quiet (fail)
        go_wp2
        go_ret
        exact ⟨rfl, below_drewS BW.out _⟩
    · obtain rfl : k = P.length := by omega
      obtain rfl : ans = true := YES.out (fun j h h' => H.out j h h' h)
      clear H YES NO CL HP HR
      go_wp2
      go_ret
      exact ⟨rfl, BW.out⟩
end Go.Proofs.YtmeiionabonhnaaGreatDoor
