/- Plans put together part by part: by the program. -/
import Derived.Test.YtjkdmhdehihcbaaGreatDoorJiG
namespace Go.Proofs.YtjkdmhdehihcbaaGreatDoor
open Go.RowKit
def atsM (S : List Mi) (j : Nat) : List Int := (S.take j).map (·.at_)
def atsA (S : List Mi) : List Int := S.map (·.at_)
theorem atsM_len (S : List Mi) (j : Nat) : (atsM S j).length ≤ j := by simp [atsM]; omega
theorem atsM_succ (S : List Mi) (j : Nat) (h : j < S.length) : atsM S (j + 1) = atsM S j ++ [S[j].at_] := by unfold atsM; rw [List.take_succ_eq_append_getElem h, List.map_append]; rfl
theorem atsM_all (S : List Mi) (j : Nat) (h : S.length ≤ j) : atsM S j = atsA S := by unfold atsM atsA; rw [List.take_of_length_le h]
theorem atsA_len (S : List Mi) : (atsA S).length = S.length := by simp [atsA]
def segM (S : List Mi) : List Mi := S ++ flushL (atsA S)
def sureL : List (List Mi) → Nat → List Mi
  | [], _ => []
  | _ :: _, 0 => []
  | P :: Ps, k + 1 => segM P ++ sureL Ps k
theorem sureL_zero (Ps : List (List Mi)) : sureL Ps 0 = [] := by cases Ps <;> rfl
theorem sureL_succ : ∀ (Ps : List (List Mi)) (k : Nat) (h : k < Ps.length), sureL Ps (k + 1) = sureL Ps k ++ Ps[k] ++ flushL (atsA Ps[k])
  | [], k, h => absurd h (by simp)
  | P :: Ps, 0, h => by simp [sureL, sureL_zero, segM]
  | P :: Ps, k + 1, h => by
      have := sureL_succ Ps k (by simpa using h)
      simp only [sureL, List.getElem_cons_succ]
      rw [this]
      simp
def PartOK (S : List Mi) : Prop := S.length ≤ 50 ∧ ∀ k (h : k < S.length), 0 ≤ S[k].at_ ∧ S[k].at_ < 336
theorem part_fp {S : List Mi} (h : PartOK S) : flC (atsA S) = 0 ∧ fpL (atsA S) = flushL (atsA S) := by
  have hl : (atsA S).length = S.length := atsA_len S
  rcases fp_cases (atsA S) with ⟨c, _⟩ | ⟨_, c, _⟩ | ⟨_, _, c, _⟩ | ⟨_, _, _, c⟩
  · have := h.1; omega
  · have := h.1; omega
  · have : allP (atsA S) = true := decide_eq_true (fun k hk => by simp only [atsA, List.getElem_map]; exact h.2 k (by omega))
    rw [this] at c; cases c
  · exact c
theorem sureL_len : ∀ (Ps : List (List Mi)) (k : Nat), (∀ P ∈ Ps, P.length ≤ 50) → (sureL Ps k).length ≤ 102 * k
  | [], k, _ => by simp [sureL]
  | _ :: _, 0, _ => by simp [sureL]
  | P :: Ps, k + 1, h => by
      have h1 := sureL_len Ps k (fun Q hQ => h Q (List.mem_cons_of_mem _ hQ))
      have h2 := h P List.mem_cons_self
      have h3 := flushL_len (atsA P)
      simp only [sureL, segM, List.length_append]
      rw [atsA_len] at h3
      omega
theorem rd_grown {a b : World} {size : Nat} {v r : Value} {n : Nat} {xs : List Value} (h : Rd a size v n xs) (hg : a.grownBy b r.ownBlock) (hne : ∀ q, v.ownBlock = some q → r.ownBlock = some q → False) : Rd b size v n xs :=
  h.same hg.size (fun q hq e => hg.block q hq (fun e' => hne q e e'.symm))
set_option maxRecDepth 100000 in
set_option maxHeartbeats 8000000 in
theorem surePlan_any (b o cap : Nat) (Ps : List (List Mi)) (w : World) (hb : b < w.heap.size) (hn : Ps.length ≤ 1000)
    (hP : ∀ k (h : k < Ps.length), ∃ a c, w.cell? ⟨b, o + k, none⟩ = some (.slice a Ps[k].length c) ∧ RdM w (.slice a Ps[k].length c) Ps[k]) (hok : ∀ k (h : k < Ps.length), PartOK Ps[k]) :
    Calls Tryz.prog 74 #[.slice (some ⟨b, o, none⟩) Ps.length cap] w fun e w' => ∃ v', e = .returned v' ∧ Row w' 41 3 w.heap.size w'.heap.size v' (sureL Ps Ps.length).length (mis (sureL Ps Ps.length)) ∧ Below w.heap.size w w' := by
  have HP := hideIt hP
  have OK := hideIt hok
  have LE := hideIt (fun k => sureL_len Ps k (fun P hP => by obtain ⟨i, hi, rfl⟩ := List.getElem_of_mem hP; exact (hok i hi).1))
  clear hP hok
  go_enter Tryz.func74, Tryz.ntmps74
  go_wp2
  go_loopw [3, 5, 6, 8, 9, 10, 13] (fun vL _ _ _ _ _ i wr => ∃ k : Nat, k ≤ Ps.length ∧ i = .int .i64 k ∧ Hid (wr.ownsRow w.heap.size 41 3 vL (sureL Ps k).length (mis (sureL Ps k)) ∧ Below w.heap.size w wr) ∧ w.heap.size ≤ wr.heap.size) (fun _ _ _ _ _ _ i _ => Ps.length - (intOf i).toNat)
  case atStart => exact ⟨0, by omega, rfl, ⟨by rw [sureL_zero]; exact World.ownsRow_nil _ _ _ _, Below.refl _ _⟩, Nat.le_refl _⟩
  case round =>
    obtain ⟨k, hk, rfl, I, hz⟩ := hrel
    by_cases hlt : k < Ps.length
    · obtain ⟨aS, cS, hcell, hrd⟩ := HP.out k hlt
      have d0 := (I.out.2.cell (p := ⟨b, o + k, none⟩) hb).trans hcell
      have RS := hideIt hrd
      have PO := hideIt (OK.out k hlt)
      have NX := hideIt (sureL_succ Ps k hlt)
      have hle := LE.out k
      have hsl : Ps[k].length ≤ 50 := PO.out.1
      have k0 : (0 : Int) ≤ (k : Int) := by omega
      have k1 : (k : Int) < (Ps.length : Int) := by omega
      obtain ⟨aS', cS', e', -, hcS⟩ := hrd.shape
      cases e'
      have CS := hideIt hcS
      clear hcell hrd hcS
      generalize Ps[k] = S at *
      have J0 : Hid (PlI w wr u3 (.slice none 0 0) (sureL Ps k) (atsM S 0)) := ⟨I.out.1, World.ownsRow_nil _ _ _ _, I.out.2, hz⟩
      go_wp2
      go_loopw [6, 8, 19] (fun vP _ i wq => ∃ j : Nat, j ≤ S.length ∧ i = .int .i64 j ∧ Hid (PlI w wq u3 vP (sureL Ps k) (atsM S j))) (fun _ _ i _ => S.length - (intOf i).toNat)
      case atStart => exact ⟨0, by omega, rfl, J0⟩
      case round =>
        obtain ⟨j, hj, rfl, J⟩ := hrel
        clear J0
        have hzq := J.out.z
        have hpl := atsM_len S j
        by_cases hlj : j < S.length
        · obtain ⟨bS, oS, rfl, hbS, hcS⟩ := CS.out (by omega)
          obtain ⟨g0, g1, g2⟩ := hcS j hlj
          have e0 := (J.out.b.cell (p := ⟨bS, oS + j * 3, none⟩) hbS).trans g0
          have e1 := (J.out.b.cell (p := ⟨bS, oS + j * 3 + 1, none⟩) hbS).trans g1
          have e2 := (J.out.b.cell (p := ⟨bS, oS + j * 3 + 2, none⟩) hbS).trans g2
          have TN := hideIt (atsM_succ S j hlj)
          have j0 : (0 : Int) ≤ (j : Int) := by omega
          have j1 : (j : Int) < (S.length : Int) := by omega
          clear g0 g1 g2 hcS
          generalize S[j].kind = mk at *
          generalize S[j].at_ = ma at *
          generalize S[j].val = mv at *
          have J1 := hideIt (J.out.below ((Below.refl wr.heap.size wr).alloc (Nat.le_refl _) (.cells #[.int .i64 mk, .int .i64 ma, .int .i64 mv] 41)))
          have J2 := hideIt (J1.out.below ((Below.refl _ _).alloc (Nat.le_refl _) (.cells #[.int .i64 ma] 3)))
          have RD := hideIt (rd_oneJ (wr.alloc (.cells #[.int .i64 mk, .int .i64 ma, .int .i64 mv] 41)) ma)
          have RD' : RdI ((wr.alloc (.cells #[.int .i64 mk, .int .i64 ma, .int .i64 mv] 41)).alloc (.cells #[.int .i64 ma] 3)) (.slice (some ⟨wr.heap.size + 1, 0, none⟩) 1 1) [ma] := by simpa using RD.out
          have RD' := hideIt RD'
          clear RD J1
          go_wp2_with (at_builtin; refine wpList_append_rd _ rfl (.tmp 23) (.tmp 26) 43 rfl w.heap.size 3 (.int .i64 0) 1 8 Tryz.underlying43 info3 rfl (by decide) _ _ _ rfl J2.out.p _ 1 _ rfl RD'.out (ints_one _) (by simp [maxLen]; omega) (by omega) (by simp; omega) ?_)
          intro vN wN hownN hgrN
          have G := hideIt (J2.out.growP [ma] hownN hgrN)
          clear hownN hgrN J2 RD'
          go_wp2
          go_roundw
          case rel => exact ⟨j + 1, by omega, by go_num, by rw [TN.out]; exact G⟩
          case measure => simp [intOf]; omega
        · have ej := atsM_all S j (by omega)
          rw [ej] at J
          have FP := hideIt (part_fp PO.out)
          have hfl := flushL_len (atsA S)
          have hml : (atsA S).length ≤ 50 := by rw [atsA_len]; exact hsl
          obtain ⟨aP, cP, hvP⟩ := RdI.form (own_block J.out.p).rd rfl
          subst hvP
          have RSr := hideIt (Rd.below RS.out J.out.b)
          clear ej
          go_wp2_with fail
          refine (implFlushPlan_any _ (atsA S) _ (own_block J.out.p).rd (by omega)).mono ?_
          rw [FP.out.1, FP.out.2]
          rintro e w1 ⟨v1, rfl, hr1, hb1⟩
          have J1 := hideIt (J.out.below hb1)
          have R1 := hideIt hr1
          have RS1 := hideIt (Rd.below RSr.out hb1)
          obtain ⟨a1, c1, rfl⟩ := RdM.form hr1.rd rfl
          have hz1 : wr.heap.size ≤ w1.heap.size := hb1.size
          clear hr1 hb1
          go_wp2_with (at_builtin; refine wpList_append_rd _ rfl (.tmp 34) (.tmp 35) 30 rfl w.heap.size 41 (.agg #[.int .i64 0, .int .i64 0, .int .i64 0]) 3 24 Tryz.underlying30 infoMic rfl (by decide) _ (sureL Ps k).length (mis (sureL Ps k)) rfl J1.out.l _ S.length (mis S) rfl RS1.out (mis_one _) (by simp [maxLen]; omega) (by omega) (by omega) ?_)
          intro vA wA hownA hgrA
          have JA := hideIt (J1.out.growL S hownA hgrA)
          have RA := hideIt (rd_grown R1.out.rd hgrA (fun q e1 e2 => by have h1 := (R1.out.1.lt q e1).1; have h2 := (own_block J.out.l).2 q e2; omega))
          obtain ⟨aA, cA, hvA⟩ := RdM.form (own_block JA.out.l).rd (n := (sureL Ps k).length + S.length) (by simp)
          subst hvA
          have OA : Hid (wA.ownsRow w.heap.size 41 3 (.slice aA ((sureL Ps k).length + S.length) cA) ((sureL Ps k).length + S.length) (mis (sureL Ps k ++ S))) := by have := JA.out.l; rw [List.length_append] at this; exact this
          clear hownA hgrA
          go_wp2_with (at_builtin; refine wpList_append_rd _ rfl (.tmp 37) (.tmp 38) 30 rfl w.heap.size 41 (.agg #[.int .i64 0, .int .i64 0, .int .i64 0]) 3 24 Tryz.underlying30 infoMic rfl (by decide) _ ((sureL Ps k).length + S.length) (mis (sureL Ps k ++ S)) rfl OA.out _ (flushL (atsA S)).length (mis (flushL (atsA S))) rfl RA.out (mis_one _) (by simp [maxLen]; omega) (by omega) (by have := JA.out.z; omega) ?_)
          intro vB wB hownB hgrB
          have JB := hideIt (JA.out.growL (flushL (atsA S)) (by rw [List.length_append]; exact hownB) hgrB)
          clear hownB hgrB
          go_wp2
          go_roundw
          case rel => exact ⟨k + 1, by omega, by go_num, ⟨by rw [NX.out]; exact JB.out.l, JB.out.b⟩, JB.out.z⟩
          case measure => simp [intOf]; omega
    · obtain rfl : k = Ps.length := by omega
      obtain ⟨aL, cL, hvL⟩ := RdM.form (own_block I.out.1).rd rfl
      subst hvL
      go_wp2
      go_ret
      exact ⟨_, rfl, own_block I.out.1, I.out.2⟩
end Go.Proofs.YtjkdmhdehihcbaaGreatDoor
