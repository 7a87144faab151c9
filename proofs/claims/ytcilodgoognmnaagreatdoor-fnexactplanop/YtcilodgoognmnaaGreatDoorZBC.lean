/- Several texts laid together: JiH, JiI. -/
import Derived.Test.YtcilodgoognmnaaGreatDoorZBB
import Derived.Test.YtcilodgoognmnaaGreatDoorZBA
namespace Go.Proofs.YtcilodgoognmnaaGreatDoor
open Go.RowKit
def atsM (S : List Mi) (j : Nat) : List Int := (S.take j).map (·.at_)
def znr (S : List Mi) : List Int := S.map (·.at_)
theorem atsM_len (S : List Mi) (j : Nat) : (atsM S j).length ≤ j := by simp [atsM]; omega
theorem atsM_succ (S : List Mi) (j : Nat) (h : j < S.length) : atsM S (j + 1) = atsM S j ++ [S[j].at_] := by unfold atsM; rw [List.take_succ_eq_append_getElem h, List.map_append]; rfl
theorem atsM_all (S : List Mi) (j : Nat) (h : S.length ≤ j) : atsM S j = znr S := by unfold atsM znr; rw [List.take_of_length_le h]
theorem zsl (S : List Mi) : (znr S).length = S.length := by simp [znr]
def segM (S : List Mi) : List Mi := S ++ zbe (znr S)
def zcw : List (List Mi) → Nat → List Mi
 | [], _ => []
 | _ :: _, 0 => []
 | P :: Ps, k + 1 => segM P ++ zcw Ps k
theorem zrg (Ps : List (List Mi)) : zcw Ps 0 = [] := by cases Ps <;> rfl
theorem zrk : ∀ (Ps : List (List Mi)) (k : Nat) (h : k < Ps.length), zcw Ps (k + 1) = zcw Ps k ++ Ps[k] ++ zbe (znr Ps[k])
 | [], k, h => absurd h (by simp)
 | P :: Ps, 0, h => by simp [zcw, zrg, segM]
 | P :: Ps, k + 1, h => by
   have := zrk Ps k (by simpa using h)
   simp only [zcw, List.getElem_cons_succ]
   rw [this]
   simp
def zka (S : List Mi) : Prop := S.length ≤ 50 ∧ ∀ k (h : k < S.length), 0 ≤ S[k].at_ ∧ S[k].at_ < 336
theorem part_fp {S : List Mi} (h : zka S) : flC (znr S) = 0 ∧ fpL (znr S) = zbe (znr S) := by
 have hl : (znr S).length = S.length := zsl S
 rcases fp_cases (znr S) with ⟨c, _⟩ | ⟨_, c, _⟩ | ⟨_, _, c, _⟩ | ⟨_, _, _, c⟩
 ·have := h.1; omega
 ·have := h.1; omega
 ·have : allP (znr S) = true := decide_eq_true (fun k hk => by simp only [znr, List.getElem_map]; exact h.2 k (by omega))
  rw [this] at c; cases c
 ·exact c
theorem zuy : ∀ (Ps : List (List Mi)) (k : Nat), (∀ P ∈ Ps, P.length ≤ 50) → (zcw Ps k).length ≤ 102 * k
 | [], k, _ => by simp [zcw]
 | _ :: _, 0, _ => by simp [zcw]
 | P :: Ps, k + 1, h => by
   have h1 := zuy Ps k (fun Q hQ => h Q (List.mem_cons_of_mem _ hQ))
   have h2 := h P List.mem_cons_self
   have h3 := zbl (znr P)
   simp only [zcw, segM, List.length_append]
   rw [zsl] at h3
   omega
theorem rd_grown {a b : World} {size : Nat} {v r : Value} {n : Nat} {xs : List Value} (h : Rd a size v n xs) (hg : a.grownBy b r.ownBlock) (hne : ∀ q, v.ownBlock = some q → r.ownBlock = some q → False) : Rd b size v n xs :=
 h.same hg.size (fun q hq e => hg.block q hq (fun e' => hne q e e'.symm))
set_option maxRecDepth 100000 in
set_option maxHeartbeats 8000000 in
theorem zhs (b o cap : Nat) (Ps : List (List Mi)) (w : World) (hb : b < w.heap.size) (hn : Ps.length ≤ 1000)
  (hP : ∀ k (h : k < Ps.length), ∃ a c, w.cell? ⟨b, o + k, none⟩ = some (.slice a Ps[k].length c) ∧ RdM w (.slice a Ps[k].length c) Ps[k]) (hok : ∀ k (h : k < Ps.length), zka Ps[k]) :
  Calls Tryz.prog 121 #[.slice (some ⟨b, o, none⟩) Ps.length cap] w fun e w' => ∃ v', e = .returned v' ∧ Row w' 118 3 w.heap.size w'.heap.size v' (zcw Ps Ps.length).length (mis (zcw Ps Ps.length)) ∧ Below w.heap.size w w' := by
 have HP := zaa hP
 have OK := zaa hok
 have LE := zaa (fun k => zuy Ps k (fun P hP => by obtain ⟨i, hi, rfl⟩ := List.getElem_of_mem hP; exact (hok i hi).1))
 clear hP hok
 go_enter Tryz.func121, Tryz.ntmps121
 go_wp2
 go_loopw [3, 5, 6, 8, 9, 10, 13] (fun vL _ _ _ _ _ i wr => ∃ k : Nat, k ≤ Ps.length ∧ i = .int .i64 k ∧ Hid (wr.ownsRow w.heap.size 118 3 vL (zcw Ps k).length (mis (zcw Ps k)) ∧ Below w.heap.size w wr) ∧ w.heap.size ≤ wr.heap.size) (fun _ _ _ _ _ _ i _ => Ps.length - (intOf i).toNat)
 case atStart => exact ⟨0, by omega, rfl, ⟨by rw [zrg]; exact World.ownsRow_nil _ _ _ _, Below.refl _ _⟩, Nat.le_refl _⟩
 case round =>
  obtain ⟨k, hk, rfl, I, hz⟩ := hrel
  by_cases hlt : k < Ps.length
  ·obtain ⟨aS, cS, hcell, hrd⟩ := HP.out k hlt
   have d0 := (I.out.2.cell (p := ⟨b, o + k, none⟩) hb).trans hcell
   have RS := zaa hrd
   have PO := zaa (OK.out k hlt)
   have NX := zaa (zrk Ps k hlt)
   have hle := LE.out k
   have hsl : Ps[k].length ≤ 50 := PO.out.1
   have k0 : (0 : Int) ≤ (k : Int) := by omega
   have k1 : (k : Int) < (Ps.length : Int) := by omega
   obtain ⟨aS', cS', e', -, hcS⟩ := hrd.shape
   cases e'
   have CS := zaa hcS
   clear hcell hrd hcS
   generalize Ps[k] = S at *
   have J0 : Hid (PlI w wr u3 (.slice none 0 0) (zcw Ps k) (atsM S 0)) := ⟨I.out.1, World.ownsRow_nil _ _ _ _, I.out.2, hz⟩
   go_wp2
   go_loopw [6, 8, 19] (fun vP _ i wq => ∃ j : Nat, j ≤ S.length ∧ i = .int .i64 j ∧ Hid (PlI w wq u3 vP (zcw Ps k) (atsM S j))) (fun _ _ i _ => S.length - (intOf i).toNat)
   case atStart => exact ⟨0, by omega, rfl, J0⟩
   case round =>
    obtain ⟨j, hj, rfl, J⟩ := hrel
    clear J0
    have hzq := J.out.z
    have hpl := atsM_len S j
    by_cases hlj : j < S.length
    ·obtain ⟨bS, oS, rfl, hbS, hcS⟩ := CS.out (by omega)
     obtain ⟨g0, g1, g2⟩ := hcS j hlj
     have e0 := (J.out.b.cell (p := ⟨bS, oS + j * 3, none⟩) hbS).trans g0
     have e1 := (J.out.b.cell (p := ⟨bS, oS + j * 3 + 1, none⟩) hbS).trans g1
     have e2 := (J.out.b.cell (p := ⟨bS, oS + j * 3 + 2, none⟩) hbS).trans g2
     have TN := zaa (atsM_succ S j hlj)
     have j0 : (0 : Int) ≤ (j : Int) := by omega
     have j1 : (j : Int) < (S.length : Int) := by omega
     clear g0 g1 g2 hcS
     generalize S[j].kind = mk at *
     generalize S[j].at_ = ma at *
     generalize S[j].val = mv at *
     have J1 := zaa (J.out.below ((Below.refl wr.heap.size wr).alloc (Nat.le_refl _) (.cells #[.int .i64 mk, .int .i64 ma, .int .i64 mv] 118)))
     have J2 := zaa (J1.out.below ((Below.refl _ _).alloc (Nat.le_refl _) (.cells #[.int .i64 ma] 3)))
     have RD := zaa (zof (wr.alloc (.cells #[.int .i64 mk, .int .i64 ma, .int .i64 mv] 118)) ma)
     have RD' : RdI ((wr.alloc (.cells #[.int .i64 mk, .int .i64 ma, .int .i64 mv] 118)).alloc (.cells #[.int .i64 ma] 3)) (.slice (some ⟨wr.heap.size + 1, 0, none⟩) 1 1) [ma] := by simpa using RD.out
     have RD' := zaa RD'
     clear RD J1
     go_wp2_with (at_builtin; refine zag _ rfl (.tmp 23) (.tmp 26) 22 rfl w.heap.size 3 (.int .i64 0) 1 8 Tryz.underlying22 info3 rfl (by decide) _ _ _ rfl J2.out.p _ 1 _ rfl RD'.out (znh _) (by simp [maxLen]; omega) (by omega) (by simp; omega) ?_)
     intro vN wN hownN hgrN
     have G := zaa (J2.out.growP [ma] hownN hgrN)
     clear hownN hgrN J2 RD'
     go_wp2
     go_roundw
     case rel => exact ⟨j + 1, by omega, by go_num, by rw [TN.out]; exact G⟩
     case measure => simp [intOf]; omega
    ·have ej := atsM_all S j (by omega)
     rw [ej] at J
     have FP := zaa (part_fp PO.out)
     have hfl := zbl (znr S)
     have hml : (znr S).length ≤ 50 := by rw [zsl]; exact hsl
     obtain ⟨aP, cP, hvP⟩ := RdI.form (zad J.out.p).rd rfl
     subst hvP
     have RSr := zaa (Rd.below RS.out J.out.b)
     clear ej
     go_wp2_with fail
     refine (zlw _ (znr S) _ (zad J.out.p).rd (by omega)).mono ?_
     rw [FP.out.1, FP.out.2]
     rintro e w1 ⟨v1, rfl, hr1, hb1⟩
     have J1 := zaa (J.out.below hb1)
     have R1 := zaa hr1
     have RS1 := zaa (Rd.below RSr.out hb1)
     obtain ⟨a1, c1, rfl⟩ := RdM.form hr1.rd rfl
     have hz1 : wr.heap.size ≤ w1.heap.size := hb1.size
     clear hr1 hb1
     go_wp2_with (at_builtin; refine zag _ rfl (.tmp 34) (.tmp 35) 45 rfl w.heap.size 118 (.agg #[.int .i64 0, .int .i64 0, .int .i64 0]) 3 24 Tryz.underlying45 zbn rfl (by decide) _ (zcw Ps k).length (mis (zcw Ps k)) rfl J1.out.l _ S.length (mis S) rfl RS1.out (zck _) (by simp [maxLen]; omega) (by omega) (by omega) ?_)
     intro vA wA hownA hgrA
     have JA := zaa (J1.out.growL S hownA hgrA)
     have RA := zaa (rd_grown R1.out.rd hgrA (fun q e1 e2 => by have h1 := (R1.out.1.lt q e1).1; have h2 := (zad J.out.l).2 q e2; omega))
     obtain ⟨aA, cA, hvA⟩ := RdM.form (zad JA.out.l).rd (n := (zcw Ps k).length + S.length) (by simp)
     subst hvA
     have OA : Hid (wA.ownsRow w.heap.size 118 3 (.slice aA ((zcw Ps k).length + S.length) cA) ((zcw Ps k).length + S.length) (mis (zcw Ps k ++ S))) := by have := JA.out.l; rw [List.length_append] at this; exact this
     clear hownA hgrA
     go_wp2_with (at_builtin; refine zag _ rfl (.tmp 37) (.tmp 38) 45 rfl w.heap.size 118 (.agg #[.int .i64 0, .int .i64 0, .int .i64 0]) 3 24 Tryz.underlying45 zbn rfl (by decide) _ ((zcw Ps k).length + S.length) (mis (zcw Ps k ++ S)) rfl OA.out _ (zbe (znr S)).length (mis (zbe (znr S))) rfl RA.out (zck _) (by simp [maxLen]; omega) (by omega) (by have := JA.out.z; omega) ?_)
     intro vB wB hownB hgrB
     have JB := zaa (JA.out.growL (zbe (znr S)) (by rw [List.length_append]; exact hownB) hgrB)
     clear hownB hgrB
     go_wp2
     go_roundw
     case rel => exact ⟨k + 1, by omega, by go_num, ⟨by rw [NX.out]; exact JB.out.l, JB.out.b⟩, JB.out.z⟩
     case measure => simp [intOf]; omega
  ·obtain rfl : k = Ps.length := by omega
   obtain ⟨aL, cL, hvL⟩ := RdM.form (zad I.out.1).rd rfl
   subst hvL
   go_wp2
   go_ret
   exact ⟨_, rfl, zad I.out.1, I.out.2⟩
end Go.Proofs.YtcilodgoognmnaaGreatDoor

namespace Go.Proofs.YtcilodgoognmnaaGreatDoor
open Go.RowKit
theorem atsA_stM (l : List St) : znr (l.map stM) = l.map (·.at_) := by simp [znr, stM]
theorem zni (l : List St) : segM (l.map stM) = seg l := by unfold segM seg; rw [atsA_stM]
theorem part_of {l : List St} (h1 : l.length ≤ 50) (h2 : ∀ s ∈ l, 0 ≤ s.at_ ∧ s.at_ < 336) : zka (l.map stM) :=
 ⟨by simpa using h1, fun k hk => by
  rw [List.getElem_map]
  exact h2 _ (List.getElem_mem _)⟩
theorem sure_two (A B : List Mi) : zcw [A, B] 2 = segM A ++ segM B := by simp [zcw]
def zjp (us : List Se) : List Mi := if us.length = 0 then [] else seg (jrn 0 (zdx us)) ++ seg (cnt (us.length : Int))
def appL (us : List Se) : List Mi := if us.length = 0 then [] else zjz (zdx us)
theorem plan_parts (us : List Se) : zdd (zdx us) = zjp us ++ appL us := by
 unfold zdd zjp appL
 rw [zbw]
 split <;> simp
theorem note_len (us : List Se) : (zjp us).length ≤ 4 * us.length + 4 := by
 unfold zjp seg
 split
 ·simp
 ·have h1 := zbl ((jrn 0 (zdx us)).map (·.at_))
  have h2 := zbl ((cnt (us.length : Int)).map (·.at_))
  have h3 := zjt (zdx us) 0
  rw [zbw] at h3
  simp only [List.length_append, List.length_map] at *
  have h4 : (cnt (us.length : Int)).length = 1 := rfl
  omega
theorem app_len (us : List Se) : (appL us).length ≤ 2 * us.length + 4 := by
 unfold appL
 split
 ·simp
 ·exact zlc us
theorem cnt_map (n : Int) : (cnt n).map stM = [⟨1, 8, n⟩] := rfl
theorem part_cnt (n : Int) : zka [⟨1, 8, n⟩] := part_of (l := cnt n) (by simp [cnt]) (fun s hs => by rw [List.mem_singleton.1 hs]; exact ⟨by show (0 : Int) ≤ 8; omega, by show (8 : Int) < 336; omega⟩)
theorem part_jl (us : List Se) (hn : us.length ≤ 16) : zka (jlM us us.length) := by
 rw [jlM_all]
 refine part_of (by rw [zjt, zbw]; omega) (fun s hs => ?_)
 have := znu (zdx us) 0 s hs
 rw [zbw] at this
 omega
theorem part_ap (us : List Se) (hn : us.length ≤ 16) (hu : ∀ k (h : k < us.length), 0 ≤ us[k].at_ ∧ us[k].at_ < 336) : zka (apM us us.length) := by
 rw [apM_all]
 refine part_of (by rw [zbw]; omega) (fun s hs => ?_)
 obtain ⟨q, hq, rfl⟩ := List.mem_map.1 (show s ∈ us.map (fun s => up s.at_ s.val) from hs)
 obtain ⟨i, hi, rfl⟩ := List.getElem_of_mem hq
 exact hu i hi
theorem zrc {w : World} {x y : Value} {t : TypeId} : (w.alloc (.cells #[x, y] t)).cell? ⟨w.heap.size, 0, none⟩ = some x ∧ (w.alloc (.cells #[x, y] t)).cell? ⟨w.heap.size, 1, none⟩ = some y := by
 obtain ⟨a, b, -, -⟩ := zac (zah (w := w) (o := .cells #[x, y] t) rfl)
 exact ⟨a, b⟩
theorem zux {w : World} {x y : Value} {t : TypeId} {A B : List Mi} {nA nB : Nat} {a1 a2 : Option Addr} {c1 c2 : Nat} (hx : x = .slice a1 nA c1) (hy : y = .slice a2 nB c2) (hA : A.length = nA) (hB : B.length = nB) (rA : RdM w x A) (rB : RdM w y B) :
  ∀ k (h : k < [A, B].length), ∃ a c, (w.alloc (.cells #[x, y] t)).cell? ⟨w.heap.size, 0 + k, none⟩ = some (.slice a [A, B][k].length c) ∧ RdM (w.alloc (.cells #[x, y] t)) (.slice a [A, B][k].length c) [A, B][k] := by
 subst hA hB hx hy
 have hb : Below w.heap.size w (w.alloc (.cells #[.slice a1 A.length c1, .slice a2 B.length c2] t)) := (Below.refl _ _).alloc (Nat.le_refl _) _
 intro k hk
 rcases (show k = 0 ∨ k = 1 by simp at hk; omega) with rfl | rfl
 ·exact ⟨a1, c1, zrc.1, Rd.below rA hb⟩
 ·exact ⟨a2, c2, zrc.2, Rd.below rB hb⟩
theorem parts_ok {A B : List Mi} (hA : zka A) (hB : zka B) : ∀ k (h : k < [A, B].length), zka [A, B][k] := by
 intro k hk
 rcases (show k = 0 ∨ k = 1 by simp at hk; omega) with rfl | rfl
 ·exact hA
 ·exact hB
set_option maxRecDepth 100000 in
set_option maxHeartbeats 4000000 in
theorem zvk (v : Value) (us : List Se) (w : World) (h : RdE w v us) (hn : us.length ≤ 16) :
  Calls Tryz.prog 117 #[v] w fun e w' => ∃ v', e = .returned v' ∧ Row w' 118 3 w.heap.size w'.heap.size v' (zjp us).length (mis (zjp us)) ∧ Below w.heap.size w w' := by
 have HR := zaa h
 obtain ⟨aU, cU, rfl, _, _⟩ := h.shape
 clear h
 by_cases h0 : us.length = 0
 ·have E := zaa (show zjp us = [] from if_pos h0)
  have h0' : ((us.length : Int) == 0) = true := by rw [h0]; rfl
  rw [E.out]
  clear h0
  go_enter Tryz.func117, Tryz.ntmps117
  go_wp2
  go_ret
  exact ⟨_, rfl, Row.nil _ _ _ _ _, Below.refl _ _⟩
 ·have E := zaa (show zjp us = zcw [jlM us us.length, [⟨1, 8, (us.length : Int)⟩]] 2 by rw [sure_two, jlM_all, ← cnt_map, zni, zni]; exact if_neg h0)
  have h0' : ((us.length : Int) == 0) = false := by rw [beq_eq_false_iff_ne]; omega
  have PK := zaa (parts_ok (part_jl us hn) (part_cnt (us.length : Int)))
  rw [E.out]
  clear h0 E
  go_enter Tryz.func117, Tryz.ntmps117
  go_wp2_with fail
  refine (storesOf_J _ us _ HR.out (by omega)).mono ?_
  rintro e w1 ⟨v1, rfl, hr1, hb1⟩
  obtain ⟨a1, c1, e1⟩ := RdM.form hr1.rd (n := (jlM us us.length).length) rfl
  generalize hA : jlM us us.length = A at *
  have R1 := zaa hr1.rd
  have B1 := zaa hb1
  clear hr1 hb1
  go_wp2_with fail
  refine (zix (us.length : Int) _).mono ?_
  rintro e w2 ⟨v2, rfl, hr2, hb2⟩
  obtain ⟨a2, c2, e2⟩ := RdM.form hr2 (n := 1) rfl
  have R2 := zaa hr2
  have R1' := zaa (Rd.below R1.out hb2)
  have B2 := zaa (zab B1.out hb2 B1.out.size)
  clear hr2 hb2 R1
  generalize hB : ([⟨1, 8, (us.length : Int)⟩] : List Mi) = B at *
  have hBl : B.length = 1 := by rw [← hB]; rfl
  have PT := zaa (zux (t := 45) e1 e2 rfl hBl R1'.out R2.out)
  subst e1 e2
  go_wp2_with fail
  refine (zhs w2.heap.size 0 2 [A, B] _ (by simp) (by simp) PT.out PK.out).mono ?_
  rintro e w3 ⟨v3, rfl, hr3, hb3⟩
  obtain ⟨a3, c3, e3⟩ := RdM.form hr3.rd (n := (zcw [A, B] 2).length) rfl
  subst e3
  have hz2 := B2.out.size
  have hz3 := hb3.size
  have R3 := zaa hr3
  have B3 := zaa (zab (B2.out.alloc hz2 _) hb3 (by simp; omega))
  clear hr3 hb3
  go_wp2
  go_ret
  subst hA hB
  refine ⟨_, rfl, ?_, B3.out⟩
  refine R3.out.wide ?_ (Nat.le_refl _)
  simp
  omega
set_option maxRecDepth 100000 in
set_option maxHeartbeats 4000000 in
theorem zsr (v : Value) (us : List Se) (w : World) (h : RdE w v us) (hn : us.length ≤ 16) (hu : ∀ k (h : k < us.length), 0 ≤ us[k].at_ ∧ us[k].at_ < 336) :
  Calls Tryz.prog 118 #[v] w fun e w' => ∃ v', e = .returned v' ∧ Row w' 118 3 w.heap.size w'.heap.size v' (appL us).length (mis (appL us)) ∧ Below w.heap.size w w' := by
 have HR := zaa h
 obtain ⟨aU, cU, rfl, _, _⟩ := h.shape
 clear h
 by_cases h0 : us.length = 0
 ·have E := zaa (show appL us = [] from if_pos h0)
  have h0' : ((us.length : Int) == 0) = true := by rw [h0]; rfl
  rw [E.out]
  clear h0 hu
  go_enter Tryz.func118, Tryz.ntmps118
  go_wp2
  go_ret
  exact ⟨_, rfl, Row.nil _ _ _ _ _, Below.refl _ _⟩
 ·have E := zaa (show appL us = zcw [apM us us.length, [⟨1, 8, 0⟩]] 2 by rw [sure_two, apM_all, ← cnt_map, zni, zni]; exact if_neg h0)
  have h0' : ((us.length : Int) == 0) = false := by rw [beq_eq_false_iff_ne]; omega
  have PK := zaa (parts_ok (part_ap us hn hu) (part_cnt 0))
  rw [E.out]
  clear h0 E hu
  go_enter Tryz.func118, Tryz.ntmps118
  go_wp2_with fail
  refine (storesOf_P _ us _ HR.out (by omega)).mono ?_
  rintro e w1 ⟨v1, rfl, hr1, hb1⟩
  obtain ⟨a1, c1, e1⟩ := RdM.form hr1.rd (n := (apM us us.length).length) rfl
  generalize hA : apM us us.length = A at *
  have R1 := zaa hr1.rd
  have B1 := zaa hb1
  clear hr1 hb1
  go_wp2_with fail
  refine (zix 0 _).mono ?_
  rintro e w2 ⟨v2, rfl, hr2, hb2⟩
  obtain ⟨a2, c2, e2⟩ := RdM.form hr2 (n := 1) rfl
  have R2 := zaa hr2
  have R1' := zaa (Rd.below R1.out hb2)
  have B2 := zaa (zab B1.out hb2 B1.out.size)
  clear hr2 hb2 R1
  generalize hB : ([⟨1, 8, 0⟩] : List Mi) = B at *
  have hBl : B.length = 1 := by rw [← hB]; rfl
  have PT := zaa (zux (t := 45) e1 e2 rfl hBl R1'.out R2.out)
  subst e1 e2
  go_wp2_with fail
  refine (zhs w2.heap.size 0 2 [A, B] _ (by simp) (by simp) PT.out PK.out).mono ?_
  rintro e w3 ⟨v3, rfl, hr3, hb3⟩
  obtain ⟨a3, c3, e3⟩ := RdM.form hr3.rd (n := (zcw [A, B] 2).length) rfl
  subst e3
  have hz2 := B2.out.size
  have hz3 := hb3.size
  have R3 := zaa hr3
  have B3 := zaa (zab (B2.out.alloc hz2 _) hb3 (by simp; omega))
  clear hr3 hb3
  go_wp2
  go_ret
  subst hA hB
  refine ⟨_, rfl, ?_, B3.out⟩
  refine R3.out.wide ?_ (Nat.le_refl _)
  simp
  omega
set_option maxRecDepth 100000 in
set_option maxHeartbeats 4000000 in
theorem zeu (v : Value) (us : List Se) (w : World) (h : RdE w v us) (hn : us.length ≤ 1048576) :
  Calls Tryz.prog 56 #[v] w fun e w' => ∃ v', e = .returned (.tuple #[v', .int .i64 (jpC us)]) ∧ Row w' 118 3 w.heap.size w'.heap.size v' (jpL us).length (mis (jpL us)) ∧ Below w.heap.size w w' := by
 have HR := zaa h
 obtain ⟨aU, cU, rfl, _, _⟩ := h.shape
 clear h
 rcases zne us with ⟨c1, e1, e2⟩ | ⟨c1, c2, e1, e2⟩ | ⟨c1, c2, c3, e1, e2⟩ | ⟨c1, c2, c3, e1, e2⟩
 ·rw [e1, e2]
  clear e1 e2
  go_enter Tryz.func56, Tryz.ntmps56
  go_wp2
  go_ret2
  exact ⟨_, rfl, Row.nil _ _ _ _ _, Below.refl _ _⟩
 ·rw [e1, e2]
  clear e1 e2
  go_enter Tryz.func56, Tryz.ntmps56
  go_wp2
  go_ret2
  exact ⟨_, rfl, Row.nil _ _ _ _ _, Below.refl _ _⟩
 ·rw [e1, e2]
  have C3 := zaa ((upsBB_eq us).trans c3)
  clear c3 e1 e2
  go_enter Tryz.func56, Tryz.ntmps56
  go_wp2_with (go_at_call 115; refine (zia _ us _ HR.out (by omega)).mono ?_; rw [C3.out]; rintro e w1 ⟨rfl, hb1⟩)
  go_ret2
  exact ⟨_, rfl, Row.nil _ _ _ _ _, hb1⟩
 ·rw [e1, e2, plan_parts]
  have C3 := zaa ((upsBB_eq us).trans c3)
  have U0 := zaa (fun k (hk : k < us.length) => show 0 ≤ us[k].at_ ∧ us[k].at_ < 336 by have := (of_decide_eq_true c3 : ∀ k (h : k < us.length), (48 ≤ us[k].at_ ∧ us[k].at_ < 336) ∧ 0 ≤ us[k].val ∧ us[k].val < 1099511627776) k hk; omega)
  have hn1 := note_len us
  have hn2 := app_len us
  clear c3 e1 e2
  go_enter Tryz.func56, Tryz.ntmps56
  go_wp2_with fail
  refine (zia _ us _ HR.out (by omega)).mono ?_
  rw [C3.out]
  rintro e w1 ⟨rfl, hb1⟩
  have B1 := zaa hb1
  have hz1 : w.heap.size ≤ w1.heap.size := hb1.size
  clear hb1
  go_wp2_with fail
  refine (zvk _ us _ (Rd.below HR.out B1.out) (by omega)).mono ?_
  rintro e w2 ⟨v2, rfl, hr2, hb2⟩
  obtain ⟨a2, c2, e2⟩ := RdM.form hr2.rd (n := (zjp us).length) rfl
  have R2 := zaa hr2
  have B2 := zaa (zab B1.out hb2 hz1)
  have hz2 : w1.heap.size ≤ w2.heap.size := hb2.size
  clear hr2 hb2
  subst e2
  go_wp2_with fail
  refine (zsr _ us _ (Rd.below HR.out B2.out) (by omega) U0.out).mono ?_
  rintro e w3 ⟨v3, rfl, hr3, hb3⟩
  obtain ⟨a3, c3, e3⟩ := RdM.form hr3.rd (n := (appL us).length) rfl
  have R3 := zaa hr3.rd
  have R2' := zaa ((R2.out.below hb3 (Nat.le_refl _)).wide hz1 (Nat.le_refl _)).1
  have B3 := zaa (zab B2.out hb3 (by omega))
  have hz3 : w2.heap.size ≤ w3.heap.size := hb3.size
  clear hr3 hb3 R2
  subst e3
  go_wp2_with (at_builtin; refine zag _ rfl (.tmp 14) (.tmp 16) 45 rfl w.heap.size 118 (.agg #[.int .i64 0, .int .i64 0, .int .i64 0]) 3 24 Tryz.underlying45 zbn rfl (by decide) _ (zjp us).length (mis (zjp us)) rfl R2'.out _ (appL us).length (mis (appL us)) rfl R3.out (zck _) (by simp [maxLen]; omega) (by omega) (by omega) ?_)
  intro v4 w4 hown4 hgr4
  have O4 : Hid (w4.ownsRow w.heap.size 118 3 v4 ((zjp us).length + (appL us).length) (mis (zjp us ++ appL us))) := by rw [zfn]; exact hown4
  have B4 := zaa (B3.out.grown hgr4 (by omega) (fun q hq => (R2'.out.lt q hq).1))
  obtain ⟨a4, c4, e4⟩ := RdM.form (ps := zjp us ++ appL us) (by unfold RdM; rw [List.length_append]; exact (zad O4.out).rd) (n := (zjp us).length + (appL us).length) (by simp)
  subst e4
  clear hown4 hgr4
  go_wp2
  go_ret2
  refine ⟨_, rfl, ?_, B4.out⟩
  rw [List.length_append]
  exact zad O4.out
end Go.Proofs.YtcilodgoognmnaaGreatDoor
