/- An image that is right: by the program. -/
import Derived.Test.YtbjjdkemappelaaGreatDoorPiK
import Derived.Test.YtbjjdkemappelaaGreatDoorPiL
import Derived.Test.YtbjjdkemappelaaGreatDoorPiN
namespace Go.Proofs.YtbjjdkemappelaaGreatDoor
open Go.RowKit
def pimB (ws : List Ino) (ps : List Den) : Bool := partsB ws ps && (kindAt ws 0 == 2 && (fitsB ws (takenD ps) && (onceD ((takenD ps).map anonD) && (lcB ws (takenD ps) && (dhB ws (takenD ps) && onceB (mapped ws))))))
theorem parts_true {ws : List Ino} {ps : List Den} (h : partsB ws ps = true) : ws.length = 16 ∧ ps.length = 24 ∧ okNs ws = true ∧ okDs ps = true := by
  unfold partsB at h
  simp only [Bool.and_eq_true, decide_eq_true_eq] at h
  exact h
theorem taken_range {ps : List Den} (h : okDs ps = true) : ∀ k (h : k < (takenD ps).length), (0 ≤ (takenD ps)[k].child ∧ (takenD ps)[k].child ≤ 15) ∧ (0 ≤ (takenD ps)[k].dir ∧ (takenD ps)[k].dir ≤ 15) := by
  have h := of_decide_eq_true h
  intro k hk
  obtain ⟨hm, hf⟩ := List.mem_filter.1 (List.getElem_mem hk)
  obtain ⟨i, hi, e⟩ := List.getElem_of_mem hm
  have o := h i hi
  rw [e] at o
  have c := ok_taken o (fun q => by rw [(ok_free o).2 q] at hf; cases hf)
  exact ⟨by omega, c.2.1⟩
set_option maxRecDepth 100000 in
set_option maxHeartbeats 8000000 in
theorem pimOK_any (v : Value) (ws : List Ino) (ps : List Den) (w : World) (h : RdIm w v ws ps) (hw : ws.length ≤ 1048576) (hp : ps.length ≤ 1048576) (hT : TS w) (hE : ED w) (hF : FD w) (hr : ∀ k (h : k < ws.length), ws[k].R) (hs : ∀ k (h : k < ps.length), ps[k].name.size ≤ maxLen) :
    Calls Tryz.prog 74 #[v] w fun e w' => e = .returned (.bool (pimB ws ps)) ∧ Below w.heap.size w w' := by
  have LP := hideIt (fun w1 (hb : Below w.heap.size w w1) => partsOK_any v ws ps w1 (h.below hb) hw hp (hT.below hb) (hE.below hb) (hF.below hb) hr hs)
  obtain ⟨vW, vP, rfl, h1, h2⟩ := h
  have RW := hideIt h1
  have RP := hideIt h2
  obtain ⟨aW, cW, rfl, _, hcW⟩ := h1.shape
  obtain ⟨aP, cP, rfl, _, _⟩ := h2.shape
  have BW := hideIt ((Below.refl w.heap.size w).alloc (Nat.le_refl _) (.cells #[.slice aW ws.length cW, .slice aP ps.length cP] 76))
  have CA : Hid (∀ w', Below (w.alloc (.cells #[.slice aW ws.length cW, .slice aP ps.length cP] 76)).heap.size (w.alloc (.cells #[.slice aW ws.length cW, .slice aP ps.length cP] 76)) w' → w'.cell? ⟨w.heap.size, 0, none⟩ = some (.slice aW ws.length cW) ∧ w'.cell? ⟨w.heap.size, 1, none⟩ = some (.slice aP ps.length cP)) := fun w' hb => by
    have : w'.heap[w.heap.size]? = some (.cells #[.slice aW ws.length cW, .slice aP ps.length cP] 76 (0, 0)) := (hb.block _ (by simp)).trans (at_new rfl)
    exact ⟨(two_cells this).1, (two_cells this).2.1⟩
  obtain ⟨x0, x1⟩ := CA.out _ (Below.refl _ _)
  have F := hideIt hF
  clear h1 h2 hT hE hF hr hs
  cases c1 : partsB ws ps with
  | false =>
    have E := hideIt (show pimB ws ps = false by unfold pimB; rw [c1]; rfl)
    rw [c1] at LP
    clear c1 hcW
    go_enter Tryz.func74, Tryz.ntmps74
    go_wp2_with fail
    refine (LP.out _ BW.out).mono ?_
    rintro e w1 ⟨rfl, hb1⟩
    have B1 := hideIt (below_trans BW.out hb1 BW.out.size)
    clear hb1 x0 x1
    go_wp2
    go_ret
    exact ⟨ret_bool E.out.symm, B1.out⟩
  | true =>
  obtain ⟨l1, l2, o1, o2⟩ := parts_true c1
  have E0 := hideIt (show pimB ws ps = (kindAt ws 0 == 2 && (fitsB ws (takenD ps) && (onceD ((takenD ps).map anonD) && (lcB ws (takenD ps) && (dhB ws (takenD ps) && onceB (mapped ws)))))) by unfold pimB; rw [c1, Bool.true_and])
  rw [c1] at LP
  obtain ⟨bW, oW, rfl, hblW, hcellW⟩ := hcW (by omega)
  have HK := (hcellW 0 (by omega)).1
  rw [show ws[0].kind = kindAt ws 0 from (kindAt_of (i := 0) (by omega)).symm] at HK
  simp only [Nat.zero_mul, Nat.add_zero] at HK
  have KK : Hid (∀ w', Below w.heap.size w w' → w'.cell? ⟨bW, oW, none⟩ = some (.int .i64 (kindAt ws 0))) := fun w' hb => (hb.cell (p := ⟨bW, oW, none⟩) hblW).trans HK
  have TR := hideIt (taken_range o2)
  have tl : (takenD ps).length ≤ 24 := by have := taken_len ps; omega
  have ml : (mapped ws).length ≤ 128 := by have := mapped_len ws; omega
  have len16 : (0 : Int) < (ws.length : Int) := by omega
  have L1 := hideIt l1
  have L2 := hideIt l2
  have LT := hideIt (fun w1 (hb : Below w.heap.size w w1) => takenDirents_any (.slice aP ps.length cP) ps w1 (Rd.below RP.out hb) (by omega) (F.out.below hb))
  have LM := hideIt (fun w1 (hb : Below w.heap.size w w1) => mappedEntries_any (.slice (some ⟨bW, oW, none⟩) ws.length cW) ws w1 (Rd.below RW.out hb) (by omega))
  have LK := hideIt (fun v w1 (hb : Below w.heap.size w w1) h => kindsFit_any (.slice (some ⟨bW, oW, none⟩) ws.length cW) v ws (takenD ps) w1 (Rd.below RW.out hb) h l1 (by omega) TR.out)
  have LC := hideIt (fun v w1 (hb : Below w.heap.size w w1) h => linksCounted_any (.slice (some ⟨bW, oW, none⟩) ws.length cW) v ws (takenD ps) w1 (Rd.below RW.out hb) h l1 (by omega) (fun k hk => (TR.out k hk).1))
  have LH := hideIt (fun v w1 (hb : Below w.heap.size w w1) h => directoriesHang_any (.slice (some ⟨bW, oW, none⟩) ws.length cW) v ws (takenD ps) w1 (Rd.below RW.out hb) h l1 (by omega) TR.out)
  have LO := hideIt (fun v w1 h => namesOnce_any v (takenD ps) w1 h (by omega))
  have LI := hideIt (fun v w1 h => noneTwiceInt_any v (mapped ws) w1 h (by omega))
  clear l1 l2 o1 o2 c1 hcW hcellW HK TR F RP RW
  generalize kindAt ws 0 = k0 at *
  generalize takenD ps = ts at *
  generalize mapped ws = ms at *
  generalize fitsB ws ts = f1 at *
  generalize onceD (ts.map anonD) = f2 at *
  generalize lcB ws ts = f3 at *
  generalize dhB ws ts = f4 at *
  generalize onceB ms = f5 at *
  by_cases c2 : k0 = 2
  case neg =>
    have q : (k0 != 2) = true := by rw [bne_iff_ne]; exact c2
    have E := hideIt (show pimB ws ps = false by rw [E0.out, show (k0 == 2) = false by rw [beq_eq_false_iff_ne]; exact c2]; rfl)
    clear c2
    go_enter Tryz.func74, Tryz.ntmps74
    go_wp2_with fail
    refine (LP.out _ BW.out).mono ?_
    rintro e w1 ⟨rfl, hb1⟩
    have B1 := hideIt (below_trans BW.out hb1 BW.out.size)
    clear x0 x1
    obtain ⟨x0, x1⟩ := CA.out _ hb1
    have kk := KK.out _ B1.out
    clear hb1
    go_wp2
    go_ret
    exact ⟨ret_bool E.out.symm, B1.out⟩
  have q : (k0 != 2) = false := by rw [c2]; rfl
  have E1 := hideIt (show pimB ws ps = (f1 && (f2 && (f3 && (f4 && f5)))) by rw [E0.out, c2]; rfl)
  clear c2 E0
  go_enter Tryz.func74, Tryz.ntmps74
  go_wp2_with fail
  refine (LP.out _ BW.out).mono ?_
  rintro e w1 ⟨rfl, hb1⟩
  have B1 := hideIt (below_trans BW.out hb1 BW.out.size)
  have BA := hideIt hb1
  clear x0 x1 LP
  obtain ⟨x0, x1⟩ := CA.out _ hb1
  have kk := KK.out _ B1.out
  clear hb1
  go_wp2_with fail
  refine (LT.out _ B1.out).mono ?_
  rintro e w2 ⟨v2, rfl, hr2, hb2⟩
  obtain ⟨-, aT, cT, hvT, -⟩ := hr2.rd
  subst hvT
  have hz1 : w.heap.size ≤ w1.heap.size := B1.out.size
  have hz2 : w1.heap.size ≤ w2.heap.size := hb2.size
  have R2 := hideIt hr2.rd
  have B2 := hideIt (below_trans B1.out hb2 hz1)
  have BA2 := hideIt (below_trans BA.out hb2 BA.out.size)
  clear hr2 x0 x1 kk B1 BA KK LT hb2
  obtain ⟨x0, x1⟩ := CA.out _ BA2.out
  go_wp2_with fail
  refine (LK.out _ _ B2.out R2.out).mono ?_
  rintro e w3 ⟨rfl, hb3⟩
  have hz3 : w2.heap.size ≤ w3.heap.size := hb3.size
  have R3 := hideIt (Rd.below R2.out hb3)
  have B3 := hideIt (below_trans B2.out hb3 (by omega))
  have BA3 := hideIt (below_trans BA2.out hb3 (by have := BA2.out.size; omega))
  clear hb3 x0 x1 R2 B2 BA2
  cases f1 with
  | false =>
    go_wp2
    go_ret
    exact ⟨ret_bool (by rw [E1.out]; rfl), B3.out⟩
  | true =>
  go_wp2_with fail
  refine (LO.out _ _ R3.out).mono ?_
  rintro e w4 ⟨rfl, hb4⟩
  have hz4 : w3.heap.size ≤ w4.heap.size := hb4.size
  have R4 := hideIt (Rd.below R3.out hb4)
  have B4 := hideIt (below_trans B3.out hb4 (by omega))
  have BA4 := hideIt (below_trans BA3.out hb4 (by have := BA3.out.size; omega))
  clear hb4 R3 B3 BA3
  cases f2 with
  | false =>
    go_wp2
    go_ret
    exact ⟨ret_bool (by rw [E1.out]; rfl), B4.out⟩
  | true =>
  obtain ⟨x0, x1⟩ := CA.out _ BA4.out
  go_wp2_with fail
  refine (LC.out _ _ B4.out R4.out).mono ?_
  rintro e w5 ⟨rfl, hb5⟩
  have hz5 : w4.heap.size ≤ w5.heap.size := hb5.size
  have R5 := hideIt (Rd.below R4.out hb5)
  have B5 := hideIt (below_trans B4.out hb5 (by omega))
  have BA5 := hideIt (below_trans BA4.out hb5 (by have := BA4.out.size; omega))
  clear hb5 x0 x1 R4 B4 BA4
  cases f3 with
  | false =>
    go_wp2
    go_ret
    exact ⟨ret_bool (by rw [E1.out]; rfl), B5.out⟩
  | true =>
  obtain ⟨x0, x1⟩ := CA.out _ BA5.out
  go_wp2_with fail
  refine (LH.out _ _ B5.out R5.out).mono ?_
  rintro e w6 ⟨rfl, hb6⟩
  have hz6 : w5.heap.size ≤ w6.heap.size := hb6.size
  have B6 := hideIt (below_trans B5.out hb6 (by omega))
  have BA6 := hideIt (below_trans BA5.out hb6 (by have := BA5.out.size; omega))
  clear hb6 x0 x1 R5 B5 BA5
  cases f4 with
  | false =>
    go_wp2
    go_ret
    exact ⟨ret_bool (by rw [E1.out]; rfl), B6.out⟩
  | true =>
  obtain ⟨x0, x1⟩ := CA.out _ BA6.out
  go_wp2_with fail
  refine (LM.out _ B6.out).mono ?_
  rintro e w7 ⟨v7, rfl, hr7, hb7⟩
  obtain ⟨-, aM, cM, hvM, -⟩ := hr7.rd
  subst hvM
  have B7 := hideIt (below_trans B6.out hb7 (by omega))
  have R7 := hideIt hr7.rd
  clear hb7 hr7 x0 x1 B6 BA6
  go_wp2_with fail
  refine (LI.out _ _ R7.out).mono ?_
  rintro e w' ⟨rfl, hw'⟩
  subst w'
  go_wp2
  go_ret
  exact ⟨ret_bool (by rw [E1.out]; rfl), B7.out⟩
end Go.Proofs.YtbjjdkemappelaaGreatDoor
