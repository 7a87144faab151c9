/- Several texts laid together: PiO, ImO. -/
import Derived.Test.YtmeiionabonhnaaGreatDoorZAO
import Derived.Test.YtmeiionabonhnaaGreatDoorPiL
import Derived.Test.YtmeiionabonhnaaGreatDoorPiN
import Derived.Test.YtmeiionabonhnaaGreatDoorImM
namespace Go.Proofs.YtmeiionabonhnaaGreatDoor
open Go.RowKit
def pimB (ws : List Ino) (ps : List Den) : Bool := partsB ws ps && (kindAt ws 0 == 2 && (fitsB ws (takenD ps) && (onceD ((takenD ps).map anonD) && (lcB ws (takenD ps) && (dhB ws (takenD ps) && onceB (mapped ws))))))
theorem parts_true {ws : List Ino} {ps : List Den} (h : partsB ws ps = true) : ws.length = 16 ∧ ps.length = 24 ∧ okNs ws = true ∧ okDs ps = true := by
  unfold partsB at h
  simp only [Bool.and_eq_true, decide_eq_true_eq] at h
  exact h
theorem taken_range {ps : List Den} (h : okDs ps = true) : ∀ k (h : k < (takenD ps).length), (0 ≤ (takenD ps)[k].child ∧ (takenD ps)[k].child ≤ 15) ∧ (0 ≤ (takenD ps)[k].dir ∧ (takenD ps)[k].dir ≤ 15) := by
  have h := of_decide_eq_true h
  intro k hk
  obtain ⟨hm, hf⟩ := List.mem_filter.1 (List.getElem_mem hk)
  obtain ⟨i, hi, e⟩ := List.getElem_of_mem hm
  have o := h i hi
  rw [e] at o
  have c := ok_taken o (fun q => by rw [(ok_free o).2 q] at hf; cases hf)
  exact ⟨by omega, c.2.1⟩
set_option maxRecDepth 100000 in
set_option maxHeartbeats 8000000 in
theorem pimOK_any (v : Value) (ws : List Ino) (ps : List Den) (w : World) (h : RdIm w v ws ps) (hw : ws.length ≤ 1048576) (hp : ps.length ≤ 1048576) (hT : TS w) (hE : ED w) (hF : FD w) (hr : ∀ k (h : k < ws.length), ws[k].R) (hs : ∀ k (h : k < ps.length), ps[k].name.size ≤ maxLen) :
    Calls Tryz.prog 62 #[v] w fun e w' => e = .returned (.bool (pimB ws ps)) ∧ Below w.heap.size w w' := by
  have LP := hideIt (fun w1 (hb : Below w.heap.size w w1) => partsOK_any v ws ps w1 (h.below hb) hw hp (hT.below hb) (hE.below hb) (hF.below hb) hr hs)
  obtain ⟨vW, vP, rfl, h1, h2⟩ := h
  have RW := hideIt h1
  have RP := hideIt h2
  obtain ⟨aW, cW, rfl, _, hcW⟩ := h1.shape
  obtain ⟨aP, cP, rfl, _, _⟩ := h2.shape
  have BW := hideIt ((Below.refl w.heap.size w).alloc (Nat.le_refl _) (.cells #[.slice aW ws.length cW, .slice aP ps.length cP] 98))
  have CA : Hid (∀ w', Below (w.alloc (.cells #[.slice aW ws.length cW, .slice aP ps.length cP] 98)).heap.size (w.alloc (.cells #[.slice aW ws.length cW, .slice aP ps.length cP] 98)) w' → w'.cell? ⟨w.heap.size, 0, none⟩ = some (.slice aW ws.length cW) ∧ w'.cell? ⟨w.heap.size, 1, none⟩ = some (.slice aP ps.length cP)) := fun w' hb => by
    have : w'.heap[w.heap.size]? = some (.cells #[.slice aW ws.length cW, .slice aP ps.length cP] 98 (0, 0)) := (hb.block _ (by simp)).trans (at_new rfl)
    exact ⟨(two_cells this).1, (two_cells this).2.1⟩
  obtain ⟨x0, x1⟩ := CA.out _ (Below.refl _ _)
  have F := hideIt hF
  clear h1 h2 hT hE hF hr hs
  cases c1 : partsB ws ps with
  | false =>
    have E := hideIt (show pimB ws ps = false by unfold pimB; rw [c1]; rfl)
    rw [c1] at LP
    clear c1 hcW
    go_enter Tryz.func62, Tryz.ntmps62
    go_wp2_with fail
    refine (LP.out _ BW.out).mono ?_
    rintro e w1 ⟨rfl, hb1⟩
    have B1 := hideIt (below_trans BW.out hb1 BW.out.size)
    clear hb1 x0 x1
    go_wp2
    go_ret
    exact ⟨ret_bool E.out.symm, B1.out⟩
  | true =>
  obtain ⟨l1, l2, o1, o2⟩ := parts_true c1
  have E0 := hideIt (show pimB ws ps = (kindAt ws 0 == 2 && (fitsB ws (takenD ps) && (onceD ((takenD ps).map anonD) && (lcB ws (takenD ps) && (dhB ws (takenD ps) && onceB (mapped ws)))))) by unfold pimB; rw [c1, Bool.true_and])
  rw [c1] at LP
  obtain ⟨bW, oW, rfl, hblW, hcellW⟩ := hcW (by omega)
  have HK := (hcellW 0 (by omega)).1
  rw [show ws[0].kind = kindAt ws 0 from (kindAt_of (i := 0) (by omega)).symm] at HK
  simp only [Nat.zero_mul, Nat.add_zero] at HK
  have KK : Hid (∀ w', Below w.heap.size w w' → w'.cell? ⟨bW, oW, none⟩ = some (.int .i64 (kindAt ws 0))) := fun w' hb => (hb.cell (p := ⟨bW, oW, none⟩) hblW).trans HK
  have TR := hideIt (taken_range o2)
  have tl : (takenD ps).length ≤ 24 := by have := taken_len ps; omega
  have ml : (mapped ws).length ≤ 128 := by have := mapped_len ws; omega
  have len16 : (0 : Int) < (ws.length : Int) := by omega
  have L1 := hideIt l1
  have L2 := hideIt l2
  have LT := hideIt (fun w1 (hb : Below w.heap.size w w1) => takenDirents_any (.slice aP ps.length cP) ps w1 (Rd.below RP.out hb) (by omega) (F.out.below hb))
  have LM := hideIt (fun w1 (hb : Below w.heap.size w w1) => mappedEntries_any (.slice (some ⟨bW, oW, none⟩) ws.length cW) ws w1 (Rd.below RW.out hb) (by omega))
  have LK := hideIt (fun v w1 (hb : Below w.heap.size w w1) h => kindsFit_any (.slice (some ⟨bW, oW, none⟩) ws.length cW) v ws (takenD ps) w1 (Rd.below RW.out hb) h l1 (by omega) TR.out)
  have LC := hideIt (fun v w1 (hb : Below w.heap.size w w1) h => linksCounted_any (.slice (some ⟨bW, oW, none⟩) ws.length cW) v ws (takenD ps) w1 (Rd.below RW.out hb) h l1 (by omega) (fun k hk => (TR.out k hk).1))
  have LH := hideIt (fun v w1 (hb : Below w.heap.size w w1) h => directoriesHang_any (.slice (some ⟨bW, oW, none⟩) ws.length cW) v ws (takenD ps) w1 (Rd.below RW.out hb) h l1 (by omega) TR.out)
  have LO := hideIt (fun v w1 h => namesOnce_any v (takenD ps) w1 h (by omega))
  have LI := hideIt (fun v w1 h => noneTwiceInt_any v (mapped ws) w1 h (by omega))
  clear l1 l2 o1 o2 c1 hcW hcellW HK TR F RP RW
  generalize kindAt ws 0 = k0 at *
  generalize takenD ps = ts at *
  generalize mapped ws = ms at *
  generalize fitsB ws ts = f1 at *
  generalize onceD (ts.map anonD) = f2 at *
  generalize lcB ws ts = f3 at *
  generalize dhB ws ts = f4 at *
  generalize onceB ms = f5 at *
  by_cases c2 : k0 = 2
  case neg =>
    have q : (k0 != 2) = true := by rw [bne_iff_ne]; exact c2
    have E := hideIt (show pimB ws ps = false by rw [E0.out, show (k0 == 2) = false by rw [beq_eq_false_iff_ne]; exact c2]; rfl)
    clear c2
    go_enter Tryz.func62, Tryz.ntmps62
    go_wp2_with fail
    refine (LP.out _ BW.out).mono ?_
    rintro e w1 ⟨rfl, hb1⟩
    have B1 := hideIt (below_trans BW.out hb1 BW.out.size)
    clear x0 x1
    obtain ⟨x0, x1⟩ := CA.out _ hb1
    have kk := KK.out _ B1.out
    clear hb1
    go_wp2
    go_ret
    exact ⟨ret_bool E.out.symm, B1.out⟩
  have q : (k0 != 2) = false := by rw [c2]; rfl
  have E1 := hideIt (show pimB ws ps = (f1 && (f2 && (f3 && (f4 && f5)))) by rw [E0.out, c2]; rfl)
  clear c2 E0
  go_enter Tryz.func62, Tryz.ntmps62
  go_wp2_with fail
  refine (LP.out _ BW.out).mono ?_
  rintro e w1 ⟨rfl, hb1⟩
  have B1 := hideIt (below_trans BW.out hb1 BW.out.size)
  have BA := hideIt hb1
  clear x0 x1 LP
  obtain ⟨x0, x1⟩ := CA.out _ hb1
  have kk := KK.out _ B1.out
  clear hb1
  go_wp2_with fail
  refine (LT.out _ B1.out).mono ?_
  rintro e w2 ⟨v2, rfl, hr2, hb2⟩
  obtain ⟨-, aT, cT, hvT, -⟩ := hr2.rd
  subst hvT
  have hz1 : w.heap.size ≤ w1.heap.size := B1.out.size
  have hz2 : w1.heap.size ≤ w2.heap.size := hb2.size
  have R2 := hideIt hr2.rd
  have B2 := hideIt (below_trans B1.out hb2 hz1)
  have BA2 := hideIt (below_trans BA.out hb2 BA.out.size)
  clear hr2 x0 x1 kk B1 BA KK LT hb2
  obtain ⟨x0, x1⟩ := CA.out _ BA2.out
  go_wp2_with fail
  refine (LK.out _ _ B2.out R2.out).mono ?_
  rintro e w3 ⟨rfl, hb3⟩
  have hz3 : w2.heap.size ≤ w3.heap.size := hb3.size
  have R3 := hideIt (Rd.below R2.out hb3)
  have B3 := hideIt (below_trans B2.out hb3 (by omega))
  have BA3 := hideIt (below_trans BA2.out hb3 (by have := BA2.out.size; omega))
  clear hb3 x0 x1 R2 B2 BA2
  cases f1 with
  | false =>
    go_wp2
    go_ret
    exact ⟨ret_bool (by rw [E1.out]; rfl), B3.out⟩
  | true =>
  go_wp2_with fail
  refine (LO.out _ _ R3.out).mono ?_
  rintro e w4 ⟨rfl, hb4⟩
  have hz4 : w3.heap.size ≤ w4.heap.size := hb4.size
  have R4 := hideIt (Rd.below R3.out hb4)
  have B4 := hideIt (below_trans B3.out hb4 (by omega))
  have BA4 := hideIt (below_trans BA3.out hb4 (by have := BA3.out.size; omega))
  clear hb4 R3 B3 BA3
  cases f2 with
  | false =>
    go_wp2
    go_ret
    exact ⟨ret_bool (by rw [E1.out]; rfl), B4.out⟩
  | true =>
  obtain ⟨x0, x1⟩ := CA.out _ BA4.out
  go_wp2_with fail
  refine (LC.out _ _ B4.out R4.out).mono ?_
  rintro e w5 ⟨rfl, hb5⟩
  have hz5 : w4.heap.size ≤ w5.heap.size := hb5.size
  have R5 := hideIt (Rd.below R4.out hb5)
  have B5 := hideIt (below_trans B4.out hb5 (by omega))
  have BA5 := hideIt (below_trans BA4.out hb5 (by have := BA4.out.size; omega))
  clear hb5 x0 x1 R4 B4 BA4
  cases f3 with
  | false =>
    go_wp2
    go_ret
    exact ⟨ret_bool (by rw [E1.out]; rfl), B5.out⟩
  | true =>
  obtain ⟨x0, x1⟩ := CA.out _ BA5.out
  go_wp2_with fail
  refine (LH.out _ _ B5.out R5.out).mono ?_
  rintro e w6 ⟨rfl, hb6⟩
  have hz6 : w5.heap.size ≤ w6.heap.size := hb6.size
  have B6 := hideIt (below_trans B5.out hb6 (by omega))
  have BA6 := hideIt (below_trans BA5.out hb6 (by have := BA5.out.size; omega))
  clear hb6 x0 x1 R5 B5 BA5
  cases f4 with
  | false =>
    go_wp2
    go_ret
    exact ⟨ret_bool (by rw [E1.out]; rfl), B6.out⟩
  | true =>
  obtain ⟨x0, x1⟩ := CA.out _ BA6.out
  go_wp2_with fail
  refine (LM.out _ B6.out).mono ?_
  rintro e w7 ⟨v7, rfl, hr7, hb7⟩
  obtain ⟨-, aM, cM, hvM, -⟩ := hr7.rd
  subst hvM
  have B7 := hideIt (below_trans B6.out hb7 (by omega))
  have R7 := hideIt hr7.rd
  clear hb7 hr7 x0 x1 B6 BA6
  go_wp2_with fail
  refine (LI.out _ _ R7.out).mono ?_
  rintro e w' ⟨rfl, hw'⟩
  subst w'
  go_wp2
  go_ret
  exact ⟨ret_bool (by rw [E1.out]; rfl), B7.out⟩
end Go.Proofs.YtmeiionabonhnaaGreatDoor

namespace Go.Proofs.YtmeiionabonhnaaGreatDoor
open Go.RowKit
def singB (ws : List Ino) : Bool := onceB (usedOf (mapped ws) 1) && onceB (usedOf (mapped ws) 2)
def imgB (ws : List Ino) (ps : List Den) : Bool := decide (ws.length = 16) && (decide (ps.length = 24) && (kindAt ws 0 == 2 && (okNs ws && (entsB ws ps && (linksB ws ps && singB ws)))))
theorem ino_ties {x : Ino} (h : inoB x = true) : (∀ z ∈ x.map, tieB z = true) ∧ (x.kind = 2 → x.links = 1) := by
  unfold inoB at h
  simp only [Bool.and_eq_true, decide_eq_true_eq] at h
  obtain ⟨_, _, _, d, f⟩ := h
  refine ⟨fun z hz => ?_, fun k => ?_⟩
  · obtain ⟨i, hi, rfl⟩ := List.getElem_of_mem hz
    have := mapB_to d i hi
    rw [List.getD_eq_getElem?_getD, List.getElem?_eq_getElem hi] at this
    unfold entB at this
    simp only [Option.getD_some, Bool.and_eq_true] at this
    exact this.1
  · unfold kindB at f
    rw [if_neg (by omega), if_pos k] at f
    simp only [Bool.and_eq_true, beq_iff_eq] at f
    exact f.2
theorem tie_small {z : Int} (h : tieB z = true) : 0 ≤ z ∧ z ≤ 1048576 := by
  unfold tieB addrB at h
  simp only [Bool.and_eq_true, decide_eq_true_eq] at h
  omega
theorem okNs_ties {ws : List Ino} (h : okNs ws = true) : ∀ i (h : i < ws.length), ∀ z ∈ ws[i].map, tieB z = true := fun i hi => (ino_ties ((of_decide_eq_true h : ∀ k (h : k < ws.length), inoB ws[k] = true) i hi)).1
theorem pim_img (ws : List Ino) (ps : List Den) : pimB ws ps = imgB ws ps := by
  unfold pimB imgB partsB
  by_cases l1 : ws.length = 16
  case neg => simp [l1]
  by_cases l2 : ps.length = 24
  case neg => simp [l2]
  rw [decide_eq_true l1, decide_eq_true l2, Bool.true_and, Bool.true_and, Bool.true_and, Bool.true_and]
  cases o1 : okNs ws
  · simp
  cases o2 : okDs ps
  · have : entsB ws ps = false := by
      rw [Bool.eq_false_iff]
      intro e
      rw [ents_ok e] at o2
      cases o2
    rw [this]; simp
  rw [ents_eq o2]
  cases f1 : fitsB ws (takenD ps)
  · simp
  cases f2 : onceD ((takenD ps).map anonD)
  · simp
  rw [links_eq l1 (fun i hi => (ino_ties ((of_decide_eq_true o1 : ∀ k (h : k < ws.length), inoB ws[k] = true) i hi)).2) o2 f1]
  have s1 : singB ws = onceB (mapped ws) := single_eq (fun e he => (mapped_ties (okNs_ties o1) e he).2)
  rw [s1]
  simp [Bool.and_assoc]
set_option maxRecDepth 100000 in
set_option maxHeartbeats 4000000 in
theorem l05Single_any (v : Value) (ws : List Ino) (ps : List Den) (w : World) (h : RdIm w v ws ps) (hn : ws.length = 16) (hr : ∀ k (h : k < ws.length), ∀ z ∈ ws[k].map, 0 ≤ z ∧ z ≤ 1048576) :
    Calls Tryz.prog 129 #[v] w fun e w' => e = .returned (.bool (singB ws)) ∧ Below w.heap.size w w' := by
  have HR := hideIt h
  have LU := hideIt (fun t w1 h => l05Used_any v ws ps t w1 h (by omega) hr)
  have UL := hideIt (fun t => show (usedOf (mapped ws) t).length ≤ 128 by have := usedOf_len (mapped ws) t; have := mapped_len ws; omega)
  obtain ⟨vW, vP, rfl, h1, h2⟩ := h
  obtain ⟨aW, cW, rfl, _, _⟩ := h1.shape
  obtain ⟨aP, cP, rfl, _, _⟩ := h2.shape
  clear h1 h2 hr hn
  obtain ⟨W, hW⟩ : ∃ W, W = w.alloc (.cells #[.slice aW ws.length cW, .slice aP ps.length cP] 98) := ⟨_, rfl⟩
  have CA : Hid (∀ w', Below W.heap.size W w' → w'.cell? ⟨w.heap.size, 0, none⟩ = some (.slice aW ws.length cW) ∧ w'.cell? ⟨w.heap.size, 1, none⟩ = some (.slice aP ps.length cP)) := fun w' hb => by
    have : w'.heap[w.heap.size]? = some (.cells #[.slice aW ws.length cW, .slice aP ps.length cP] 98 (0, 0)) := (hb.block _ (by rw [hW]; simp)).trans (by rw [hW]; exact at_new rfl)
    exact ⟨(two_cells this).1, (two_cells this).2.1⟩
  have BW : Hid (Below w.heap.size w W) := by rw [hW]; exact (Below.refl _ _).alloc (Nat.le_refl _) _
  have hz : w.heap.size ≤ W.heap.size := BW.out.size
  have SG := hideIt (show singB ws = (onceB (usedOf (mapped ws) 1) && onceB (usedOf (mapped ws) 2)) from rfl)
  generalize usedOf (mapped ws) = uf at *
  go_enter Tryz.func129, Tryz.ntmps129
  go_wp2
  rw [← hW]
  clear hW
  go_loopw [3] (fun i wr => ∃ t : Nat, (1 ≤ t ∧ t ≤ 3) ∧ i = .int .i64 t ∧ Hid (Below W.heap.size W wr ∧ ∀ s : Nat, 1 ≤ s → s < t → onceB (uf (s : Int)) = true)) (fun i _ => 3 - (intOf i).toNat)
  case atStart => exact ⟨1, by omega, rfl, Below.refl _ _, fun s h a => absurd a (by omega)⟩
  case round =>
    obtain ⟨t, ht, rfl, J⟩ := hrel
    have J1 := hideIt J.out.1
    have JW := hideIt (below_trans BW.out J.out.1 hz)
    obtain ⟨x0, x1⟩ := CA.out wr J.out.1
    by_cases hlt : t ≤ 2
    · have t2 : (t : Int) ≤ 2 := by omega
      have t1 : (0 : Int) ≤ (t : Int) := by omega
      have JS := hideIt J.out.2
      have NO : Hid (onceB (uf (t : Int)) = false → singB ws = false) := fun q => by
        rw [SG.out]
        rcases (show t = 1 ∨ t = 2 by omega) with rfl | rfl
        · rw [show ((1 : Nat) : Int) = 1 from rfl] at q; rw [q]; rfl
        · rw [show ((2 : Nat) : Int) = 2 from rfl] at q; rw [q, Bool.and_false]
      clear J
      go_wp2_with fail
      refine (LU.out _ _ (HR.out.below JW.out)).mono ?_
      rintro e w1 ⟨v1, rfl, hr1, hb1⟩
      obtain ⟨-, aL, cL, hvL, hcap, -⟩ := hr1.rd
      have hcap1 := hcap.1
      subst hvL
      have R1 : Hid (RdI w1 (.slice aL (uf (t : Int)).length cL) (uf (t : Int))) := hr1.rd
      have B1 := hideIt (below_trans J1.out hb1 J1.out.size)
      have B2 := hideIt (below_trans BW.out B1.out hz)
      have ul := UL.out (t : Int)
      have JN : Hid (onceB (uf (t : Int)) = true → ∀ s : Nat, 1 ≤ s → s < t + 1 → onceB (uf (s : Int)) = true) := fun q s h a => by
        by_cases e : s = t
        · subst e; exact q
        · exact JS.out s h (by omega)
      clear hr1 hb1 x0 x1 hcap JS
      generalize uf (t : Int) = zs at *
      obtain ⟨aZ, cZ, e, _, hcZ⟩ := R1.out.shape
      have HZ := hideIt hcZ
      obtain ⟨rfl, rfl⟩ : aZ = aL ∧ cZ = cL := by cases e; exact ⟨rfl, rfl⟩
      clear e hcZ
      go_wp2
      go_loopw [5] (fun i wq => ∃ k : Nat, k ≤ zs.length ∧ i = .int .i64 k ∧ Hid (Below w1.heap.size w1 wq ∧ ∀ j (h : j < zs.length), j < k → hasB (zs.take j) zs[j] = false)) (fun i _ => zs.length - (intOf i).toNat)
      case atStart => exact ⟨0, by omega, rfl, Below.refl _ _, fun j h a => absurd a (by omega)⟩
      case round =>
        obtain ⟨k, hk, rfl, H⟩ := hrel
        have k0 : (0 : Int) ≤ (k : Int) := by omega
        have H1 := hideIt H.out.1
        have HB := hideIt (below_trans B1.out H.out.1 B1.out.size)
        have HF := hideIt (below_trans B2.out H.out.1 B2.out.size)
        by_cases hlk : k < zs.length
        · obtain ⟨b, o, rfl, hbl, hcell⟩ := HZ.out (by omega)
          have hck := (H1.out.cell (p := ⟨b, o + k, none⟩) hbl).trans (hcell k hlk)
          have k1 : (k : Int) < (zs.length : Int) := by omega
          have k2 : (k : Int) ≤ (cZ : Int) := by omega
          have hblr : b < wr.heap.size := by have := H1.out.size; omega
          have RT := hideIt (RdI.take (Rd.below R1.out H1.out) hk)
          have LT := hideIt (show (zs.take k).length ≤ 1048576 by rw [List.length_take]; omega)
          clear hcell
          cases q : hasB (zs.take k) zs[k] with
          | false =>
            have H' : Hid (∀ j (h : j < zs.length), j < k + 1 → hasB (zs.take j) zs[j] = false) := fun j h a => by
              by_cases e : j = k
              · subst e; exact q
              · exact H.out.2 j h (by omega)
            have Q := hideIt q
            clear q H
            generalize zs[k] = z at hck Q
            go_wp2
            have RB : Hid (∀ w', Below wr.heap.size wr w' → RdI w' (.slice (some ⟨b, o, none⟩) k cZ) (zs.take k)) := fun w' hb => Rd.below RT.out hb
            have SK : Hid (∀ w', Below wr.heap.size wr w' → w'.cell? ⟨b, o + k, none⟩ = some (.int .i64 z)) := fun w' hb => (hb.cell (p := ⟨b, o + k, none⟩) hblr).trans hck
            go_region_held3 (fun w' => w'.cell? ⟨b, o + k, none⟩ = some (.int .i64 z))
              (exact SK.out _ (by repeat (first | exact Below.refl _ _ | refine Below.drew ?_)))
              (first
                | (go_at_call 188; refine (l05Has_any _ (zs.take k) z _ (RB.out _ (by repeat (first | exact Below.refl _ _ | refine Below.drew ?_))) LT.out).mono ?_; rw [Q.out]; rintro e w' ⟨rfl, hw'⟩; subst w'))
            all_goals
              clear SK RB hck
              go_wp2
              go_roundw
              case rel => exact ⟨k + 1, by omega, by go_num, (by repeat (first | exact H1.out | refine Below.drew ?_)), H'.out⟩
              case measure => simp [intOf]; omega
          | true =>
            have E := hideIt (NO.out (onceB_not hlk q))
            have Q := hideIt q
            clear q H
            generalize zs[k] = z at hck Q
            go_wp2
            have RB : Hid (∀ w', Below wr.heap.size wr w' → RdI w' (.slice (some ⟨b, o, none⟩) k cZ) (zs.take k)) := fun w' hb => Rd.below RT.out hb
            have SK : Hid (∀ w', Below wr.heap.size wr w' → w'.cell? ⟨b, o + k, none⟩ = some (.int .i64 z)) := fun w' hb => (hb.cell (p := ⟨b, o + k, none⟩) hblr).trans hck
            go_region_held3 (fun w' => w'.cell? ⟨b, o + k, none⟩ = some (.int .i64 z))
              (exact SK.out _ (by repeat (first | exact Below.refl _ _ | refine Below.drew ?_)))
              (first
                | (go_at_call 188; refine (l05Has_any _ (zs.take k) z _ (RB.out _ (by repeat (first | exact Below.refl _ _ | refine Below.drew ?_))) LT.out).mono ?_; rw [Q.out]; rintro e w' ⟨rfl, hw'⟩; subst w'))
            all_goals
              clear SK RB hck
              go_wp2
              go_ret
              exact ⟨ret_bool E.out.symm, (by repeat (first | exact HF.out | refine Below.drew ?_))⟩
        · have E := hideIt (JN.out (onceB_mk (fun j h => H.out.2 j h (by omega))))
          clear H
          go_wp2
          go_roundw
          case rel => exact ⟨t + 1, by omega, by go_num, HB.out, E.out⟩
          case measure => simp [intOf]; omega
    · obtain rfl : t = 3 := by omega
      have E := hideIt (show singB ws = true by
        have e1 : onceB (uf 1) = true := J.out.2 1 (by omega) (by omega)
        have e2 : onceB (uf 2) = true := J.out.2 2 (by omega) (by omega)
        rw [SG.out, e1, e2]; rfl)
      clear J
      go_wp2
      go_ret
      exact ⟨ret_bool E.out.symm, JW.out⟩
end Go.Proofs.YtmeiionabonhnaaGreatDoor
