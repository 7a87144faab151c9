/- Several texts laid together: ImO, ImP, PaA, PbA, PbC. -/
import Derived.Test.YtmeiionabonhnaaGreatDoorZAT
import Derived.Test.YtmeiionabonhnaaGreatDoorZAV
import Derived.Test.YtmeiionabonhnaaGreatDoorZAF
import Derived.Test.YtmeiionabonhnaaGreatDoorZAB
import Derived.Lib.SplitLaws
import Derived.Lib.IndexBytes
import Derived.Deep.LoopGhost
import Derived.Laws.OwnMore
namespace Go.Proofs.YtmeiionabonhnaaGreatDoor
open Go.RowKit
def singB (ws : List Ino) : Bool := onceB (usedOf (mapped ws) 1) && onceB (usedOf (mapped ws) 2)
def imgB (ws : List Ino) (ps : List Den) : Bool := decide (ws.length = 16) && (decide (ps.length = 24) && (kindAt ws 0 == 2 && (okNs ws && (entsB ws ps && (linksB ws ps && singB ws)))))
theorem ino_ties {x : Ino} (h : inoB x = true) : (∀ z ∈ x.map, tieB z = true) ∧ (x.kind = 2 → x.links = 1) := by
  unfold inoB at h
  simp only [Bool.and_eq_true, decide_eq_true_eq] at h
  obtain ⟨_, _, _, d, f⟩ := h
  refine ⟨fun z hz => ?_, fun k => ?_⟩
  · obtain ⟨i, hi, rfl⟩ := List.getElem_of_mem hz
    have := mapB_to d i hi
    rw [List.getD_eq_getElem?_getD, List.getElem?_eq_getElem hi] at this
    unfold entB at this
    simp only [Option.getD_some, Bool.and_eq_true] at this
    exact this.1
  · unfold kindB at f
    rw [if_neg (by omega), if_pos k] at f
    simp only [Bool.and_eq_true, beq_iff_eq] at f
    exact f.2
theorem tie_small {z : Int} (h : tieB z = true) : 0 ≤ z ∧ z ≤ 1048576 := by
  unfold tieB addrB at h
  simp only [Bool.and_eq_true, decide_eq_true_eq] at h
  omega
theorem okNs_ties {ws : List Ino} (h : okNs ws = true) : ∀ i (h : i < ws.length), ∀ z ∈ ws[i].map, tieB z = true := fun i hi => (ino_ties ((of_decide_eq_true h : ∀ k (h : k < ws.length), inoB ws[k] = true) i hi)).1
theorem pim_img (ws : List Ino) (ps : List Den) : pimB ws ps = imgB ws ps := by
  unfold pimB imgB partsB
  by_cases l1 : ws.length = 16
  case neg => simp [l1]
  by_cases l2 : ps.length = 24
  case neg => simp [l2]
  rw [decide_eq_true l1, decide_eq_true l2, Bool.true_and, Bool.true_and, Bool.true_and, Bool.true_and]
  cases o1 : okNs ws
  · simp
  cases o2 : okDs ps
  · have : entsB ws ps = false := by
      rw [Bool.eq_false_iff]
      intro e
      rw [ents_ok e] at o2
      cases o2
    rw [this]; simp
  rw [ents_eq o2]
  cases f1 : fitsB ws (takenD ps)
  · simp
  cases f2 : onceD ((takenD ps).map anonD)
  · simp
  rw [links_eq l1 (fun i hi => (ino_ties ((of_decide_eq_true o1 : ∀ k (h : k < ws.length), inoB ws[k] = true) i hi)).2) o2 f1]
  have s1 : singB ws = onceB (mapped ws) := single_eq (fun e he => (mapped_ties (okNs_ties o1) e he).2)
  rw [s1]
  simp [Bool.and_assoc]
set_option maxRecDepth 100000 in
set_option maxHeartbeats 4000000 in
theorem l05Single_any (v : Value) (ws : List Ino) (ps : List Den) (w : World) (h : RdIm w v ws ps) (hn : ws.length = 16) (hr : ∀ k (h : k < ws.length), ∀ z ∈ ws[k].map, 0 ≤ z ∧ z ≤ 1048576) :
    Calls Tryz.prog 129 #[v] w fun e w' => e = .returned (.bool (singB ws)) ∧ Below w.heap.size w w' := by
  have HR := hideIt h
  have LU := hideIt (fun t w1 h => l05Used_any v ws ps t w1 h (by omega) hr)
  have UL := hideIt (fun t => show (usedOf (mapped ws) t).length ≤ 128 by have := usedOf_len (mapped ws) t; have := mapped_len ws; omega)
  obtain ⟨vW, vP, rfl, h1, h2⟩ := h
  obtain ⟨aW, cW, rfl, _, _⟩ := h1.shape
  obtain ⟨aP, cP, rfl, _, _⟩ := h2.shape
  clear h1 h2 hr hn
  obtain ⟨W, hW⟩ : ∃ W, W = w.alloc (.cells #[.slice aW ws.length cW, .slice aP ps.length cP] 98) := ⟨_, rfl⟩
  have CA : Hid (∀ w', Below W.heap.size W w' → w'.cell? ⟨w.heap.size, 0, none⟩ = some (.slice aW ws.length cW) ∧ w'.cell? ⟨w.heap.size, 1, none⟩ = some (.slice aP ps.length cP)) := fun w' hb => by
    have : w'.heap[w.heap.size]? = some (.cells #[.slice aW ws.length cW, .slice aP ps.length cP] 98 (0, 0)) := (hb.block _ (by rw [hW]; simp)).trans (by rw [hW]; exact at_new rfl)
    exact ⟨(two_cells this).1, (two_cells this).2.1⟩
  have BW : Hid (Below w.heap.size w W) := by rw [hW]; exact (Below.refl _ _).alloc (Nat.le_refl _) _
  have hz : w.heap.size ≤ W.heap.size := BW.out.size
  have SG := hideIt (show singB ws = (onceB (usedOf (mapped ws) 1) && onceB (usedOf (mapped ws) 2)) from rfl)
  generalize usedOf (mapped ws) = uf at *
  go_enter Tryz.func129, Tryz.ntmps129
  go_wp2
  rw [← hW]
  clear hW
  go_loopw [3] (fun i wr => ∃ t : Nat, (1 ≤ t ∧ t ≤ 3) ∧ i = .int .i64 t ∧ Hid (Below W.heap.size W wr ∧ ∀ s : Nat, 1 ≤ s → s < t → onceB (uf (s : Int)) = true)) (fun i _ => 3 - (intOf i).toNat)
  case atStart => exact ⟨1, by omega, rfl, Below.refl _ _, fun s h a => absurd a (by omega)⟩
  case round =>
    obtain ⟨t, ht, rfl, J⟩ := hrel
    have J1 := hideIt J.out.1
    have JW := hideIt (below_trans BW.out J.out.1 hz)
    obtain ⟨x0, x1⟩ := CA.out wr J.out.1
    by_cases hlt : t ≤ 2
    · have t2 : (t : Int) ≤ 2 := by omega
      have t1 : (0 : Int) ≤ (t : Int) := by omega
      have JS := hideIt J.out.2
      have NO : Hid (onceB (uf (t : Int)) = false → singB ws = false) := fun q => by
        rw [SG.out]
        rcases (show t = 1 ∨ t = 2 by omega) with rfl | rfl
        · rw [show ((1 : Nat) : Int) = 1 from rfl] at q; rw [q]; rfl
        · rw [show ((2 : Nat) : Int) = 2 from rfl] at q; rw [q, Bool.and_false]
      clear J
      go_wp2_with fail
      refine (LU.out _ _ (HR.out.below JW.out)).mono ?_
      rintro e w1 ⟨v1, rfl, hr1, hb1⟩
      obtain ⟨-, aL, cL, hvL, hcap, -⟩ := hr1.rd
      have hcap1 := hcap.1
      subst hvL
      have R1 : Hid (RdI w1 (.slice aL (uf (t : Int)).length cL) (uf (t : Int))) := hr1.rd
      have B1 := hideIt (below_trans J1.out hb1 J1.out.size)
      have B2 := hideIt (below_trans BW.out B1.out hz)
      have ul := UL.out (t : Int)
      have JN : Hid (onceB (uf (t : Int)) = true → ∀ s : Nat, 1 ≤ s → s < t + 1 → onceB (uf (s : Int)) = true) := fun q s h a => by
        by_cases e : s = t
        · subst e; exact q
        · exact JS.out s h (by omega)
      clear hr1 hb1 x0 x1 hcap JS
      generalize uf (t : Int) = zs at *
      obtain ⟨aZ, cZ, e, _, hcZ⟩ := R1.out.shape
      have HZ := hideIt hcZ
      obtain ⟨rfl, rfl⟩ : aZ = aL ∧ cZ = cL := by cases e; exact ⟨rfl, rfl⟩
      clear e hcZ
      go_wp2
      go_loopw [5] (fun i wq => ∃ k : Nat, k ≤ zs.length ∧ i = .int .i64 k ∧ Hid (Below w1.heap.size w1 wq ∧ ∀ j (h : j < zs.length), j < k → hasB (zs.take j) zs[j] = false)) (fun i _ => zs.length - (intOf i).toNat)
      case atStart => exact ⟨0, by omega, rfl, Below.refl _ _, fun j h a => absurd a (by omega)⟩
      case round =>
        obtain ⟨k, hk, rfl, H⟩ := hrel
        have k0 : (0 : Int) ≤ (k : Int) := by omega
        have H1 := hideIt H.out.1
        have HB := hideIt (below_trans B1.out H.out.1 B1.out.size)
        have HF := hideIt (below_trans B2.out H.out.1 B2.out.size)
        by_cases hlk : k < zs.length
        · obtain ⟨b, o, rfl, hbl, hcell⟩ := HZ.out (by omega)
          have hck := (H1.out.cell (p := ⟨b, o + k, none⟩) hbl).trans (hcell k hlk)
          have k1 : (k : Int) < (zs.length : Int) := by omega
          have k2 : (k : Int) ≤ (cZ : Int) := by omega
          have hblr : b < wr.heap.size := by have := H1.out.size; omega
          have RT := hideIt (RdI.take (Rd.below R1.out H1.out) hk)
          have LT := hideIt (show (zs.take k).length ≤ 1048576 by rw [List.length_take]; omega)
          clear hcell
          cases q : hasB (zs.take k) zs[k] with
          | false =>
            have H' : Hid (∀ j (h : j < zs.length), j < k + 1 → hasB (zs.take j) zs[j] = false) := fun j h a => by
              by_cases e : j = k
              · subst e; exact q
              · exact H.out.2 j h (by omega)
            have Q := hideIt q
            clear q H
            generalize zs[k] = z at hck Q
            go_wp2
            have RB : Hid (∀ w', Below wr.heap.size wr w' → RdI w' (.slice (some ⟨b, o, none⟩) k cZ) (zs.take k)) := fun w' hb => Rd.below RT.out hb
            have SK : Hid (∀ w', Below wr.heap.size wr w' → w'.cell? ⟨b, o + k, none⟩ = some (.int .i64 z)) := fun w' hb => (hb.cell (p := ⟨b, o + k, none⟩) hblr).trans hck
            go_region_held3 (fun w' => w'.cell? ⟨b, o + k, none⟩ = some (.int .i64 z))
              (exact SK.out _ (by repeat (first | exact Below.refl _ _ | refine Below.drew ?_)))
              (first
                | (go_at_call 188; refine (l05Has_any _ (zs.take k) z _ (RB.out _ (by repeat (first | exact Below.refl _ _ | refine Below.drew ?_))) LT.out).mono ?_; rw [Q.out]; rintro e w' ⟨rfl, hw'⟩; subst w'))
            all_goals
              clear SK RB hck
              go_wp2
              go_roundw
              case rel => exact ⟨k + 1, by omega, by go_num, (by repeat (first | exact H1.out | refine Below.drew ?_)), H'.out⟩
              case measure => simp [intOf]; omega
          | true =>
            have E := hideIt (NO.out (onceB_not hlk q))
            have Q := hideIt q
            clear q H
            generalize zs[k] = z at hck Q
            go_wp2
            have RB : Hid (∀ w', Below wr.heap.size wr w' → RdI w' (.slice (some ⟨b, o, none⟩) k cZ) (zs.take k)) := fun w' hb => Rd.below RT.out hb
            have SK : Hid (∀ w', Below wr.heap.size wr w' → w'.cell? ⟨b, o + k, none⟩ = some (.int .i64 z)) := fun w' hb => (hb.cell (p := ⟨b, o + k, none⟩) hblr).trans hck
            go_region_held3 (fun w' => w'.cell? ⟨b, o + k, none⟩ = some (.int .i64 z))
              (exact SK.out _ (by repeat (first | exact Below.refl _ _ | refine Below.drew ?_)))
              (first
                | (go_at_call 188; refine (l05Has_any _ (zs.take k) z _ (RB.out _ (by repeat (first | exact Below.refl _ _ | refine Below.drew ?_))) LT.out).mono ?_; rw [Q.out]; rintro e w' ⟨rfl, hw'⟩; subst w'))
            all_goals
              clear SK RB hck
              go_wp2
              go_ret
              exact ⟨ret_bool E.out.symm, (by repeat (first | exact HF.out | refine Below.drew ?_))⟩
        · have E := hideIt (JN.out (onceB_mk (fun j h => H.out.2 j h (by omega))))
          clear H
          go_wp2
          go_roundw
          case rel => exact ⟨t + 1, by omega, by go_num, HB.out, E.out⟩
          case measure => simp [intOf]; omega
    · obtain rfl : t = 3 := by omega
      have E := hideIt (show singB ws = true by
        have e1 : onceB (uf 1) = true := J.out.2 1 (by omega) (by omega)
        have e2 : onceB (uf 2) = true := J.out.2 2 (by omega) (by omega)
        rw [SG.out, e1, e2]; rfl)
      clear J
      go_wp2
      go_ret
      exact ⟨ret_bool E.out.symm, JW.out⟩
end Go.Proofs.YtmeiionabonhnaaGreatDoor

namespace Go.Proofs.YtmeiionabonhnaaGreatDoor
open Go.RowKit
theorem implImageOK_any (v : Value) (ws : List Ino) (ps : List Den) (w : World) (h : RdIm w v ws ps) (hw : ws.length ≤ 1048576) (hp : ps.length ≤ 1048576) (hT : TS w) (hE : ED w) (hF : FD w) (hr : ∀ k (h : k < ws.length), ws[k].R) (hs : ∀ k (h : k < ps.length), ps[k].name.size ≤ maxLen) :
    Calls Tryz.prog 62 #[v] w fun e w' => e = .returned (.bool (imgB ws ps)) ∧ Below w.heap.size w w' := by
  rw [← pim_img]
  exact pimOK_any v ws ps w h hw hp hT hE hF hr hs
set_option maxRecDepth 100000 in
set_option maxHeartbeats 8000000 in
theorem specImageOK_any (v : Value) (ws : List Ino) (ps : List Den) (w : World) (h : RdIm w v ws ps) (hw : ws.length ≤ 1048576) (hp : ps.length ≤ 1048576) (hr : ∀ k (h : k < ws.length), ws[k].R) (hs : ∀ k (h : k < ps.length), ps[k].name.size ≤ maxLen) :
    Calls Tryz.prog 68 #[v] w fun e w' => e = .returned (.bool (imgB ws ps)) ∧ Below w.heap.size w w' := by
  have HRD := hideIt h
  have HR := hideIt hr
  have L1 := hideIt (fun w1 h => l05Links_any v ws ps w1 h hw hp)
  have L2 := hideIt (fun w1 h (hl : ws.length = 16) => l05Entries_any v ws ps w1 h hl hp hs)
  have L3 := hideIt (fun w1 h (hl : ws.length = 16) (o : okNs ws = true) => l05Single_any v ws ps w1 h hl (fun k hk z hz => tie_small (okNs_ties o k hk z hz)))
  obtain ⟨vW, vP, rfl, h1, h2⟩ := h
  obtain ⟨aW, cW, rfl, _, hcW⟩ := h1.shape
  obtain ⟨aP, cP, rfl, _, _⟩ := h2.shape
  have HW := hideIt hcW
  clear h1 h2 hr hs hcW
  have CA : Hid (∀ w', Below (w.alloc (.cells #[.slice aW ws.length cW, .slice aP ps.length cP] 98)).heap.size (w.alloc (.cells #[.slice aW ws.length cW, .slice aP ps.length cP] 98)) w' → w'.cell? ⟨w.heap.size, 0, none⟩ = some (.slice aW ws.length cW) ∧ w'.cell? ⟨w.heap.size, 1, none⟩ = some (.slice aP ps.length cP)) := fun w' hb => by
    have : w'.heap[w.heap.size]? = some (.cells #[.slice aW ws.length cW, .slice aP ps.length cP] 98 (0, 0)) := (hb.block _ (by simp)).trans (at_new rfl)
    exact ⟨(two_cells this).1, (two_cells this).2.1⟩
  have BW : Hid (Below w.heap.size w (w.alloc (.cells #[.slice aW ws.length cW, .slice aP ps.length cP] 98))) := (Below.refl _ _).alloc (Nat.le_refl _) _
  obtain ⟨x0, x1⟩ := CA.out _ (Below.refl _ _)
  have EI := hideIt (show imgB ws ps = (decide (ws.length = 16) && (decide (ps.length = 24) && (kindAt ws 0 == 2 && (okNs ws && (entsB ws ps && (linksB ws ps && singB ws)))))) from rfl)
  by_cases c1 : ws.length = 16
  case neg =>
    have E := hideIt (show imgB ws ps = false by rw [EI.out, decide_eq_false c1]; rfl)
    have q : ((ws.length : Int) != 16) = true := by rw [bne_iff_ne]; omega
    clear c1
    go_enter Tryz.func68, Tryz.ntmps68
    go_wp2
    go_ret
    exact ⟨ret_bool E.out.symm, BW.out⟩
  have q : ((ws.length : Int) != 16) = false := by rw [c1]; rfl
  by_cases c2 : ps.length = 24
  case neg =>
    have E := hideIt (show imgB ws ps = false by rw [EI.out, decide_eq_false c2, Bool.false_and, Bool.and_false])
    have q2 : ((ps.length : Int) != 24) = true := by rw [bne_iff_ne]; omega
    clear c1 c2
    go_enter Tryz.func68, Tryz.ntmps68
    go_wp2
    go_ret
    exact ⟨ret_bool E.out.symm, BW.out⟩
  have q2 : ((ps.length : Int) != 24) = false := by rw [c2]; rfl
  obtain ⟨bW, oW, rfl, hblW, hcellW⟩ := HW.out (by omega)
  have HK := (hcellW 0 (by omega)).1
  rw [show ws[0].kind = kindAt ws 0 from (kindAt_of (i := 0) (by omega)).symm] at HK
  simp only [Nat.zero_mul, Nat.add_zero] at HK
  have kk := (BW.out.cell (p := ⟨bW, oW, none⟩) hblW).trans HK
  have len16 : (0 : Int) < (ws.length : Int) := by omega
  have C1 := hideIt c1
  have E1 := hideIt (show imgB ws ps = (kindAt ws 0 == 2 && (okNs ws && (entsB ws ps && (linksB ws ps && singB ws)))) by rw [EI.out, decide_eq_true c1, decide_eq_true c2]; rfl)
  have HC := hideIt hcellW
  clear c1 c2 EI HK hcellW HW
  generalize kindAt ws 0 = k0 at *
  by_cases c3 : k0 = 2
  case neg =>
    have q3 : (k0 != 2) = true := by rw [bne_iff_ne]; exact c3
    have E := hideIt (show imgB ws ps = false by rw [E1.out, show (k0 == 2) = false by rw [beq_eq_false_iff_ne]; exact c3]; rfl)
    clear c3
    go_enter Tryz.func68, Tryz.ntmps68
    go_wp2
    go_ret
    exact ⟨ret_bool E.out.symm, BW.out⟩
  have q3 : (k0 != 2) = false := by rw [c3]; rfl
  have E2 := hideIt (show imgB ws ps = (okNs ws && (entsB ws ps && (linksB ws ps && singB ws))) by rw [E1.out, c3]; rfl)
  clear c3 E1
  go_enter Tryz.func68, Tryz.ntmps68
  go_wp2
  clear x0 x1 kk q q2 q3
  generalize w.alloc (.cells #[.slice (some ⟨bW, oW, none⟩) ws.length cW, .slice aP ps.length cP] 98) = W at *
  have hz : w.heap.size ≤ W.heap.size := BW.out.size
  go_loopw [3] (fun i wr => ∃ k : Nat, k ≤ ws.length ∧ i = .int .i64 k ∧ Hid (Below W.heap.size W wr ∧ ∀ j (h : j < ws.length), j < k → inoB ws[j] = true)) (fun i _ => ws.length - (intOf i).toNat)
  case atStart => exact ⟨0, by omega, rfl, Below.refl _ _, fun j h a => absurd a (by omega)⟩
  case round =>
    obtain ⟨k, hk, rfl, H⟩ := hrel
    have H1 := hideIt H.out.1
    have HF := hideIt (below_trans BW.out H.out.1 hz)
    obtain ⟨x0, x1⟩ := CA.out wr H.out.1
    by_cases hlt : k < ws.length
    · obtain ⟨a0, a1, a2, a3, a4, a5, a6, a7, a8, a9, a10⟩ := HC.out k hlt
      have d0 := (HF.out.cell (p := ⟨bW, oW + k * 11, none⟩) hblW).trans a0
      have d1 := (HF.out.cell (p := ⟨bW, oW + k * 11 + 1, none⟩) hblW).trans a1
      have d2 := (HF.out.cell (p := ⟨bW, oW + k * 11 + 2, none⟩) hblW).trans a2
      have d3 := (HF.out.cell (p := ⟨bW, oW + k * 11 + 3, none⟩) hblW).trans a3
      have d4 := (HF.out.cell (p := ⟨bW, oW + k * 11 + 4, none⟩) hblW).trans a4
      have d5 := (HF.out.cell (p := ⟨bW, oW + k * 11 + 5, none⟩) hblW).trans a5
      have d6 := (HF.out.cell (p := ⟨bW, oW + k * 11 + 6, none⟩) hblW).trans a6
      have d7 := (HF.out.cell (p := ⟨bW, oW + k * 11 + 7, none⟩) hblW).trans a7
      have d8 := (HF.out.cell (p := ⟨bW, oW + k * 11 + 8, none⟩) hblW).trans a8
      have d9 := (HF.out.cell (p := ⟨bW, oW + k * 11 + 9, none⟩) hblW).trans a9
      have d10 := (HF.out.cell (p := ⟨bW, oW + k * 11 + 10, none⟩) hblW).trans a10
      have k0' : (0 : Int) ≤ (k : Int) := by omega
      have k1 : (k : Int) < (ws.length : Int) := by omega
      have LI := hideIt (fun w1 => l05Inode_any ws[k] w1 (HR.out k hlt))
      have H2 : Hid (inoB ws[k] = true → ∀ j (h : j < ws.length), j < k + 1 → inoB ws[j] = true) := fun q j h a => by
        by_cases e : j = k
        · subst e; exact q
        · exact H.out.2 j h (by omega)
      have H3 := hideIt (fun q => okNs_not hlt q)
      clear a0 a1 a2 a3 a4 a5 a6 a7 a8 a9 a10 H
      generalize ws[k] = x at d0 d1 d2 d3 d4 d5 d6 d7 d8 d9 d10 LI H2 H3
      cases qq : inoB x with
      | true =>
        rw [qq] at LI
        have E := hideIt (H2.out qq)
        clear H2 H3 qq
        go_wp2_with fail
        refine (LI.out _).mono ?_
        rintro e w1 ⟨rfl, hb1⟩
        have B3 := hideIt (below_trans H1.out hb1 H1.out.size)
        clear hb1 d0 d1 d2 d3 d4 d5 d6 d7 d8 d9 d10 x0 x1
        go_wp2
        go_roundw
        case rel => exact ⟨k + 1, by omega, by go_num, B3.out, E.out⟩
        case measure => simp [intOf]; omega
      | false =>
        rw [qq] at LI
        have E := hideIt (show imgB ws ps = false by rw [E2.out, H3.out qq]; rfl)
        clear H2 H3 qq
        go_wp2_with fail
        refine (LI.out _).mono ?_
        rintro e w1 ⟨rfl, hb1⟩
        have B3 := hideIt (below_trans HF.out hb1 HF.out.size)
        clear hb1 d0 d1 d2 d3 d4 d5 d6 d7 d8 d9 d10 x0 x1
        go_wp2
        go_ret
        exact ⟨ret_bool E.out.symm, B3.out⟩
    · have O := hideIt (okNs_mk (fun j h => H.out.2 j h (by omega)))
      have E3 := hideIt (show imgB ws ps = (entsB ws ps && (linksB ws ps && singB ws)) by rw [E2.out, O.out]; rfl)
      clear H
      generalize entsB ws ps = f1 at *
      generalize linksB ws ps = f2 at *
      generalize singB ws = f3 at *
      go_wp2_with fail
      refine (L2.out _ (HRD.out.below HF.out) C1.out).mono ?_
      rintro e w1 ⟨rfl, hb1⟩
      have B1 := hideIt (below_trans HF.out hb1 HF.out.size)
      have BA := hideIt (below_trans H1.out hb1 H1.out.size)
      clear hb1 x0 x1
      cases f1 with
      | false =>
        go_wp2
        go_ret
        exact ⟨ret_bool (by rw [E3.out]; rfl), B1.out⟩
      | true =>
      obtain ⟨x0, x1⟩ := CA.out _ BA.out
      go_wp2_with fail
      refine (L1.out _ (HRD.out.below B1.out)).mono ?_
      rintro e w2 ⟨rfl, hb2⟩
      have B2 := hideIt (below_trans B1.out hb2 B1.out.size)
      have BB := hideIt (below_trans BA.out hb2 BA.out.size)
      clear hb2 x0 x1
      cases f2 with
      | false =>
        go_wp2
        go_ret
        exact ⟨ret_bool (by rw [E3.out]; rfl), B2.out⟩
      | true =>
      obtain ⟨x0, x1⟩ := CA.out _ BB.out
      go_wp2_with fail
      refine (L3.out _ (HRD.out.below B2.out) C1.out O.out).mono ?_
      rintro e w3 ⟨rfl, hb3⟩
      have B3 := hideIt (below_trans B2.out hb3 B2.out.size)
      clear hb3 x0 x1
      go_wp2
      go_ret
      exact ⟨ret_bool (by rw [E3.out]; rfl), B3.out⟩
end Go.Proofs.YtmeiionabonhnaaGreatDoor

namespace Go.Proofs.YtmeiionabonhnaaGreatDoor
open Go.RowKit
theorem hangs_succ (ps : List Den) (n : Nat) (d : Int) : hangs ps (n + 1) d = if d = 0 then true else if upD ps d < 0 then false else hangs ps n (upD ps d) := rfl
theorem hangs_none (ps : List Den) (d : Int) : hangs ps 0 d = false := rfl
theorem hang_step {ps : List Den} {k : Nat} {x : Int} (h : hangs ps (k + 1) x = true) (q : ¬ x = 0) : 0 ≤ upD ps x ∧ hangs ps k (upD ps x) = true := by
  rw [hangs_succ, if_neg q] at h
  by_cases r : upD ps x < 0
  · rw [if_pos r] at h; cases h
  · rw [if_neg r] at h; exact ⟨by omega, h⟩
theorem pimg_all {ws : List Ino} {ps : List Den} (h : imgB ws ps = true) : ws.length = 16 ∧ ps.length = 24 ∧ kindAt ws 0 = 2 ∧ okNs ws = true ∧ entsB ws ps = true ∧ linksB ws ps = true ∧ singB ws = true := by
  unfold imgB at h
  simp only [Bool.and_eq_true, decide_eq_true_eq, beq_iff_eq] at h
  exact h
theorem pimg_ent {ws : List Ino} {ps : List Den} (h : imgB ws ps = true) (i : Nat) (hi : i < ps.length) : (ps[i].child = -1 ∧ ps[i].name.size = 0) ∨ ((1 ≤ ps[i].child ∧ ps[i].child ≤ 15) ∧ (0 ≤ ps[i].dir ∧ ps[i].dir ≤ 15) ∧ nmB ps[i].name = true ∧ ¬ kindAt ws ps[i].child = 0 ∧ kindAt ws ps[i].dir = 2) := by
  obtain ⟨_, _, _, _, he, _, _⟩ := pimg_all h
  have e := (of_decide_eq_true he : ∀ i (h : i < ps.length), entOne ws ps i ps[i] = true) i hi
  unfold entOne at e
  split at e
  · rename_i c
    left
    refine ⟨c, ?_⟩
    unfold Den.freeB at e
    simp only [Bool.and_eq_true, beq_iff_eq] at e
    have := e.2.1
    first
      | exact this
      | simpa using this
      | (simp at this; rw [this]; rfl)
  · right
    simp only [Bool.and_eq_true, decide_eq_true_eq, Bool.not_eq_true', beq_eq_false_iff_ne, beq_iff_eq] at e
    exact ⟨e.1, e.2.1, e.2.2.1, e.2.2.2.1, e.2.2.2.2.1⟩
theorem pimg_hangs {ws : List Ino} {ps : List Den} (h : imgB ws ps = true) {i : Int} (h0 : 0 ≤ i ∧ i ≤ 15) (hk : kindAt ws i = 2) : hangs ps 16 i = true := by
  obtain ⟨hl, _, _, _, _, hL, _⟩ := pimg_all h
  obtain ⟨n, rfl⟩ : ∃ n : Nat, i = (n : Int) := ⟨i.toNat, by omega⟩
  have hn : n < ws.length := by omega
  have := (of_decide_eq_true hL : ∀ i (h : i < ws.length), linkB ps i ws[i] = true) n hn
  unfold linkB at this
  rw [kindAt_of hn] at hk
  simp only [Bool.and_eq_true, Bool.or_eq_true, decide_eq_true_eq] at this
  rcases this.2 with q | q
  · exact absurd hk q
  · exact q
end Go.Proofs.YtmeiionabonhnaaGreatDoor

namespace Go.Proofs.YtmeiionabonhnaaGreatDoor
open Go.RowKit
def mkB (l : List UInt8) : ByteArray := ⟨l.toArray⟩
theorem mkB_data (l : List UInt8) : (mkB l).data.toList = l := by simp [mkB]
theorem mkB_of (s : ByteArray) : mkB s.data.toList = s := by
  obtain ⟨⟨l⟩⟩ := s
  rfl
theorem bytes_ext {a b : ByteArray} (h : a.data.toList = b.data.toList) : a = b := by rw [← mkB_of a, ← mkB_of b, h]
theorem mkB_extract (s : ByteArray) (a b : Nat) : mkB ((s.data.toList.take b).drop a) = s.extract a b := by
  apply bytes_ext
  rw [mkB_data, Lib.extract_data, List.drop_take]
def cutG (cur : List UInt8) : List UInt8 → List (List UInt8)
  | [] => [cur]
  | c :: l => if c = 47 then cur :: cutG [] l else cutG (cur ++ [c]) l
theorem cutG_nil (cur : List UInt8) : cutG cur [] = [cur] := rfl
theorem cutG_cons (cur : List UInt8) (c : UInt8) (l : List UInt8) : cutG cur (c :: l) = if c = 47 then cur :: cutG [] l else cutG (cur ++ [c]) l := rfl
theorem cutG_none : ∀ (l cur : List UInt8), (∀ c ∈ l, ¬ c = 47) → cutG cur l = [cur ++ l]
  | [], cur, _ => by rw [cutG_nil, List.append_nil]
  | c :: l, cur, h => by
    rw [cutG_cons, if_neg (h c (List.mem_cons_self ..)), cutG_none l _ (fun x hx => h x (List.mem_cons_of_mem _ hx)), List.append_assoc]
    rfl
theorem cutG_some : ∀ (l cur r : List UInt8), (∀ c ∈ l, ¬ c = 47) → cutG cur (l ++ 47 :: r) = (cur ++ l) :: cutG [] r
  | [], cur, r, _ => by rw [List.nil_append, cutG_cons, if_pos rfl, List.append_nil]
  | c :: l, cur, r, h => by
    rw [List.cons_append, cutG_cons, if_neg (h c (List.mem_cons_self ..)), cutG_some l _ r (fun x hx => h x (List.mem_cons_of_mem _ hx)), List.append_assoc]
    rfl
theorem cutG_head : ∀ (l cur : List UInt8), ∃ x r, cutG cur l = (cur ++ x) :: r
  | [], cur => ⟨[], [], by rw [cutG_nil, List.append_nil]⟩
  | c :: l, cur => by
    rw [cutG_cons]
    by_cases h : c = 47
    · rw [if_pos h]; exact ⟨[], _, by rw [List.append_nil]⟩
    · rw [if_neg h]
      obtain ⟨x, r, e⟩ := cutG_head l (cur ++ [c])
      exact ⟨c :: x, r, by rw [e, List.append_assoc]; rfl⟩
theorem cutG_len : ∀ (l cur : List UInt8), (cutG cur l).length ≤ l.length + 1
  | [], cur => by rw [cutG_nil]; simp
  | c :: l, cur => by
    rw [cutG_cons]
    split
    · have := cutG_len l []
      simp only [List.length_cons]; omega
    · have := cutG_len l (cur ++ [c])
      simp only [List.length_cons]; omega
def pcs (s : ByteArray) : List ByteArray := (cutG [] s.data.toList).map mkB
theorem pcs_len (s : ByteArray) : (pcs s).length ≤ s.size + 1 := by
  unfold pcs
  rw [List.length_map, Lib.size_eq]
  exact cutG_len _ _
end Go.Proofs.YtmeiionabonhnaaGreatDoor

namespace Go.Proofs.YtmeiionabonhnaaGreatDoor
open Go.RowKit
theorem byte_at (s : ByteArray) (k : Nat) (h : k < s.size) : s.data.toList[k]'(by rw [← Lib.size_eq]; exact h) = s[k] := by
  rw [Array.getElem_toList]
  rfl
theorem byte_is (c : UInt8) : ((c.toNat : Int) == 47) = decide (c = 47) := by
  by_cases h : c = 47
  · subst h; rfl
  · rw [decide_eq_false h, beq_eq_false_iff_ne]
    intro e
    apply h
    apply UInt8.toNat_inj.1
    show c.toNat = 47
    omega
theorem cut_begin (l : List UInt8) : cutG [] l = [] ++ cutG ((l.take 0).drop 0) (l.drop 0) := by simp
theorem cut_yes {l : List UInt8} {ds : List (List UInt8)} {k f : Nat} (hk : k < l.length) (h : cutG [] l = ds ++ cutG ((l.take k).drop f) (l.drop k)) (hc : l[k] = 47) :
    cutG [] l = (ds ++ [(l.take k).drop f]) ++ cutG ((l.take (k + 1)).drop (k + 1)) (l.drop (k + 1)) := by
  rw [List.drop_eq_getElem_cons hk, cutG_cons, if_pos hc] at h
  rw [h, List.append_assoc, List.drop_of_length_le (l := l.take (k + 1)) (by rw [List.length_take]; omega)]
  rfl
theorem cut_no {l : List UInt8} {ds : List (List UInt8)} {k f : Nat} (hk : k < l.length) (hf : f ≤ k) (h : cutG [] l = ds ++ cutG ((l.take k).drop f) (l.drop k)) (hc : ¬ l[k] = 47) :
    cutG [] l = ds ++ cutG ((l.take (k + 1)).drop f) (l.drop (k + 1)) := by
  rw [List.drop_eq_getElem_cons hk, cutG_cons, if_neg hc] at h
  rw [h, List.take_succ_eq_append_getElem hk, List.drop_append_of_le_length (by rw [List.length_take]; omega)]
theorem cut_end {s : ByteArray} {ds : List (List UInt8)} {f : Nat} (h : cutG [] s.data.toList = ds ++ cutG ((s.data.toList.take s.size).drop f) (s.data.toList.drop s.size)) : pcs s = ds.map mkB ++ [s.extract f s.size] := by
  unfold pcs
  rw [h, List.drop_of_length_le (l := s.data.toList) (by rw [← Lib.size_eq]; exact Nat.le_refl _), cutG_nil, List.map_append]
  show ds.map mkB ++ [mkB _] = _
  rw [mkB_extract]
set_option maxRecDepth 100000 in
set_option maxHeartbeats 4000000 in
theorem l00Cut_any (s : ByteArray) (w : World) (hs : s.size ≤ 65536) :
    Calls Tryz.prog 133 #[.string s, .int .u8 47] w fun e w' => ∃ v', e = .returned v' ∧ Row w' 9 1 w.heap.size w'.heap.size v' (pcs s).length (strs (pcs s)) ∧ Below w.heap.size w w' := by
  have START : Hid (SnI w (w.alloc (.cells #[] 9)) (.slice (some ⟨w.heap.size, 0, none⟩) 0 0) []) := ⟨World.ownsRow_lit w #[] 0 (Nat.le_refl _) (by simp [maxLen]) (by simp), (Below.refl _ _).alloc (Nat.le_refl _) _⟩
  have HL := hideIt (Lib.size_eq s)
  go_enter Tryz.func133, Tryz.ntmps133
  go_wp2
  go_loopg [5, 6, 7] s.size (fun g vL fr i wr => ∃ (k f : Nat) (ds : List (List UInt8)), k + g = s.size ∧ f ≤ k ∧ fr = .int .i64 f ∧ i = .int .i64 k ∧ vL ≠ .slice none 0 0 ∧ ds.length ≤ k ∧ Hid (SnI w wr vL (ds.map mkB) ∧ cutG [] s.data.toList = ds ++ cutG ((s.data.toList.take k).drop f) (s.data.toList.drop k)))
  case atStart => exact ⟨0, 0, [], by omega, by omega, rfl, rfl, (fun e => by cases e), Nat.le_refl _, START.out, cut_begin _⟩
  case round =>
    obtain ⟨k, f, ds, hkg, hf, rfl, rfl, hv, hd, I⟩ := hrel
    clear START
    have k0 : (0 : Int) ≤ (k : Int) := by omega
    have f0 : (0 : Int) ≤ (f : Int) := by omega
    have fk : (f : Int) ≤ (k : Int) := by omega
    have DL : (ds.map mkB).length = ds.length := List.length_map ..
    by_cases hlt : k < s.size
    · have k1 : (k : Int) < (s.size : Int) := by omega
      have k2 : (k : Int) ≤ (s.size : Int) := by omega
      have hkl : k < s.data.toList.length := by rw [← HL.out]; exact hlt
      by_cases c : s[k] = 47
      · have q : ((s[k].toNat : Int) == 47) = true := by rw [byte_is, decide_eq_true c]
        have N := hideIt (cut_yes hkl I.out.2 (by rw [byte_at s k hlt]; exact c))
        have MN : Hid ((ds ++ [(s.data.toList.take k).drop f]).map mkB = ds.map mkB ++ [s.extract f k]) := by unfold Hid; rw [List.map_append, ← mkB_extract]; rfl
        have JB : Hid (SnI w (wr.alloc (.cells #[.string (s.extract f k)] 9)) u5 (ds.map mkB)) := I.out.1.below ((Below.refl _ _).alloc (Nat.le_refl _) _)
        have RB := hideIt (rd_str wr (s.extract f k))
        have hzb := JB.out.z
        simp only [World.size_alloc] at hzb
        clear I c
        go_wp2_with (at_builtin; refine wpList_append_rd _ rfl (.tmp 20) (.tmp 25) 27 rfl w.heap.size 9 (.string ⟨#[]⟩) 1 16 Tryz.underlying27 info9 rfl (by decide) _ _ _ rfl JB.out.l _ 1 _ rfl RB.out (strs_one _) (by simp [maxLen]; omega) (by simp; omega) JB.out.z ?_)
        intro vN wN hownN hgrN
        have G := hideIt (JB.out.grow [s.extract f k] rfl (by rw [List.length_map]; exact hownN) hgrN)
        rw [← MN.out] at G
        have hv2 := hideIt (G.out.some_ (by simp))
        clear hownN hgrN JB RB q MN hv
        go_wp2
        go_roundg (s.size - (k + 1))
        case measure => omega
        case rel => exact ⟨k + 1, k + 1, ds ++ [(s.data.toList.take k).drop f], by omega, Nat.le_refl _, by go_num, by go_num, hv2.out, by simp; omega, G.out, N.out⟩
      · have q : ((s[k].toNat : Int) == 47) = false := by rw [byte_is, decide_eq_false c]
        have N := hideIt (cut_no hkl hf I.out.2 (by rw [byte_at s k hlt]; exact c))
        have I1 := hideIt I.out.1
        have HV := hideIt hv
        clear I c DL hv
        go_wp2
        go_roundg (s.size - (k + 1))
        case measure => omega
        case rel => exact ⟨k + 1, f, ds, by omega, by omega, rfl, by go_num, HV.out, by omega, I1.out, N.out⟩
    · obtain rfl : k = s.size := by omega
      have MN := hideIt (cut_end I.out.2)
      have JB : Hid (SnI w (wr.alloc (.cells #[.string (s.extract f s.size)] 9)) u5 (ds.map mkB)) := I.out.1.below ((Below.refl _ _).alloc (Nat.le_refl _) _)
      have RB := hideIt (rd_str wr (s.extract f s.size))
      have hzb := JB.out.z
      simp only [World.size_alloc] at hzb
      clear I
      go_wp2_with (at_builtin; refine wpList_append_rd _ rfl (.tmp 29) (.tmp 33) 27 rfl w.heap.size 9 (.string ⟨#[]⟩) 1 16 Tryz.underlying27 info9 rfl (by decide) _ _ _ rfl JB.out.l _ 1 _ rfl RB.out (strs_one _) (by simp [maxLen]; omega) (by simp; omega) JB.out.z ?_)
      intro vN wN hownN hgrN
      have G := hideIt (JB.out.grow [s.extract f s.size] rfl (by rw [List.length_map]; exact hownN) hgrN)
      rw [← MN.out] at G
      clear hownN hgrN JB RB MN hv
      go_wp2
      go_ret
      exact ⟨_, rfl, own_block G.out.l, G.out.b⟩
end Go.Proofs.YtmeiionabonhnaaGreatDoor
