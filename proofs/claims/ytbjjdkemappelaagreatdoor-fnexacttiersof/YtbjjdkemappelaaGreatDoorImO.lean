/- An image that is right: by the model; and that the program asks the same. -/
import Derived.Test.YtbjjdkemappelaaGreatDoorImM
import Derived.Test.YtbjjdkemappelaaGreatDoorImN
import Derived.Test.YtbjjdkemappelaaGreatDoorPiO
namespace Go.Proofs.YtbjjdkemappelaaGreatDoor
open Go.RowKit
def singB (ws : List Ino) : Bool := onceB (usedOf (mapped ws) 1) && onceB (usedOf (mapped ws) 2)
def imgB (ws : List Ino) (ps : List Den) : Bool := decide (ws.length = 16) && (decide (ps.length = 24) && (kindAt ws 0 == 2 && (okNs ws && (entsB ws ps && (linksB ws ps && singB ws)))))
theorem ino_ties {x : Ino} (h : inoB x = true) : (∀ z ∈ x.map, tieB z = true) ∧ (x.kind = 2 → x.links = 1) := by
  unfold inoB at h
  simp only [Bool.and_eq_true, decide_eq_true_eq] at h
  obtain ⟨_, _, _, d, f⟩ := h
  refine ⟨fun z hz => ?_, fun k => ?_⟩
  · obtain ⟨i, hi, rfl⟩ := List.getElem_of_mem hz
    have := mapB_to d i hi
    rw [List.getD_eq_getElem?_getD, List.getElem?_eq_getElem hi] at this
    unfold entB at this
    simp only [Option.getD_some, Bool.and_eq_true] at this
    exact this.1
  · unfold kindB at f
    rw [if_neg (by omega), if_pos k] at f
    simp only [Bool.and_eq_true, beq_iff_eq] at f
    exact f.2
theorem tie_small {z : Int} (h : tieB z = true) : 0 ≤ z ∧ z ≤ 1048576 := by
  unfold tieB addrB at h
  simp only [Bool.and_eq_true, decide_eq_true_eq] at h
  omega
theorem okNs_ties {ws : List Ino} (h : okNs ws = true) : ∀ i (h : i < ws.length), ∀ z ∈ ws[i].map, tieB z = true := fun i hi => (ino_ties ((of_decide_eq_true h : ∀ k (h : k < ws.length), inoB ws[k] = true) i hi)).1
theorem pim_img (ws : List Ino) (ps : List Den) : pimB ws ps = imgB ws ps := by
  unfold pimB imgB partsB
  by_cases l1 : ws.length = 16
  case neg => simp [l1]
  by_cases l2 : ps.length = 24
  case neg => simp [l2]
  rw [decide_eq_true l1, decide_eq_true l2, Bool.true_and, Bool.true_and, Bool.true_and, Bool.true_and]
  cases o1 : okNs ws
  · simp
  cases o2 : okDs ps
  · have : entsB ws ps = false := by
      rw [Bool.eq_false_iff]
      intro e
      rw [ents_ok e] at o2
      cases o2
    rw [this]; simp
  rw [ents_eq o2]
  cases f1 : fitsB ws (takenD ps)
  · simp
  cases f2 : onceD ((takenD ps).map anonD)
  · simp
  rw [links_eq l1 (fun i hi => (ino_ties ((of_decide_eq_true o1 : ∀ k (h : k < ws.length), inoB ws[k] = true) i hi)).2) o2 f1]
  have s1 : singB ws = onceB (mapped ws) := single_eq (fun e he => (mapped_ties (okNs_ties o1) e he).2)
  rw [s1]
  simp [Bool.and_assoc]
set_option maxRecDepth 100000 in
set_option maxHeartbeats 4000000 in
theorem l05Single_any (v : Value) (ws : List Ino) (ps : List Den) (w : World) (h : RdIm w v ws ps) (hn : ws.length = 16) (hr : ∀ k (h : k < ws.length), ∀ z ∈ ws[k].map, 0 ≤ z ∧ z ≤ 1048576) :
    Calls Tryz.prog 132 #[v] w fun e w' => e = .returned (.bool (singB ws)) ∧ Below w.heap.size w w' := by
  have HR := hideIt h
  have LU := hideIt (fun t w1 h => l05Used_any v ws ps t w1 h (by omega) hr)
  have UL := hideIt (fun t => show (usedOf (mapped ws) t).length ≤ 128 by have := usedOf_len (mapped ws) t; have := mapped_len ws; omega)
  obtain ⟨vW, vP, rfl, h1, h2⟩ := h
  obtain ⟨aW, cW, rfl, _, _⟩ := h1.shape
  obtain ⟨aP, cP, rfl, _, _⟩ := h2.shape
  clear h1 h2 hr hn
  obtain ⟨W, hW⟩ : ∃ W, W = w.alloc (.cells #[.slice aW ws.length cW, .slice aP ps.length cP] 76) := ⟨_, rfl⟩
  have CA : Hid (∀ w', Below W.heap.size W w' → w'.cell? ⟨w.heap.size, 0, none⟩ = some (.slice aW ws.length cW) ∧ w'.cell? ⟨w.heap.size, 1, none⟩ = some (.slice aP ps.length cP)) := fun w' hb => by
    have : w'.heap[w.heap.size]? = some (.cells #[.slice aW ws.length cW, .slice aP ps.length cP] 76 (0, 0)) := (hb.block _ (by rw [hW]; simp)).trans (by rw [hW]; exact at_new rfl)
    exact ⟨(two_cells this).1, (two_cells this).2.1⟩
  have BW : Hid (Below w.heap.size w W) := by rw [hW]; exact (Below.refl _ _).alloc (Nat.le_refl _) _
  have hz : w.heap.size ≤ W.heap.size := BW.out.size
  have SG := hideIt (show singB ws = (onceB (usedOf (mapped ws) 1) && onceB (usedOf (mapped ws) 2)) from rfl)
  generalize usedOf (mapped ws) = uf at *
  go_enter Tryz.func132, Tryz.ntmps132
  go_wp2
  rw [← hW]
  clear hW
  go_loopw [3] (fun i wr => ∃ t : Nat, (1 ≤ t ∧ t ≤ 3) ∧ i = .int .i64 t ∧ Hid (Below W.heap.size W wr ∧ ∀ s : Nat, 1 ≤ s → s < t → onceB (uf (s : Int)) = true)) (fun i _ => 3 - (intOf i).toNat)
  case atStart => exact ⟨1, by omega, rfl, Below.refl _ _, fun s h a => absurd a (by omega)⟩
  case round =>
    obtain ⟨t, ht, rfl, J⟩ := hrel
    have J1 := hideIt J.out.1
    have JW := hideIt (below_trans BW.out J.out.1 hz)
    obtain ⟨x0, x1⟩ := CA.out wr J.out.1
    by_cases hlt : t ≤ 2
    · have t2 : (t : Int) ≤ 2 := by omega
      have t1 : (0 : Int) ≤ (t : Int) := by omega
      have JS := hideIt J.out.2
      have NO : Hid (onceB (uf (t : Int)) = false → singB ws = false) := fun q => by
        rw [SG.out]
        rcases (show t = 1 ∨ t = 2 by omega) with rfl | rfl
        · rw [show ((1 : Nat) : Int) = 1 from rfl] at q; rw [q]; rfl
        · rw [show ((2 : Nat) : Int) = 2 from rfl] at q; rw [q, Bool.and_false]
      clear J
      go_wp2_with fail
      refine (LU.out _ _ (HR.out.below JW.out)).mono ?_
      rintro e w1 ⟨v1, rfl, hr1, hb1⟩
      obtain ⟨-, aL, cL, hvL, hcap, -⟩ := hr1.rd
      have hcap1 := hcap.1
      subst hvL
      have R1 : Hid (RdI w1 (.slice aL (uf (t : Int)).length cL) (uf (t : Int))) := hr1.rd
      have B1 := hideIt (below_trans J1.out hb1 J1.out.size)
      have B2 := hideIt (below_trans BW.out B1.out hz)
      have ul := UL.out (t : Int)
      have JN : Hid (onceB (uf (t : Int)) = true → ∀ s : Nat, 1 ≤ s → s < t + 1 → onceB (uf (s : Int)) = true) := fun q s h a => by
        by_cases e : s = t
        · subst e; exact q
        · exact JS.out s h (by omega)
      clear hr1 hb1 x0 x1 hcap JS
      generalize uf (t : Int) = zs at *
      obtain ⟨aZ, cZ, e, _, hcZ⟩ := R1.out.shape
      have HZ := hideIt hcZ
      obtain ⟨rfl, rfl⟩ : aZ = aL ∧ cZ = cL := by cases e; exact ⟨rfl, rfl⟩
      clear e hcZ
      go_wp2
      go_loopw [5] (fun i wq => ∃ k : Nat, k ≤ zs.length ∧ i = .int .i64 k ∧ Hid (Below w1.heap.size w1 wq ∧ ∀ j (h : j < zs.length), j < k → hasB (zs.take j) zs[j] = false)) (fun i _ => zs.length - (intOf i).toNat)
      case atStart => exact ⟨0, by omega, rfl, Below.refl _ _, fun j h a => absurd a (by omega)⟩
      case round =>
        obtain ⟨k, hk, rfl, H⟩ := hrel
        have k0 : (0 : Int) ≤ (k : Int) := by omega
        have H1 := hideIt H.out.1
        have HB := hideIt (below_trans B1.out H.out.1 B1.out.size)
        have HF := hideIt (below_trans B2.out H.out.1 B2.out.size)
        by_cases hlk : k < zs.length
        · obtain ⟨b, o, rfl, hbl, hcell⟩ := HZ.out (by omega)
          have hck := (H1.out.cell (p := ⟨b, o + k, none⟩) hbl).trans (hcell k hlk)
          have k1 : (k : Int) < (zs.length : Int) := by omega
          have k2 : (k : Int) ≤ (cZ : Int) := by omega
          have hblr : b < wr.heap.size := by have := H1.out.size; omega
          have RT := hideIt (RdI.take (Rd.below R1.out H1.out) hk)
          have LT := hideIt (show (zs.take k).length ≤ 1048576 by rw [List.length_take]; omega)
          clear hcell
          cases q : hasB (zs.take k) zs[k] with
          | false =>
            have H' : Hid (∀ j (h : j < zs.length), j < k + 1 → hasB (zs.take j) zs[j] = false) := fun j h a => by
              by_cases e : j = k
              · subst e; exact q
              · exact H.out.2 j h (by omega)
            have Q := hideIt q
            clear q H
            generalize zs[k] = z at hck Q
            go_wp2
            have RB : Hid (∀ w', Below wr.heap.size wr w' → RdI w' (.slice (some ⟨b, o, none⟩) k cZ) (zs.take k)) := fun w' hb => Rd.below RT.out hb
            have SK : Hid (∀ w', Below wr.heap.size wr w' → w'.cell? ⟨b, o + k, none⟩ = some (.int .i64 z)) := fun w' hb => (hb.cell (p := ⟨b, o + k, none⟩) hblr).trans hck
            go_region_held3 (fun w' => w'.cell? ⟨b, o + k, none⟩ = some (.int .i64 z))
              (exact SK.out _ (by repeat (first | exact Below.refl _ _ | refine Below.drew ?_)))
              (first
                | (go_at_call 37; refine (l05Has_any _ (zs.take k) z _ (RB.out _ (by repeat (first | exact Below.refl _ _ | refine Below.drew ?_))) LT.out).mono ?_; rw [Q.out]; rintro e w' ⟨rfl, hw'⟩; subst w'))
            all_goals
              clear SK RB hck
              go_wp2
              go_roundw
              case rel => exact ⟨k + 1, by omega, by go_num, (by repeat (first | exact H1.out | refine Below.drew ?_)), H'.out⟩
              case measure => simp [intOf]; omega
          | true =>
            have E := hideIt (NO.out (onceB_not hlk q))
            have Q := hideIt q
            clear q H
            generalize zs[k] = z at hck Q
            go_wp2
            have RB : Hid (∀ w', Below wr.heap.size wr w' → RdI w' (.slice (some ⟨b, o, none⟩) k cZ) (zs.take k)) := fun w' hb => Rd.below RT.out hb
            have SK : Hid (∀ w', Below wr.heap.size wr w' → w'.cell? ⟨b, o + k, none⟩ = some (.int .i64 z)) := fun w' hb => (hb.cell (p := ⟨b, o + k, none⟩) hblr).trans hck
            go_region_held3 (fun w' => w'.cell? ⟨b, o + k, none⟩ = some (.int .i64 z))
              (exact SK.out _ (by repeat (first | exact Below.refl _ _ | refine Below.drew ?_)))
              (first
                | (go_at_call 37; refine (l05Has_any _ (zs.take k) z _ (RB.out _ (by repeat (first | exact Below.refl _ _ | refine Below.drew ?_))) LT.out).mono ?_; rw [Q.out]; rintro e w' ⟨rfl, hw'⟩; subst w'))
            all_goals
              clear SK RB hck
              go_wp2
              go_ret
              exact ⟨ret_bool E.out.symm, (by repeat (first | exact HF.out | refine Below.drew ?_))⟩
        · have E := hideIt (JN.out (onceB_mk (fun j h => H.out.2 j h (by omega))))
          clear H
          go_wp2
          go_roundw
          case rel => exact ⟨t + 1, by omega, by go_num, HB.out, E.out⟩
          case measure => simp [intOf]; omega
    · obtain rfl : t = 3 := by omega
      have E := hideIt (show singB ws = true by
        have e1 : onceB (uf 1) = true := J.out.2 1 (by omega) (by omega)
        have e2 : onceB (uf 2) = true := J.out.2 2 (by omega) (by omega)
        rw [SG.out, e1, e2]; rfl)
      clear J
      go_wp2
      go_ret
      exact ⟨ret_bool E.out.symm, JW.out⟩
end Go.Proofs.YtbjjdkemappelaaGreatDoor
