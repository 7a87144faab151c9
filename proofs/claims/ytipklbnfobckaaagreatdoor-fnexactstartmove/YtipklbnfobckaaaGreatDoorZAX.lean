/- Several texts laid together: PiO, ImO, ImP, PaA, PbA, PcA. -/
import Derived.Test.YtipklbnfobckaaaGreatDoorZAV
import Derived.Test.YtipklbnfobckaaaGreatDoorZAW
import Derived.Test.YtipklbnfobckaaaGreatDoorZAU
import Derived.Test.YtipklbnfobckaaaGreatDoorZAL
import Derived.Test.YtipklbnfobckaaaGreatDoorZAI
import Derived.Lib.SplitLaws
import Derived.Lib.IndexBytes
import Derived.Deep.LoopGhost
import Derived.Deep.RegionHeld3
import Derived.Laws.OwnMore
namespace Go.Proofs.YtipklbnfobckaaaGreatDoor
open Go.RowKit

/-- An image that is right, as the program asks it. -/
def pimB (ws : List Ino) (ps : List Den) : Bool := zfi ws ps && (zax ws 0 == 2 && (znr ws (zao ps) && (zlz ((zao ps).map zgm) && (lcB ws (zao ps) && (dhB ws (zao ps) && zek (zak ws))))))
theorem parts_true {ws : List Ino} {ps : List Den} (h : zfi ws ps = true) : ws.length = 16 ∧ ps.length = 24 ∧ ztw ws = true ∧ okDs ps = true := by
 unfold zfi at h
 simp only [Bool.and_eq_true, decide_eq_true_eq] at h
 exact h
theorem zvd {ps : List Den} (h : okDs ps = true) : ∀ k (h : k < (zao ps).length), (0 ≤ (zao ps)[k].child ∧ (zao ps)[k].child ≤ 15) ∧ (0 ≤ (zao ps)[k].dir ∧ (zao ps)[k].dir ≤ 15) := by
 have h := of_decide_eq_true h
 intro k hk
 obtain ⟨hm, hf⟩ := List.mem_filter.1 (List.getElem_mem hk)
 obtain ⟨i, hi, e⟩ := List.getElem_of_mem hm
 have o := h i hi
 rw [e] at o
 have c := zkl o (fun q => by rw [(zpb o).2 q] at hf; cases hf)
 exact ⟨by omega, c.2.1⟩

set_option maxRecDepth 100000 in
set_option maxHeartbeats 8000000 in
theorem pimOK_any (v : Value) (ws : List Ino) (ps : List Den) (w : World) (h : RdIm w v ws ps) (hw : ws.length ≤ 1048576) (hp : ps.length ≤ 1048576) (hT : TS w) (hE : ED w) (hF : FD w) (hr : ∀ k (h : k < ws.length), ws[k].R) (hs : ∀ k (h : k < ps.length), ps[k].name.size ≤ maxLen) :
  Calls Tryz.prog 111 #[v] w fun e w' => e = .returned (.bool (pimB ws ps)) ∧ Below w.heap.size w w' := by
 have LP := zaa (fun w1 (hb : Below w.heap.size w w1) => zvm v ws ps w1 (h.below hb) hw hp (hT.below hb) (hE.below hb) (hF.below hb) hr hs)
 obtain ⟨vW, vP, rfl, h1, h2⟩ := h
 have RW := zaa h1
 have RP := zaa h2
 obtain ⟨aW, cW, rfl, _, hcW⟩ := h1.shape
 obtain ⟨aP, cP, rfl, _, _⟩ := h2.shape
 have BW := zaa ((Below.refl w.heap.size w).alloc (Nat.le_refl _) (.cells #[.slice aW ws.length cW, .slice aP ps.length cP] 83))
 have CA : Hid (∀ w', Below (w.alloc (.cells #[.slice aW ws.length cW, .slice aP ps.length cP] 83)).heap.size (w.alloc (.cells #[.slice aW ws.length cW, .slice aP ps.length cP] 83)) w' → w'.cell? ⟨w.heap.size, 0, none⟩ = some (.slice aW ws.length cW) ∧ w'.cell? ⟨w.heap.size, 1, none⟩ = some (.slice aP ps.length cP)) := fun w' hb => by
  have : w'.heap[w.heap.size]? = some (.cells #[.slice aW ws.length cW, .slice aP ps.length cP] 83 (0, 0)) := (hb.block _ (by simp)).trans (zah rfl)
  exact ⟨(zad this).1, (zad this).2.1⟩
 obtain ⟨x0, x1⟩ := CA.out _ (Below.refl _ _)
 have F := zaa hF
 clear h1 h2 hT hE hF hr hs
 cases c1 : zfi ws ps with
 | false =>
  have E := zaa (show pimB ws ps = false by unfold pimB; rw [c1]; rfl)
  rw [c1] at LP
  clear c1 hcW
  go_enter Tryz.func111, Tryz.ntmps111
  go_wp2_with fail
  refine (LP.out _ BW.out).mono ?_
  rintro e w1 ⟨rfl, hb1⟩
  have B1 := zaa (zab BW.out hb1 BW.out.size)
  clear hb1 x0 x1
  go_wp2
  go_ret
  exact ⟨zac E.out.symm, B1.out⟩
 | true =>
 obtain ⟨l1, l2, o1, o2⟩ := parts_true c1
 have E0 := zaa (show pimB ws ps = (zax ws 0 == 2 && (znr ws (zao ps) && (zlz ((zao ps).map zgm) && (lcB ws (zao ps) && (dhB ws (zao ps) && zek (zak ws)))))) by unfold pimB; rw [c1, Bool.true_and])
 rw [c1] at LP
 obtain ⟨bW, oW, rfl, hblW, hcellW⟩ := hcW (by omega)
 have HK := (hcellW 0 (by omega)).1
 rw [show ws[0].kind = zax ws 0 from (zdi (i := 0) (by omega)).symm] at HK
 simp only [Nat.zero_mul, Nat.add_zero] at HK
 have KK : Hid (∀ w', Below w.heap.size w w' → w'.cell? ⟨bW, oW, none⟩ = some (.int .i64 (zax ws 0))) := fun w' hb => (hb.cell (p := ⟨bW, oW, none⟩) hblW).trans HK
 have TR := zaa (zvd o2)
 have tl : (zao ps).length ≤ 24 := by have := zsp ps; omega
 have ml : (zak ws).length ≤ 128 := by have := zeb ws; omega
 have len16 : (0 : Int) < (ws.length : Int) := by omega
 have L1 := zaa l1
 have L2 := zaa l2
 have LT := zaa (fun w1 (hb : Below w.heap.size w w1) => zki (.slice aP ps.length cP) ps w1 (Rd.below RP.out hb) (by omega) (F.out.below hb))
 have LM := zaa (fun w1 (hb : Below w.heap.size w w1) => zex (.slice (some ⟨bW, oW, none⟩) ws.length cW) ws w1 (Rd.below RW.out hb) (by omega))
 have LK := zaa (fun v w1 (hb : Below w.heap.size w w1) h => zrf (.slice (some ⟨bW, oW, none⟩) ws.length cW) v ws (zao ps) w1 (Rd.below RW.out hb) h l1 (by omega) TR.out)
 have LC := zaa (fun v w1 (hb : Below w.heap.size w w1) h => zkk (.slice (some ⟨bW, oW, none⟩) ws.length cW) v ws (zao ps) w1 (Rd.below RW.out hb) h l1 (by omega) (fun k hk => (TR.out k hk).1))
 have LH := zaa (fun v w1 (hb : Below w.heap.size w w1) h => zhd (.slice (some ⟨bW, oW, none⟩) ws.length cW) v ws (zao ps) w1 (Rd.below RW.out hb) h l1 (by omega) TR.out)
 have LO := zaa (fun v w1 h => zqq v (zao ps) w1 h (by omega))
 have LI := zaa (fun v w1 h => zkg v (zak ws) w1 h (by omega))
 clear l1 l2 o1 o2 c1 hcW hcellW HK TR F RP RW
 generalize zax ws 0 = k0 at *
 generalize zao ps = ts at *
 generalize zak ws = ms at *
 generalize znr ws ts = f1 at *
 generalize zlz (ts.map zgm) = f2 at *
 generalize lcB ws ts = f3 at *
 generalize dhB ws ts = f4 at *
 generalize zek ms = f5 at *
 by_cases c2 : k0 = 2
 case neg =>
  have q : (k0 != 2) = true := by rw [bne_iff_ne]; exact c2
  have E := zaa (show pimB ws ps = false by rw [E0.out, show (k0 == 2) = false by rw [beq_eq_false_iff_ne]; exact c2]; rfl)
  clear c2
  go_enter Tryz.func111, Tryz.ntmps111
  go_wp2_with fail
  refine (LP.out _ BW.out).mono ?_
  rintro e w1 ⟨rfl, hb1⟩
  have B1 := zaa (zab BW.out hb1 BW.out.size)
  clear x0 x1
  obtain ⟨x0, x1⟩ := CA.out _ hb1
  have kk := KK.out _ B1.out
  clear hb1
  go_wp2
  go_ret
  exact ⟨zac E.out.symm, B1.out⟩
 have q : (k0 != 2) = false := by rw [c2]; rfl
 have E1 := zaa (show pimB ws ps = (f1 && (f2 && (f3 && (f4 && f5)))) by rw [E0.out, c2]; rfl)
 clear c2 E0
 go_enter Tryz.func111, Tryz.ntmps111
 go_wp2_with fail
 refine (LP.out _ BW.out).mono ?_
 rintro e w1 ⟨rfl, hb1⟩
 have B1 := zaa (zab BW.out hb1 BW.out.size)
 have BA := zaa hb1
 clear x0 x1 LP
 obtain ⟨x0, x1⟩ := CA.out _ hb1
 have kk := KK.out _ B1.out
 clear hb1
 go_wp2_with fail
 refine (LT.out _ B1.out).mono ?_
 rintro e w2 ⟨v2, rfl, hr2, hb2⟩
 obtain ⟨-, aT, cT, hvT, -⟩ := hr2.rd
 subst hvT
 have hz1 : w.heap.size ≤ w1.heap.size := B1.out.size
 have hz2 : w1.heap.size ≤ w2.heap.size := hb2.size
 have R2 := zaa hr2.rd
 have B2 := zaa (zab B1.out hb2 hz1)
 have BA2 := zaa (zab BA.out hb2 BA.out.size)
 clear hr2 x0 x1 kk B1 BA KK LT hb2
 obtain ⟨x0, x1⟩ := CA.out _ BA2.out
 go_wp2_with fail
 refine (LK.out _ _ B2.out R2.out).mono ?_
 rintro e w3 ⟨rfl, hb3⟩
 have hz3 : w2.heap.size ≤ w3.heap.size := hb3.size
 have R3 := zaa (Rd.below R2.out hb3)
 have B3 := zaa (zab B2.out hb3 (by omega))
 have BA3 := zaa (zab BA2.out hb3 (by have := BA2.out.size; omega))
 clear hb3 x0 x1 R2 B2 BA2
 cases f1 with
 | false =>
  go_wp2
  go_ret
  exact ⟨zac (by rw [E1.out]; rfl), B3.out⟩
 | true =>
 go_wp2_with fail
 refine (LO.out _ _ R3.out).mono ?_
 rintro e w4 ⟨rfl, hb4⟩
 have hz4 : w3.heap.size ≤ w4.heap.size := hb4.size
 have R4 := zaa (Rd.below R3.out hb4)
 have B4 := zaa (zab B3.out hb4 (by omega))
 have BA4 := zaa (zab BA3.out hb4 (by have := BA3.out.size; omega))
 clear hb4 R3 B3 BA3
 cases f2 with
 | false =>
  go_wp2
  go_ret
  exact ⟨zac (by rw [E1.out]; rfl), B4.out⟩
 | true =>
 obtain ⟨x0, x1⟩ := CA.out _ BA4.out
 go_wp2_with fail
 refine (LC.out _ _ B4.out R4.out).mono ?_
 rintro e w5 ⟨rfl, hb5⟩
 have hz5 : w4.heap.size ≤ w5.heap.size := hb5.size
 have R5 := zaa (Rd.below R4.out hb5)
 have B5 := zaa (zab B4.out hb5 (by omega))
 have BA5 := zaa (zab BA4.out hb5 (by have := BA4.out.size; omega))
 clear hb5 x0 x1 R4 B4 BA4
 cases f3 with
 | false =>
  go_wp2
  go_ret
  exact ⟨zac (by rw [E1.out]; rfl), B5.out⟩
 | true =>
 obtain ⟨x0, x1⟩ := CA.out _ BA5.out
 go_wp2_with fail
 refine (LH.out _ _ B5.out R5.out).mono ?_
 rintro e w6 ⟨rfl, hb6⟩
 have hz6 : w5.heap.size ≤ w6.heap.size := hb6.size
 have B6 := zaa (zab B5.out hb6 (by omega))
 have BA6 := zaa (zab BA5.out hb6 (by have := BA5.out.size; omega))
 clear hb6 x0 x1 R5 B5 BA5
 cases f4 with
 | false =>
  go_wp2
  go_ret
  exact ⟨zac (by rw [E1.out]; rfl), B6.out⟩
 | true =>
 obtain ⟨x0, x1⟩ := CA.out _ BA6.out
 go_wp2_with fail
 refine (LM.out _ B6.out).mono ?_
 rintro e w7 ⟨v7, rfl, hr7, hb7⟩
 obtain ⟨-, aM, cM, hvM, -⟩ := hr7.rd
 subst hvM
 have B7 := zaa (zab B6.out hb7 (by omega))
 have R7 := zaa hr7.rd
 clear hb7 hr7 x0 x1 B6 BA6
 go_wp2_with fail
 refine (LI.out _ _ R7.out).mono ?_
 rintro e w' ⟨rfl, hw'⟩
 subst w'
 go_wp2
 go_ret
 exact ⟨zac (by rw [E1.out]; rfl), B7.out⟩
end Go.Proofs.YtipklbnfobckaaaGreatDoor

namespace Go.Proofs.YtipklbnfobckaaaGreatDoor
open Go.RowKit

def zgx (ws : List Ino) : Bool := zek (zas (zak ws) 1) && zek (zas (zak ws) 2)
def zdm (ws : List Ino) (ps : List Den) : Bool := decide (ws.length = 16) && (decide (ps.length = 24) && (zax ws 0 == 2 && (ztw ws && (zgo ws ps && (zfb ws ps && zgx ws)))))
theorem zgl {x : Ino} (h : zei x = true) : (∀ z ∈ x.map, zdl z = true) ∧ (x.kind = 2 → x.links = 1) := by
 unfold zei at h
 simp only [Bool.and_eq_true, decide_eq_true_eq] at h
 obtain ⟨_, _, _, d, f⟩ := h
 refine ⟨fun z hz => ?_, fun k => ?_⟩
 ·obtain ⟨i, hi, rfl⟩ := List.getElem_of_mem hz
  have := zio d i hi
  rw [List.getD_eq_getElem?_getD, List.getElem?_eq_getElem hi] at this
  unfold zqz at this
  simp only [Option.getD_some, Bool.and_eq_true] at this
  exact this.1
 ·unfold zga at f
  rw [if_neg (by omega), if_pos k] at f
  simp only [Bool.and_eq_true, beq_iff_eq] at f
  exact f.2
theorem zcd {z : Int} (h : zdl z = true) : 0 ≤ z ∧ z ≤ 1048576 := by
 unfold zdl zdx at h
 simp only [Bool.and_eq_true, decide_eq_true_eq] at h
 omega
theorem zln {ws : List Ino} (h : ztw ws = true) : ∀ i (h : i < ws.length), ∀ z ∈ ws[i].map, zdl z = true := fun i hi => (zgl ((of_decide_eq_true h : ∀ k (h : k < ws.length), zei ws[k] = true) i hi)).1
theorem pim_img (ws : List Ino) (ps : List Den) : pimB ws ps = zdm ws ps := by
 unfold pimB zdm zfi
 by_cases l1 : ws.length = 16
 case neg => simp [l1]
 by_cases l2 : ps.length = 24
 case neg => simp [l2]
 rw [decide_eq_true l1, decide_eq_true l2, Bool.true_and, Bool.true_and, Bool.true_and, Bool.true_and]
 cases o1 : ztw ws
 ·simp
 cases o2 : okDs ps
 ·have : zgo ws ps = false := by
   rw [Bool.eq_false_iff]
   intro e
   rw [ents_ok e] at o2
   cases o2
  rw [this]; simp
 rw [ents_eq o2]
 cases f1 : znr ws (zao ps)
 ·simp
 cases f2 : zlz ((zao ps).map zgm)
 ·simp
 rw [links_eq l1 (fun i hi => (zgl ((of_decide_eq_true o1 : ∀ k (h : k < ws.length), zei ws[k] = true) i hi)).2) o2 f1]
 have s1 : zgx ws = zek (zak ws) := zly (fun e he => (zks (zln o1) e he).2)
 rw [s1]
 simp [Bool.and_assoc]

set_option maxRecDepth 100000 in
set_option maxHeartbeats 4000000 in
theorem zqf (v : Value) (ws : List Ino) (ps : List Den) (w : World) (h : RdIm w v ws ps) (hn : ws.length = 16) (hr : ∀ k (h : k < ws.length), ∀ z ∈ ws[k].map, 0 ≤ z ∧ z ≤ 1048576) :
  Calls Tryz.prog 153 #[v] w fun e w' => e = .returned (.bool (zgx ws)) ∧ Below w.heap.size w w' := by
 have HR := zaa h
 have LU := zaa (fun t w1 h => zlx v ws ps t w1 h (by omega) hr)
 have UL := zaa (fun t => show (zas (zak ws) t).length ≤ 128 by have := zey (zak ws) t; have := zeb ws; omega)
 obtain ⟨vW, vP, rfl, h1, h2⟩ := h
 obtain ⟨aW, cW, rfl, _, _⟩ := h1.shape
 obtain ⟨aP, cP, rfl, _, _⟩ := h2.shape
 clear h1 h2 hr hn
 obtain ⟨W, hW⟩ : ∃ W, W = w.alloc (.cells #[.slice aW ws.length cW, .slice aP ps.length cP] 83) := ⟨_, rfl⟩
 have CA : Hid (∀ w', Below W.heap.size W w' → w'.cell? ⟨w.heap.size, 0, none⟩ = some (.slice aW ws.length cW) ∧ w'.cell? ⟨w.heap.size, 1, none⟩ = some (.slice aP ps.length cP)) := fun w' hb => by
  have : w'.heap[w.heap.size]? = some (.cells #[.slice aW ws.length cW, .slice aP ps.length cP] 83 (0, 0)) := (hb.block _ (by rw [hW]; simp)).trans (by rw [hW]; exact zah rfl)
  exact ⟨(zad this).1, (zad this).2.1⟩
 have BW : Hid (Below w.heap.size w W) := by rw [hW]; exact (Below.refl _ _).alloc (Nat.le_refl _) _
 have hz : w.heap.size ≤ W.heap.size := BW.out.size
 have SG := zaa (show zgx ws = (zek (zas (zak ws) 1) && zek (zas (zak ws) 2)) from rfl)
 generalize zas (zak ws) = uf at *
 go_enter Tryz.func153, Tryz.ntmps153
 go_wp2
 rw [← hW]
 clear hW
 go_loopw [3] (fun i wr => ∃ t : Nat, (1 ≤ t ∧ t ≤ 3) ∧ i = .int .i64 t ∧ Hid (Below W.heap.size W wr ∧ ∀ s : Nat, 1 ≤ s → s < t → zek (uf (s : Int)) = true)) (fun i _ => 3 - (intOf i).toNat)
 case atStart => exact ⟨1, by omega, rfl, Below.refl _ _, fun s h a => absurd a (by omega)⟩
 case round =>
  obtain ⟨t, ht, rfl, J⟩ := hrel
  have J1 := zaa J.out.1
  have JW := zaa (zab BW.out J.out.1 hz)
  obtain ⟨x0, x1⟩ := CA.out wr J.out.1
  by_cases hlt : t ≤ 2
  ·have t2 : (t : Int) ≤ 2 := by omega
   have t1 : (0 : Int) ≤ (t : Int) := by omega
   have JS := zaa J.out.2
   have NO : Hid (zek (uf (t : Int)) = false → zgx ws = false) := fun q => by
    rw [SG.out]
    rcases (show t = 1 ∨ t = 2 by omega) with rfl | rfl
    ·rw [show ((1 : Nat) : Int) = 1 from rfl] at q; rw [q]; rfl
    ·rw [show ((2 : Nat) : Int) = 2 from rfl] at q; rw [q, Bool.and_false]
   clear J
   go_wp2_with fail
   refine (LU.out _ _ (HR.out.below JW.out)).mono ?_
   rintro e w1 ⟨v1, rfl, hr1, hb1⟩
   obtain ⟨-, aL, cL, hvL, hcap, -⟩ := hr1.rd
   have hcap1 := hcap.1
   subst hvL
   have R1 : Hid (RdI w1 (.slice aL (uf (t : Int)).length cL) (uf (t : Int))) := hr1.rd
   have B1 := zaa (zab J1.out hb1 J1.out.size)
   have B2 := zaa (zab BW.out B1.out hz)
   have ul := UL.out (t : Int)
   have JN : Hid (zek (uf (t : Int)) = true → ∀ s : Nat, 1 ≤ s → s < t + 1 → zek (uf (s : Int)) = true) := fun q s h a => by
    by_cases e : s = t
    ·subst e; exact q
    ·exact JS.out s h (by omega)
   clear hr1 hb1 x0 x1 hcap JS
   generalize uf (t : Int) = zs at *
   obtain ⟨aZ, cZ, e, _, hcZ⟩ := R1.out.shape
   have HZ := zaa hcZ
   obtain ⟨rfl, rfl⟩ : aZ = aL ∧ cZ = cL := by cases e; exact ⟨rfl, rfl⟩
   clear e hcZ
   go_wp2
   go_loopw [5] (fun i wq => ∃ k : Nat, k ≤ zs.length ∧ i = .int .i64 k ∧ Hid (Below w1.heap.size w1 wq ∧ ∀ j (h : j < zs.length), j < k → zep (zs.take j) zs[j] = false)) (fun i _ => zs.length - (intOf i).toNat)
   case atStart => exact ⟨0, by omega, rfl, Below.refl _ _, fun j h a => absurd a (by omega)⟩
   case round =>
    obtain ⟨k, hk, rfl, H⟩ := hrel
    have k0 : (0 : Int) ≤ (k : Int) := by omega
    have H1 := zaa H.out.1
    have HB := zaa (zab B1.out H.out.1 B1.out.size)
    have HF := zaa (zab B2.out H.out.1 B2.out.size)
    by_cases hlk : k < zs.length
    ·obtain ⟨b, o, rfl, hbl, hcell⟩ := HZ.out (by omega)
     have hck := (H1.out.cell (p := ⟨b, o + k, none⟩) hbl).trans (hcell k hlk)
     have k1 : (k : Int) < (zs.length : Int) := by omega
     have k2 : (k : Int) ≤ (cZ : Int) := by omega
     have hblr : b < wr.heap.size := by have := H1.out.size; omega
     have RT := zaa (RdI.take (Rd.below R1.out H1.out) hk)
     have LT := zaa (show (zs.take k).length ≤ 1048576 by rw [List.length_take]; omega)
     clear hcell
     cases q : zep (zs.take k) zs[k] with
     | false =>
      have H' : Hid (∀ j (h : j < zs.length), j < k + 1 → zep (zs.take j) zs[j] = false) := fun j h a => by
       by_cases e : j = k
       ·subst e; exact q
       ·exact H.out.2 j h (by omega)
      have Q := zaa q
      clear q H
      generalize zs[k] = z at hck Q
      go_wp2
      have RB : Hid (∀ w', Below wr.heap.size wr w' → RdI w' (.slice (some ⟨b, o, none⟩) k cZ) (zs.take k)) := fun w' hb => Rd.below RT.out hb
      have SK : Hid (∀ w', Below wr.heap.size wr w' → w'.cell? ⟨b, o + k, none⟩ = some (.int .i64 z)) := fun w' hb => (hb.cell (p := ⟨b, o + k, none⟩) hblr).trans hck
      go_region_held3 (fun w' => w'.cell? ⟨b, o + k, none⟩ = some (.int .i64 z))
       (exact SK.out _ (by repeat (first | exact Below.refl _ _ | refine Below.drew ?_)))
       (first
        | (go_at_call 219; refine (zir _ (zs.take k) z _ (RB.out _ (by repeat (first | exact Below.refl _ _ | refine Below.drew ?_))) LT.out).mono ?_; rw [Q.out]; rintro e w' ⟨rfl, hw'⟩; subst w'))
      all_goals
       clear SK RB hck
       go_wp2
       go_roundw
       case rel => exact ⟨k + 1, by omega, by go_num, (by repeat (first | exact H1.out | refine Below.drew ?_)), H'.out⟩
       case measure => simp [intOf]; omega
     | true =>
      have E := zaa (NO.out (zto hlk q))
      have Q := zaa q
      clear q H
      generalize zs[k] = z at hck Q
      go_wp2
      have RB : Hid (∀ w', Below wr.heap.size wr w' → RdI w' (.slice (some ⟨b, o, none⟩) k cZ) (zs.take k)) := fun w' hb => Rd.below RT.out hb
      have SK : Hid (∀ w', Below wr.heap.size wr w' → w'.cell? ⟨b, o + k, none⟩ = some (.int .i64 z)) := fun w' hb => (hb.cell (p := ⟨b, o + k, none⟩) hblr).trans hck
      go_region_held3 (fun w' => w'.cell? ⟨b, o + k, none⟩ = some (.int .i64 z))
       (exact SK.out _ (by repeat (first | exact Below.refl _ _ | refine Below.drew ?_)))
       (first
        | (go_at_call 219; refine (zir _ (zs.take k) z _ (RB.out _ (by repeat (first | exact Below.refl _ _ | refine Below.drew ?_))) LT.out).mono ?_; rw [Q.out]; rintro e w' ⟨rfl, hw'⟩; subst w'))
      all_goals
       clear SK RB hck
       go_wp2
       go_ret
       exact ⟨zac E.out.symm, (by repeat (first | exact HF.out | refine Below.drew ?_))⟩
    ·have E := zaa (JN.out (onceB_mk (fun j h => H.out.2 j h (by omega))))
     clear H
     go_wp2
     go_roundw
     case rel => exact ⟨t + 1, by omega, by go_num, HB.out, E.out⟩
     case measure => simp [intOf]; omega
  ·obtain rfl : t = 3 := by omega
   have E := zaa (show zgx ws = true by
    have e1 : zek (uf 1) = true := J.out.2 1 (by omega) (by omega)
    have e2 : zek (uf 2) = true := J.out.2 2 (by omega) (by omega)
    rw [SG.out, e1, e2]; rfl)
   clear J
   go_wp2
   go_ret
   exact ⟨zac E.out.symm, JW.out⟩
end Go.Proofs.YtipklbnfobckaaaGreatDoor

namespace Go.Proofs.YtipklbnfobckaaaGreatDoor
open Go.RowKit

theorem zbi (v : Value) (ws : List Ino) (ps : List Den) (w : World) (h : RdIm w v ws ps) (hw : ws.length ≤ 1048576) (hp : ps.length ≤ 1048576) (hT : TS w) (hE : ED w) (hF : FD w) (hr : ∀ k (h : k < ws.length), ws[k].R) (hs : ∀ k (h : k < ps.length), ps[k].name.size ≤ maxLen) :
  Calls Tryz.prog 111 #[v] w fun e w' => e = .returned (.bool (zdm ws ps)) ∧ Below w.heap.size w w' := by
 rw [← pim_img]
 exact pimOK_any v ws ps w h hw hp hT hE hF hr hs

set_option maxRecDepth 100000 in
set_option maxHeartbeats 8000000 in
theorem zkt (v : Value) (ws : List Ino) (ps : List Den) (w : World) (h : RdIm w v ws ps) (hw : ws.length ≤ 1048576) (hp : ps.length ≤ 1048576) (hr : ∀ k (h : k < ws.length), ws[k].R) (hs : ∀ k (h : k < ps.length), ps[k].name.size ≤ maxLen) :
  Calls Tryz.prog 98 #[v] w fun e w' => e = .returned (.bool (zdm ws ps)) ∧ Below w.heap.size w w' := by
 have HRD := zaa h
 have HR := zaa hr
 have L1 := zaa (fun w1 h => ztn v ws ps w1 h hw hp)
 have L2 := zaa (fun w1 h (hl : ws.length = 16) => zna v ws ps w1 h hl hp hs)
 have L3 := zaa (fun w1 h (hl : ws.length = 16) (o : ztw ws = true) => zqf v ws ps w1 h hl (fun k hk z hz => zcd (zln o k hk z hz)))
 obtain ⟨vW, vP, rfl, h1, h2⟩ := h
 obtain ⟨aW, cW, rfl, _, hcW⟩ := h1.shape
 obtain ⟨aP, cP, rfl, _, _⟩ := h2.shape
 have HW := zaa hcW
 clear h1 h2 hr hs hcW
 have CA : Hid (∀ w', Below (w.alloc (.cells #[.slice aW ws.length cW, .slice aP ps.length cP] 83)).heap.size (w.alloc (.cells #[.slice aW ws.length cW, .slice aP ps.length cP] 83)) w' → w'.cell? ⟨w.heap.size, 0, none⟩ = some (.slice aW ws.length cW) ∧ w'.cell? ⟨w.heap.size, 1, none⟩ = some (.slice aP ps.length cP)) := fun w' hb => by
  have : w'.heap[w.heap.size]? = some (.cells #[.slice aW ws.length cW, .slice aP ps.length cP] 83 (0, 0)) := (hb.block _ (by simp)).trans (zah rfl)
  exact ⟨(zad this).1, (zad this).2.1⟩
 have BW : Hid (Below w.heap.size w (w.alloc (.cells #[.slice aW ws.length cW, .slice aP ps.length cP] 83))) := (Below.refl _ _).alloc (Nat.le_refl _) _
 obtain ⟨x0, x1⟩ := CA.out _ (Below.refl _ _)
 have EI := zaa (show zdm ws ps = (decide (ws.length = 16) && (decide (ps.length = 24) && (zax ws 0 == 2 && (ztw ws && (zgo ws ps && (zfb ws ps && zgx ws)))))) from rfl)
 by_cases c1 : ws.length = 16
 case neg =>
  have E := zaa (show zdm ws ps = false by rw [EI.out, decide_eq_false c1]; rfl)
  have q : ((ws.length : Int) != 16) = true := by rw [bne_iff_ne]; omega
  clear c1
  go_enter Tryz.func98, Tryz.ntmps98
  go_wp2
  go_ret
  exact ⟨zac E.out.symm, BW.out⟩
 have q : ((ws.length : Int) != 16) = false := by rw [c1]; rfl
 by_cases c2 : ps.length = 24
 case neg =>
  have E := zaa (show zdm ws ps = false by rw [EI.out, decide_eq_false c2, Bool.false_and, Bool.and_false])
  have q2 : ((ps.length : Int) != 24) = true := by rw [bne_iff_ne]; omega
  clear c1 c2
  go_enter Tryz.func98, Tryz.ntmps98
  go_wp2
  go_ret
  exact ⟨zac E.out.symm, BW.out⟩
 have q2 : ((ps.length : Int) != 24) = false := by rw [c2]; rfl
 obtain ⟨bW, oW, rfl, hblW, hcellW⟩ := HW.out (by omega)
 have HK := (hcellW 0 (by omega)).1
 rw [show ws[0].kind = zax ws 0 from (zdi (i := 0) (by omega)).symm] at HK
 simp only [Nat.zero_mul, Nat.add_zero] at HK
 have kk := (BW.out.cell (p := ⟨bW, oW, none⟩) hblW).trans HK
 have len16 : (0 : Int) < (ws.length : Int) := by omega
 have C1 := zaa c1
 have E1 := zaa (show zdm ws ps = (zax ws 0 == 2 && (ztw ws && (zgo ws ps && (zfb ws ps && zgx ws)))) by rw [EI.out, decide_eq_true c1, decide_eq_true c2]; rfl)
 have HC := zaa hcellW
 clear c1 c2 EI HK hcellW HW
 generalize zax ws 0 = k0 at *
 by_cases c3 : k0 = 2
 case neg =>
  have q3 : (k0 != 2) = true := by rw [bne_iff_ne]; exact c3
  have E := zaa (show zdm ws ps = false by rw [E1.out, show (k0 == 2) = false by rw [beq_eq_false_iff_ne]; exact c3]; rfl)
  clear c3
  go_enter Tryz.func98, Tryz.ntmps98
  go_wp2
  go_ret
  exact ⟨zac E.out.symm, BW.out⟩
 have q3 : (k0 != 2) = false := by rw [c3]; rfl
 have E2 := zaa (show zdm ws ps = (ztw ws && (zgo ws ps && (zfb ws ps && zgx ws))) by rw [E1.out, c3]; rfl)
 clear c3 E1
 go_enter Tryz.func98, Tryz.ntmps98
 go_wp2
 clear x0 x1 kk q q2 q3
 generalize w.alloc (.cells #[.slice (some ⟨bW, oW, none⟩) ws.length cW, .slice aP ps.length cP] 83) = W at *
 have hz : w.heap.size ≤ W.heap.size := BW.out.size
 go_loopw [3] (fun i wr => ∃ k : Nat, k ≤ ws.length ∧ i = .int .i64 k ∧ Hid (Below W.heap.size W wr ∧ ∀ j (h : j < ws.length), j < k → zei ws[j] = true)) (fun i _ => ws.length - (intOf i).toNat)
 case atStart => exact ⟨0, by omega, rfl, Below.refl _ _, fun j h a => absurd a (by omega)⟩
 case round =>
  obtain ⟨k, hk, rfl, H⟩ := hrel
  have H1 := zaa H.out.1
  have HF := zaa (zab BW.out H.out.1 hz)
  obtain ⟨x0, x1⟩ := CA.out wr H.out.1
  by_cases hlt : k < ws.length
  ·obtain ⟨a0, a1, a2, a3, a4, a5, a6, a7, a8, a9, a10⟩ := HC.out k hlt
   have d0 := (HF.out.cell (p := ⟨bW, oW + k * 11, none⟩) hblW).trans a0
   have d1 := (HF.out.cell (p := ⟨bW, oW + k * 11 + 1, none⟩) hblW).trans a1
   have d2 := (HF.out.cell (p := ⟨bW, oW + k * 11 + 2, none⟩) hblW).trans a2
   have d3 := (HF.out.cell (p := ⟨bW, oW + k * 11 + 3, none⟩) hblW).trans a3
   have d4 := (HF.out.cell (p := ⟨bW, oW + k * 11 + 4, none⟩) hblW).trans a4
   have d5 := (HF.out.cell (p := ⟨bW, oW + k * 11 + 5, none⟩) hblW).trans a5
   have d6 := (HF.out.cell (p := ⟨bW, oW + k * 11 + 6, none⟩) hblW).trans a6
   have d7 := (HF.out.cell (p := ⟨bW, oW + k * 11 + 7, none⟩) hblW).trans a7
   have d8 := (HF.out.cell (p := ⟨bW, oW + k * 11 + 8, none⟩) hblW).trans a8
   have d9 := (HF.out.cell (p := ⟨bW, oW + k * 11 + 9, none⟩) hblW).trans a9
   have d10 := (HF.out.cell (p := ⟨bW, oW + k * 11 + 10, none⟩) hblW).trans a10
   have k0' : (0 : Int) ≤ (k : Int) := by omega
   have k1 : (k : Int) < (ws.length : Int) := by omega
   have LI := zaa (fun w1 => zse ws[k] w1 (HR.out k hlt))
   have H2 : Hid (zei ws[k] = true → ∀ j (h : j < ws.length), j < k + 1 → zei ws[j] = true) := fun q j h a => by
    by_cases e : j = k
    ·subst e; exact q
    ·exact H.out.2 j h (by omega)
   have H3 := zaa (fun q => okNs_not hlt q)
   clear a0 a1 a2 a3 a4 a5 a6 a7 a8 a9 a10 H
   generalize ws[k] = x at d0 d1 d2 d3 d4 d5 d6 d7 d8 d9 d10 LI H2 H3
   cases qq : zei x with
   | true =>
    rw [qq] at LI
    have E := zaa (H2.out qq)
    clear H2 H3 qq
    go_wp2_with fail
    refine (LI.out _).mono ?_
    rintro e w1 ⟨rfl, hb1⟩
    have B3 := zaa (zab H1.out hb1 H1.out.size)
    clear hb1 d0 d1 d2 d3 d4 d5 d6 d7 d8 d9 d10 x0 x1
    go_wp2
    go_roundw
    case rel => exact ⟨k + 1, by omega, by go_num, B3.out, E.out⟩
    case measure => simp [intOf]; omega
   | false =>
    rw [qq] at LI
    have E := zaa (show zdm ws ps = false by rw [E2.out, H3.out qq]; rfl)
    clear H2 H3 qq
    go_wp2_with fail
    refine (LI.out _).mono ?_
    rintro e w1 ⟨rfl, hb1⟩
    have B3 := zaa (zab HF.out hb1 HF.out.size)
    clear hb1 d0 d1 d2 d3 d4 d5 d6 d7 d8 d9 d10 x0 x1
    go_wp2
    go_ret
    exact ⟨zac E.out.symm, B3.out⟩
  ·have O := zaa (okNs_mk (fun j h => H.out.2 j h (by omega)))
   have E3 := zaa (show zdm ws ps = (zgo ws ps && (zfb ws ps && zgx ws)) by rw [E2.out, O.out]; rfl)
   clear H
   generalize zgo ws ps = f1 at *
   generalize zfb ws ps = f2 at *
   generalize zgx ws = f3 at *
   go_wp2_with fail
   refine (L2.out _ (HRD.out.below HF.out) C1.out).mono ?_
   rintro e w1 ⟨rfl, hb1⟩
   have B1 := zaa (zab HF.out hb1 HF.out.size)
   have BA := zaa (zab H1.out hb1 H1.out.size)
   clear hb1 x0 x1
   cases f1 with
   | false =>
    go_wp2
    go_ret
    exact ⟨zac (by rw [E3.out]; rfl), B1.out⟩
   | true =>
   obtain ⟨x0, x1⟩ := CA.out _ BA.out
   go_wp2_with fail
   refine (L1.out _ (HRD.out.below B1.out)).mono ?_
   rintro e w2 ⟨rfl, hb2⟩
   have B2 := zaa (zab B1.out hb2 B1.out.size)
   have BB := zaa (zab BA.out hb2 BA.out.size)
   clear hb2 x0 x1
   cases f2 with
   | false =>
    go_wp2
    go_ret
    exact ⟨zac (by rw [E3.out]; rfl), B2.out⟩
   | true =>
   obtain ⟨x0, x1⟩ := CA.out _ BB.out
   go_wp2_with fail
   refine (L3.out _ (HRD.out.below B2.out) C1.out O.out).mono ?_
   rintro e w3 ⟨rfl, hb3⟩
   have B3 := zaa (zab B2.out hb3 B2.out.size)
   clear hb3 x0 x1
   go_wp2
   go_ret
   exact ⟨zac (by rw [E3.out]; rfl), B3.out⟩
end Go.Proofs.YtipklbnfobckaaaGreatDoor

namespace Go.Proofs.YtipklbnfobckaaaGreatDoor
open Go.RowKit

theorem zdr {ws : List Ino} {ps : List Den} (h : zdm ws ps = true) : ws.length = 16 ∧ ps.length = 24 ∧ zax ws 0 = 2 ∧ ztw ws = true ∧ zgo ws ps = true ∧ zfb ws ps = true ∧ zgx ws = true := by
 unfold zdm at h
 simp only [Bool.and_eq_true, decide_eq_true_eq, beq_iff_eq] at h
 exact h
theorem pimg_ent {ws : List Ino} {ps : List Den} (h : zdm ws ps = true) (i : Nat) (hi : i < ps.length) : (ps[i].child = -1 ∧ ps[i].name.size = 0) ∨ ((1 ≤ ps[i].child ∧ ps[i].child ≤ 15) ∧ (0 ≤ ps[i].dir ∧ ps[i].dir ≤ 15) ∧ nmB ps[i].name = true ∧ ¬ zax ws ps[i].child = 0 ∧ zax ws ps[i].dir = 2) := by
 obtain ⟨_, _, _, _, he, _, _⟩ := zdr h
 have e := (of_decide_eq_true he : ∀ i (h : i < ps.length), zcf ws ps i ps[i] = true) i hi
 unfold zcf at e
 split at e
 ·rename_i c
  left
  refine ⟨c, ?_⟩
  unfold Den.freeB at e
  simp only [Bool.and_eq_true, beq_iff_eq] at e
  have := e.2.1
  first
   | exact this
   | simpa using this
   | (simp at this; rw [this]; rfl)
 ·right
  simp only [Bool.and_eq_true, decide_eq_true_eq, Bool.not_eq_true', beq_eq_false_iff_ne, beq_iff_eq] at e
  exact ⟨e.1, e.2.1, e.2.2.1, e.2.2.2.1, e.2.2.2.2.1⟩
end Go.Proofs.YtipklbnfobckaaaGreatDoor

namespace Go.Proofs.YtipklbnfobckaaaGreatDoor
open Go.RowKit

/-- The bytes as a text. -/
def mkB (l : List UInt8) : ByteArray := ⟨l.toArray⟩
theorem mkB_of (s : ByteArray) : mkB s.data.toList = s := by
 obtain ⟨⟨l⟩⟩ := s
 rfl
theorem zts {a b : ByteArray} (h : a.data.toList = b.data.toList) : a = b := by rw [← mkB_of a, ← mkB_of b, h]
end Go.Proofs.YtipklbnfobckaaaGreatDoor

namespace Go.Proofs.YtipklbnfobckaaaGreatDoor
open Go.RowKit

/-- An entry has this name in this directory. -/
def zoh (d : Int) (nm : ByteArray) (x : Den) : Bool := decide (0 ≤ x.child) && (x.dir == d && x.name.toList == nm.toList)
end Go.Proofs.YtipklbnfobckaaaGreatDoor
