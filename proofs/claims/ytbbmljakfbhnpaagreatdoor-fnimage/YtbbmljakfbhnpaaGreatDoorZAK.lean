/- Several texts laid together: PiO, ImO, ImP, PaA, StA, PbA. -/
import Derived.Test.YtbbmljakfbhnpaaGreatDoorZAI
import Derived.Test.YtbbmljakfbhnpaaGreatDoorZAJ
import Derived.Test.YtbbmljakfbhnpaaGreatDoorZAH
import Derived.Test.YtbbmljakfbhnpaaGreatDoorZAC
import Derived.Test.YtbbmljakfbhnpaaGreatDoorZAD
import Derived.Test.YtbbmljakfbhnpaaGreatDoorZAG
import Derived.Deep.DeepCutAuto
import Derived.Deep.RegionWith
import Derived.Deep.RegionHeld3
import Derived.Lib.Strings
import Derived.Lib.SplitLaws
import Derived.Lib.IndexBytes
namespace Go.Proofs.YtbbmljakfbhnpaaGreatDoor
open Go.RowKit

/-- An image that is right, as the program asks it. -/
def pimB (ws : List Ino) (ps : List Den) : Bool := zge ws ps && (zak ws 0 == 2 && (zol ws (zau ps) && (znn ((zau ps).map zhf) && (lcB ws (zau ps) && (dhB ws (zau ps) && zig (zap ws))))))
theorem parts_true {ws : List Ino} {ps : List Den} (h : zge ws ps = true) : ws.length = 16 ∧ ps.length = 24 ∧ okNs ws = true ∧ okDs ps = true := by
 unfold zge at h
 simp only [Bool.and_eq_true, decide_eq_true_eq] at h
 exact h
theorem zxa {ps : List Den} (h : okDs ps = true) : ∀ k (h : k < (zau ps).length), (0 ≤ (zau ps)[k].child ∧ (zau ps)[k].child ≤ 15) ∧ (0 ≤ (zau ps)[k].dir ∧ (zau ps)[k].dir ≤ 15) := by
 have h := of_decide_eq_true h
 intro k hk
 obtain ⟨hm, hf⟩ := List.mem_filter.1 (List.getElem_mem hk)
 obtain ⟨i, hi, e⟩ := List.getElem_of_mem hm
 have o := h i hi
 rw [e] at o
 have c := zlu o (fun q => by rw [(zrb o).2 q] at hf; cases hf)
 exact ⟨by omega, c.2.1⟩

set_option maxRecDepth 100000 in
set_option maxHeartbeats 8000000 in
theorem pimOK_any (v : Value) (ws : List Ino) (ps : List Den) (w : World) (h : RdIm w v ws ps) (hw : ws.length ≤ 1048576) (hp : ps.length ≤ 1048576) (hT : TS w) (hE : ED w) (hF : FD w) (hr : ∀ k (h : k < ws.length), ws[k].R) (hs : ∀ k (h : k < ps.length), ps[k].name.size ≤ maxLen) :
  Calls Tryz.prog 8 #[v] w fun e w' => e = .returned (.bool (pimB ws ps)) ∧ Below w.heap.size w w' := by
 have LP := zaa (fun w1 (hb : Below w.heap.size w w1) => zwt v ws ps w1 (h.below hb) hw hp (hT.below hb) (hE.below hb) (hF.below hb) hr hs)
 obtain ⟨vW, vP, rfl, h1, h2⟩ := h
 have RW := zaa h1
 have RP := zaa h2
 obtain ⟨aW, cW, rfl, _, hcW⟩ := h1.shape
 obtain ⟨aP, cP, rfl, _, _⟩ := h2.shape
 have BW := zaa ((Below.refl w.heap.size w).alloc (Nat.le_refl _) (.cells #[.slice aW ws.length cW, .slice aP ps.length cP] 26))
 have CA : Hid (∀ w', Below (w.alloc (.cells #[.slice aW ws.length cW, .slice aP ps.length cP] 26)).heap.size (w.alloc (.cells #[.slice aW ws.length cW, .slice aP ps.length cP] 26)) w' → w'.cell? ⟨w.heap.size, 0, none⟩ = some (.slice aW ws.length cW) ∧ w'.cell? ⟨w.heap.size, 1, none⟩ = some (.slice aP ps.length cP)) := fun w' hb => by
  have : w'.heap[w.heap.size]? = some (.cells #[.slice aW ws.length cW, .slice aP ps.length cP] 26 (0, 0)) := (hb.block _ (by simp)).trans (zag rfl)
  exact ⟨(zad this).1, (zad this).2.1⟩
 obtain ⟨x0, x1⟩ := CA.out _ (Below.refl _ _)
 have F := zaa hF
 clear h1 h2 hT hE hF hr hs
 cases c1 : zge ws ps with
 | false =>
  have E := zaa (show pimB ws ps = false by unfold pimB; rw [c1]; rfl)
  rw [c1] at LP
  clear c1 hcW
  go_enter Tryz.func8, Tryz.ntmps8
  go_wp2_with fail
  refine (LP.out _ BW.out).mono ?_
  rintro e w1 ⟨rfl, hb1⟩
  have B1 := zaa (zab BW.out hb1 BW.out.size)
  clear hb1 x0 x1
  go_wp2
  go_ret
  exact ⟨zah E.out.symm, B1.out⟩
 | true =>
 obtain ⟨l1, l2, o1, o2⟩ := parts_true c1
 have E0 := zaa (show pimB ws ps = (zak ws 0 == 2 && (zol ws (zau ps) && (znn ((zau ps).map zhf) && (lcB ws (zau ps) && (dhB ws (zau ps) && zig (zap ws)))))) by unfold pimB; rw [c1, Bool.true_and])
 rw [c1] at LP
 obtain ⟨bW, oW, rfl, hblW, hcellW⟩ := hcW (by omega)
 have HK := (hcellW 0 (by omega)).1
 rw [show ws[0].kind = zak ws 0 from (zcm (i := 0) (by omega)).symm] at HK
 simp only [Nat.zero_mul, Nat.add_zero] at HK
 have KK : Hid (∀ w', Below w.heap.size w w' → w'.cell? ⟨bW, oW, none⟩ = some (.int .i64 (zak ws 0))) := fun w' hb => (hb.cell (p := ⟨bW, oW, none⟩) hblW).trans HK
 have TR := zaa (zxa o2)
 have tl : (zau ps).length ≤ 24 := by have := zuc ps; omega
 have ml : (zap ws).length ≤ 128 := by have := zjy ws; omega
 have len16 : (0 : Int) < (ws.length : Int) := by omega
 have L1 := zaa l1
 have L2 := zaa l2
 have LT := zaa (fun w1 (hb : Below w.heap.size w w1) => zkx (.slice aP ps.length cP) ps w1 (Rd.below RP.out hb) (by omega) (F.out.below hb))
 have LM := zaa (fun w1 (hb : Below w.heap.size w w1) => zju (.slice (some ⟨bW, oW, none⟩) ws.length cW) ws w1 (Rd.below RW.out hb) (by omega))
 have LK := zaa (fun v w1 (hb : Below w.heap.size w w1) h => zse (.slice (some ⟨bW, oW, none⟩) ws.length cW) v ws (zau ps) w1 (Rd.below RW.out hb) h l1 (by omega) TR.out)
 have LC := zaa (fun v w1 (hb : Below w.heap.size w w1) h => zkt (.slice (some ⟨bW, oW, none⟩) ws.length cW) v ws (zau ps) w1 (Rd.below RW.out hb) h l1 (by omega) (fun k hk => (TR.out k hk).1))
 have LH := zaa (fun v w1 (hb : Below w.heap.size w w1) h => zhp (.slice (some ⟨bW, oW, none⟩) ws.length cW) v ws (zau ps) w1 (Rd.below RW.out hb) h l1 (by omega) TR.out)
 have LO := zaa (fun v w1 h => zrq v (zau ps) w1 h (by omega))
 have LI := zaa (fun v w1 h => zky v (zap ws) w1 h (by omega))
 clear l1 l2 o1 o2 c1 hcW hcellW HK TR F RP RW
 generalize zak ws 0 = k0 at *
 generalize zau ps = ts at *
 generalize zap ws = ms at *
 generalize zol ws ts = f1 at *
 generalize znn (ts.map zhf) = f2 at *
 generalize lcB ws ts = f3 at *
 generalize dhB ws ts = f4 at *
 generalize zig ms = f5 at *
 by_cases c2 : k0 = 2
 case neg =>
  have q : (k0 != 2) = true := by rw [bne_iff_ne]; exact c2
  have E := zaa (show pimB ws ps = false by rw [E0.out, show (k0 == 2) = false by rw [beq_eq_false_iff_ne]; exact c2]; rfl)
  clear c2
  go_enter Tryz.func8, Tryz.ntmps8
  go_wp2_with fail
  refine (LP.out _ BW.out).mono ?_
  rintro e w1 ⟨rfl, hb1⟩
  have B1 := zaa (zab BW.out hb1 BW.out.size)
  clear x0 x1
  obtain ⟨x0, x1⟩ := CA.out _ hb1
  have kk := KK.out _ B1.out
  clear hb1
  go_wp2
  go_ret
  exact ⟨zah E.out.symm, B1.out⟩
 have q : (k0 != 2) = false := by rw [c2]; rfl
 have E1 := zaa (show pimB ws ps = (f1 && (f2 && (f3 && (f4 && f5)))) by rw [E0.out, c2]; rfl)
 clear c2 E0
 go_enter Tryz.func8, Tryz.ntmps8
 go_wp2_with fail
 refine (LP.out _ BW.out).mono ?_
 rintro e w1 ⟨rfl, hb1⟩
 have B1 := zaa (zab BW.out hb1 BW.out.size)
 have BA := zaa hb1
 clear x0 x1 LP
 obtain ⟨x0, x1⟩ := CA.out _ hb1
 have kk := KK.out _ B1.out
 clear hb1
 go_wp2_with fail
 refine (LT.out _ B1.out).mono ?_
 rintro e w2 ⟨v2, rfl, hr2, hb2⟩
 obtain ⟨-, aT, cT, hvT, -⟩ := hr2.rd
 subst hvT
 have hz1 : w.heap.size ≤ w1.heap.size := B1.out.size
 have hz2 : w1.heap.size ≤ w2.heap.size := hb2.size
 have R2 := zaa hr2.rd
 have B2 := zaa (zab B1.out hb2 hz1)
 have BA2 := zaa (zab BA.out hb2 BA.out.size)
 clear hr2 x0 x1 kk B1 BA KK LT hb2
 obtain ⟨x0, x1⟩ := CA.out _ BA2.out
 go_wp2_with fail
 refine (LK.out _ _ B2.out R2.out).mono ?_
 rintro e w3 ⟨rfl, hb3⟩
 have hz3 : w2.heap.size ≤ w3.heap.size := hb3.size
 have R3 := zaa (Rd.below R2.out hb3)
 have B3 := zaa (zab B2.out hb3 (by omega))
 have BA3 := zaa (zab BA2.out hb3 (by have := BA2.out.size; omega))
 clear hb3 x0 x1 R2 B2 BA2
 cases f1 with
 | false =>
  go_wp2
  go_ret
  exact ⟨zah (by rw [E1.out]; rfl), B3.out⟩
 | true =>
 go_wp2_with fail
 refine (LO.out _ _ R3.out).mono ?_
 rintro e w4 ⟨rfl, hb4⟩
 have hz4 : w3.heap.size ≤ w4.heap.size := hb4.size
 have R4 := zaa (Rd.below R3.out hb4)
 have B4 := zaa (zab B3.out hb4 (by omega))
 have BA4 := zaa (zab BA3.out hb4 (by have := BA3.out.size; omega))
 clear hb4 R3 B3 BA3
 cases f2 with
 | false =>
  go_wp2
  go_ret
  exact ⟨zah (by rw [E1.out]; rfl), B4.out⟩
 | true =>
 obtain ⟨x0, x1⟩ := CA.out _ BA4.out
 go_wp2_with fail
 refine (LC.out _ _ B4.out R4.out).mono ?_
 rintro e w5 ⟨rfl, hb5⟩
 have hz5 : w4.heap.size ≤ w5.heap.size := hb5.size
 have R5 := zaa (Rd.below R4.out hb5)
 have B5 := zaa (zab B4.out hb5 (by omega))
 have BA5 := zaa (zab BA4.out hb5 (by have := BA4.out.size; omega))
 clear hb5 x0 x1 R4 B4 BA4
 cases f3 with
 | false =>
  go_wp2
  go_ret
  exact ⟨zah (by rw [E1.out]; rfl), B5.out⟩
 | true =>
 obtain ⟨x0, x1⟩ := CA.out _ BA5.out
 go_wp2_with fail
 refine (LH.out _ _ B5.out R5.out).mono ?_
 rintro e w6 ⟨rfl, hb6⟩
 have hz6 : w5.heap.size ≤ w6.heap.size := hb6.size
 have B6 := zaa (zab B5.out hb6 (by omega))
 have BA6 := zaa (zab BA5.out hb6 (by have := BA5.out.size; omega))
 clear hb6 x0 x1 R5 B5 BA5
 cases f4 with
 | false =>
  go_wp2
  go_ret
  exact ⟨zah (by rw [E1.out]; rfl), B6.out⟩
 | true =>
 obtain ⟨x0, x1⟩ := CA.out _ BA6.out
 go_wp2_with fail
 refine (LM.out _ B6.out).mono ?_
 rintro e w7 ⟨v7, rfl, hr7, hb7⟩
 obtain ⟨-, aM, cM, hvM, -⟩ := hr7.rd
 subst hvM
 have B7 := zaa (zab B6.out hb7 (by omega))
 have R7 := zaa hr7.rd
 clear hb7 hr7 x0 x1 B6 BA6
 go_wp2_with fail
 refine (LI.out _ _ R7.out).mono ?_
 rintro e w' ⟨rfl, hw'⟩
 subst w'
 go_wp2
 go_ret
 exact ⟨zah (by rw [E1.out]; rfl), B7.out⟩
end Go.Proofs.YtbbmljakfbhnpaaGreatDoor

namespace Go.Proofs.YtbbmljakfbhnpaaGreatDoor
open Go.RowKit

def singB (ws : List Ino) : Bool := zig (zby (zap ws) 1) && zig (zby (zap ws) 2)
def zfm (ws : List Ino) (ps : List Den) : Bool := decide (ws.length = 16) && (decide (ps.length = 24) && (zak ws 0 == 2 && (okNs ws && (zuv ws ps && (zsu ws ps && singB ws)))))
theorem zez {x : Ino} (h : zdm x = true) : (∀ z ∈ x.map, zdz z = true) ∧ (x.kind = 2 → x.links = 1) := by
 unfold zdm at h
 simp only [Bool.and_eq_true, decide_eq_true_eq] at h
 obtain ⟨_, _, _, d, f⟩ := h
 refine ⟨fun z hz => ?_, fun k => ?_⟩
 ·obtain ⟨i, hi, rfl⟩ := List.getElem_of_mem hz
  have := zia d i hi
  rw [List.getD_eq_getElem?_getD, List.getElem?_eq_getElem hi] at this
  unfold zoy at this
  simp only [Option.getD_some, Bool.and_eq_true] at this
  exact this.1
 ·unfold zej at f
  rw [if_neg (by omega), if_pos k] at f
  simp only [Bool.and_eq_true, beq_iff_eq] at f
  exact f.2
theorem zeq {z : Int} (h : zdz z = true) : 0 ≤ z ∧ z ≤ 1048576 := by
 unfold zdz zgi at h
 simp only [Bool.and_eq_true, decide_eq_true_eq] at h
 omega
theorem okNs_ties {ws : List Ino} (h : okNs ws = true) : ∀ i (h : i < ws.length), ∀ z ∈ ws[i].map, zdz z = true := fun i hi => (zez ((of_decide_eq_true h : ∀ k (h : k < ws.length), zdm ws[k] = true) i hi)).1
theorem pim_img (ws : List Ino) (ps : List Den) : pimB ws ps = zfm ws ps := by
 unfold pimB zfm zge
 by_cases l1 : ws.length = 16
 case neg => simp [l1]
 by_cases l2 : ps.length = 24
 case neg => simp [l2]
 rw [decide_eq_true l1, decide_eq_true l2, Bool.true_and, Bool.true_and, Bool.true_and, Bool.true_and]
 cases o1 : okNs ws
 ·simp
 cases o2 : okDs ps
 ·have : zuv ws ps = false := by
   rw [Bool.eq_false_iff]
   intro e
   rw [ents_ok e] at o2
   cases o2
  rw [this]; simp
 rw [ents_eq o2]
 cases f1 : zol ws (zau ps)
 ·simp
 cases f2 : znn ((zau ps).map zhf)
 ·simp
 rw [links_eq l1 (fun i hi => (zez ((of_decide_eq_true o1 : ∀ k (h : k < ws.length), zdm ws[k] = true) i hi)).2) o2 f1]
 have s1 : singB ws = zig (zap ws) := zoa (fun e he => (zmc (okNs_ties o1) e he).2)
 rw [s1]
 simp [Bool.and_assoc]

end Go.Proofs.YtbbmljakfbhnpaaGreatDoor

namespace Go.Proofs.YtbbmljakfbhnpaaGreatDoor
open Go.RowKit

theorem zgk (v : Value) (ws : List Ino) (ps : List Den) (w : World) (h : RdIm w v ws ps) (hw : ws.length ≤ 1048576) (hp : ps.length ≤ 1048576) (hT : TS w) (hE : ED w) (hF : FD w) (hr : ∀ k (h : k < ws.length), ws[k].R) (hs : ∀ k (h : k < ps.length), ps[k].name.size ≤ maxLen) :
  Calls Tryz.prog 8 #[v] w fun e w' => e = .returned (.bool (zfm ws ps)) ∧ Below w.heap.size w w' := by
 rw [← pim_img]
 exact pimOK_any v ws ps w h hw hp hT hE hF hr hs

end Go.Proofs.YtbbmljakfbhnpaaGreatDoor

namespace Go.Proofs.YtbbmljakfbhnpaaGreatDoor
open Go.RowKit

/-- One stands in another, or is it, within n steps up. -/
def zos (ps : List Den) : Nat → Int → Int → Bool
 | 0, _, _ => false
 | n + 1, a, b => if a < 0 then false else if a = b then true else zos ps n (upD ps a) b
theorem benN_succ (ps : List Den) (n : Nat) (a b : Int) : zos ps (n + 1) a b = if a < 0 then false else if a = b then true else zos ps n (upD ps a) b := rfl
theorem zfj (ps : List Den) (n : Nat) (d : Int) : hangs ps (n + 1) d = if d = 0 then true else if upD ps d < 0 then false else hangs ps n (upD ps d) := rfl
theorem zjs (ps : List Den) (d : Int) : hangs ps 0 d = false := rfl
theorem znt {ps : List Den} {k : Nat} {x : Int} (h : hangs ps (k + 1) x = true) (q : ¬ x = 0) : 0 ≤ upD ps x ∧ hangs ps k (upD ps x) = true := by
 rw [zfj, if_neg q] at h
 by_cases r : upD ps x < 0
 ·rw [if_pos r] at h; cases h
 ·rw [if_neg r] at h; exact ⟨by omega, h⟩
theorem zax {ws : List Ino} {ps : List Den} (h : zfm ws ps = true) : ws.length = 16 ∧ ps.length = 24 ∧ zak ws 0 = 2 ∧ okNs ws = true ∧ zuv ws ps = true ∧ zsu ws ps = true ∧ singB ws = true := by
 unfold zfm at h
 simp only [Bool.and_eq_true, decide_eq_true_eq, beq_iff_eq] at h
 exact h
theorem zqg {ws : List Ino} {ps : List Den} (h : zfm ws ps = true) (i : Nat) (hi : i < ps.length) : (ps[i].child = -1 ∧ ps[i].name.size = 0) ∨ ((1 ≤ ps[i].child ∧ ps[i].child ≤ 15) ∧ (0 ≤ ps[i].dir ∧ ps[i].dir ≤ 15) ∧ nmB ps[i].name = true ∧ ¬ zak ws ps[i].child = 0 ∧ zak ws ps[i].dir = 2) := by
 obtain ⟨_, _, _, _, he, _, _⟩ := zax h
 have e := (of_decide_eq_true he : ∀ i (h : i < ps.length), zgh ws ps i ps[i] = true) i hi
 unfold zgh at e
 split at e
 ·rename_i c
  left
  refine ⟨c, ?_⟩
  unfold Den.freeB at e
  simp only [Bool.and_eq_true, beq_iff_eq] at e
  have := e.2.1
  first
   | exact this
   | simpa using this
   | (simp at this; rw [this]; rfl)
 ·right
  simp only [Bool.and_eq_true, decide_eq_true_eq, Bool.not_eq_true', beq_eq_false_iff_ne, beq_iff_eq] at e
  exact ⟨e.1, e.2.1, e.2.2.1, e.2.2.2.1, e.2.2.2.2.1⟩
end Go.Proofs.YtbbmljakfbhnpaaGreatDoor

namespace Go.Proofs.YtbbmljakfbhnpaaGreatDoor
open Go.RowKit

def zex (ss : List ByteArray) : List Value := ss.map Value.string
theorem zpw (ss : List ByteArray) : (zex ss).length = ss.length := by simp [zex]
theorem zpx (ss : List ByteArray) (k : Nat) (h : k < ss.length) : (zex ss)[k]? = some (.string ss[k]) := by simp [zex, h]
theorem zbf (ss : List ByteArray) : ∀ u ∈ zex ss, u.oneCell' = true := by
 intro u hu
 simp only [zex, List.mem_map] at hu
 obtain ⟨s, _, rfl⟩ := hu
 rfl
def RdT (w : World) (v : Value) (ss : List ByteArray) : Prop := Rd w 1 v ss.length (zex ss)
theorem RdT.shape {w : World} {v : Value} {ss : List ByteArray} (h : RdT w v ss) : ∃ ao cap, v = .slice ao ss.length cap ∧ ss.length ≤ cap ∧ (0 < ss.length → ∃ b o, ao = some ⟨b, o, none⟩ ∧ b < w.heap.size ∧ ∀ k (h : k < ss.length), w.cell? ⟨b, o + k, none⟩ = some (.string ss[k])) := by
 obtain ⟨_, ao, cap, rfl, h2, h3⟩ := h
 refine ⟨ao, cap, rfl, h2.1, fun hn => ?_⟩
 obtain ⟨b, o, e, hb, hc⟩ := h3 hn
 exact ⟨b, o, e, hb, fun k hk => (hc k (by omega)).trans (zpx ss k hk)⟩
theorem zen : (Tryz.prog.info? 9).map (fun i => (i.zero, i.size, i.bytes)) = some (some (.string ⟨#[]⟩), 1, 16) := by kernel_rfl
theorem zhi (w1 : World) (x : ByteArray) : Rd (w1.alloc (.cells #[.string x] 9)) 1 (.slice (some ⟨w1.heap.size, 0, none⟩) 1 1) 1 (zex [x]) := by
 refine ⟨rfl, _, _, rfl, ⟨Nat.le_refl _, fun e => by cases e⟩, fun _ => ⟨w1.heap.size, 0, rfl, by simp, fun j hj => ?_⟩⟩
 obtain rfl : j = 0 := by omega
 exact (zao (xs := [.string x]) (zag rfl) 0).1

theorem zhv {B : Nat} {a w : World} (h : Below B a w) (n : Nat) : Below B a (w.drewN n) := by
 induction n with
 | zero => exact h
 | succ n ih => exact ⟨ih.os, ih.tape, ih.output, ih.size, ih.block⟩

end Go.Proofs.YtbbmljakfbhnpaaGreatDoor

namespace Go.Proofs.YtbbmljakfbhnpaaGreatDoor
open Go.RowKit

/-- A row of texts that grows. -/
structure SnI (W w : World) (vL : Value) (ss : List ByteArray) : Prop where
 l : w.ownsRow W.heap.size 9 1 vL ss.length (zex ss)
 b : Below W.heap.size W w
theorem SnI.z {W w : World} {vL : Value} {ss : List ByteArray} (h : SnI W w vL ss) : W.heap.size ≤ w.heap.size := h.b.size
theorem SnI.below {W w w' : World} {vL : Value} {ss : List ByteArray} (h : SnI W w vL ss) (hb : Below w.heap.size w w') : SnI W w' vL ss :=
 ⟨((zac h.l).below hb (Nat.le_refl _)).1, zab h.b hb h.z⟩
theorem strs_app (l l' : List ByteArray) : zex (l ++ l') = zex l ++ zex l' := by simp [zex]
theorem SnI.grow {W w w' : World} {vL v' : Value} {ss : List ByteArray} (h : SnI W w vL ss) (l : List ByteArray) {m : Nat} (hm : m = l.length) (ho : w'.ownsRow W.heap.size 9 1 v' (ss.length + m) (zex ss ++ zex l)) (hg : w.grownBy w' vL.ownBlock) : SnI W w' v' (ss ++ l) :=
 ⟨by rw [strs_app, List.length_append, ← hm]; exact ho, h.b.grown hg h.z (fun q hq => (h.l.lt q hq).1)⟩
theorem SnI.rd {W w : World} {vL : Value} {ss : List ByteArray} (h : SnI W w vL ss) : RdT w vL ss := (zac h.l).rd
theorem SnI.form {W w : World} {vL : Value} {ss : List ByteArray} (h : SnI W w vL ss) (hn : vL ≠ .slice none 0 0) : ∃ b c, vL = .slice (some ⟨b, 0, none⟩) ss.length c ∧ ss.length ≤ c ∧ W.heap.size ≤ b ∧ b < w.heap.size := by
 rcases (zac h.l).shape with ⟨e, _⟩ | ⟨b, c, rfl, hc, _⟩
 ·exact absurd e hn
 ·obtain ⟨_, h1, _, h2, _⟩ := (zac h.l).at
  exact ⟨b, c, rfl, hc, h1, h2⟩
theorem SnI.some_ {W w : World} {vL : Value} {ss : List ByteArray} (h : SnI W w vL ss) (hn : 0 < ss.length) : vL ≠ .slice none 0 0 := by
 rcases (zac h.l).shape with ⟨_, e, _⟩ | ⟨b, c, rfl, _⟩
 ·omega
 ·intro e; cases e
theorem zrr {w : World} {ao : Option Addr} {n c : Nat} {l : List ByteArray} {m : Nat} (h : RdT w (.slice ao n c) l) (hm : m ≤ l.length) : Rd w 1 (.slice ao m c) m (zex (l.take m)) := by
 obtain ⟨_, ao', cap, e, h2, h3⟩ := h
 injection e with e1 e2 e3
 subst e1 e2 e3
 have hl : (l.take m).length = m := by rw [List.length_take]; omega
 refine ⟨by rw [zpw, hl, Nat.mul_one], ao, c, rfl, ⟨by omega, h2.2⟩, fun hp => ?_⟩
 obtain ⟨b, o, rfl, hb, hcl⟩ := h3 (by omega)
 refine ⟨b, o, rfl, hb, fun j hj => ?_⟩
 rw [hcl j (by omega), zpx _ _ (by omega), zpx _ _ (by omega), List.getElem_take]
theorem zqn {w : World} {b o n c : Nat} {l : List ByteArray} {m : Nat} (h : RdT w (.slice (some ⟨b, o, none⟩) n c) l) (hm : m ≤ l.length) : Rd w 1 (.slice (some ⟨b, o + m, none⟩) (n - m) (c - m)) (n - m) (zex (l.drop m)) := by
 obtain ⟨ao, cap, e, hc, hcell⟩ := h.shape
 injection e with e1 e2 e3
 subst e1 e2 e3
 refine ⟨by rw [zpw, Nat.mul_one, List.length_drop], some ⟨b, o + m, none⟩, c - m, rfl, ⟨by omega, fun e => by cases e⟩, fun hp => ?_⟩
 obtain ⟨b', o', e', hb, hcl⟩ := hcell (by omega)
 cases e'
 refine ⟨b, o + m, rfl, hb, fun j hj => ?_⟩
 rw [zpx _ j (by rw [List.length_drop]; omega), List.getElem_drop]
 have := hcl (m + j) (by omega)
 rw [← Nat.add_assoc] at this
 exact this
theorem rdt_none {w : World} {a : Addr} {c : Nat} {l : List ByteArray} {m : Nat} (hm : m = l.length) : Rd w 1 (.slice (some a) 0 c) 0 (zex (l.drop m)) :=
 ⟨by rw [zpw, List.length_drop]; omega, some a, c, rfl, ⟨Nat.zero_le _, fun e => by cases e⟩, fun h => absurd h (by omega)⟩
/-- Texts in order. -/
def Ord (ss : List ByteArray) : Prop := ss.Pairwise fun a b => a.toList ≤ b.toList
theorem ord_ins {ss : List ByteArray} {x : ByteArray} {k : Nat} (hk : k ≤ ss.length) (h : Ord ss) (h1 : ∀ i (h : i < ss.length), k ≤ i → x.toList < ss[i].toList) (h2 : ∀ i (h : i < ss.length), i + 1 = k → ss[i].toList ≤ x.toList) : Ord (ss.take k ++ [x] ++ ss.drop k) := by
 have ht : ∀ a ∈ ss.take k, a.toList ≤ x.toList := by
  intro a ha
  obtain ⟨i, hi, rfl⟩ := List.mem_take_iff_getElem.1 ha
  have hi := Nat.lt_min.1 hi
  by_cases e : i + 1 = k
  ·exact h2 i hi.2 e
  ·have h3 := h2 (k - 1) (by omega) (by omega)
   exact List.le_trans (List.pairwise_iff_getElem.1 h i (k - 1) hi.2 (by omega) (by omega)) h3
 have hd : ∀ a ∈ ss.drop k, x.toList ≤ a.toList := by
  intro a ha
  obtain ⟨i, hi, rfl⟩ := List.getElem_of_mem ha
  rw [List.length_drop] at hi
  rw [List.getElem_drop]
  exact List.le_of_lt (h1 (k + i) (by omega) (by omega))
 unfold Ord at h ⊢
 rw [List.append_assoc, List.pairwise_append]
 have h' := h
 rw [← List.take_append_drop k ss, List.pairwise_append] at h'
 refine ⟨h'.1, List.pairwise_append.2 ⟨List.pairwise_singleton _ _, h'.2.1, fun a ha b hb => ?_⟩, fun a ha b hb => ?_⟩
 ·rw [List.mem_singleton.1 ha]; exact hd b hb
 ·rcases List.mem_append.1 hb with hb | hb
  ·rw [List.mem_singleton.1 hb]; exact ht a ha
  ·exact h'.2.2 a ha b hb
theorem perm_ins (ss : List ByteArray) (x : ByteArray) (k : Nat) : (ss.take k ++ [x] ++ ss.drop k).Perm (ss ++ [x]) := by
 rw [List.append_assoc]
 refine List.Perm.trans (List.Perm.append_left _ List.perm_append_comm) ?_
 rw [← List.append_assoc, List.take_append_drop]
/-- The names of the entries in a directory, as they lie. -/
def zbo (ps : List Den) (d : Int) : List ByteArray := (ps.filter fun x => decide (¬ x.child < 0 ∧ x.dir = d)).map Den.name
theorem names_succ {ps : List Den} {d : Int} {k : Nat} (h : k < ps.length) : zbo (ps.take (k + 1)) d = if ¬ ps[k].child < 0 ∧ ps[k].dir = d then zbo (ps.take k) d ++ [ps[k].name] else zbo (ps.take k) d := by
 unfold zbo
 rw [List.take_succ_eq_append_getElem h, List.filter_append, List.map_append]
 by_cases c : ¬ ps[k].child < 0 ∧ ps[k].dir = d
 ·rw [if_pos c]
  simp only [List.filter_cons, decide_eq_true c, if_true, List.filter_nil, List.map_cons, List.map_nil]
 ·rw [if_neg c]
  simp only [List.filter_cons, decide_eq_false c, List.filter_nil]
  simp
/-- The texts, sorted. -/
def sorted (ss : List ByteArray) : List ByteArray := ((ss.map fun s => s.data.toList).mergeSort fun x y => decide (x ≤ y)).map fun l => ⟨l.toArray⟩
theorem zpi (ss : List ByteArray) : (sorted ss).length = ss.length := by unfold sorted; rw [List.length_map, List.length_mergeSort, List.length_map]
theorem ord_sorted {ss l : List ByteArray} (h : Ord ss) (hp : ss.Perm l) : ss = sorted l := by
 have tr : ∀ a b c : List UInt8, decide (a ≤ b) = true → decide (b ≤ c) = true → decide (a ≤ c) = true := fun a b c h1 h2 => by simp only [decide_eq_true_eq] at *; exact List.le_trans h1 h2
 have tot : ∀ a b : List UInt8, (decide (a ≤ b) || decide (b ≤ a)) = true := fun a b => by simp only [Bool.or_eq_true, decide_eq_true_eq]; exact List.le_total a b
 have e : ss.map (fun s => s.data.toList) = (l.map fun s => s.data.toList).mergeSort fun x y => decide (x ≤ y) := by
  refine List.Perm.eq_of_pairwise (le := fun a b => decide (a ≤ b) = true) (fun a b _ _ h1 h2 => ?_) ?_ (List.pairwise_mergeSort tr tot _) ((hp.map _).trans (List.mergeSort_perm _ _).symm)
  ·simp only [decide_eq_true_eq] at h1 h2
   exact List.le_antisymm h1 h2
  ·rw [List.pairwise_map]
   refine List.Pairwise.imp (fun {a b} h => ?_) h
   rw [Lib.toList_data, Lib.toList_data] at h
   exact decide_eq_true h
 unfold sorted
 rw [← e, List.map_map]
 rw [show ((fun l : List UInt8 => (⟨l.toArray⟩ : ByteArray)) ∘ fun s : ByteArray => s.data.toList) = id from funext fun s => by simp]
 simp
end Go.Proofs.YtbbmljakfbhnpaaGreatDoor

namespace Go.Proofs.YtbbmljakfbhnpaaGreatDoor
open Go.RowKit

/-- The bytes as a text. -/
def mkB (l : List UInt8) : ByteArray := ⟨l.toArray⟩
theorem mkB_data (l : List UInt8) : (mkB l).data.toList = l := by simp [mkB]
theorem mkB_of (s : ByteArray) : mkB s.data.toList = s := by
 obtain ⟨⟨l⟩⟩ := s
 rfl
theorem zmx {a b : ByteArray} (h : a.data.toList = b.data.toList) : a = b := by rw [← mkB_of a, ← mkB_of b, h]
theorem zmv (s : ByteArray) (a b : Nat) : mkB ((s.data.toList.take b).drop a) = s.extract a b := by
 apply zmx
 rw [mkB_data, Lib.extract_data, List.drop_take]
/-- Cut at slashes, what was begun ahead. -/
def zko (cur : List UInt8) : List UInt8 → List (List UInt8)
 | [] => [cur]
 | c :: l => if c = 47 then cur :: zko [] l else zko (cur ++ [c]) l
theorem zlh (cur : List UInt8) : zko cur [] = [cur] := rfl
theorem zgo (cur : List UInt8) (c : UInt8) (l : List UInt8) : zko cur (c :: l) = if c = 47 then cur :: zko [] l else zko (cur ++ [c]) l := rfl
theorem zsl : ∀ (l cur : List UInt8), ∃ x r, zko cur l = (cur ++ x) :: r
 | [], cur => ⟨[], [], by rw [zlh, List.append_nil]⟩
 | c :: l, cur => by
  rw [zgo]
  by_cases h : c = 47
  ·rw [if_pos h]; exact ⟨[], _, by rw [List.append_nil]⟩
  ·rw [if_neg h]
   obtain ⟨x, r, e⟩ := zsl l (cur ++ [c])
   exact ⟨c :: x, r, by rw [e, List.append_assoc]; rfl⟩
theorem zro : ∀ (l cur : List UInt8), (zko cur l).length ≤ l.length + 1
 | [], cur => by rw [zlh]; simp
 | c :: l, cur => by
  rw [zgo]
  split
  ·have := zro l []
   simp only [List.length_cons]; omega
  ·have := zro l (cur ++ [c])
   simp only [List.length_cons]; omega
theorem cutG_pos (l cur : List UInt8) : 1 ≤ (zko cur l).length := by
 obtain ⟨x, r, e⟩ := zsl l cur
 rw [e]; simp
/-- Each piece is no longer than the text. -/
theorem zqe : ∀ (l cur x : List UInt8), x ∈ zko cur l → x.length ≤ cur.length + l.length
 | [], cur, x, h => by rw [zlh, List.mem_singleton] at h; rw [h]; simp
 | c :: l, cur, x, h => by
  rw [zgo] at h
  split at h
  ·rcases List.mem_cons.1 h with rfl | h
   ·simp
   ·have := zqe l [] x h
    simp only [List.length_nil, List.length_cons] at *
    omega
  ·have := zqe l (cur ++ [c]) x h
   simp only [List.length_append, List.length_cons, List.length_nil] at *
   omega
/-- A text's pieces. -/
def pcs (s : ByteArray) : List ByteArray := (zko [] s.data.toList).map mkB
theorem pcs_len (s : ByteArray) : (pcs s).length ≤ s.size + 1 := by
 unfold pcs
 rw [List.length_map, Lib.size_eq]
 exact zro _ _
theorem pcs_pos (s : ByteArray) : 1 ≤ (pcs s).length := by unfold pcs; rw [List.length_map]; exact cutG_pos _ _
theorem pcs_size (s : ByteArray) : ∀ k (h : k < (pcs s).length), (pcs s)[k].size ≤ s.size := by
 intro k hk
 have hm : (pcs s)[k] ∈ (zko [] s.data.toList).map mkB := List.getElem_mem hk
 obtain ⟨x, hx, e⟩ := List.mem_map.1 hm
 have := zqe _ _ _ hx
 rw [← e, Lib.size_eq, mkB_data, Lib.size_eq]
 simpa using this
end Go.Proofs.YtbbmljakfbhnpaaGreatDoor
