/- Several texts laid together: ImO, ImP, PaA, StA, PbA. -/
import Derived.Test.YtpakbbdlhlkogaaGreatDoorZAG
import Derived.Test.YtpakbbdlhlkogaaGreatDoorZAH
import Derived.Test.YtpakbbdlhlkogaaGreatDoorZAI
import Derived.Test.YtpakbbdlhlkogaaGreatDoorZAC
import Derived.Test.YtpakbbdlhlkogaaGreatDoorZAF
import Derived.Deep.DeepCutAuto
import Derived.Deep.RegionWith
import Derived.Deep.RegionHeld3
import Derived.Lib.Strings
import Derived.Lib.SplitLaws
import Derived.Lib.IndexBytes
namespace Go.Proofs.YtpakbbdlhlkogaaGreatDoor
open Go.RowKit
def ziv (ws : List Ino) : Bool := zfn (zbu (zap ws) 1) && zfn (zbu (zap ws) 2)
def zcb (ws : List Ino) (ps : List Den) : Bool := decide (ws.length = 16) && (decide (ps.length = 24) && (zai ws 0 == 2 && (zvo ws && (zii ws ps && (zgh ws ps && ziv ws)))))
theorem zfq {x : Ino} (h : zdl x = true) : (∀ z ∈ x.map, zes z = true) ∧ (x.kind = 2 → x.links = 1) := by
 unfold zdl at h
 simp only [Bool.and_eq_true, decide_eq_true_eq] at h
 obtain ⟨_, _, _, d, f⟩ := h
 refine ⟨fun z hz => ?_, fun k => ?_⟩
 ·obtain ⟨i, hi, rfl⟩ := List.getElem_of_mem hz
  have := zje d i hi
  rw [List.getD_eq_getElem?_getD, List.getElem?_eq_getElem hi] at this
  unfold zqj at this
  simp only [Option.getD_some, Bool.and_eq_true] at this
  exact this.1
 ·unfold zet at f
  rw [if_neg (by omega), if_pos k] at f
  simp only [Bool.and_eq_true, beq_iff_eq] at f
  exact f.2
theorem zeq {z : Int} (h : zes z = true) : 0 ≤ z ∧ z ≤ 1048576 := by
 unfold zes zhe at h
 simp only [Bool.and_eq_true, decide_eq_true_eq] at h
 omega
theorem zvt {ws : List Ino} (h : zvo ws = true) : ∀ i (h : i < ws.length), ∀ z ∈ ws[i].map, zes z = true := fun i hi => (zfq ((of_decide_eq_true h : ∀ k (h : k < ws.length), zdl ws[k] = true) i hi)).1
theorem yaqv (ws : List Ino) (ps : List Den) : pimB ws ps = zcb ws ps := by
 unfold pimB zcb zhd
 by_cases l1 : ws.length = 16
 case neg => simp [l1]
 by_cases l2 : ps.length = 24
 case neg => simp [l2]
 rw [decide_eq_true l1, decide_eq_true l2, Bool.true_and, Bool.true_and, Bool.true_and, Bool.true_and]
 cases o1 : zvo ws
 ·simp
 cases o2 : okDs ps
 ·have : zii ws ps = false := by
   rw [Bool.eq_false_iff]
   intro e
   rw [yaqm e] at o2
   cases o2
  rw [this]; simp
 rw [yary o2]
 cases f1 : zpu ws (zas ps)
 ·simp
 cases f2 : zoi ((zas ps).map zih)
 ·simp
 rw [yans l1 (fun i hi => (zfq ((of_decide_eq_true o1 : ∀ k (h : k < ws.length), zdl ws[k] = true) i hi)).2) o2 f1]
 have s1 : ziv ws = zfn (zap ws) := zoe (fun e he => (zpd (zvt o1) e he).2)
 rw [s1]
 simp [Bool.and_assoc]
set_option maxRecDepth 100000 in
set_option maxHeartbeats 4000000 in
theorem ztl (v : Value) (ws : List Ino) (ps : List Den) (w : World) (h : RdIm w v ws ps) (hn : ws.length = 16) (hr : ∀ k (h : k < ws.length), ∀ z ∈ ws[k].map, 0 ≤ z ∧ z ≤ 1048576) :
  Calls Tryz.prog 76 #[v] w fun e w' => e = .returned (.bool (ziv ws)) ∧ Below w.heap.size w w' := by
 have HR := zaa h
 have LU := zaa (fun t w1 h => zoj v ws ps t w1 h (by omega) hr)
 have UL := zaa (fun t => show (zbu (zap ws) t).length ≤ 128 by have := zkt (zap ws) t; have := zid ws; omega)
 obtain ⟨vW, vP, rfl, h1, h2⟩ := h
 obtain ⟨aW, cW, rfl, _, _⟩ := h1.shape
 obtain ⟨aP, cP, rfl, _, _⟩ := h2.shape
 clear h1 h2 hr hn
 obtain ⟨W, hW⟩ : ∃ W, W = w.alloc (.cells #[.slice aW ws.length cW, .slice aP ps.length cP] 42) := ⟨_, rfl⟩
 have CA : Hid (∀ w', Below W.heap.size W w' → w'.cell? ⟨w.heap.size, 0, none⟩ = some (.slice aW ws.length cW) ∧ w'.cell? ⟨w.heap.size, 1, none⟩ = some (.slice aP ps.length cP)) := fun w' hb => by
  have : w'.heap[w.heap.size]? = some (.cells #[.slice aW ws.length cW, .slice aP ps.length cP] 42 (0, 0)) := (hb.block _ (by rw [hW]; simp)).trans (by rw [hW]; exact zah rfl)
  exact ⟨(zac this).1, (zac this).2.1⟩
 have BW : Hid (Below w.heap.size w W) := by rw [hW]; exact (Below.refl _ _).alloc (Nat.le_refl _) _
 have hz : w.heap.size ≤ W.heap.size := BW.out.size
 have SG := zaa (show ziv ws = (zfn (zbu (zap ws) 1) && zfn (zbu (zap ws) 2)) from rfl)
 generalize zbu (zap ws) = uf at *
 go_enter Tryz.func76, Tryz.ntmps76
 go_wp2
 rw [← hW]
 clear hW
 go_loopw [3] (fun i wr => ∃ t : Nat, (1 ≤ t ∧ t ≤ 3) ∧ i = .int .i64 t ∧ Hid (Below W.heap.size W wr ∧ ∀ s : Nat, 1 ≤ s → s < t → zfn (uf (s : Int)) = true)) (fun i _ => 3 - (intOf i).toNat)
 case atStart => exact ⟨1, by omega, rfl, Below.refl _ _, fun s h a => absurd a (by omega)⟩
 case round =>
  obtain ⟨t, ht, rfl, J⟩ := hrel
  have J1 := zaa J.out.1
  have JW := zaa (zab BW.out J.out.1 hz)
  obtain ⟨x0, x1⟩ := CA.out wr J.out.1
  by_cases hlt : t ≤ 2
  ·have t2 : (t : Int) ≤ 2 := by omega
   have t1 : (0 : Int) ≤ (t : Int) := by omega
   have JS := zaa J.out.2
   have NO : Hid (zfn (uf (t : Int)) = false → ziv ws = false) := fun q => by
    rw [SG.out]
    rcases (show t = 1 ∨ t = 2 by omega) with rfl | rfl
    ·rw [show ((1 : Nat) : Int) = 1 from rfl] at q; rw [q]; rfl
    ·rw [show ((2 : Nat) : Int) = 2 from rfl] at q; rw [q, Bool.and_false]
   clear J
   go_wp2_with fail
   refine (LU.out _ _ (HR.out.below JW.out)).mono ?_
   rintro e w1 ⟨v1, rfl, hr1, hb1⟩
   obtain ⟨-, aL, cL, hvL, hcap, -⟩ := hr1.rd
   have hcap1 := hcap.1
   subst hvL
   have R1 : Hid (RdI w1 (.slice aL (uf (t : Int)).length cL) (uf (t : Int))) := hr1.rd
   have B1 := zaa (zab J1.out hb1 J1.out.size)
   have B2 := zaa (zab BW.out B1.out hz)
   have ul := UL.out (t : Int)
   have JN : Hid (zfn (uf (t : Int)) = true → ∀ s : Nat, 1 ≤ s → s < t + 1 → zfn (uf (s : Int)) = true) := fun q s h a => by
    by_cases e : s = t
    ·subst e; exact q
    ·exact JS.out s h (by omega)
   clear hr1 hb1 x0 x1 hcap JS
   generalize uf (t : Int) = zs at *
   obtain ⟨aZ, cZ, e, _, hcZ⟩ := R1.out.shape
   have HZ := zaa hcZ
   obtain ⟨rfl, rfl⟩ : aZ = aL ∧ cZ = cL := by cases e; exact ⟨rfl, rfl⟩
   clear e hcZ
   go_wp2
   go_loopw [5] (fun i wq => ∃ k : Nat, k ≤ zs.length ∧ i = .int .i64 k ∧ Hid (Below w1.heap.size w1 wq ∧ ∀ j (h : j < zs.length), j < k → zhk (zs.take j) zs[j] = false)) (fun i _ => zs.length - (intOf i).toNat)
   case atStart => exact ⟨0, by omega, rfl, Below.refl _ _, fun j h a => absurd a (by omega)⟩
   case round =>
    obtain ⟨k, hk, rfl, H⟩ := hrel
    have k0 : (0 : Int) ≤ (k : Int) := by omega
    have H1 := zaa H.out.1
    have HB := zaa (zab B1.out H.out.1 B1.out.size)
    have HF := zaa (zab B2.out H.out.1 B2.out.size)
    by_cases hlk : k < zs.length
    ·obtain ⟨b, o, rfl, hbl, hcell⟩ := HZ.out (by omega)
     have hck := (H1.out.cell (p := ⟨b, o + k, none⟩) hbl).trans (hcell k hlk)
     have k1 : (k : Int) < (zs.length : Int) := by omega
     have k2 : (k : Int) ≤ (cZ : Int) := by omega
     have hblr : b < wr.heap.size := by have := H1.out.size; omega
     have RT := zaa (RdI.take (Rd.below R1.out H1.out) hk)
     have LT := zaa (show (zs.take k).length ≤ 1048576 by rw [List.length_take]; omega)
     clear hcell
     cases q : zhk (zs.take k) zs[k] with
     | false =>
      have H' : Hid (∀ j (h : j < zs.length), j < k + 1 → zhk (zs.take j) zs[j] = false) := fun j h a => by
       by_cases e : j = k
       ·subst e; exact q
       ·exact H.out.2 j h (by omega)
      have Q := zaa q
      clear q H
      generalize zs[k] = z at hck Q
      go_wp2
      have RB : Hid (∀ w', Below wr.heap.size wr w' → RdI w' (.slice (some ⟨b, o, none⟩) k cZ) (zs.take k)) := fun w' hb => Rd.below RT.out hb
      have SK : Hid (∀ w', Below wr.heap.size wr w' → w'.cell? ⟨b, o + k, none⟩ = some (.int .i64 z)) := fun w' hb => (hb.cell (p := ⟨b, o + k, none⟩) hblr).trans hck
      go_region_held3 (fun w' => w'.cell? ⟨b, o + k, none⟩ = some (.int .i64 z))
       (exact SK.out _ (by repeat (first | exact Below.refl _ _ | refine Below.drew ?_)))
       (first
        | (go_at_call 122; refine (zlg _ (zs.take k) z _ (RB.out _ (by repeat (first | exact Below.refl _ _ | refine Below.drew ?_))) LT.out).mono ?_; rw [Q.out]; rintro e w' ⟨rfl, hw'⟩; subst w'))
      all_goals
       clear SK RB hck
       go_wp2
       go_roundw
       case rel => exact ⟨k + 1, by omega, by go_num, (by repeat (first | exact H1.out | refine Below.drew ?_)), H'.out⟩
       case measure => simp [intOf]; omega
     | true =>
      have E := zaa (NO.out (zvc hlk q))
      have Q := zaa q
      clear q H
      generalize zs[k] = z at hck Q
      go_wp2
      have RB : Hid (∀ w', Below wr.heap.size wr w' → RdI w' (.slice (some ⟨b, o, none⟩) k cZ) (zs.take k)) := fun w' hb => Rd.below RT.out hb
      have SK : Hid (∀ w', Below wr.heap.size wr w' → w'.cell? ⟨b, o + k, none⟩ = some (.int .i64 z)) := fun w' hb => (hb.cell (p := ⟨b, o + k, none⟩) hblr).trans hck
      go_region_held3 (fun w' => w'.cell? ⟨b, o + k, none⟩ = some (.int .i64 z))
       (exact SK.out _ (by repeat (first | exact Below.refl _ _ | refine Below.drew ?_)))
       (first
        | (go_at_call 122; refine (zlg _ (zs.take k) z _ (RB.out _ (by repeat (first | exact Below.refl _ _ | refine Below.drew ?_))) LT.out).mono ?_; rw [Q.out]; rintro e w' ⟨rfl, hw'⟩; subst w'))
      all_goals
       clear SK RB hck
       go_wp2
       go_ret
       exact ⟨zag E.out.symm, (by repeat (first | exact HF.out | refine Below.drew ?_))⟩
    ·have E := zaa (JN.out (zzx (fun j h => H.out.2 j h (by omega))))
     clear H
     go_wp2
     go_roundw
     case rel => exact ⟨t + 1, by omega, by go_num, HB.out, E.out⟩
     case measure => simp [intOf]; omega
  ·obtain rfl : t = 3 := by omega
   have E := zaa (show ziv ws = true by
    have e1 : zfn (uf 1) = true := J.out.2 1 (by omega) (by omega)
    have e2 : zfn (uf 2) = true := J.out.2 2 (by omega) (by omega)
    rw [SG.out, e1, e2]; rfl)
   clear J
   go_wp2
   go_ret
   exact ⟨zag E.out.symm, JW.out⟩
theorem zdz (v : Value) (ws : List Ino) (ps : List Den) (w : World) (h : RdIm w v ws ps) (hw : ws.length ≤ 1048576) (hp : ps.length ≤ 1048576) (hT : TS w) (hE : ED w) (hF : FD w) (hr : ∀ k (h : k < ws.length), ws[k].R) (hs : ∀ k (h : k < ps.length), ps[k].name.size ≤ maxLen) :
  Calls Tryz.prog 25 #[v] w fun e w' => e = .returned (.bool (zcb ws ps)) ∧ Below w.heap.size w w' := by
 rw [← yaqv]
 exact yahw v ws ps w h hw hp hT hE hF hr hs
set_option maxRecDepth 100000 in
set_option maxHeartbeats 8000000 in
theorem zfj (v : Value) (ws : List Ino) (ps : List Den) (w : World) (h : RdIm w v ws ps) (hw : ws.length ≤ 1048576) (hp : ps.length ≤ 1048576) (hr : ∀ k (h : k < ws.length), ws[k].R) (hs : ∀ k (h : k < ps.length), ps[k].name.size ≤ maxLen) :
  Calls Tryz.prog 31 #[v] w fun e w' => e = .returned (.bool (zcb ws ps)) ∧ Below w.heap.size w w' := by
 have HRD := zaa h
 have HR := zaa hr
 have L1 := zaa (fun w1 h => zus v ws ps w1 h hw hp)
 have L2 := zaa (fun w1 h (hl : ws.length = 16) => zpp v ws ps w1 h hl hp hs)
 have L3 := zaa (fun w1 h (hl : ws.length = 16) (o : zvo ws = true) => ztl v ws ps w1 h hl (fun k hk z hz => zeq (zvt o k hk z hz)))
 obtain ⟨vW, vP, rfl, h1, h2⟩ := h
 obtain ⟨aW, cW, rfl, _, hcW⟩ := h1.shape
 obtain ⟨aP, cP, rfl, _, _⟩ := h2.shape
 have HW := zaa hcW
 clear h1 h2 hr hs hcW
 have CA : Hid (∀ w', Below (w.alloc (.cells #[.slice aW ws.length cW, .slice aP ps.length cP] 42)).heap.size (w.alloc (.cells #[.slice aW ws.length cW, .slice aP ps.length cP] 42)) w' → w'.cell? ⟨w.heap.size, 0, none⟩ = some (.slice aW ws.length cW) ∧ w'.cell? ⟨w.heap.size, 1, none⟩ = some (.slice aP ps.length cP)) := fun w' hb => by
  have : w'.heap[w.heap.size]? = some (.cells #[.slice aW ws.length cW, .slice aP ps.length cP] 42 (0, 0)) := (hb.block _ (by simp)).trans (zah rfl)
  exact ⟨(zac this).1, (zac this).2.1⟩
 have BW : Hid (Below w.heap.size w (w.alloc (.cells #[.slice aW ws.length cW, .slice aP ps.length cP] 42))) := (Below.refl _ _).alloc (Nat.le_refl _) _
 obtain ⟨x0, x1⟩ := CA.out _ (Below.refl _ _)
 have EI := zaa (show zcb ws ps = (decide (ws.length = 16) && (decide (ps.length = 24) && (zai ws 0 == 2 && (zvo ws && (zii ws ps && (zgh ws ps && ziv ws)))))) from rfl)
 by_cases c1 : ws.length = 16
 case neg =>
  have E := zaa (show zcb ws ps = false by rw [EI.out, decide_eq_false c1]; rfl)
  have q : ((ws.length : Int) != 16) = true := by rw [bne_iff_ne]; omega
  clear c1
  go_enter Tryz.func31, Tryz.ntmps31
  go_wp2
  go_ret
  exact ⟨zag E.out.symm, BW.out⟩
 have q : ((ws.length : Int) != 16) = false := by rw [c1]; rfl
 by_cases c2 : ps.length = 24
 case neg =>
  have E := zaa (show zcb ws ps = false by rw [EI.out, decide_eq_false c2, Bool.false_and, Bool.and_false])
  have q2 : ((ps.length : Int) != 24) = true := by rw [bne_iff_ne]; omega
  clear c1 c2
  go_enter Tryz.func31, Tryz.ntmps31
  go_wp2
  go_ret
  exact ⟨zag E.out.symm, BW.out⟩
 have q2 : ((ps.length : Int) != 24) = false := by rw [c2]; rfl
 obtain ⟨bW, oW, rfl, hblW, hcellW⟩ := HW.out (by omega)
 have HK := (hcellW 0 (by omega)).1
 rw [show ws[0].kind = zai ws 0 from (zbo (i := 0) (by omega)).symm] at HK
 simp only [Nat.zero_mul, Nat.add_zero] at HK
 have kk := (BW.out.cell (p := ⟨bW, oW, none⟩) hblW).trans HK
 have len16 : (0 : Int) < (ws.length : Int) := by omega
 have C1 := zaa c1
 have E1 := zaa (show zcb ws ps = (zai ws 0 == 2 && (zvo ws && (zii ws ps && (zgh ws ps && ziv ws)))) by rw [EI.out, decide_eq_true c1, decide_eq_true c2]; rfl)
 have HC := zaa hcellW
 clear c1 c2 EI HK hcellW HW
 generalize zai ws 0 = k0 at *
 by_cases c3 : k0 = 2
 case neg =>
  have q3 : (k0 != 2) = true := by rw [bne_iff_ne]; exact c3
  have E := zaa (show zcb ws ps = false by rw [E1.out, show (k0 == 2) = false by rw [beq_eq_false_iff_ne]; exact c3]; rfl)
  clear c3
  go_enter Tryz.func31, Tryz.ntmps31
  go_wp2
  go_ret
  exact ⟨zag E.out.symm, BW.out⟩
 have q3 : (k0 != 2) = false := by rw [c3]; rfl
 have E2 := zaa (show zcb ws ps = (zvo ws && (zii ws ps && (zgh ws ps && ziv ws))) by rw [E1.out, c3]; rfl)
 clear c3 E1
 go_enter Tryz.func31, Tryz.ntmps31
 go_wp2
 clear x0 x1 kk q q2 q3
 generalize w.alloc (.cells #[.slice (some ⟨bW, oW, none⟩) ws.length cW, .slice aP ps.length cP] 42) = W at *
 have hz : w.heap.size ≤ W.heap.size := BW.out.size
 go_loopw [3] (fun i wr => ∃ k : Nat, k ≤ ws.length ∧ i = .int .i64 k ∧ Hid (Below W.heap.size W wr ∧ ∀ j (h : j < ws.length), j < k → zdl ws[j] = true)) (fun i _ => ws.length - (intOf i).toNat)
 case atStart => exact ⟨0, by omega, rfl, Below.refl _ _, fun j h a => absurd a (by omega)⟩
 case round =>
  obtain ⟨k, hk, rfl, H⟩ := hrel
  have H1 := zaa H.out.1
  have HF := zaa (zab BW.out H.out.1 hz)
  obtain ⟨x0, x1⟩ := CA.out wr H.out.1
  by_cases hlt : k < ws.length
  ·obtain ⟨a0, a1, a2, a3, a4, a5, a6, a7, a8, a9, a10⟩ := HC.out k hlt
   have d0 := (HF.out.cell (p := ⟨bW, oW + k * 11, none⟩) hblW).trans a0
   have d1 := (HF.out.cell (p := ⟨bW, oW + k * 11 + 1, none⟩) hblW).trans a1
   have d2 := (HF.out.cell (p := ⟨bW, oW + k * 11 + 2, none⟩) hblW).trans a2
   have d3 := (HF.out.cell (p := ⟨bW, oW + k * 11 + 3, none⟩) hblW).trans a3
   have d4 := (HF.out.cell (p := ⟨bW, oW + k * 11 + 4, none⟩) hblW).trans a4
   have d5 := (HF.out.cell (p := ⟨bW, oW + k * 11 + 5, none⟩) hblW).trans a5
   have d6 := (HF.out.cell (p := ⟨bW, oW + k * 11 + 6, none⟩) hblW).trans a6
   have d7 := (HF.out.cell (p := ⟨bW, oW + k * 11 + 7, none⟩) hblW).trans a7
   have d8 := (HF.out.cell (p := ⟨bW, oW + k * 11 + 8, none⟩) hblW).trans a8
   have d9 := (HF.out.cell (p := ⟨bW, oW + k * 11 + 9, none⟩) hblW).trans a9
   have d10 := (HF.out.cell (p := ⟨bW, oW + k * 11 + 10, none⟩) hblW).trans a10
   have k0' : (0 : Int) ≤ (k : Int) := by omega
   have k1 : (k : Int) < (ws.length : Int) := by omega
   have LI := zaa (fun w1 => zvy ws[k] w1 (HR.out k hlt))
   have H2 : Hid (zdl ws[k] = true → ∀ j (h : j < ws.length), j < k + 1 → zdl ws[j] = true) := fun q j h a => by
    by_cases e : j = k
    ·subst e; exact q
    ·exact H.out.2 j h (by omega)
   have H3 := zaa (fun q => yaah hlt q)
   clear a0 a1 a2 a3 a4 a5 a6 a7 a8 a9 a10 H
   generalize ws[k] = x at d0 d1 d2 d3 d4 d5 d6 d7 d8 d9 d10 LI H2 H3
   cases qq : zdl x with
   | true =>
    rw [qq] at LI
    have E := zaa (H2.out qq)
    clear H2 H3 qq
    go_wp2_with fail
    refine (LI.out _).mono ?_
    rintro e w1 ⟨rfl, hb1⟩
    have B3 := zaa (zab H1.out hb1 H1.out.size)
    clear hb1 d0 d1 d2 d3 d4 d5 d6 d7 d8 d9 d10 x0 x1
    go_wp2
    go_roundw
    case rel => exact ⟨k + 1, by omega, by go_num, B3.out, E.out⟩
    case measure => simp [intOf]; omega
   | false =>
    rw [qq] at LI
    have E := zaa (show zcb ws ps = false by rw [E2.out, H3.out qq]; rfl)
    clear H2 H3 qq
    go_wp2_with fail
    refine (LI.out _).mono ?_
    rintro e w1 ⟨rfl, hb1⟩
    have B3 := zaa (zab HF.out hb1 HF.out.size)
    clear hb1 d0 d1 d2 d3 d4 d5 d6 d7 d8 d9 d10 x0 x1
    go_wp2
    go_ret
    exact ⟨zag E.out.symm, B3.out⟩
  ·have O := zaa (yail (fun j h => H.out.2 j h (by omega)))
   have E3 := zaa (show zcb ws ps = (zii ws ps && (zgh ws ps && ziv ws)) by rw [E2.out, O.out]; rfl)
   clear H
   generalize zii ws ps = f1 at *
   generalize zgh ws ps = f2 at *
   generalize ziv ws = f3 at *
   go_wp2_with fail
   refine (L2.out _ (HRD.out.below HF.out) C1.out).mono ?_
   rintro e w1 ⟨rfl, hb1⟩
   have B1 := zaa (zab HF.out hb1 HF.out.size)
   have BA := zaa (zab H1.out hb1 H1.out.size)
   clear hb1 x0 x1
   cases f1 with
   | false =>
    go_wp2
    go_ret
    exact ⟨zag (by rw [E3.out]; rfl), B1.out⟩
   | true =>
   obtain ⟨x0, x1⟩ := CA.out _ BA.out
   go_wp2_with fail
   refine (L1.out _ (HRD.out.below B1.out)).mono ?_
   rintro e w2 ⟨rfl, hb2⟩
   have B2 := zaa (zab B1.out hb2 B1.out.size)
   have BB := zaa (zab BA.out hb2 BA.out.size)
   clear hb2 x0 x1
   cases f2 with
   | false =>
    go_wp2
    go_ret
    exact ⟨zag (by rw [E3.out]; rfl), B2.out⟩
   | true =>
   obtain ⟨x0, x1⟩ := CA.out _ BB.out
   go_wp2_with fail
   refine (L3.out _ (HRD.out.below B2.out) C1.out O.out).mono ?_
   rintro e w3 ⟨rfl, hb3⟩
   have B3 := zaa (zab B2.out hb3 B2.out.size)
   clear hb3 x0 x1
   go_wp2
   go_ret
   exact ⟨zag (by rw [E3.out]; rfl), B3.out⟩
def zqb (ps : List Den) : Nat → Int → Int → Bool
 | 0, _, _ => false
 | n + 1, a, b => if a < 0 then false else if a = b then true else zqb ps n (upD ps a) b
theorem yaea (ps : List Den) (n : Nat) (a b : Int) : zqb ps (n + 1) a b = if a < 0 then false else if a = b then true else zqb ps n (upD ps a) b := rfl
theorem zga (ps : List Den) (n : Nat) (d : Int) : zdi ps (n + 1) d = if d = 0 then true else if upD ps d < 0 then false else zdi ps n (upD ps d) := rfl
theorem zll (ps : List Den) (d : Int) : zdi ps 0 d = false := rfl
theorem znj {ps : List Den} {k : Nat} {x : Int} (h : zdi ps (k + 1) x = true) (q : ¬ x = 0) : 0 ≤ upD ps x ∧ zdi ps k (upD ps x) = true := by
 rw [zga, if_neg q] at h
 by_cases r : upD ps x < 0
 ·rw [if_pos r] at h; cases h
 ·rw [if_neg r] at h; exact ⟨by omega, h⟩
theorem zau {ws : List Ino} {ps : List Den} (h : zcb ws ps = true) : ws.length = 16 ∧ ps.length = 24 ∧ zai ws 0 = 2 ∧ zvo ws = true ∧ zii ws ps = true ∧ zgh ws ps = true ∧ ziv ws = true := by
 unfold zcb at h
 simp only [Bool.and_eq_true, decide_eq_true_eq, beq_iff_eq] at h
 exact h
theorem zjr {ws : List Ino} {ps : List Den} (h : zcb ws ps = true) (i : Nat) (hi : i < ps.length) : (ps[i].child = -1 ∧ ps[i].name.size = 0) ∨ ((1 ≤ ps[i].child ∧ ps[i].child ≤ 15) ∧ (0 ≤ ps[i].dir ∧ ps[i].dir ≤ 15) ∧ nmB ps[i].name = true ∧ ¬ zai ws ps[i].child = 0 ∧ zai ws ps[i].dir = 2) := by
 obtain ⟨_, _, _, _, he, _, _⟩ := zau h
 have e := (of_decide_eq_true he : ∀ i (h : i < ps.length), zcu ws ps i ps[i] = true) i hi
 unfold zcu at e
 split at e
 ·rename_i c
  left
  refine ⟨c, ?_⟩
  unfold Den.freeB at e
  simp only [Bool.and_eq_true, beq_iff_eq] at e
  have := e.2.1
  first
   | exact this
   | simpa using this
   | (simp at this; rw [this]; rfl)
 ·right
  simp only [Bool.and_eq_true, decide_eq_true_eq, Bool.not_eq_true', beq_eq_false_iff_ne, beq_iff_eq] at e
  exact ⟨e.1, e.2.1, e.2.2.1, e.2.2.2.1, e.2.2.2.2.1⟩
def zer (ss : List ByteArray) : List Value := ss.map Value.string
theorem ztj (ss : List ByteArray) : (zer ss).length = ss.length := by simp [zer]
theorem zsz (ss : List ByteArray) (k : Nat) (h : k < ss.length) : (zer ss)[k]? = some (.string ss[k]) := by simp [zer, h]
theorem zbl (ss : List ByteArray) : ∀ u ∈ zer ss, u.oneCell' = true := by
 intro u hu
 simp only [zer, List.mem_map] at hu
 obtain ⟨s, _, rfl⟩ := hu
 rfl
def RdT (w : World) (v : Value) (ss : List ByteArray) : Prop := Rd w 1 v ss.length (zer ss)
theorem RdT.shape {w : World} {v : Value} {ss : List ByteArray} (h : RdT w v ss) : ∃ ao cap, v = .slice ao ss.length cap ∧ ss.length ≤ cap ∧ (0 < ss.length → ∃ b o, ao = some ⟨b, o, none⟩ ∧ b < w.heap.size ∧ ∀ k (h : k < ss.length), w.cell? ⟨b, o + k, none⟩ = some (.string ss[k])) := by
 obtain ⟨_, ao, cap, rfl, h2, h3⟩ := h
 refine ⟨ao, cap, rfl, h2.1, fun hn => ?_⟩
 obtain ⟨b, o, e, hb, hc⟩ := h3 hn
 exact ⟨b, o, e, hb, fun k hk => (hc k (by omega)).trans (zsz ss k hk)⟩
theorem zfg : (Tryz.prog.info? 9).map (fun i => (i.zero, i.size, i.bytes)) = some (some (.string ⟨#[]⟩), 1, 16) := by kernel_rfl
theorem zit (w1 : World) (x : ByteArray) : Rd (w1.alloc (.cells #[.string x] 9)) 1 (.slice (some ⟨w1.heap.size, 0, none⟩) 1 1) 1 (zer [x]) := by
 refine ⟨rfl, _, _, rfl, ⟨Nat.le_refl _, fun e => by cases e⟩, fun _ => ⟨w1.heap.size, 0, rfl, by simp, fun j hj => ?_⟩⟩
 obtain rfl : j = 0 := by omega
 exact (zao (xs := [.string x]) (zah rfl) 0).1
theorem zjk {B : Nat} {a w : World} (h : Below B a w) (n : Nat) : Below B a (w.drewN n) := by
 induction n with
 | zero => exact h
 | succ n ih => exact ⟨ih.os, ih.tape, ih.output, ih.size, ih.block⟩
structure SnI (W w : World) (vL : Value) (ss : List ByteArray) : Prop where
 l : w.ownsRow W.heap.size 9 1 vL ss.length (zer ss)
 b : Below W.heap.size W w
theorem SnI.z {W w : World} {vL : Value} {ss : List ByteArray} (h : SnI W w vL ss) : W.heap.size ≤ w.heap.size := h.b.size
theorem SnI.below {W w w' : World} {vL : Value} {ss : List ByteArray} (h : SnI W w vL ss) (hb : Below w.heap.size w w') : SnI W w' vL ss :=
 ⟨((zad h.l).below hb (Nat.le_refl _)).1, zab h.b hb h.z⟩
theorem yall (l l' : List ByteArray) : zer (l ++ l') = zer l ++ zer l' := by simp [zer]
theorem SnI.grow {W w w' : World} {vL v' : Value} {ss : List ByteArray} (h : SnI W w vL ss) (l : List ByteArray) {m : Nat} (hm : m = l.length) (ho : w'.ownsRow W.heap.size 9 1 v' (ss.length + m) (zer ss ++ zer l)) (hg : w.grownBy w' vL.ownBlock) : SnI W w' v' (ss ++ l) :=
 ⟨by rw [yall, List.length_append, ← hm]; exact ho, h.b.grown hg h.z (fun q hq => (h.l.lt q hq).1)⟩
theorem SnI.rd {W w : World} {vL : Value} {ss : List ByteArray} (h : SnI W w vL ss) : RdT w vL ss := (zad h.l).rd
theorem SnI.form {W w : World} {vL : Value} {ss : List ByteArray} (h : SnI W w vL ss) (hn : vL ≠ .slice none 0 0) : ∃ b c, vL = .slice (some ⟨b, 0, none⟩) ss.length c ∧ ss.length ≤ c ∧ W.heap.size ≤ b ∧ b < w.heap.size := by
 rcases (zad h.l).shape with ⟨e, _⟩ | ⟨b, c, rfl, hc, _⟩
 ·exact absurd e hn
 ·obtain ⟨_, h1, _, h2, _⟩ := (zad h.l).at
  exact ⟨b, c, rfl, hc, h1, h2⟩
theorem SnI.some_ {W w : World} {vL : Value} {ss : List ByteArray} (h : SnI W w vL ss) (hn : 0 < ss.length) : vL ≠ .slice none 0 0 := by
 rcases (zad h.l).shape with ⟨_, e, _⟩ | ⟨b, c, rfl, _⟩
 ·omega
 ·intro e; cases e
theorem zmw {w : World} {ao : Option Addr} {n c : Nat} {l : List ByteArray} {m : Nat} (h : RdT w (.slice ao n c) l) (hm : m ≤ l.length) : Rd w 1 (.slice ao m c) m (zer (l.take m)) := by
 obtain ⟨_, ao', cap, e, h2, h3⟩ := h
 injection e with e1 e2 e3
 subst e1 e2 e3
 have hl : (l.take m).length = m := by rw [List.length_take]; omega
 refine ⟨by rw [ztj, hl, Nat.mul_one], ao, c, rfl, ⟨by omega, h2.2⟩, fun hp => ?_⟩
 obtain ⟨b, o, rfl, hb, hcl⟩ := h3 (by omega)
 refine ⟨b, o, rfl, hb, fun j hj => ?_⟩
 rw [hcl j (by omega), zsz _ _ (by omega), zsz _ _ (by omega), List.getElem_take]
theorem zsr {w : World} {b o n c : Nat} {l : List ByteArray} {m : Nat} (h : RdT w (.slice (some ⟨b, o, none⟩) n c) l) (hm : m ≤ l.length) : Rd w 1 (.slice (some ⟨b, o + m, none⟩) (n - m) (c - m)) (n - m) (zer (l.drop m)) := by
 obtain ⟨ao, cap, e, hc, hcell⟩ := h.shape
 injection e with e1 e2 e3
 subst e1 e2 e3
 refine ⟨by rw [ztj, Nat.mul_one, List.length_drop], some ⟨b, o + m, none⟩, c - m, rfl, ⟨by omega, fun e => by cases e⟩, fun hp => ?_⟩
 obtain ⟨b', o', e', hb, hcl⟩ := hcell (by omega)
 cases e'
 refine ⟨b, o + m, rfl, hb, fun j hj => ?_⟩
 rw [zsz _ j (by rw [List.length_drop]; omega), List.getElem_drop]
 have := hcl (m + j) (by omega)
 rw [← Nat.add_assoc] at this
 exact this
theorem zzm {w : World} {a : Addr} {c : Nat} {l : List ByteArray} {m : Nat} (hm : m = l.length) : Rd w 1 (.slice (some a) 0 c) 0 (zer (l.drop m)) :=
 ⟨by rw [ztj, List.length_drop]; omega, some a, c, rfl, ⟨Nat.zero_le _, fun e => by cases e⟩, fun h => absurd h (by omega)⟩
def Ord (ss : List ByteArray) : Prop := ss.Pairwise fun a b => a.toList ≤ b.toList
theorem yagf {ss : List ByteArray} {x : ByteArray} {k : Nat} (hk : k ≤ ss.length) (h : Ord ss) (h1 : ∀ i (h : i < ss.length), k ≤ i → x.toList < ss[i].toList) (h2 : ∀ i (h : i < ss.length), i + 1 = k → ss[i].toList ≤ x.toList) : Ord (ss.take k ++ [x] ++ ss.drop k) := by
 have ht : ∀ a ∈ ss.take k, a.toList ≤ x.toList := by
  intro a ha
  obtain ⟨i, hi, rfl⟩ := List.mem_take_iff_getElem.1 ha
  have hi := Nat.lt_min.1 hi
  by_cases e : i + 1 = k
  ·exact h2 i hi.2 e
  ·have h3 := h2 (k - 1) (by omega) (by omega)
   exact List.le_trans (List.pairwise_iff_getElem.1 h i (k - 1) hi.2 (by omega) (by omega)) h3
 have hd : ∀ a ∈ ss.drop k, x.toList ≤ a.toList := by
  intro a ha
  obtain ⟨i, hi, rfl⟩ := List.getElem_of_mem ha
  rw [List.length_drop] at hi
  rw [List.getElem_drop]
  exact List.le_of_lt (h1 (k + i) (by omega) (by omega))
 unfold Ord at h ⊢
 rw [List.append_assoc, List.pairwise_append]
 have h' := h
 rw [← List.take_append_drop k ss, List.pairwise_append] at h'
 refine ⟨h'.1, List.pairwise_append.2 ⟨List.pairwise_singleton _ _, h'.2.1, fun a ha b hb => ?_⟩, fun a ha b hb => ?_⟩
 ·rw [List.mem_singleton.1 ha]; exact hd b hb
 ·rcases List.mem_append.1 hb with hb | hb
  ·rw [List.mem_singleton.1 hb]; exact ht a ha
  ·exact h'.2.2 a ha b hb
theorem yaae (ss : List ByteArray) (x : ByteArray) (k : Nat) : (ss.take k ++ [x] ++ ss.drop k).Perm (ss ++ [x]) := by
 rw [List.append_assoc]
 refine List.Perm.trans (List.Perm.append_left _ List.perm_append_comm) ?_
 rw [← List.append_assoc, List.take_append_drop]
def zbh (ps : List Den) (d : Int) : List ByteArray := (ps.filter fun x => decide (¬ x.child < 0 ∧ x.dir = d)).map Den.name
theorem yacq {ps : List Den} {d : Int} {k : Nat} (h : k < ps.length) : zbh (ps.take (k + 1)) d = if ¬ ps[k].child < 0 ∧ ps[k].dir = d then zbh (ps.take k) d ++ [ps[k].name] else zbh (ps.take k) d := by
 unfold zbh
 rw [List.take_succ_eq_append_getElem h, List.filter_append, List.map_append]
 by_cases c : ¬ ps[k].child < 0 ∧ ps[k].dir = d
 ·rw [if_pos c]
  simp only [List.filter_cons, decide_eq_true c, if_true, List.filter_nil, List.map_cons, List.map_nil]
 ·rw [if_neg c]
  simp only [List.filter_cons, decide_eq_false c, List.filter_nil]
  simp
def zft (ss : List ByteArray) : List ByteArray := ((ss.map fun s => s.data.toList).mergeSort fun x y => decide (x ≤ y)).map fun l => ⟨l.toArray⟩
theorem zqx (ss : List ByteArray) : (zft ss).length = ss.length := by unfold zft; rw [List.length_map, List.length_mergeSort, List.length_map]
theorem yadr {ss l : List ByteArray} (h : Ord ss) (hp : ss.Perm l) : ss = zft l := by
 have tr : ∀ a b c : List UInt8, decide (a ≤ b) = true → decide (b ≤ c) = true → decide (a ≤ c) = true := fun a b c h1 h2 => by simp only [decide_eq_true_eq] at *; exact List.le_trans h1 h2
 have tot : ∀ a b : List UInt8, (decide (a ≤ b) || decide (b ≤ a)) = true := fun a b => by simp only [Bool.or_eq_true, decide_eq_true_eq]; exact List.le_total a b
 have e : ss.map (fun s => s.data.toList) = (l.map fun s => s.data.toList).mergeSort fun x y => decide (x ≤ y) := by
  refine List.Perm.eq_of_pairwise (le := fun a b => decide (a ≤ b) = true) (fun a b _ _ h1 h2 => ?_) ?_ (List.pairwise_mergeSort tr tot _) ((hp.map _).trans (List.mergeSort_perm _ _).symm)
  ·simp only [decide_eq_true_eq] at h1 h2
   exact List.le_antisymm h1 h2
  ·rw [List.pairwise_map]
   refine List.Pairwise.imp (fun {a b} h => ?_) h
   rw [Lib.toList_data, Lib.toList_data] at h
   exact decide_eq_true h
 unfold zft
 rw [← e, List.map_map]
 rw [show ((fun l : List UInt8 => (⟨l.toArray⟩ : ByteArray)) ∘ fun s : ByteArray => s.data.toList) = id from funext fun s => by simp]
 simp
def mkB (l : List UInt8) : ByteArray := ⟨l.toArray⟩
theorem zif (l : List UInt8) : (mkB l).data.toList = l := by simp [mkB]
theorem yakf (s : ByteArray) : mkB s.data.toList = s := by
 obtain ⟨⟨l⟩⟩ := s
 rfl
theorem zjz {a b : ByteArray} (h : a.data.toList = b.data.toList) : a = b := by rw [← yakf a, ← yakf b, h]
theorem zoo (s : ByteArray) (a b : Nat) : mkB ((s.data.toList.take b).drop a) = s.extract a b := by
 apply zjz
 rw [zif, Lib.extract_data, List.drop_take]
def ziw (cur : List UInt8) : List UInt8 → List (List UInt8)
 | [] => [cur]
 | c :: l => if c = 47 then cur :: ziw [] l else ziw (cur ++ [c]) l
theorem zjn (cur : List UInt8) : ziw cur [] = [cur] := rfl
theorem zdh (cur : List UInt8) (c : UInt8) (l : List UInt8) : ziw cur (c :: l) = if c = 47 then cur :: ziw [] l else ziw (cur ++ [c]) l := rfl
theorem zwe : ∀ (l cur : List UInt8), (∀ c ∈ l, ¬ c = 47) → ziw cur l = [cur ++ l]
 | [], cur, _ => by rw [zjn, List.append_nil]
 | c :: l, cur, h => by
  rw [zdh, if_neg (h c (List.mem_cons_self ..)), zwe l _ (fun x hx => h x (List.mem_cons_of_mem _ hx)), List.append_assoc]
  rfl
theorem zvd : ∀ (l cur r : List UInt8), (∀ c ∈ l, ¬ c = 47) → ziw cur (l ++ 47 :: r) = (cur ++ l) :: ziw [] r
 | [], cur, r, _ => by rw [List.nil_append, zdh, if_pos rfl, List.append_nil]
 | c :: l, cur, r, h => by
  rw [List.cons_append, zdh, if_neg (h c (List.mem_cons_self ..)), zvd l _ r (fun x hx => h x (List.mem_cons_of_mem _ hx)), List.append_assoc]
  rfl
theorem zng : ∀ (l cur : List UInt8), ∃ x r, ziw cur l = (cur ++ x) :: r
 | [], cur => ⟨[], [], by rw [zjn, List.append_nil]⟩
 | c :: l, cur => by
  rw [zdh]
  by_cases h : c = 47
  ·rw [if_pos h]; exact ⟨[], _, by rw [List.append_nil]⟩
  ·rw [if_neg h]
   obtain ⟨x, r, e⟩ := zng l (cur ++ [c])
   exact ⟨c :: x, r, by rw [e, List.append_assoc]; rfl⟩
theorem zsx : ∀ (l cur : List UInt8), (ziw cur l).length ≤ l.length + 1
 | [], cur => by rw [zjn]; simp
 | c :: l, cur => by
  rw [zdh]
  split
  ·have := zsx l []
   simp only [List.length_cons]; omega
  ·have := zsx l (cur ++ [c])
   simp only [List.length_cons]; omega
theorem yanu (l cur : List UInt8) : 1 ≤ (ziw cur l).length := by
 obtain ⟨x, r, e⟩ := zng l cur
 rw [e]; simp
theorem zrn : ∀ (l cur x : List UInt8), x ∈ ziw cur l → x.length ≤ cur.length + l.length
 | [], cur, x, h => by rw [zjn, List.mem_singleton] at h; rw [h]; simp
 | c :: l, cur, x, h => by
  rw [zdh] at h
  split at h
  ·rcases List.mem_cons.1 h with rfl | h
   ·simp
   ·have := zrn l [] x h
    simp only [List.length_nil, List.length_cons] at *
    omega
  ·have := zrn l (cur ++ [c]) x h
   simp only [List.length_append, List.length_cons, List.length_nil] at *
   omega
theorem zql : ∀ (k : Nat) (l : List UInt8), Lib.count l [47] = k → Lib.splitK [47] 0 k l = ziw [] l
 | 0, l, h => by
  show [l] = _
  rw [Lib.count_one] at h
  rw [zwe l [] (fun c hc e => by subst e; have := List.count_pos_iff.2 hc; omega), List.nil_append]
 | k + 1, l, h => by
  have hm : (47 : UInt8) ∈ l := by
   rw [Lib.count_one] at h
   exact List.count_pos_iff.1 (by omega)
  have hge := Lib.indexByte_ge l 47
  have hi : Lib.index l [47] = Lib.indexByte l 47 := Lib.index_one l 47
  have hne : ¬ Lib.indexByte l 47 = -1 := fun e => by
   obtain ⟨j, hj, e2⟩ := List.getElem_of_mem hm
   exact Lib.indexByte_none e j (by rw [List.getElem?_eq_getElem hj, e2])
  obtain ⟨o, ho⟩ : ∃ o : Nat, Lib.indexByte l 47 = (o : Int) := ⟨(Lib.indexByte l 47).toNat, by omega⟩
  obtain ⟨h1, h2⟩ := Lib.indexByte_some ho
  have hol : o < l.length := (List.getElem?_eq_some_iff.1 h1).1
  have e0 : l = l.take o ++ 47 :: l.drop (o + 1) := by
   have hd : l.drop o = 47 :: l.drop (o + 1) := by
    rw [List.drop_eq_getElem_cons hol, (List.getElem?_eq_some_iff.1 h1).2]
   rw [← hd, List.take_append_drop]
  have hno : ∀ c ∈ l.take o, ¬ c = 47 := fun c hc e => by
   subst e
   obtain ⟨j, hj, e2⟩ := List.mem_take_iff_getElem.1 hc
   have hj := Nat.lt_min.1 hj
   exact h2 j hj.1 (by rw [List.getElem?_eq_getElem hj.2, e2])
  unfold Lib.splitK
  rw [hi, ho, if_neg (by simp), Int.toNat_natCast, Nat.add_zero]
  show l.take o :: Lib.splitK [47] 0 k (l.drop (o + 1)) = ziw [] l
  have hc : Lib.count (l.drop (o + 1)) [47] = k := by
   rw [Lib.count_one] at h ⊢
   have hz : (l.take o).count 47 = 0 := List.count_eq_zero.2 (fun hx => hno 47 hx rfl)
   rw [e0, List.count_append, hz, List.count_cons_self] at h
   omega
  rw [zql k _ hc]
  conv => rhs; rw [e0]
  rw [zvd _ _ _ hno, List.nil_append]
def pcs (s : ByteArray) : List ByteArray := (ziw [] s.data.toList).map mkB
theorem zts (s : ByteArray) : Lib.splitB ⟨#[47]⟩ 0 (Lib.countB s ⟨#[47]⟩) s = pcs s := by
 have h := Lib.splitB_data ⟨#[47]⟩ 0 (Lib.countB s ⟨#[47]⟩) s
 have h2 := zql (Lib.countB s ⟨#[47]⟩) s.data.toList rfl
 unfold pcs
 rw [← h2]
 have h3 : Lib.splitK [47] 0 (Lib.countB s ⟨#[47]⟩) s.data.toList = (Lib.splitB ⟨#[47]⟩ 0 (Lib.countB s ⟨#[47]⟩) s).map (·.data.toList) := h.symm
 rw [h3, List.map_map]
 have : (mkB ∘ fun x : ByteArray => x.data.toList) = id := funext fun x => yakf x
 rw [this, List.map_id]
theorem yagi (s : ByteArray) : (pcs s).length ≤ s.size + 1 := by
 unfold pcs
 rw [List.length_map, Lib.size_eq]
 exact zsx _ _
theorem yakm (s : ByteArray) : 1 ≤ (pcs s).length := by unfold pcs; rw [List.length_map]; exact yanu _ _
theorem zzk (s : ByteArray) : ∀ k (h : k < (pcs s).length), (pcs s)[k].size ≤ s.size := by
 intro k hk
 have hm : (pcs s)[k] ∈ (ziw [] s.data.toList).map mkB := List.getElem_mem hk
 obtain ⟨x, hx, e⟩ := List.mem_map.1 hm
 have := zrn _ _ _ hx
 rw [← e, Lib.size_eq, zif, Lib.size_eq]
 simpa using this
theorem yaiz (s : ByteArray) : Lib.countB s ⟨#[47]⟩ + 1 = (pcs s).length := by
 rw [← zts, Lib.splitB_all ⟨#[47]⟩ (by decide) 0 _ s rfl]
theorem yagg {s : ByteArray} {l : List UInt8} (h : s.data.toList = 47 :: l) : pcs s = mkB [] :: pcs (mkB l) := by
 unfold pcs
 rw [h, zdh, if_pos rfl, zif]
 rfl
theorem yaks {s : ByteArray} {c : UInt8} {l : List UInt8} (h : s.data.toList = c :: l) (hc : ¬ c = 47) : ∃ x r, pcs s = x :: r ∧ ¬ x.size = 0 := by
 unfold pcs
 rw [h, zdh, if_neg hc, List.nil_append]
 obtain ⟨x, r, e⟩ := zng l [c]
 refine ⟨mkB ([c] ++ x), r.map mkB, by rw [e]; rfl, ?_⟩
 rw [Lib.size_eq, zif]; simp
theorem yalf {s : ByteArray} (h : s.data.toList = []) : pcs s = [mkB []] := by
 unfold pcs
 rw [h]
 rfl
end Go.Proofs.YtpakbbdlhlkogaaGreatDoor
