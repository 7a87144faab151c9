/- Several texts laid together: ImP, PaA, MkT, IgD. -/
import Derived.Test.YtihmihkhkmadmaaGreatDoorImO
import Derived.Test.YtihmihkhkmadmaaGreatDoorZAF
import Derived.Test.YtihmihkhkmadmaaGreatDoorZAG
import Derived.Test.YtihmihkhkmadmaaGreatDoorZAM
import Derived.Test.YtihmihkhkmadmaaGreatDoorImX
import Derived.Maps.Views
import Derived.Deep.LoopGhost
import Derived.Deep.RegionHeld3
import Derived.Laws.OwnMore
import Derived.Lib.SplitLaws
import Derived.Lib.IndexBytes
import Derived.Deep.DeepCutAuto
import Derived.Deep.RegionWith
import Derived.Lib.Strings
import Derived.BigQuiet
import Derived.Sort.Walk0
import Derived.Laws.Cover1
namespace Go.Proofs.YtihmihkhkmadmaaGreatDoor
open Go.RowKit
theorem implImageOK_any (v : Value) (ws : List Ino) (ps : List Den) (w : World) (h : RdIm w v ws ps) (hw : ws.length ≤ 1048576) (hp : ps.length ≤ 1048576) (hT : TS w) (hE : ED w) (hF : FD w) (hr : ∀ k (h : k < ws.length), ws[k].R) (hs : ∀ k (h : k < ps.length), ps[k].name.size ≤ maxLen) :
    Calls Tryz.prog 20 #[v] w fun e w' => e = .returned (.bool (imgB ws ps)) ∧ Below w.heap.size w w' := by
  rw [← pim_img]
  exact pimOK_any v ws ps w h hw hp hT hE hF hr hs
set_option maxRecDepth 100000 in
set_option maxHeartbeats 8000000 in
theorem specImageOK_any (v : Value) (ws : List Ino) (ps : List Den) (w : World) (h : RdIm w v ws ps) (hw : ws.length ≤ 1048576) (hp : ps.length ≤ 1048576) (hr : ∀ k (h : k < ws.length), ws[k].R) (hs : ∀ k (h : k < ps.length), ps[k].name.size ≤ maxLen) :
    Calls Tryz.prog 69 #[v] w fun e w' => e = .returned (.bool (imgB ws ps)) ∧ Below w.heap.size w w' := by
  have HRD := hideIt h
  have HR := hideIt hr
  have L1 := hideIt (fun w1 h => l05Links_any v ws ps w1 h hw hp)
  have L2 := hideIt (fun w1 h (hl : ws.length = 16) => l05Entries_any v ws ps w1 h hl hp hs)
  have L3 := hideIt (fun w1 h (hl : ws.length = 16) (o : okNs ws = true) => l05Single_any v ws ps w1 h hl (fun k hk z hz => tie_small (okNs_ties o k hk z hz)))
  obtain ⟨vW, vP, rfl, h1, h2⟩ := h
  obtain ⟨aW, cW, rfl, _, hcW⟩ := h1.shape
  obtain ⟨aP, cP, rfl, _, _⟩ := h2.shape
  have HW := hideIt hcW
  clear h1 h2 hr hs hcW
  have CA : Hid (∀ w', Below (w.alloc (.cells #[.slice aW ws.length cW, .slice aP ps.length cP] 56)).heap.size (w.alloc (.cells #[.slice aW ws.length cW, .slice aP ps.length cP] 56)) w' → w'.cell? ⟨w.heap.size, 0, none⟩ = some (.slice aW ws.length cW) ∧ w'.cell? ⟨w.heap.size, 1, none⟩ = some (.slice aP ps.length cP)) := fun w' hb => by
    have : w'.heap[w.heap.size]? = some (.cells #[.slice aW ws.length cW, .slice aP ps.length cP] 56 (0, 0)) := (hb.block _ (by simp)).trans (at_new rfl)
    exact ⟨(two_cells this).1, (two_cells this).2.1⟩
  have BW : Hid (Below w.heap.size w (w.alloc (.cells #[.slice aW ws.length cW, .slice aP ps.length cP] 56))) := (Below.refl _ _).alloc (Nat.le_refl _) _
  obtain ⟨x0, x1⟩ := CA.out _ (Below.refl _ _)
  have EI := hideIt (show imgB ws ps = (decide (ws.length = 16) && (decide (ps.length = 24) && (kindAt ws 0 == 2 && (okNs ws && (entsB ws ps && (linksB ws ps && singB ws)))))) from rfl)
  by_cases c1 : ws.length = 16
  case neg =>
    have E := hideIt (show imgB ws ps = false by rw [EI.out, decide_eq_false c1]; rfl)
    have q : ((ws.length : Int) != 16) = true := by rw [bne_iff_ne]; omega
    clear c1
    go_enter Tryz.func69, Tryz.ntmps69
    go_wp2
    go_ret
    exact ⟨ret_bool E.out.symm, BW.out⟩
  have q : ((ws.length : Int) != 16) = false := by rw [c1]; rfl
  by_cases c2 : ps.length = 24
  case neg =>
    have E := hideIt (show imgB ws ps = false by rw [EI.out, decide_eq_false c2, Bool.false_and, Bool.and_false])
    have q2 : ((ps.length : Int) != 24) = true := by rw [bne_iff_ne]; omega
    clear c1 c2
    go_enter Tryz.func69, Tryz.ntmps69
    go_wp2
    go_ret
    exact ⟨ret_bool E.out.symm, BW.out⟩
  have q2 : ((ps.length : Int) != 24) = false := by rw [c2]; rfl
  obtain ⟨bW, oW, rfl, hblW, hcellW⟩ := HW.out (by omega)
  have HK := (hcellW 0 (by omega)).1
  rw [show ws[0].kind = kindAt ws 0 from (kindAt_of (i := 0) (by omega)).symm] at HK
  simp only [Nat.zero_mul, Nat.add_zero] at HK
  have kk := (BW.out.cell (p := ⟨bW, oW, none⟩) hblW).trans HK
  have len16 : (0 : Int) < (ws.length : Int) := by omega
  have C1 := hideIt c1
  have E1 := hideIt (show imgB ws ps = (kindAt ws 0 == 2 && (okNs ws && (entsB ws ps && (linksB ws ps && singB ws)))) by rw [EI.out, decide_eq_true c1, decide_eq_true c2]; rfl)
  have HC := hideIt hcellW
  clear c1 c2 EI HK hcellW HW
  generalize kindAt ws 0 = k0 at *
  by_cases c3 : k0 = 2
  case neg =>
    have q3 : (k0 != 2) = true := by rw [bne_iff_ne]; exact c3
    have E := hideIt (show imgB ws ps = false by rw [E1.out, show (k0 == 2) = false by rw [beq_eq_false_iff_ne]; exact c3]; rfl)
    clear c3
    go_enter Tryz.func69, Tryz.ntmps69
    go_wp2
    go_ret
    exact ⟨ret_bool E.out.symm, BW.out⟩
  have q3 : (k0 != 2) = false := by rw [c3]; rfl
  have E2 := hideIt (show imgB ws ps = (okNs ws && (entsB ws ps && (linksB ws ps && singB ws))) by rw [E1.out, c3]; rfl)
  clear c3 E1
  go_enter Tryz.func69, Tryz.ntmps69
  go_wp2
  clear x0 x1 kk q q2 q3
  generalize w.alloc (.cells #[.slice (some ⟨bW, oW, none⟩) ws.length cW, .slice aP ps.length cP] 56) = W at *
  have hz : w.heap.size ≤ W.heap.size := BW.out.size
  go_loopw [3] (fun i wr => ∃ k : Nat, k ≤ ws.length ∧ i = .int .i64 k ∧ Hid (Below W.heap.size W wr ∧ ∀ j (h : j < ws.length), j < k → inoB ws[j] = true)) (fun i _ => ws.length - (intOf i).toNat)
  case atStart => exact ⟨0, by omega, rfl, Below.refl _ _, fun j h a => absurd a (by omega)⟩
  case round =>
    obtain ⟨k, hk, rfl, H⟩ := hrel
    have H1 := hideIt H.out.1
    have HF := hideIt (below_trans BW.out H.out.1 hz)
    obtain ⟨x0, x1⟩ := CA.out wr H.out.1
    by_cases hlt : k < ws.length
    · obtain ⟨a0, a1, a2, a3, a4, a5, a6, a7, a8, a9, a10⟩ := HC.out k hlt
      have d0 := (HF.out.cell (p := ⟨bW, oW + k * 11, none⟩) hblW).trans a0
      have d1 := (HF.out.cell (p := ⟨bW, oW + k * 11 + 1, none⟩) hblW).trans a1
      have d2 := (HF.out.cell (p := ⟨bW, oW + k * 11 + 2, none⟩) hblW).trans a2
      have d3 := (HF.out.cell (p := ⟨bW, oW + k * 11 + 3, none⟩) hblW).trans a3
      have d4 := (HF.out.cell (p := ⟨bW, oW + k * 11 + 4, none⟩) hblW).trans a4
      have d5 := (HF.out.cell (p := ⟨bW, oW + k * 11 + 5, none⟩) hblW).trans a5
      have d6 := (HF.out.cell (p := ⟨bW, oW + k * 11 + 6, none⟩) hblW).trans a6
      have d7 := (HF.out.cell (p := ⟨bW, oW + k * 11 + 7, none⟩) hblW).trans a7
      have d8 := (HF.out.cell (p := ⟨bW, oW + k * 11 + 8, none⟩) hblW).trans a8
      have d9 := (HF.out.cell (p := ⟨bW, oW + k * 11 + 9, none⟩) hblW).trans a9
      have d10 := (HF.out.cell (p := ⟨bW, oW + k * 11 + 10, none⟩) hblW).trans a10
      have k0' : (0 : Int) ≤ (k : Int) := by omega
      have k1 : (k : Int) < (ws.length : Int) := by omega
      have LI := hideIt (fun w1 => l05Inode_any ws[k] w1 (HR.out k hlt))
      have H2 : Hid (inoB ws[k] = true → ∀ j (h : j < ws.length), j < k + 1 → inoB ws[j] = true) := fun q j h a => by
        by_cases e : j = k
        · subst e; exact q
        · exact H.out.2 j h (by omega)
      have H3 := hideIt (fun q => okNs_not hlt q)
      clear a0 a1 a2 a3 a4 a5 a6 a7 a8 a9 a10 H
      generalize ws[k] = x at d0 d1 d2 d3 d4 d5 d6 d7 d8 d9 d10 LI H2 H3
      cases qq : inoB x with
      | true =>
        rw [qq] at LI
        have E := hideIt (H2.out qq)
        clear H2 H3 qq
        go_wp2_with fail
        refine (LI.out _).mono ?_
        rintro e w1 ⟨rfl, hb1⟩
        have B3 := hideIt (below_trans H1.out hb1 H1.out.size)
        clear hb1 d0 d1 d2 d3 d4 d5 d6 d7 d8 d9 d10 x0 x1
        go_wp2
        go_roundw
        case rel => exact ⟨k + 1, by omega, by go_num, B3.out, E.out⟩
        case measure => simp [intOf]; omega
      | false =>
        rw [qq] at LI
        have E := hideIt (show imgB ws ps = false by rw [E2.out, H3.out qq]; rfl)
        clear H2 H3 qq
        go_wp2_with fail
        refine (LI.out _).mono ?_
        rintro e w1 ⟨rfl, hb1⟩
        have B3 := hideIt (below_trans HF.out hb1 HF.out.size)
        clear hb1 d0 d1 d2 d3 d4 d5 d6 d7 d8 d9 d10 x0 x1
        go_wp2
        go_ret
        exact ⟨ret_bool E.out.symm, B3.out⟩
    · have O := hideIt (okNs_mk (fun j h => H.out.2 j h (by omega)))
      have E3 := hideIt (show imgB ws ps = (entsB ws ps && (linksB ws ps && singB ws)) by rw [E2.out, O.out]; rfl)
      clear H
      generalize entsB ws ps = f1 at *
      generalize linksB ws ps = f2 at *
      generalize singB ws = f3 at *
      go_wp2_with fail
      refine (L2.out _ (HRD.out.below HF.out) C1.out).mono ?_
      rintro e w1 ⟨rfl, hb1⟩
      have B1 := hideIt (below_trans HF.out hb1 HF.out.size)
      have BA := hideIt (below_trans H1.out hb1 H1.out.size)
      clear hb1 x0 x1
      cases f1 with
      | false =>
        go_wp2
        go_ret
        exact ⟨ret_bool (by rw [E3.out]; rfl), B1.out⟩
      | true =>
      obtain ⟨x0, x1⟩ := CA.out _ BA.out
      go_wp2_with fail
      refine (L1.out _ (HRD.out.below B1.out)).mono ?_
      rintro e w2 ⟨rfl, hb2⟩
      have B2 := hideIt (below_trans B1.out hb2 B1.out.size)
      have BB := hideIt (below_trans BA.out hb2 BA.out.size)
      clear hb2 x0 x1
      cases f2 with
      | false =>
        go_wp2
        go_ret
        exact ⟨ret_bool (by rw [E3.out]; rfl), B2.out⟩
      | true =>
      obtain ⟨x0, x1⟩ := CA.out _ BB.out
      go_wp2_with fail
      refine (L3.out _ (HRD.out.below B2.out) C1.out O.out).mono ?_
      rintro e w3 ⟨rfl, hb3⟩
      have B3 := hideIt (below_trans B2.out hb3 B2.out.size)
      clear hb3 x0 x1
      go_wp2
      go_ret
      exact ⟨ret_bool (by rw [E3.out]; rfl), B3.out⟩
end Go.Proofs.YtihmihkhkmadmaaGreatDoor

namespace Go.Proofs.YtihmihkhkmadmaaGreatDoor
open Go.RowKit
theorem pimg_all {ws : List Ino} {ps : List Den} (h : imgB ws ps = true) : ws.length = 16 ∧ ps.length = 24 ∧ kindAt ws 0 = 2 ∧ okNs ws = true ∧ entsB ws ps = true ∧ linksB ws ps = true ∧ singB ws = true := by
  unfold imgB at h
  simp only [Bool.and_eq_true, decide_eq_true_eq, beq_iff_eq] at h
  exact h
end Go.Proofs.YtihmihkhkmadmaaGreatDoor

namespace Go.Proofs.YtihmihkhkmadmaaGreatDoor
open Go.RowKit
def mkS : Nat → Nat → ByteArray → ByteArray
  | 0, _, acc => acc
  | f + 1, k, acc => if k = 0 then acc else mkS f (k / 10) (⟨#[UInt8.ofNat (48 + k % 10)]⟩ ++ acc)
theorem mkS_zero : ∀ (f : Nat) (acc : ByteArray), mkS f 0 acc = acc
  | 0, _ => rfl
  | f + 1, acc => by unfold mkS; rw [if_pos rfl]
def mtx (k : Nat) : ByteArray := if k = 0 then ⟨#[109, 48]⟩ else ⟨#[109]⟩ ++ mkS 40 k ⟨#[]⟩
set_option maxRecDepth 100000 in
set_option maxHeartbeats 4000000 in
theorem markText_any (k : Nat) (w : World) (hk : k ≤ 4611686018427387904) :
    Calls Tryz.prog 63 #[.int .i64 (k : Int)] w fun e w' => e = .returned (.string (mtx k)) ∧ Below w.heap.size w w' := by
  by_cases h0 : k = 0
  · subst h0
    rw [show mtx 0 = ⟨#[109, 48]⟩ from rfl]
    go_enter Tryz.func63, Tryz.ntmps63
    go_wp2
    go_ret
    exact ⟨rfl, Below.refl _ _⟩
  · have E := hideIt (show mtx k = ⟨#[109]⟩ ++ mkS 40 k ⟨#[]⟩ from if_neg h0)
    have P10 : Hid (k < 10 ^ 40) := Nat.lt_of_le_of_lt hk (by decide)
    have k1 : ¬ (k : Int) ≤ 0 := by omega
    generalize mtx k = T at *
    clear h0
    go_enter Tryz.func63, Tryz.ntmps63
    go_wp2
    go_loopw [0, 3] (fun x o wr => ∃ (m f : Nat) (acc : ByteArray), x = .int .i64 m ∧ o = .string acc ∧ m ≤ k ∧ acc.size + f ≤ 40 ∧ Hid (m < 10 ^ f ∧ mkS f m acc = mkS 40 k ⟨#[]⟩ ∧ Below w.heap.size w wr)) (fun x _ _ => (intOf x).toNat)
    case atStart => exact ⟨k, 40, ⟨#[]⟩, rfl, rfl, Nat.le_refl _, Nat.le_refl 40, P10.out, rfl, Below.refl _ _⟩
    case round =>
      obtain ⟨m, f, acc, rfl, rfl, hm, hf, D⟩ := hrel
      by_cases c : m = 0
      · subst c
        have E2 : Hid (mkS 40 k ⟨#[]⟩ = acc) := by
          show _ = _
          rw [← D.out.2.1, mkS_zero]
        have B := hideIt D.out.2.2
        have had := run_string_add_sum (P := Tryz.prog) wr ⟨#[109]⟩ acc (by show 1 + acc.size ≤ _; omega)
        clear D
        go_wp2
        go_ret
        exact ⟨by rw [E.out, E2.out]; rfl, B.out⟩
      · have m0 : 0 < (m : Int) := by omega
        have hf0 : 0 < f := by
          rcases Nat.eq_zero_or_pos f with e | e
          · exfalso
            have := D.out.1
            rw [e] at this
            omega
          · exact e
        obtain ⟨f', rfl⟩ : ∃ f', f = f' + 1 := ⟨f - 1, by omega⟩
        have D2 : Hid (m / 10 < 10 ^ f' ∧ mkS f' (m / 10) (⟨#[UInt8.ofNat (48 + m % 10)]⟩ ++ acc) = mkS 40 k ⟨#[]⟩) := by
          refine ⟨?_, ?_⟩
          · have := D.out.1
            rw [Nat.pow_succ] at this
            omega
          · rw [← D.out.2.1]
            show _ = (if m = 0 then acc else _)
            rw [if_neg c]
        have hcv := run_convert_bytes_arg (P := Tryz.prog) (wr.alloc (.cells #[.int .u8 (48 + (m : Int) % 10)] 5)) 138 5 Tryz.underlying138 Tryz.underlying5 wr.heap.size 0 1 1 [48 + (m : Int) % 10] rfl (fun i hi => by
          obtain rfl : i = 0 := by omega
          exact World.cell?_alloc_mark wr #[.int .u8 (48 + (m : Int) % 10)] 5 (0, 0) 0) 9 Tryz.underlying9
        have eb : strOfNums [48 + (m : Int) % 10] = ⟨#[UInt8.ofNat (48 + m % 10)]⟩ := by
          unfold strOfNums
          simp only [List.map_cons, List.map_nil]
          rw [show (48 + (m : Int) % 10).toNat = 48 + m % 10 by omega]
        rw [eb] at hcv
        have had := run_string_add_sum (P := Tryz.prog) (wr.alloc (.cells #[.int .u8 (48 + (m : Int) % 10)] 5)) ⟨#[UInt8.ofNat (48 + m % 10)]⟩ acc (by show 1 + acc.size ≤ _; omega)
        have B2 : Hid (Below w.heap.size w (wr.alloc (.cells #[.int .u8 (48 + (m : Int) % 10)] 5))) := D.out.2.2.alloc D.out.2.2.size _
        have sz : ((⟨#[UInt8.ofNat (48 + m % 10)]⟩ : ByteArray) ++ acc).size = 1 + acc.size := by
          rw [ByteArray.size_append]; rfl
        have SZ := hideIt sz
        clear eb D sz
        generalize hbb : (⟨#[UInt8.ofNat (48 + m % 10)]⟩ : ByteArray) = bb at hcv had D2 SZ
        clear hbb
        go_wp2
        go_roundw
        case rel => exact ⟨m / 10, f', bb ++ acc, by go_num, rfl, by omega, by have := SZ.out; omega, D2.out.1, D2.out.2, B2.out⟩
        case measure => simp [intOf]; omega
end Go.Proofs.YtihmihkhkmadmaaGreatDoor

namespace Go.Proofs.YtihmihkhkmadmaaGreatDoor
open Go.RowKit
theorem ino_parts {x : Ino} (h : inoB x = true) : (0 ≤ x.kind ∧ x.kind ≤ 2) ∧ (0 ≤ x.size ∧ x.size ≤ 8) ∧ (0 ≤ x.links ∧ x.links ≤ 24) ∧ mapB x.map x.size = true ∧ kindB x = true := by
  unfold inoB at h
  simp only [Bool.and_eq_true, decide_eq_true_eq] at h
  exact h
end Go.Proofs.YtihmihkhkmadmaaGreatDoor
