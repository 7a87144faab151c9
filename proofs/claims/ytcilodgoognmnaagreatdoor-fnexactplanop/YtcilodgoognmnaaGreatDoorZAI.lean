/- Several texts laid together: ImP, PaA, MkT, StA, PbA. -/
import Derived.Test.YtcilodgoognmnaaGreatDoorZAH
import Derived.Test.YtcilodgoognmnaaGreatDoorZAC
import Derived.Test.YtcilodgoognmnaaGreatDoorZAF
import Derived.Deep.DeepCutAuto
import Derived.Deep.RegionWith
import Derived.Deep.RegionHeld3
import Derived.Lib.Strings
import Derived.Lib.SplitLaws
import Derived.Lib.IndexBytes
namespace Go.Proofs.YtcilodgoognmnaaGreatDoor
open Go.RowKit
theorem zbo (v : Value) (ws : List Ino) (ps : List Den) (w : World) (h : RdIm w v ws ps) (hw : ws.length ≤ 1048576) (hp : ps.length ≤ 1048576) (hT : TS w) (hE : ED w) (hF : FD w) (hr : ∀ k (h : k < ws.length), ws[k].R) (hs : ∀ k (h : k < ps.length), ps[k].name.size ≤ maxLen) :
  Calls Tryz.prog 77 #[v] w fun e w' => e = .returned (.bool (zax ws ps)) ∧ Below w.heap.size w w' := by
 rw [← pim_img]
 exact pimOK_any v ws ps w h hw hp hT hE hF hr hs
set_option maxRecDepth 100000 in
set_option maxHeartbeats 8000000 in
theorem zoq (v : Value) (ws : List Ino) (ps : List Den) (w : World) (h : RdIm w v ws ps) (hw : ws.length ≤ 1048576) (hp : ps.length ≤ 1048576) (hr : ∀ k (h : k < ws.length), ws[k].R) (hs : ∀ k (h : k < ps.length), ps[k].name.size ≤ maxLen) :
  Calls Tryz.prog 64 #[v] w fun e w' => e = .returned (.bool (zax ws ps)) ∧ Below w.heap.size w w' := by
 have HRD := zaa h
 have HR := zaa hr
 have L1 := zaa (fun w1 h => zvl v ws ps w1 h hw hp)
 have L2 := zaa (fun w1 h (hl : ws.length = 16) => zqk v ws ps w1 h hl hp hs)
 have L3 := zaa (fun w1 h (hl : ws.length = 16) (o : zve ws = true) => ztb v ws ps w1 h hl (fun k hk z hz => zup (zpw o k hk z hz)))
 obtain ⟨vW, vP, rfl, h1, h2⟩ := h
 obtain ⟨aW, cW, rfl, _, hcW⟩ := h1.shape
 obtain ⟨aP, cP, rfl, _, _⟩ := h2.shape
 have HW := zaa hcW
 clear h1 h2 hr hs hcW
 have CA : Hid (∀ w', Below (w.alloc (.cells #[.slice aW ws.length cW, .slice aP ps.length cP] 63)).heap.size (w.alloc (.cells #[.slice aW ws.length cW, .slice aP ps.length cP] 63)) w' → w'.cell? ⟨w.heap.size, 0, none⟩ = some (.slice aW ws.length cW) ∧ w'.cell? ⟨w.heap.size, 1, none⟩ = some (.slice aP ps.length cP)) := fun w' hb => by
  have : w'.heap[w.heap.size]? = some (.cells #[.slice aW ws.length cW, .slice aP ps.length cP] 63 (0, 0)) := (hb.block _ (by simp)).trans (zah rfl)
  exact ⟨(zac this).1, (zac this).2.1⟩
 have BW : Hid (Below w.heap.size w (w.alloc (.cells #[.slice aW ws.length cW, .slice aP ps.length cP] 63))) := (Below.refl _ _).alloc (Nat.le_refl _) _
 obtain ⟨x0, x1⟩ := CA.out _ (Below.refl _ _)
 have EI := zaa (show zax ws ps = (decide (ws.length = 16) && (decide (ps.length = 24) && (zai ws 0 == 2 && (zve ws && (zio ws ps && (zfq ws ps && zju ws)))))) from rfl)
 by_cases c1 : ws.length = 16
 case neg =>
  have E := zaa (show zax ws ps = false by rw [EI.out, decide_eq_false c1]; rfl)
  have q : ((ws.length : Int) != 16) = true := by rw [bne_iff_ne]; omega
  clear c1
  go_enter Tryz.func64, Tryz.ntmps64
  go_wp2
  go_ret
  exact ⟨zaf E.out.symm, BW.out⟩
 have q : ((ws.length : Int) != 16) = false := by rw [c1]; rfl
 by_cases c2 : ps.length = 24
 case neg =>
  have E := zaa (show zax ws ps = false by rw [EI.out, decide_eq_false c2, Bool.false_and, Bool.and_false])
  have q2 : ((ps.length : Int) != 24) = true := by rw [bne_iff_ne]; omega
  clear c1 c2
  go_enter Tryz.func64, Tryz.ntmps64
  go_wp2
  go_ret
  exact ⟨zaf E.out.symm, BW.out⟩
 have q2 : ((ps.length : Int) != 24) = false := by rw [c2]; rfl
 obtain ⟨bW, oW, rfl, hblW, hcellW⟩ := HW.out (by omega)
 have HK := (hcellW 0 (by omega)).1
 rw [show ws[0].kind = zai ws 0 from (zaz (i := 0) (by omega)).symm] at HK
 simp only [Nat.zero_mul, Nat.add_zero] at HK
 have kk := (BW.out.cell (p := ⟨bW, oW, none⟩) hblW).trans HK
 have len16 : (0 : Int) < (ws.length : Int) := by omega
 have C1 := zaa c1
 have E1 := zaa (show zax ws ps = (zai ws 0 == 2 && (zve ws && (zio ws ps && (zfq ws ps && zju ws)))) by rw [EI.out, decide_eq_true c1, decide_eq_true c2]; rfl)
 have HC := zaa hcellW
 clear c1 c2 EI HK hcellW HW
 generalize zai ws 0 = k0 at *
 by_cases c3 : k0 = 2
 case neg =>
  have q3 : (k0 != 2) = true := by rw [bne_iff_ne]; exact c3
  have E := zaa (show zax ws ps = false by rw [E1.out, show (k0 == 2) = false by rw [beq_eq_false_iff_ne]; exact c3]; rfl)
  clear c3
  go_enter Tryz.func64, Tryz.ntmps64
  go_wp2
  go_ret
  exact ⟨zaf E.out.symm, BW.out⟩
 have q3 : (k0 != 2) = false := by rw [c3]; rfl
 have E2 := zaa (show zax ws ps = (zve ws && (zio ws ps && (zfq ws ps && zju ws))) by rw [E1.out, c3]; rfl)
 clear c3 E1
 go_enter Tryz.func64, Tryz.ntmps64
 go_wp2
 clear x0 x1 kk q q2 q3
 generalize w.alloc (.cells #[.slice (some ⟨bW, oW, none⟩) ws.length cW, .slice aP ps.length cP] 63) = W at *
 have hz : w.heap.size ≤ W.heap.size := BW.out.size
 go_loopw [3] (fun i wr => ∃ k : Nat, k ≤ ws.length ∧ i = .int .i64 k ∧ Hid (Below W.heap.size W wr ∧ ∀ j (h : j < ws.length), j < k → zep ws[j] = true)) (fun i _ => ws.length - (intOf i).toNat)
 case atStart => exact ⟨0, by omega, rfl, Below.refl _ _, fun j h a => absurd a (by omega)⟩
 case round =>
  obtain ⟨k, hk, rfl, H⟩ := hrel
  have H1 := zaa H.out.1
  have HF := zaa (zab BW.out H.out.1 hz)
  obtain ⟨x0, x1⟩ := CA.out wr H.out.1
  by_cases hlt : k < ws.length
  ·obtain ⟨a0, a1, a2, a3, a4, a5, a6, a7, a8, a9, a10⟩ := HC.out k hlt
   have d0 := (HF.out.cell (p := ⟨bW, oW + k * 11, none⟩) hblW).trans a0
   have d1 := (HF.out.cell (p := ⟨bW, oW + k * 11 + 1, none⟩) hblW).trans a1
   have d2 := (HF.out.cell (p := ⟨bW, oW + k * 11 + 2, none⟩) hblW).trans a2
   have d3 := (HF.out.cell (p := ⟨bW, oW + k * 11 + 3, none⟩) hblW).trans a3
   have d4 := (HF.out.cell (p := ⟨bW, oW + k * 11 + 4, none⟩) hblW).trans a4
   have d5 := (HF.out.cell (p := ⟨bW, oW + k * 11 + 5, none⟩) hblW).trans a5
   have d6 := (HF.out.cell (p := ⟨bW, oW + k * 11 + 6, none⟩) hblW).trans a6
   have d7 := (HF.out.cell (p := ⟨bW, oW + k * 11 + 7, none⟩) hblW).trans a7
   have d8 := (HF.out.cell (p := ⟨bW, oW + k * 11 + 8, none⟩) hblW).trans a8
   have d9 := (HF.out.cell (p := ⟨bW, oW + k * 11 + 9, none⟩) hblW).trans a9
   have d10 := (HF.out.cell (p := ⟨bW, oW + k * 11 + 10, none⟩) hblW).trans a10
   have k0' : (0 : Int) ≤ (k : Int) := by omega
   have k1 : (k : Int) < (ws.length : Int) := by omega
   have LI := zaa (fun w1 => zul ws[k] w1 (HR.out k hlt))
   have H2 : Hid (zep ws[k] = true → ∀ j (h : j < ws.length), j < k + 1 → zep ws[j] = true) := fun q j h a => by
    by_cases e : j = k
    ·subst e; exact q
    ·exact H.out.2 j h (by omega)
   have H3 := zaa (fun q => okNs_not hlt q)
   clear a0 a1 a2 a3 a4 a5 a6 a7 a8 a9 a10 H
   generalize ws[k] = x at d0 d1 d2 d3 d4 d5 d6 d7 d8 d9 d10 LI H2 H3
   cases qq : zep x with
   | true =>
    rw [qq] at LI
    have E := zaa (H2.out qq)
    clear H2 H3 qq
    go_wp2_with fail
    refine (LI.out _).mono ?_
    rintro e w1 ⟨rfl, hb1⟩
    have B3 := zaa (zab H1.out hb1 H1.out.size)
    clear hb1 d0 d1 d2 d3 d4 d5 d6 d7 d8 d9 d10 x0 x1
    go_wp2
    go_roundw
    case rel => exact ⟨k + 1, by omega, by go_num, B3.out, E.out⟩
    case measure => simp [intOf]; omega
   | false =>
    rw [qq] at LI
    have E := zaa (show zax ws ps = false by rw [E2.out, H3.out qq]; rfl)
    clear H2 H3 qq
    go_wp2_with fail
    refine (LI.out _).mono ?_
    rintro e w1 ⟨rfl, hb1⟩
    have B3 := zaa (zab HF.out hb1 HF.out.size)
    clear hb1 d0 d1 d2 d3 d4 d5 d6 d7 d8 d9 d10 x0 x1
    go_wp2
    go_ret
    exact ⟨zaf E.out.symm, B3.out⟩
  ·have O := zaa (okNs_mk (fun j h => H.out.2 j h (by omega)))
   have E3 := zaa (show zax ws ps = (zio ws ps && (zfq ws ps && zju ws)) by rw [E2.out, O.out]; rfl)
   clear H
   generalize zio ws ps = f1 at *
   generalize zfq ws ps = f2 at *
   generalize zju ws = f3 at *
   go_wp2_with fail
   refine (L2.out _ (HRD.out.below HF.out) C1.out).mono ?_
   rintro e w1 ⟨rfl, hb1⟩
   have B1 := zaa (zab HF.out hb1 HF.out.size)
   have BA := zaa (zab H1.out hb1 H1.out.size)
   clear hb1 x0 x1
   cases f1 with
   | false =>
    go_wp2
    go_ret
    exact ⟨zaf (by rw [E3.out]; rfl), B1.out⟩
   | true =>
   obtain ⟨x0, x1⟩ := CA.out _ BA.out
   go_wp2_with fail
   refine (L1.out _ (HRD.out.below B1.out)).mono ?_
   rintro e w2 ⟨rfl, hb2⟩
   have B2 := zaa (zab B1.out hb2 B1.out.size)
   have BB := zaa (zab BA.out hb2 BA.out.size)
   clear hb2 x0 x1
   cases f2 with
   | false =>
    go_wp2
    go_ret
    exact ⟨zaf (by rw [E3.out]; rfl), B2.out⟩
   | true =>
   obtain ⟨x0, x1⟩ := CA.out _ BB.out
   go_wp2_with fail
   refine (L3.out _ (HRD.out.below B2.out) C1.out O.out).mono ?_
   rintro e w3 ⟨rfl, hb3⟩
   have B3 := zaa (zab B2.out hb3 B2.out.size)
   clear hb3 x0 x1
   go_wp2
   go_ret
   exact ⟨zaf (by rw [E3.out]; rfl), B3.out⟩
end Go.Proofs.YtcilodgoognmnaaGreatDoor

namespace Go.Proofs.YtcilodgoognmnaaGreatDoor
open Go.RowKit
def zjg (ps : List Den) : Nat → Int → Int → Bool
 | 0, _, _ => false
 | n + 1, a, b => if a < 0 then false else if a = b then true else zjg ps n (upD ps a) b
theorem zhh (ps : List Den) (n : Nat) (a b : Int) : zjg ps (n + 1) a b = if a < 0 then false else if a = b then true else zjg ps n (upD ps a) b := rfl
theorem zsk (ps : List Den) : ∀ (n : Nat) (a b : Int), a < 0 → zjg ps n a b = false
 | 0, _, _, _ => rfl
 | n + 1, a, b, h => by rw [zhh, if_pos h]
theorem zls (ps : List Den) (n : Nat) (d : Int) : zct ps (n + 1) d = if d = 0 then true else if upD ps d < 0 then false else zct ps n (upD ps d) := rfl
theorem zlu (ps : List Den) (d : Int) : zct ps 0 d = false := rfl
theorem zrb {ps : List Den} : ∀ (k : Nat) (x : Int), zct ps k x = true → zct ps (k + 1) x = true
 | 0, x, h => by rw [zlu] at h; cases h
 | k + 1, x, h => by
  rw [zls] at h ⊢
  by_cases q : x = 0
  ·rw [if_pos q]
  ·rw [if_neg q] at h ⊢
   by_cases r : upD ps x < 0
   ·rw [if_pos r] at h; cases h
   ·rw [if_neg r] at h ⊢; exact zrb k _ h
theorem zsd {ps : List Den} (u0 : upD ps 0 = -1) : ∀ (k n : Nat) (a b : Int), zct ps k a = true → 0 ≤ a → k ≤ n → zjg ps n a b = zjg ps k a b
 | 0, _, _, _, h, _, _ => by rw [zlu] at h; cases h
 | k + 1, 0, _, _, _, _, hn => absurd hn (by omega)
 | k + 1, n + 1, a, b, h, ha, hn => by
  have n0 : ¬ a < 0 := by omega
  rw [zhh, zhh, if_neg n0, if_neg n0]
  by_cases q : a = b
  ·rw [if_pos q, if_pos q]
  ·rw [if_neg q, if_neg q]
   rw [zls] at h
   by_cases r : a = 0
   ·subst r
    rw [u0, zsk ps n (-1) b (by omega), zsk ps k (-1) b (by omega)]
   ·rw [if_neg r] at h
    by_cases s : upD ps a < 0
    ·rw [if_pos s] at h; cases h
    ·rw [if_neg s] at h
     exact zsd u0 k n _ _ h (by omega) (by omega)
theorem zpt {ps : List Den} {k : Nat} {x : Int} (h : zct ps (k + 1) x = true) (q : ¬ x = 0) : 0 ≤ upD ps x ∧ zct ps k (upD ps x) = true := by
 rw [zls, if_neg q] at h
 by_cases r : upD ps x < 0
 ·rw [if_pos r] at h; cases h
 ·rw [if_neg r] at h; exact ⟨by omega, h⟩
theorem zao {ws : List Ino} {ps : List Den} (h : zax ws ps = true) : ws.length = 16 ∧ ps.length = 24 ∧ zai ws 0 = 2 ∧ zve ws = true ∧ zio ws ps = true ∧ zfq ws ps = true ∧ zju ws = true := by
 unfold zax at h
 simp only [Bool.and_eq_true, decide_eq_true_eq, beq_iff_eq] at h
 exact h
theorem zfb {ws : List Ino} {ps : List Den} (h : zax ws ps = true) (i : Nat) (hi : i < ps.length) : (ps[i].child = -1 ∧ ps[i].name.size = 0) ∨ ((1 ≤ ps[i].child ∧ ps[i].child ≤ 15) ∧ (0 ≤ ps[i].dir ∧ ps[i].dir ≤ 15) ∧ nmB ps[i].name = true ∧ ¬ zai ws ps[i].child = 0 ∧ zai ws ps[i].dir = 2) := by
 obtain ⟨_, _, _, _, he, _, _⟩ := zao h
 have e := (of_decide_eq_true he : ∀ i (h : i < ps.length), zcm ws ps i ps[i] = true) i hi
 unfold zcm at e
 split at e
 ·rename_i c
  left
  refine ⟨c, ?_⟩
  unfold Den.freeB at e
  simp only [Bool.and_eq_true, beq_iff_eq] at e
  have := e.2.1
  first
   | exact this
   | simpa using this
   | (simp at this; rw [this]; rfl)
 ·right
  simp only [Bool.and_eq_true, decide_eq_true_eq, Bool.not_eq_true', beq_eq_false_iff_ne, beq_iff_eq] at e
  exact ⟨e.1, e.2.1, e.2.2.1, e.2.2.2.1, e.2.2.2.2.1⟩
theorem pimg_root {ws : List Ino} {ps : List Den} (h : zax ws ps = true) : upD ps 0 = -1 := by
 apply upD_no
 intro j hj e
 rcases zfb h j hj with q | q
 ·omega
 ·omega
theorem pimg_hangs {ws : List Ino} {ps : List Den} (h : zax ws ps = true) {i : Int} (h0 : 0 ≤ i ∧ i ≤ 15) (hk : zai ws i = 2) : zct ps 16 i = true := by
 obtain ⟨hl, _, _, _, _, hL, _⟩ := zao h
 obtain ⟨n, rfl⟩ : ∃ n : Nat, i = (n : Int) := ⟨i.toNat, by omega⟩
 have hn : n < ws.length := by omega
 have := (of_decide_eq_true hL : ∀ i (h : i < ws.length), zgh ps i ws[i] = true) n hn
 unfold zgh at this
 rw [zaz hn] at hk
 simp only [Bool.and_eq_true, Bool.or_eq_true, decide_eq_true_eq] at this
 rcases this.2 with q | q
 ·exact absurd hk q
 ·exact q
def beC (ws : List Ino) (ps : List Den) (a b : Int) : Int := if zax ws ps = true then (if (0 ≤ a ∧ a ≤ 15) ∧ (0 ≤ b ∧ b ≤ 15) then (if zai ws a = 2 ∧ zai ws b = 2 then 0 else 10) else 4) else 1
def beV (ws : List Ino) (ps : List Den) (a b : Int) : Bool := if beC ws ps a b = 0 then zjg ps 17 a b else false
end Go.Proofs.YtcilodgoognmnaaGreatDoor

namespace Go.Proofs.YtcilodgoognmnaaGreatDoor
open Go.RowKit
def mkS : Nat → Nat → ByteArray → ByteArray
 | 0, _, acc => acc
 | f + 1, k, acc => if k = 0 then acc else mkS f (k / 10) (⟨#[UInt8.ofNat (48 + k % 10)]⟩ ++ acc)
theorem mkS_zero : ∀ (f : Nat) (acc : ByteArray), mkS f 0 acc = acc
 | 0, _ => rfl
 | f + 1, acc => by unfold mkS; rw [if_pos rfl]
def mtx (k : Nat) : ByteArray := if k = 0 then ⟨#[109, 48]⟩ else ⟨#[109]⟩ ++ mkS 40 k ⟨#[]⟩
set_option maxRecDepth 100000 in
set_option maxHeartbeats 4000000 in
theorem zmg (k : Nat) (w : World) (hk : k ≤ 4611686018427387904) :
  Calls Tryz.prog 134 #[.int .i64 (k : Int)] w fun e w' => e = .returned (.string (mtx k)) ∧ Below w.heap.size w w' := by
 by_cases h0 : k = 0
 ·subst h0
  rw [show mtx 0 = ⟨#[109, 48]⟩ from rfl]
  go_enter Tryz.func134, Tryz.ntmps134
  go_wp2
  go_ret
  exact ⟨rfl, Below.refl _ _⟩
 ·have E := zaa (show mtx k = ⟨#[109]⟩ ++ mkS 40 k ⟨#[]⟩ from if_neg h0)
  have P10 : Hid (k < 10 ^ 40) := Nat.lt_of_le_of_lt hk (by decide)
  have k1 : ¬ (k : Int) ≤ 0 := by omega
  generalize mtx k = T at *
  clear h0
  go_enter Tryz.func134, Tryz.ntmps134
  go_wp2
  go_loopw [0, 3] (fun x o wr => ∃ (m f : Nat) (acc : ByteArray), x = .int .i64 m ∧ o = .string acc ∧ m ≤ k ∧ acc.size + f ≤ 40 ∧ Hid (m < 10 ^ f ∧ mkS f m acc = mkS 40 k ⟨#[]⟩ ∧ Below w.heap.size w wr)) (fun x _ _ => (intOf x).toNat)
  case atStart => exact ⟨k, 40, ⟨#[]⟩, rfl, rfl, Nat.le_refl _, Nat.le_refl 40, P10.out, rfl, Below.refl _ _⟩
  case round =>
   obtain ⟨m, f, acc, rfl, rfl, hm, hf, D⟩ := hrel
   by_cases c : m = 0
   ·subst c
    have E2 : Hid (mkS 40 k ⟨#[]⟩ = acc) := by
     show _ = _
     rw [← D.out.2.1, mkS_zero]
    have B := zaa D.out.2.2
    have had := run_string_add_sum (P := Tryz.prog) wr ⟨#[109]⟩ acc (by show 1 + acc.size ≤ _; omega)
    clear D
    go_wp2
    go_ret
    exact ⟨by rw [E.out, E2.out]; rfl, B.out⟩
   ·have m0 : 0 < (m : Int) := by omega
    have hf0 : 0 < f := by
     rcases Nat.eq_zero_or_pos f with e | e
     ·exfalso
      have := D.out.1
      rw [e] at this
      omega
     ·exact e
    obtain ⟨f', rfl⟩ : ∃ f', f = f' + 1 := ⟨f - 1, by omega⟩
    have D2 : Hid (m / 10 < 10 ^ f' ∧ mkS f' (m / 10) (⟨#[UInt8.ofNat (48 + m % 10)]⟩ ++ acc) = mkS 40 k ⟨#[]⟩) := by
     refine ⟨?_, ?_⟩
     ·have := D.out.1
      rw [Nat.pow_succ] at this
      omega
     ·rw [← D.out.2.1]
      show _ = (if m = 0 then acc else _)
      rw [if_neg c]
    have hcv := run_convert_bytes_arg (P := Tryz.prog) (wr.alloc (.cells #[.int .u8 (48 + (m : Int) % 10)] 5)) 228 5 Tryz.underlying228 Tryz.underlying5 wr.heap.size 0 1 1 [48 + (m : Int) % 10] rfl (fun i hi => by
     obtain rfl : i = 0 := by omega
     exact World.cell?_alloc_mark wr #[.int .u8 (48 + (m : Int) % 10)] 5 (0, 0) 0) 9 Tryz.underlying9
    have eb : strOfNums [48 + (m : Int) % 10] = ⟨#[UInt8.ofNat (48 + m % 10)]⟩ := by
     unfold strOfNums
     simp only [List.map_cons, List.map_nil]
     rw [show (48 + (m : Int) % 10).toNat = 48 + m % 10 by omega]
    rw [eb] at hcv
    have had := run_string_add_sum (P := Tryz.prog) (wr.alloc (.cells #[.int .u8 (48 + (m : Int) % 10)] 5)) ⟨#[UInt8.ofNat (48 + m % 10)]⟩ acc (by show 1 + acc.size ≤ _; omega)
    have B2 : Hid (Below w.heap.size w (wr.alloc (.cells #[.int .u8 (48 + (m : Int) % 10)] 5))) := D.out.2.2.alloc D.out.2.2.size _
    have sz : ((⟨#[UInt8.ofNat (48 + m % 10)]⟩ : ByteArray) ++ acc).size = 1 + acc.size := by
     rw [ByteArray.size_append]; rfl
    have SZ := zaa sz
    clear eb D sz
    generalize hbb : (⟨#[UInt8.ofNat (48 + m % 10)]⟩ : ByteArray) = bb at hcv had D2 SZ
    clear hbb
    go_wp2
    go_roundw
    case rel => exact ⟨m / 10, f', bb ++ acc, by go_num, rfl, by omega, by have := SZ.out; omega, D2.out.1, D2.out.2, B2.out⟩
    case measure => simp [intOf]; omega
end Go.Proofs.YtcilodgoognmnaaGreatDoor

namespace Go.Proofs.YtcilodgoognmnaaGreatDoor
open Go.RowKit
def zcv (ss : List ByteArray) : List Value := ss.map Value.string
theorem zgq (ss : List ByteArray) : (zcv ss).length = ss.length := by simp [zcv]
theorem zla (ss : List ByteArray) (k : Nat) (h : k < ss.length) : (zcv ss)[k]? = some (.string ss[k]) := by simp [zcv, h]
theorem zbh (ss : List ByteArray) : ∀ u ∈ zcv ss, u.oneCell' = true := by
 intro u hu
 simp only [zcv, List.mem_map] at hu
 obtain ⟨s, _, rfl⟩ := hu
 rfl
def RdT (w : World) (v : Value) (ss : List ByteArray) : Prop := Rd w 1 v ss.length (zcv ss)
theorem RdT.shape {w : World} {v : Value} {ss : List ByteArray} (h : RdT w v ss) : ∃ ao cap, v = .slice ao ss.length cap ∧ ss.length ≤ cap ∧ (0 < ss.length → ∃ b o, ao = some ⟨b, o, none⟩ ∧ b < w.heap.size ∧ ∀ k (h : k < ss.length), w.cell? ⟨b, o + k, none⟩ = some (.string ss[k])) := by
 obtain ⟨_, ao, cap, rfl, h2, h3⟩ := h
 refine ⟨ao, cap, rfl, h2.1, fun hn => ?_⟩
 obtain ⟨b, o, e, hb, hc⟩ := h3 hn
 exact ⟨b, o, e, hb, fun k hk => (hc k (by omega)).trans (zla ss k hk)⟩
theorem zeq : (Tryz.prog.info? 9).map (fun i => (i.zero, i.size, i.bytes)) = some (some (.string ⟨#[]⟩), 1, 16) := by kernel_rfl
theorem zhi (w1 : World) (x : ByteArray) : Rd (w1.alloc (.cells #[.string x] 9)) 1 (.slice (some ⟨w1.heap.size, 0, none⟩) 1 1) 1 (zcv [x]) := by
 refine ⟨rfl, _, _, rfl, ⟨Nat.le_refl _, fun e => by cases e⟩, fun _ => ⟨w1.heap.size, 0, rfl, by simp, fun j hj => ?_⟩⟩
 obtain rfl : j = 0 := by omega
 exact (zae (xs := [.string x]) (zah rfl) 0).1
theorem zgi {B : Nat} {a w : World} (h : Below B a w) (n : Nat) : Below B a (w.drewN n) := by
 induction n with
 | zero => exact h
 | succ n ih => exact ⟨ih.os, ih.tape, ih.output, ih.size, ih.block⟩
set_option maxRecDepth 100000 in
set_option maxHeartbeats 2000000 in
theorem zqd (va vb : Value) (ss : List ByteArray) (w : World) (ha : RdT w va ss) (hb : RdT w vb ss) (hn : ss.length ≤ 2147483648) :
  Calls Tryz.prog 81 #[va, vb] w fun e w' => e = .returned (.bool true) ∧ Below w.heap.size w w' := by
 obtain ⟨ao, cap, rfl, hcap, hc⟩ := ha.shape
 obtain ⟨ao2, cap2, rfl, hcap2, hc2⟩ := hb.shape
 clear ha hb
 go_enter Tryz.func81, Tryz.ntmps81
 go_wp2
 go_loopw [5] (fun i wr => ∃ k : Nat, k ≤ ss.length ∧ i = .int .i64 k ∧ Below w.heap.size w wr) (fun i _ => ss.length - (intOf i).toNat)
 case atStart => exact ⟨0, by omega, rfl, Below.refl _ _⟩
 case round =>
  obtain ⟨k, hk, rfl, hbw⟩ := hrel
  by_cases hlt : k < ss.length
  ·obtain ⟨b, o, rfl, hbl, hcell⟩ := hc (by omega)
   obtain ⟨b2, o2, rfl, hbl2, hcell2⟩ := hc2 (by omega)
   have hck : wr.cell? ⟨b, o + k, none⟩ = some (.string ss[k]) := (hbw.cell (p := ⟨b, o + k, none⟩) hbl).trans (hcell k hlt)
   have hck2 : wr.cell? ⟨b2, o2 + k, none⟩ = some (.string ss[k]) := (hbw.cell (p := ⟨b2, o2 + k, none⟩) hbl2).trans (hcell2 k hlt)
   have hlt' : (k : Int) < (ss.length : Int) := by omega
   have hge : (0 : Int) ≤ (k : Int) := by omega
   clear hcell hcell2 hc hc2
   generalize ss[k] = x at hck hck2
   go_wp2
   go_quiet (fail)
   go_wp2
   go_roundw
   case rel => exact ⟨k + 1, by omega, by go_num, zgi hbw _⟩
   case measure => simp [intOf]; omega
  ·go_wp2
   go_ret
   exact ⟨rfl, hbw⟩
def zdk (k : Int) (n : Nat) : List ByteArray := (List.range n).map fun i : Nat => mtx (k + (i : Int)).toNat
theorem zdm (k : Int) (n : Nat) : (zdk k n).length = n := by simp [zdk]
theorem marksT_at (k : Int) (n i : Nat) (h : i < (zdk k n).length) : (zdk k n)[i] = mtx (k + (i : Int)).toNat := by simp [zdk]
theorem marksT_succ (k : Int) (n : Nat) : zdk k (n + 1) = zdk k n ++ [mtx (k + (n : Int)).toNat] := by unfold zdk; rw [List.range_succ, List.map_append]; rfl
def zlx (k0 : Int) (k : Nat) (ss : List ByteArray) : List ByteArray := zdk k0 k ++ ss.drop k
theorem mktTo_len {k0 : Int} {k : Nat} {ss : List ByteArray} (h : k ≤ ss.length) : (zlx k0 k ss).length = ss.length := by unfold zlx; rw [List.length_append, zdm, List.length_drop]; omega
theorem mktTo_succ {k0 : Int} {ss : List ByteArray} {k : Nat} (h : k < ss.length) : (zcv (zlx k0 k ss)).set k (.string (mtx (k0 + (k : Int)).toNat)) = zcv (zlx k0 (k + 1) ss) := by
 have l1 : (zcv (zdk k0 k)).length = k := by rw [zgq, zdm]
 unfold zlx
 rw [List.drop_eq_getElem_cons h, marksT_succ]
 unfold zcv at *
 rw [List.map_append, List.map_append, List.map_append, List.set_append_right _ _ (by omega), l1, Nat.sub_self, List.append_assoc]
 rfl
set_option maxRecDepth 100000 in
set_option maxHeartbeats 2000000 in
theorem zoc (v : Value) (ss : List ByteArray) (k0 : Int) (lo hi : Nat) (w : World) (h : Row w 9 1 lo hi v ss.length (zcv ss)) (hz : hi ≤ w.heap.size) (hn : ss.length ≤ 16777216) (h0 : 0 ≤ k0) (h1 : k0 ≤ 1099511627776) :
  Calls Tryz.prog 82 #[v, .int .i64 k0] w fun e w' => e = .returned (.int .i64 (k0 + ss.length)) ∧ Row w' 9 1 lo hi v ss.length (zcv (zdk k0 ss.length)) ∧ w.grownBy w' v.ownBlock ∧ True := by
 obtain ⟨_, ao, cap, rfl, hcap, hc⟩ := h.rd
 go_enter Tryz.func82, Tryz.ntmps82
 go_wp2
 go_loopw [1, 5] (fun c i wr => ∃ k : Nat, k ≤ ss.length ∧ i = .int .i64 k ∧ c = .int .i64 (k0 + k) ∧ Hid (Row wr 9 1 lo hi (.slice ao ss.length cap) ss.length (zcv (zlx k0 k ss)) ∧ w.grownBy wr (Value.slice ao ss.length cap).ownBlock) ∧ w.heap.size ≤ wr.heap.size) (fun _ i _ => ss.length - (intOf i).toNat)
 case atStart => exact ⟨0, by omega, rfl, by simp, ⟨by rw [show zlx k0 0 ss = ss by simp [zlx, zdk]]; exact h, World.grownBy.refl _ _⟩, Nat.le_refl _⟩
 case round =>
  obtain ⟨k, hk, rfl, rfl, I, hzr⟩ := hrel
  clear h hc
  have k0' : (0 : Int) ≤ (k : Int) := by omega
  by_cases hlt : k < ss.length
  ·have k1 : (k : Int) < (ss.length : Int) := by omega
   have MS := zaa (mktTo_succ (k0 := k0) hlt)
   have ML := mktTo_len (k0 := k0) hk
   have LM := zaa (fun w1 => zmg (k0 + (k : Int)).toNat w1 (by omega))
   rw [show (((k0 + (k : Int)).toNat : Nat) : Int) = k0 + (k : Int) by omega] at LM
   generalize mtx (k0 + (k : Int)).toNat = tx at *
   go_wp2_with fail
   refine (LM.out _).mono ?_
   rintro e w2 ⟨rfl, hb⟩
   have R2 := zaa (I.out.1.below hb (by omega))
   have G2 := zaa (zpu I.out.2 (grown_below (row := (Value.slice ao ss.length cap).ownBlock) hb))
   have hz2 : wr.heap.size ≤ w2.heap.size := hb.size
   clear I hb LM
   obtain ⟨_, ao', cap', e', _, hc⟩ := R2.out.rd
   cases e'
   obtain ⟨b, o, rfl, hbl, _⟩ := hc (by omega)
   obtain ⟨rfl, hb1, hb2, _, hfr, hcl⟩ := R2.out.at
   have f0 := hfr k
   have e0 := (hcl k (by omega)).trans (zla (zlx k0 k ss) k (by omega))
   have R3 : Hid (Row (w2.setCell ⟨b, k, none⟩ (.string tx)) 9 1 lo hi (.slice (some ⟨b, 0, none⟩) ss.length cap) ss.length (zcv (zlx k0 (k + 1) ss)) ∧ w.grownBy (w2.setCell ⟨b, k, none⟩ (.string tx)) (Value.slice (some ⟨b, 0, none⟩) ss.length cap).ownBlock) := by
    refine ⟨?_, zbm G2.out (a := ⟨b, k, none⟩) rfl _⟩
    rw [← MS.out]
    exact R2.out.stored _ _
   generalize (zlx k0 k ss)[k]'(by omega) = y at e0
   clear R2 G2 hc hfr hcl
   go_wp2
   go_roundw
   case rel => exact ⟨k + 1, by omega, by go_num, by go_num, R3, by simp; omega⟩
   case measure => simp [intOf]; omega
  ·obtain rfl : k = ss.length := by omega
   have E := zaa (show zlx k0 ss.length ss = zdk k0 ss.length by simp [zlx])
   go_wp2
   go_ret
   exact ⟨rfl, by have := I.out.1; rw [E.out] at this; exact this, I.out.2, trivial⟩
set_option maxRecDepth 100000 in
set_option maxHeartbeats 2000000 in
theorem zpd (v : Value) (n : Nat) (k0 : Int) (w : World) (h : RdT w v (zdk k0 n)) (hn : n ≤ 16777216) (h0 : 0 ≤ k0) (h1 : k0 ≤ 1099511627776) :
  Calls Tryz.prog 83 #[v, .int .i64 k0] w fun e w' => e = .returned (.int .i64 (k0 + n)) ∧ Below w.heap.size w w' := by
 obtain ⟨ao, cap, hv, hcap, hc⟩ := h.shape
 rw [zdm] at hv hcap
 subst hv
 have HC := zaa hc
 clear h hc
 go_enter Tryz.func83, Tryz.ntmps83
 go_wp2
 go_loopw [1, 5] (fun c i wr => ∃ k : Nat, k ≤ n ∧ i = .int .i64 k ∧ c = .int .i64 (k0 + k) ∧ Hid (Below w.heap.size w wr)) (fun _ i _ => n - (intOf i).toNat)
 case atStart => exact ⟨0, by omega, rfl, by simp, Below.refl _ _⟩
 case round =>
  obtain ⟨k, hk, rfl, rfl, B⟩ := hrel
  have k0' : (0 : Int) ≤ (k : Int) := by omega
  by_cases hlt : k < n
  ·obtain ⟨b, o, rfl, hbl, hcell⟩ := HC.out (by rw [zdm]; omega)
   have k1 : (k : Int) < (n : Int) := by omega
   have c0 := hcell k (by rw [zdm]; exact hlt)
   rw [marksT_at] at c0
   have LM := zaa (fun w1 => zmg (k0 + (k : Int)).toNat w1 (by omega))
   rw [show (((k0 + (k : Int)).toNat : Nat) : Int) = k0 + (k : Int) by omega] at LM
   generalize mtx (k0 + (k : Int)).toNat = tx at *
   have hblr : b < wr.heap.size := by have := B.out.size; omega
   have d0 := (B.out.cell (p := ⟨b, o + k, none⟩) hbl).trans c0
   have SK : Hid (∀ w', Below wr.heap.size wr w' → w'.cell? ⟨b, o + k, none⟩ = some (.string tx)) := fun w' hb => (hb.cell (p := ⟨b, o + k, none⟩) hblr).trans d0
   have hzr : w.heap.size ≤ wr.heap.size := B.out.size
   clear hcell c0
   go_wp2_with fail
   go_region_held3 (fun w' => w'.cell? ⟨b, o + k, none⟩ = some (.string tx))
    (exact SK.out _ (by repeat (first | exact BF.out | exact Below.refl _ _ | refine Below.drew ?_)))
    (first
     | (go_at_call 134; refine (LM.out _).mono ?_; rintro e w1 ⟨rfl, hb1⟩; have BF : Hid (Below wr.heap.size wr w1) := (by first | exact hb1 | exact zab (by repeat (first | exact Below.refl _ _ | refine Below.drew ?_)) hb1 (Nat.le_refl _)); clear hb1))
   all_goals
    have B3 := zaa (zab B.out BF.out hzr)
    clear SK d0
    go_wp2
    go_roundw
    case rel => exact ⟨k + 1, by omega, by go_num, by go_num, (by repeat (first | exact B3.out | refine Below.drew ?_))⟩
    case measure => simp [intOf]; omega
  ·obtain rfl : k = n := by omega
   go_wp2
   go_ret
   exact ⟨rfl, B.out⟩
end Go.Proofs.YtcilodgoognmnaaGreatDoor
namespace Go.Proofs.YtcilodgoognmnaaGreatDoor
open Go.RowKit
structure SnI (W w : World) (vL : Value) (ss : List ByteArray) : Prop where
 l : w.ownsRow W.heap.size 9 1 vL ss.length (zcv ss)
 b : Below W.heap.size W w
theorem SnI.z {W w : World} {vL : Value} {ss : List ByteArray} (h : SnI W w vL ss) : W.heap.size ≤ w.heap.size := h.b.size
theorem SnI.below {W w w' : World} {vL : Value} {ss : List ByteArray} (h : SnI W w vL ss) (hb : Below w.heap.size w w') : SnI W w' vL ss :=
 ⟨((zad h.l).below hb (Nat.le_refl _)).1, zab h.b hb h.z⟩
theorem strs_app (l l' : List ByteArray) : zcv (l ++ l') = zcv l ++ zcv l' := by simp [zcv]
theorem SnI.grow {W w w' : World} {vL v' : Value} {ss : List ByteArray} (h : SnI W w vL ss) (l : List ByteArray) {m : Nat} (hm : m = l.length) (ho : w'.ownsRow W.heap.size 9 1 v' (ss.length + m) (zcv ss ++ zcv l)) (hg : w.grownBy w' vL.ownBlock) : SnI W w' v' (ss ++ l) :=
 ⟨by rw [strs_app, List.length_append, ← hm]; exact ho, h.b.grown hg h.z (fun q hq => (h.l.lt q hq).1)⟩
theorem SnI.rd {W w : World} {vL : Value} {ss : List ByteArray} (h : SnI W w vL ss) : RdT w vL ss := (zad h.l).rd
theorem SnI.form {W w : World} {vL : Value} {ss : List ByteArray} (h : SnI W w vL ss) (hn : vL ≠ .slice none 0 0) : ∃ b c, vL = .slice (some ⟨b, 0, none⟩) ss.length c ∧ ss.length ≤ c ∧ W.heap.size ≤ b ∧ b < w.heap.size := by
 rcases (zad h.l).shape with ⟨e, _⟩ | ⟨b, c, rfl, hc, _⟩
 ·exact absurd e hn
 ·obtain ⟨_, h1, _, h2, _⟩ := (zad h.l).at
  exact ⟨b, c, rfl, hc, h1, h2⟩
theorem SnI.some_ {W w : World} {vL : Value} {ss : List ByteArray} (h : SnI W w vL ss) (hn : 0 < ss.length) : vL ≠ .slice none 0 0 := by
 rcases (zad h.l).shape with ⟨_, e, _⟩ | ⟨b, c, rfl, _⟩
 ·omega
 ·intro e; cases e
theorem znf {w : World} {ao : Option Addr} {n c : Nat} {l : List ByteArray} {m : Nat} (h : RdT w (.slice ao n c) l) (hm : m ≤ l.length) : Rd w 1 (.slice ao m c) m (zcv (l.take m)) := by
 obtain ⟨_, ao', cap, e, h2, h3⟩ := h
 injection e with e1 e2 e3
 subst e1 e2 e3
 have hl : (l.take m).length = m := by rw [List.length_take]; omega
 refine ⟨by rw [zgq, hl, Nat.mul_one], ao, c, rfl, ⟨by omega, h2.2⟩, fun hp => ?_⟩
 obtain ⟨b, o, rfl, hb, hcl⟩ := h3 (by omega)
 refine ⟨b, o, rfl, hb, fun j hj => ?_⟩
 rw [hcl j (by omega), zla _ _ (by omega), zla _ _ (by omega), List.getElem_take]
theorem ztj {w : World} {b o n c : Nat} {l : List ByteArray} {m : Nat} (h : RdT w (.slice (some ⟨b, o, none⟩) n c) l) (hm : m ≤ l.length) : Rd w 1 (.slice (some ⟨b, o + m, none⟩) (n - m) (c - m)) (n - m) (zcv (l.drop m)) := by
 obtain ⟨ao, cap, e, hc, hcell⟩ := h.shape
 injection e with e1 e2 e3
 subst e1 e2 e3
 refine ⟨by rw [zgq, Nat.mul_one, List.length_drop], some ⟨b, o + m, none⟩, c - m, rfl, ⟨by omega, fun e => by cases e⟩, fun hp => ?_⟩
 obtain ⟨b', o', e', hb, hcl⟩ := hcell (by omega)
 cases e'
 refine ⟨b, o + m, rfl, hb, fun j hj => ?_⟩
 rw [zla _ j (by rw [List.length_drop]; omega), List.getElem_drop]
 have := hcl (m + j) (by omega)
 rw [← Nat.add_assoc] at this
 exact this
theorem rdt_none {w : World} {a : Addr} {c : Nat} {l : List ByteArray} {m : Nat} (hm : m = l.length) : Rd w 1 (.slice (some a) 0 c) 0 (zcv (l.drop m)) :=
 ⟨by rw [zgq, List.length_drop]; omega, some a, c, rfl, ⟨Nat.zero_le _, fun e => by cases e⟩, fun h => absurd h (by omega)⟩
def Ord (ss : List ByteArray) : Prop := ss.Pairwise fun a b => a.toList ≤ b.toList
theorem ord_ins {ss : List ByteArray} {x : ByteArray} {k : Nat} (hk : k ≤ ss.length) (h : Ord ss) (h1 : ∀ i (h : i < ss.length), k ≤ i → x.toList < ss[i].toList) (h2 : ∀ i (h : i < ss.length), i + 1 = k → ss[i].toList ≤ x.toList) : Ord (ss.take k ++ [x] ++ ss.drop k) := by
 have ht : ∀ a ∈ ss.take k, a.toList ≤ x.toList := by
  intro a ha
  obtain ⟨i, hi, rfl⟩ := List.mem_take_iff_getElem.1 ha
  have hi := Nat.lt_min.1 hi
  by_cases e : i + 1 = k
  ·exact h2 i hi.2 e
  ·have h3 := h2 (k - 1) (by omega) (by omega)
   exact List.le_trans (List.pairwise_iff_getElem.1 h i (k - 1) hi.2 (by omega) (by omega)) h3
 have hd : ∀ a ∈ ss.drop k, x.toList ≤ a.toList := by
  intro a ha
  obtain ⟨i, hi, rfl⟩ := List.getElem_of_mem ha
  rw [List.length_drop] at hi
  rw [List.getElem_drop]
  exact List.le_of_lt (h1 (k + i) (by omega) (by omega))
 unfold Ord at h ⊢
 rw [List.append_assoc, List.pairwise_append]
 have h' := h
 rw [← List.take_append_drop k ss, List.pairwise_append] at h'
 refine ⟨h'.1, List.pairwise_append.2 ⟨List.pairwise_singleton _ _, h'.2.1, fun a ha b hb => ?_⟩, fun a ha b hb => ?_⟩
 ·rw [List.mem_singleton.1 ha]; exact hd b hb
 ·rcases List.mem_append.1 hb with hb | hb
  ·rw [List.mem_singleton.1 hb]; exact ht a ha
  ·exact h'.2.2 a ha b hb
theorem perm_ins (ss : List ByteArray) (x : ByteArray) (k : Nat) : (ss.take k ++ [x] ++ ss.drop k).Perm (ss ++ [x]) := by
 rw [List.append_assoc]
 refine List.Perm.trans (List.Perm.append_left _ List.perm_append_comm) ?_
 rw [← List.append_assoc, List.take_append_drop]
def zbg (ps : List Den) (d : Int) : List ByteArray := (ps.filter fun x => decide (¬ x.child < 0 ∧ x.dir = d)).map Den.name
theorem names_succ {ps : List Den} {d : Int} {k : Nat} (h : k < ps.length) : zbg (ps.take (k + 1)) d = if ¬ ps[k].child < 0 ∧ ps[k].dir = d then zbg (ps.take k) d ++ [ps[k].name] else zbg (ps.take k) d := by
 unfold zbg
 rw [List.take_succ_eq_append_getElem h, List.filter_append, List.map_append]
 by_cases c : ¬ ps[k].child < 0 ∧ ps[k].dir = d
 ·rw [if_pos c]
  simp only [List.filter_cons, decide_eq_true c, if_true, List.filter_nil, List.map_cons, List.map_nil]
 ·rw [if_neg c]
  simp only [List.filter_cons, decide_eq_false c, List.filter_nil]
  simp
theorem names_len (ps : List Den) (d : Int) : (zbg ps d).length ≤ ps.length := by unfold zbg; rw [List.length_map]; exact List.length_filter_le _ _
def zcp (ss : List ByteArray) : List ByteArray := ((ss.map fun s => s.data.toList).mergeSort fun x y => decide (x ≤ y)).map fun l => ⟨l.toArray⟩
theorem zfx (ss : List ByteArray) : (zcp ss).length = ss.length := by unfold zcp; rw [List.length_map, List.length_mergeSort, List.length_map]
theorem ord_sorted {ss l : List ByteArray} (h : Ord ss) (hp : ss.Perm l) : ss = zcp l := by
 have tr : ∀ a b c : List UInt8, decide (a ≤ b) = true → decide (b ≤ c) = true → decide (a ≤ c) = true := fun a b c h1 h2 => by simp only [decide_eq_true_eq] at *; exact List.le_trans h1 h2
 have tot : ∀ a b : List UInt8, (decide (a ≤ b) || decide (b ≤ a)) = true := fun a b => by simp only [Bool.or_eq_true, decide_eq_true_eq]; exact List.le_total a b
 have e : ss.map (fun s => s.data.toList) = (l.map fun s => s.data.toList).mergeSort fun x y => decide (x ≤ y) := by
  refine List.Perm.eq_of_pairwise (le := fun a b => decide (a ≤ b) = true) (fun a b _ _ h1 h2 => ?_) ?_ (List.pairwise_mergeSort tr tot _) ((hp.map _).trans (List.mergeSort_perm _ _).symm)
  ·simp only [decide_eq_true_eq] at h1 h2
   exact List.le_antisymm h1 h2
  ·rw [List.pairwise_map]
   refine List.Pairwise.imp (fun {a b} h => ?_) h
   rw [Lib.toList_data, Lib.toList_data] at h
   exact decide_eq_true h
 unfold zcp
 rw [← e, List.map_map]
 rw [show ((fun l : List UInt8 => (⟨l.toArray⟩ : ByteArray)) ∘ fun s : ByteArray => s.data.toList) = id from funext fun s => by simp]
 simp
end Go.Proofs.YtcilodgoognmnaaGreatDoor

namespace Go.Proofs.YtcilodgoognmnaaGreatDoor
open Go.RowKit
def mkB (l : List UInt8) : ByteArray := ⟨l.toArray⟩
theorem zim (l : List UInt8) : (mkB l).data.toList = l := by simp [mkB]
theorem mkB_of (s : ByteArray) : mkB s.data.toList = s := by
 obtain ⟨⟨l⟩⟩ := s
 rfl
theorem zkh {a b : ByteArray} (h : a.data.toList = b.data.toList) : a = b := by rw [← mkB_of a, ← mkB_of b, h]
theorem zoz (s : ByteArray) (a b : Nat) : mkB ((s.data.toList.take b).drop a) = s.extract a b := by
 apply zkh
 rw [zim, Lib.extract_data, List.drop_take]
def zje (cur : List UInt8) : List UInt8 → List (List UInt8)
 | [] => [cur]
 | c :: l => if c = 47 then cur :: zje [] l else zje (cur ++ [c]) l
theorem zkb (cur : List UInt8) : zje cur [] = [cur] := rfl
theorem zcy (cur : List UInt8) (c : UInt8) (l : List UInt8) : zje cur (c :: l) = if c = 47 then cur :: zje [] l else zje (cur ++ [c]) l := rfl
theorem zwb : ∀ (l cur : List UInt8), (∀ c ∈ l, ¬ c = 47) → zje cur l = [cur ++ l]
 | [], cur, _ => by rw [zkb, List.append_nil]
 | c :: l, cur, h => by
  rw [zcy, if_neg (h c (List.mem_cons_self ..)), zwb l _ (fun x hx => h x (List.mem_cons_of_mem _ hx)), List.append_assoc]
  rfl
theorem zwt : ∀ (l cur r : List UInt8), (∀ c ∈ l, ¬ c = 47) → zje cur (l ++ 47 :: r) = (cur ++ l) :: zje [] r
 | [], cur, r, _ => by rw [List.nil_append, zcy, if_pos rfl, List.append_nil]
 | c :: l, cur, r, h => by
  rw [List.cons_append, zcy, if_neg (h c (List.mem_cons_self ..)), zwt l _ r (fun x hx => h x (List.mem_cons_of_mem _ hx)), List.append_assoc]
  rfl
theorem zob : ∀ (l cur : List UInt8), ∃ x r, zje cur l = (cur ++ x) :: r
 | [], cur => ⟨[], [], by rw [zkb, List.append_nil]⟩
 | c :: l, cur => by
  rw [zcy]
  by_cases h : c = 47
  ·rw [if_pos h]; exact ⟨[], _, by rw [List.append_nil]⟩
  ·rw [if_neg h]
   obtain ⟨x, r, e⟩ := zob l (cur ++ [c])
   exact ⟨c :: x, r, by rw [e, List.append_assoc]; rfl⟩
theorem zso : ∀ (l cur : List UInt8), (zje cur l).length ≤ l.length + 1
 | [], cur => by rw [zkb]; simp
 | c :: l, cur => by
  rw [zcy]
  split
  ·have := zso l []
   simp only [List.length_cons]; omega
  ·have := zso l (cur ++ [c])
   simp only [List.length_cons]; omega
theorem cutG_pos (l cur : List UInt8) : 1 ≤ (zje cur l).length := by
 obtain ⟨x, r, e⟩ := zob l cur
 rw [e]; simp
theorem zsi : ∀ (l cur x : List UInt8), x ∈ zje cur l → x.length ≤ cur.length + l.length
 | [], cur, x, h => by rw [zkb, List.mem_singleton] at h; rw [h]; simp
 | c :: l, cur, x, h => by
  rw [zcy] at h
  split at h
  ·rcases List.mem_cons.1 h with rfl | h
   ·simp
   ·have := zsi l [] x h
    simp only [List.length_nil, List.length_cons] at *
    omega
  ·have := zsi l (cur ++ [c]) x h
   simp only [List.length_append, List.length_cons, List.length_nil] at *
   omega
theorem zrq : ∀ (k : Nat) (l : List UInt8), Lib.count l [47] = k → Lib.splitK [47] 0 k l = zje [] l
 | 0, l, h => by
  show [l] = _
  rw [Lib.count_one] at h
  rw [zwb l [] (fun c hc e => by subst e; have := List.count_pos_iff.2 hc; omega), List.nil_append]
 | k + 1, l, h => by
  have hm : (47 : UInt8) ∈ l := by
   rw [Lib.count_one] at h
   exact List.count_pos_iff.1 (by omega)
  have hge := Lib.indexByte_ge l 47
  have hi : Lib.index l [47] = Lib.indexByte l 47 := Lib.index_one l 47
  have hne : ¬ Lib.indexByte l 47 = -1 := fun e => by
   obtain ⟨j, hj, e2⟩ := List.getElem_of_mem hm
   exact Lib.indexByte_none e j (by rw [List.getElem?_eq_getElem hj, e2])
  obtain ⟨o, ho⟩ : ∃ o : Nat, Lib.indexByte l 47 = (o : Int) := ⟨(Lib.indexByte l 47).toNat, by omega⟩
  obtain ⟨h1, h2⟩ := Lib.indexByte_some ho
  have hol : o < l.length := (List.getElem?_eq_some_iff.1 h1).1
  have e0 : l = l.take o ++ 47 :: l.drop (o + 1) := by
   have hd : l.drop o = 47 :: l.drop (o + 1) := by
    rw [List.drop_eq_getElem_cons hol, (List.getElem?_eq_some_iff.1 h1).2]
   rw [← hd, List.take_append_drop]
  have hno : ∀ c ∈ l.take o, ¬ c = 47 := fun c hc e => by
   subst e
   obtain ⟨j, hj, e2⟩ := List.mem_take_iff_getElem.1 hc
   have hj := Nat.lt_min.1 hj
   exact h2 j hj.1 (by rw [List.getElem?_eq_getElem hj.2, e2])
  unfold Lib.splitK
  rw [hi, ho, if_neg (by simp), Int.toNat_natCast, Nat.add_zero]
  show l.take o :: Lib.splitK [47] 0 k (l.drop (o + 1)) = zje [] l
  have hc : Lib.count (l.drop (o + 1)) [47] = k := by
   rw [Lib.count_one] at h ⊢
   have hz : (l.take o).count 47 = 0 := List.count_eq_zero.2 (fun hx => hno 47 hx rfl)
   rw [e0, List.count_append, hz, List.count_cons_self] at h
   omega
  rw [zrq k _ hc]
  conv => rhs; rw [e0]
  rw [zwt _ _ _ hno, List.nil_append]
def pcs (s : ByteArray) : List ByteArray := (zje [] s.data.toList).map mkB
theorem zwn (s : ByteArray) : Lib.splitB ⟨#[47]⟩ 0 (Lib.countB s ⟨#[47]⟩) s = pcs s := by
 have h := Lib.splitB_data ⟨#[47]⟩ 0 (Lib.countB s ⟨#[47]⟩) s
 have h2 := zrq (Lib.countB s ⟨#[47]⟩) s.data.toList rfl
 unfold pcs
 rw [← h2]
 have h3 : Lib.splitK [47] 0 (Lib.countB s ⟨#[47]⟩) s.data.toList = (Lib.splitB ⟨#[47]⟩ 0 (Lib.countB s ⟨#[47]⟩) s).map (·.data.toList) := h.symm
 rw [h3, List.map_map]
 have : (mkB ∘ fun x : ByteArray => x.data.toList) = id := funext fun x => mkB_of x
 rw [this, List.map_id]
theorem pcs_len (s : ByteArray) : (pcs s).length ≤ s.size + 1 := by
 unfold pcs
 rw [List.length_map, Lib.size_eq]
 exact zso _ _
theorem pcs_pos (s : ByteArray) : 1 ≤ (pcs s).length := by unfold pcs; rw [List.length_map]; exact cutG_pos _ _
theorem pcs_size (s : ByteArray) : ∀ k (h : k < (pcs s).length), (pcs s)[k].size ≤ s.size := by
 intro k hk
 have hm : (pcs s)[k] ∈ (zje [] s.data.toList).map mkB := List.getElem_mem hk
 obtain ⟨x, hx, e⟩ := List.mem_map.1 hm
 have := zsi _ _ _ hx
 rw [← e, Lib.size_eq, zim, Lib.size_eq]
 simpa using this
theorem count_pcs (s : ByteArray) : Lib.countB s ⟨#[47]⟩ + 1 = (pcs s).length := by
 rw [← zwn, Lib.splitB_all ⟨#[47]⟩ (by decide) 0 _ s rfl]
theorem pcs_slash {s : ByteArray} {l : List UInt8} (h : s.data.toList = 47 :: l) : pcs s = mkB [] :: pcs (mkB l) := by
 unfold pcs
 rw [h, zcy, if_pos rfl, zim]
 rfl
theorem pcs_other {s : ByteArray} {c : UInt8} {l : List UInt8} (h : s.data.toList = c :: l) (hc : ¬ c = 47) : ∃ x r, pcs s = x :: r ∧ ¬ x.size = 0 := by
 unfold pcs
 rw [h, zcy, if_neg hc, List.nil_append]
 obtain ⟨x, r, e⟩ := zob l [c]
 refine ⟨mkB ([c] ++ x), r.map mkB, by rw [e]; rfl, ?_⟩
 rw [Lib.size_eq, zim]; simp
theorem pcs_none {s : ByteArray} (h : s.data.toList = []) : pcs s = [mkB []] := by
 unfold pcs
 rw [h]
 rfl
end Go.Proofs.YtcilodgoognmnaaGreatDoor
