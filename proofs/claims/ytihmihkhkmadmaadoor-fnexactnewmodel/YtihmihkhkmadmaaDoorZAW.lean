/- Several texts laid together: PaA, MkT, IgD, Pm, PmOK, Ev. -/
import Derived.Test.YtihmihkhkmadmaaDoorZAV
import Derived.Test.YtihmihkhkmadmaaDoorZAE
import Derived.Test.YtihmihkhkmadmaaDoorZAF
import Derived.Test.YtihmihkhkmadmaaDoorPiI
import Derived.Test.YtihmihkhkmadmaaDoorImX
import Derived.Maps.Views
import Derived.Deep.LoopGhost
import Derived.Deep.RegionHeld3
import Derived.Laws.OwnMore
import Derived.Lib.SplitLaws
import Derived.Lib.IndexBytes
import Derived.Deep.DeepCutAuto
import Derived.Deep.RegionWith
import Derived.Lib.Strings
import Derived.BigQuiet
import Derived.Sort.Walk0
import Derived.Laws.Cover1
import Derived.Test.YtihmihkhkmadmaaDoorWord
namespace Go.Proofs.YtihmihkhkmadmaaDoor
open Go.RowKit
theorem pimg_all {ws : List Ino} {ps : List Den} (h : imgB ws ps = true) : ws.length = 16 ∧ ps.length = 24 ∧ kindAt ws 0 = 2 ∧ okNs ws = true ∧ entsB ws ps = true ∧ linksB ws ps = true ∧ singB ws = true := by
  unfold imgB at h
  simp only [Bool.and_eq_true, decide_eq_true_eq, beq_iff_eq] at h
  exact h
end Go.Proofs.YtihmihkhkmadmaaDoor

namespace Go.Proofs.YtihmihkhkmadmaaDoor
open Go.RowKit
def mkS : Nat → Nat → ByteArray → ByteArray
  | 0, _, acc => acc
  | f + 1, k, acc => if k = 0 then acc else mkS f (k / 10) (⟨#[UInt8.ofNat (48 + k % 10)]⟩ ++ acc)
theorem mkS_zero : ∀ (f : Nat) (acc : ByteArray), mkS f 0 acc = acc
  | 0, _ => rfl
  | f + 1, acc => by unfold mkS; rw [if_pos rfl]
def mtx (k : Nat) : ByteArray := if k = 0 then ⟨#[109, 48]⟩ else ⟨#[109]⟩ ++ mkS 40 k ⟨#[]⟩
set_option maxRecDepth 100000 in
set_option maxHeartbeats 4000000 in
theorem markText_any (k : Nat) (w : World) (hk : k ≤ 4611686018427387904) :
    Calls Tryd.prog 42 #[.int .i64 (k : Int)] w fun e w' => e = .returned (.string (mtx k)) ∧ Below w.heap.size w w' := by
  by_cases h0 : k = 0
  · subst h0
    rw [show mtx 0 = ⟨#[109, 48]⟩ from rfl]
    go_enter Tryd.func42, Tryd.ntmps42
    go_wp2
    go_ret
    exact ⟨rfl, Below.refl _ _⟩
  · have E := hideIt (show mtx k = ⟨#[109]⟩ ++ mkS 40 k ⟨#[]⟩ from if_neg h0)
    have P10 : Hid (k < 10 ^ 40) := Nat.lt_of_le_of_lt hk (by decide)
    have k1 : ¬ (k : Int) ≤ 0 := by omega
    generalize mtx k = T at *
    clear h0
    go_enter Tryd.func42, Tryd.ntmps42
    go_wp2
    go_loopw [0, 3] (fun x o wr => ∃ (m f : Nat) (acc : ByteArray), x = .int .i64 m ∧ o = .string acc ∧ m ≤ k ∧ acc.size + f ≤ 40 ∧ Hid (m < 10 ^ f ∧ mkS f m acc = mkS 40 k ⟨#[]⟩ ∧ Below w.heap.size w wr)) (fun x _ _ => (intOf x).toNat)
    case atStart => exact ⟨k, 40, ⟨#[]⟩, rfl, rfl, Nat.le_refl _, Nat.le_refl 40, P10.out, rfl, Below.refl _ _⟩
    case round =>
      obtain ⟨m, f, acc, rfl, rfl, hm, hf, D⟩ := hrel
      by_cases c : m = 0
      · subst c
        have E2 : Hid (mkS 40 k ⟨#[]⟩ = acc) := by
          show _ = _
          rw [← D.out.2.1, mkS_zero]
        have B := hideIt D.out.2.2
        have had := run_string_add_sum (P := Tryd.prog) wr ⟨#[109]⟩ acc (by show 1 + acc.size ≤ _; omega)
        clear D
        go_wp2
        go_ret
        exact ⟨by rw [E.out, E2.out]; rfl, B.out⟩
      · have m0 : 0 < (m : Int) := by omega
        have hf0 : 0 < f := by
          rcases Nat.eq_zero_or_pos f with e | e
          · exfalso
            have := D.out.1
            rw [e] at this
            omega
          · exact e
        obtain ⟨f', rfl⟩ : ∃ f', f = f' + 1 := ⟨f - 1, by omega⟩
        have D2 : Hid (m / 10 < 10 ^ f' ∧ mkS f' (m / 10) (⟨#[UInt8.ofNat (48 + m % 10)]⟩ ++ acc) = mkS 40 k ⟨#[]⟩) := by
          refine ⟨?_, ?_⟩
          · have := D.out.1
            rw [Nat.pow_succ] at this
            omega
          · rw [← D.out.2.1]
            show _ = (if m = 0 then acc else _)
            rw [if_neg c]
        have hcv := run_convert_bytes_arg (P := Tryd.prog) (wr.alloc (.cells #[.int .u8 (48 + (m : Int) % 10)] 5)) 109 5 Tryd.underlying109 Tryd.underlying5 wr.heap.size 0 1 1 [48 + (m : Int) % 10] rfl (fun i hi => by
          obtain rfl : i = 0 := by omega
          exact World.cell?_alloc_mark wr #[.int .u8 (48 + (m : Int) % 10)] 5 (0, 0) 0) 9 Tryd.underlying9
        have eb : strOfNums [48 + (m : Int) % 10] = ⟨#[UInt8.ofNat (48 + m % 10)]⟩ := by
          unfold strOfNums
          simp only [List.map_cons, List.map_nil]
          rw [show (48 + (m : Int) % 10).toNat = 48 + m % 10 by omega]
        rw [eb] at hcv
        have had := run_string_add_sum (P := Tryd.prog) (wr.alloc (.cells #[.int .u8 (48 + (m : Int) % 10)] 5)) ⟨#[UInt8.ofNat (48 + m % 10)]⟩ acc (by show 1 + acc.size ≤ _; omega)
        have B2 : Hid (Below w.heap.size w (wr.alloc (.cells #[.int .u8 (48 + (m : Int) % 10)] 5))) := D.out.2.2.alloc D.out.2.2.size _
        have sz : ((⟨#[UInt8.ofNat (48 + m % 10)]⟩ : ByteArray) ++ acc).size = 1 + acc.size := by
          rw [ByteArray.size_append]; rfl
        have SZ := hideIt sz
        clear eb D sz
        generalize hbb : (⟨#[UInt8.ofNat (48 + m % 10)]⟩ : ByteArray) = bb at hcv had D2 SZ
        clear hbb
        go_wp2
        go_roundw
        case rel => exact ⟨m / 10, f', bb ++ acc, by go_num, rfl, by omega, by have := SZ.out; omega, D2.out.1, D2.out.2, B2.out⟩
        case measure => simp [intOf]; omega
end Go.Proofs.YtihmihkhkmadmaaDoor

namespace Go.Proofs.YtihmihkhkmadmaaDoor
open Go.RowKit
theorem ino_parts {x : Ino} (h : inoB x = true) : (0 ≤ x.kind ∧ x.kind ≤ 2) ∧ (0 ≤ x.size ∧ x.size ≤ 8) ∧ (0 ≤ x.links ∧ x.links ≤ 24) ∧ mapB x.map x.size = true ∧ kindB x = true := by
  unfold inoB at h
  simp only [Bool.and_eq_true, decide_eq_true_eq] at h
  exact h
end Go.Proofs.YtihmihkhkmadmaaDoor

namespace Go.Proofs.YtihmihkhkmadmaaDoor
open Go.RowKit
def RdPm (w : World) (v : Value) (ws : List Int) (ps : List St) : Prop := ∃ vW vP, v = .agg #[vW, vP] ∧ RdI w vW ws ∧ RdS w vP ps
def RowPm (w : World) (lo hi : Nat) (v : Value) (ws : List Int) (ps : List St) : Prop := ∃ vW vP, v = .agg #[vW, vP] ∧ Row w 3 1 lo hi vW ws.length (ints ws) ∧ Row w 139 3 lo hi vP ps.length (sts ps)
theorem RowPm.rd {w : World} {lo hi : Nat} {v : Value} {ws : List Int} {ps : List St} (h : RowPm w lo hi v ws ps) : RdPm w v ws ps := by
  obtain ⟨vW, vP, rfl, h1, h2⟩ := h
  exact ⟨vW, vP, rfl, h1.rd, h2.rd⟩
theorem RdPm.below {w w' : World} {v : Value} {ws : List Int} {ps : List St} (h : RdPm w v ws ps) (hb : Below w.heap.size w w') : RdPm w' v ws ps := by
  obtain ⟨vW, vP, rfl, h1, h2⟩ := h
  exact ⟨vW, vP, rfl, Rd.below h1 hb, Rd.below h2 hb⟩
theorem RowPm.outside {w w' : World} {lo hi : Nat} {v : Value} {ws : List Int} {ps : List St} (h : RowPm w lo hi v ws ps) {lo' hi' : Nat} (ho : Outside lo' hi' w w') (hd : hi ≤ lo' ∨ hi' ≤ lo) (hz : hi ≤ w.heap.size) : RowPm w' lo hi v ws ps := by
  obtain ⟨vW, vP, rfl, h1, h2⟩ := h
  exact ⟨vW, vP, rfl, h1.outside ho hd hz, h2.outside ho hd hz⟩
end Go.Proofs.YtihmihkhkmadmaaDoor

namespace Go.Proofs.YtihmihkhkmadmaaDoor
open Go.RowKit
def pmB (ws : List Int) (ps : List St) : Bool := decide (ws.length = 336 ∧ ps.length ≤ 400 ∧ (∀ k (h : k < ws.length), wordB ws[k] = true) ∧ ∀ k (h : k < ps.length), placeB ps[k].at_ = true ∧ wordB ps[k].val = true)
theorem pmB_mk {ws : List Int} {ps : List St} (h1 : ws.length = 336) (h2 : ps.length ≤ 400) (h3 : ∀ k (h : k < ws.length), wordB ws[k] = true) (h4 : ∀ k (h : k < ps.length), placeB ps[k].at_ = true ∧ wordB ps[k].val = true) : pmB ws ps = true := decide_eq_true ⟨h1, h2, h3, h4⟩
theorem pmB_len {ws : List Int} {ps : List St} (h : pmB ws ps = true) : ws.length = 336 ∧ ps.length ≤ 400 := ⟨(of_decide_eq_true h).1, (of_decide_eq_true h).2.1⟩
theorem pmB_word {ws : List Int} {ps : List St} (h : pmB ws ps = true) (k : Nat) (hk : k < ws.length) : wordB ws[k] = true := (of_decide_eq_true h).2.2.1 k hk
theorem pmB_store {ws : List Int} {ps : List St} (h : pmB ws ps = true) (k : Nat) (hk : k < ps.length) : placeB ps[k].at_ = true ∧ wordB ps[k].val = true := (of_decide_eq_true h).2.2.2 k hk
theorem pmB_len1 {ws : List Int} {ps : List St} (h : ¬ ws.length = 336) : pmB ws ps = false := decide_eq_false (fun x => h x.1)
theorem pmB_len2 {ws : List Int} {ps : List St} (h : 400 < ps.length) : pmB ws ps = false := decide_eq_false (fun x => absurd x.2.1 (by omega))
theorem pmB_w {ws : List Int} {ps : List St} {k : Nat} (hk : k < ws.length) (h : wordB ws[k] = false) : pmB ws ps = false := decide_eq_false (fun x => by have := x.2.2.1 k hk; rw [h] at this; cases this)
theorem pmB_a {ws : List Int} {ps : List St} {k : Nat} (hk : k < ps.length) (h : placeB ps[k].at_ = false) : pmB ws ps = false := decide_eq_false (fun x => by have := (x.2.2.2 k hk).1; rw [h] at this; cases this)
theorem pmB_v {ws : List Int} {ps : List St} {k : Nat} (hk : k < ps.length) (h : wordB ps[k].val = false) : pmB ws ps = false := decide_eq_false (fun x => by have := (x.2.2.2 k hk).2; rw [h] at this; cases this)
end Go.Proofs.YtihmihkhkmadmaaDoor

namespace Go.Proofs.YtihmihkhkmadmaaDoor
open Go.RowKit
set_option maxHeartbeats 2000000 in
theorem everyWord_any (v : Value) (zs : List Int) (w : World) (h : RdI w v zs) (hn : zs.length ≤ 2147483648) :
    Calls Tryd.prog 61 #[v, .func (.func 62) #[] #[]] w fun e w' => e = .returned (.bool (wordsB zs)) ∧ w' = w := by
  obtain ⟨ao, cap, rfl, _, hc⟩ := h.shape
  clear h
  go_enter Tryd.func61, Tryd.ntmps61
  go_wp2
  go_loop [6, 9] (fun _ i => ∃ k : Nat, k ≤ zs.length ∧ i = .int .i64 k ∧ Hid (∀ j (h : j < zs.length), j < k → wordB zs[j] = true)) (fun _ i => zs.length - (intOf i).toNat)
  case atStart => exact ⟨0, by omega, rfl, fun j h a => absurd a (by omega)⟩
  case round =>
    obtain ⟨k, hk, rfl, H⟩ := hrel
    by_cases hlt : k < zs.length
    · obtain ⟨b, o, rfl, hbl, hcell⟩ := hc (by omega)
      have hck := hcell k hlt
      clear hcell hc
      by_cases q : wordB zs[k] = true
      · go_wp2_with (go_at_call 62; refine (isWord_any _ _).mono ?_; rintro e w' ⟨rfl, rfl⟩)
        go_round
        case rel =>
          refine ⟨k + 1, by omega, by go_num, fun j h a => ?_⟩
          by_cases e : j = k
          · subst e; exact q
          · exact H.out j h (by omega)
        case measure => simp [intOf]; omega
      · have q' : wordB zs[k] = false := by simpa using q
        have E := hideIt (wordsB_not hlt q')
        go_wp2_with (go_at_call 62; refine (isWord_any _ _).mono ?_; rintro e w' ⟨rfl, rfl⟩)
        go_ret
        exact ⟨ret_bool E.out.symm, rfl⟩
    · have E := hideIt (wordsB_mk (fun j h => H.out j h (by omega)))
      clear H
      go_wp2
      go_ret
      exact ⟨ret_bool E.out.symm, rfl⟩
end Go.Proofs.YtihmihkhkmadmaaDoor
