/- The text of a mark. -/
import Derived.Test.YtjdkgdbacidfiaaDoorMem
import Derived.Laws.IdiomStrings
import Derived.Laws.BytesArg
import Derived.Deep.OwnRows
import Derived.WalkKit
namespace Go.Proofs.YtjdkgdbacidfiaaDoor
open Go.RowKit
def mkS : Nat → Nat → ByteArray → ByteArray
  | 0, _, acc => acc
  | f + 1, k, acc => if k = 0 then acc else mkS f (k / 10) (⟨#[UInt8.ofNat (48 + k % 10)]⟩ ++ acc)
theorem mkS_zero : ∀ (f : Nat) (acc : ByteArray), mkS f 0 acc = acc
  | 0, _ => rfl
  | f + 1, acc => by unfold mkS; rw [if_pos rfl]
def mtx (k : Nat) : ByteArray := if k = 0 then ⟨#[109, 48]⟩ else ⟨#[109]⟩ ++ mkS 40 k ⟨#[]⟩
set_option maxRecDepth 100000 in
set_option maxHeartbeats 4000000 in
theorem markText_any (k : Nat) (w : World) (hk : k ≤ 4611686018427387904) :
    Calls Tryd.prog 36 #[.int .i64 (k : Int)] w fun e w' => e = .returned (.string (mtx k)) ∧ Below w.heap.size w w' := by
  by_cases h0 : k = 0
  · subst h0
    rw [show mtx 0 = ⟨#[109, 48]⟩ from rfl]
    go_enter Tryd.func36, Tryd.ntmps36
    go_wp2
    go_ret
    exact ⟨rfl, Below.refl _ _⟩
  · have E := hideIt (show mtx k = ⟨#[109]⟩ ++ mkS 40 k ⟨#[]⟩ from if_neg h0)
    have P10 : Hid (k < 10 ^ 40) := Nat.lt_of_le_of_lt hk (by decide)
    have k1 : ¬ (k : Int) ≤ 0 := by omega
    generalize mtx k = T at *
    clear h0
    go_enter Tryd.func36, Tryd.ntmps36
    go_wp2
    go_loopw [0, 3] (fun x o wr => ∃ (m f : Nat) (acc : ByteArray), x = .int .i64 m ∧ o = .string acc ∧ m ≤ k ∧ acc.size + f ≤ 40 ∧ Hid (m < 10 ^ f ∧ mkS f m acc = mkS 40 k ⟨#[]⟩ ∧ Below w.heap.size w wr)) (fun x _ _ => (intOf x).toNat)
    case atStart => exact ⟨k, 40, ⟨#[]⟩, rfl, rfl, Nat.le_refl _, Nat.le_refl 40, P10.out, rfl, Below.refl _ _⟩
    case round =>
      obtain ⟨m, f, acc, rfl, rfl, hm, hf, D⟩ := hrel
      by_cases c : m = 0
      · subst c
        have E2 : Hid (mkS 40 k ⟨#[]⟩ = acc) := by
          show _ = _
          rw [← D.out.2.1, mkS_zero]
        have B := hideIt D.out.2.2
        have had := run_string_add_sum (P := Tryd.prog) wr ⟨#[109]⟩ acc (by show 1 + acc.size ≤ _; omega)
        clear D
        go_wp2
        go_ret
        exact ⟨by rw [E.out, E2.out]; rfl, B.out⟩
      · have m0 : 0 < (m : Int) := by omega
        have hf0 : 0 < f := by
          rcases Nat.eq_zero_or_pos f with e | e
          · exfalso
            have := D.out.1
            rw [e] at this
            omega
          · exact e
        obtain ⟨f', rfl⟩ : ∃ f', f = f' + 1 := ⟨f - 1, by omega⟩
        have D2 : Hid (m / 10 < 10 ^ f' ∧ mkS f' (m / 10) (⟨#[UInt8.ofNat (48 + m % 10)]⟩ ++ acc) = mkS 40 k ⟨#[]⟩) := by
          refine ⟨?_, ?_⟩
          · have := D.out.1
            rw [Nat.pow_succ] at this
            omega
          · rw [← D.out.2.1]
            show _ = (if m = 0 then acc else _)
            rw [if_neg c]
        have hcv := run_convert_bytes_arg (P := Tryd.prog) (wr.alloc (.cells #[.int .u8 (48 + (m : Int) % 10)] 5)) 83 5 Tryd.underlying83 Tryd.underlying5 wr.heap.size 0 1 1 [48 + (m : Int) % 10] rfl (fun i hi => by
          obtain rfl : i = 0 := by omega
          exact World.cell?_alloc_mark wr #[.int .u8 (48 + (m : Int) % 10)] 5 (0, 0) 0) 9 Tryd.underlying9
        have eb : strOfNums [48 + (m : Int) % 10] = ⟨#[UInt8.ofNat (48 + m % 10)]⟩ := by
          unfold strOfNums
          simp only [List.map_cons, List.map_nil]
          rw [show (48 + (m : Int) % 10).toNat = 48 + m % 10 by omega]
        rw [eb] at hcv
        have had := run_string_add_sum (P := Tryd.prog) (wr.alloc (.cells #[.int .u8 (48 + (m : Int) % 10)] 5)) ⟨#[UInt8.ofNat (48 + m % 10)]⟩ acc (by show 1 + acc.size ≤ _; omega)
        have B2 : Hid (Below w.heap.size w (wr.alloc (.cells #[.int .u8 (48 + (m : Int) % 10)] 5))) := D.out.2.2.alloc D.out.2.2.size _
        have sz : ((⟨#[UInt8.ofNat (48 + m % 10)]⟩ : ByteArray) ++ acc).size = 1 + acc.size := by
          rw [ByteArray.size_append]; rfl
        have SZ := hideIt sz
        clear eb D sz
        generalize hbb : (⟨#[UInt8.ofNat (48 + m % 10)]⟩ : ByteArray) = bb at hcv had D2 SZ
        clear hbb
        go_wp2
        go_roundw
        case rel => exact ⟨m / 10, f', bb ++ acc, by go_num, rfl, by omega, by have := SZ.out; omega, D2.out.1, D2.out.2, B2.out⟩
        case measure => simp [intOf]; omega
end Go.Proofs.YtjdkgdbacidfiaaDoor
