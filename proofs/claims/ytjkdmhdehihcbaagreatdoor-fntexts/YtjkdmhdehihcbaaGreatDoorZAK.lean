/- Several texts laid together: RoB, RoC, ShI. -/
import Derived.Test.YtjkdmhdehihcbaaGreatDoorZAG
import Derived.Test.YtjkdmhdehihcbaaGreatDoorDgA
import Derived.Lib.Atoi
import Derived.Test.YtjkdmhdehihcbaaGreatDoorRows
import Derived.Shelf.Strconv.Itoa3
import Derived.Lib.LaidTab
namespace Go.Proofs.YtjkdmhdehihcbaaGreatDoor
open Go.RowKit
theorem decFrom_snoc : ∀ (l : List UInt8) (acc : Nat) (c : UInt8), Lib.decFrom acc (l ++ [c]) = (Lib.decFrom acc l).bind fun m => (Lib.digitVal c).map fun d => m * 10 + d
  | [], acc, c => by
    show (match Lib.digitVal c with | some d => some (acc * 10 + d) | none => none) = _
    cases Lib.digitVal c <;> rfl
  | b :: l, acc, c => by
    show (match Lib.digitVal b with | some d => Lib.decFrom (acc * 10 + d) (l ++ [c]) | none => none) = ((match Lib.digitVal b with | some d => Lib.decFrom (acc * 10 + d) l | none => none) : Option Nat).bind _
    cases Lib.digitVal b with
    | none => rfl
    | some d => exact decFrom_snoc l (acc * 10 + d) c
theorem digit_of {d : Nat} (h : d < 10) : Lib.digitVal (UInt8.ofNat (48 + d)) = some d := by
  have e : (UInt8.ofNat (48 + d)).toNat = 48 + d := by rw [UInt8.toNat_ofNat']; omega
  unfold Lib.digitVal
  rw [e, if_pos (by omega)]
  congr 1
  omega
theorem digit_back {c : UInt8} {d : Nat} (h : Lib.digitVal c = some d) : d < 10 ∧ UInt8.ofNat (48 + d) = c := by
  obtain ⟨a, b, rfl⟩ := Lib.digitVal_eq h
  refine ⟨by omega, ?_⟩
  rw [show 48 + (c.toNat - 48) = c.toNat by omega]
  exact UInt8.ofNat_toNat
theorem dec_digits : ∀ (f n : Nat), n < 10 ^ f → Lib.decFrom 0 (Lib.decDigits n) = some n ∧ Lib.decDigits n ≠ [] ∧ (0 < n → (Lib.decDigits n).head? ≠ some 48)
  | 0, n, h => by
    obtain rfl : n = 0 := by simpa using h
    rw [Lib.decDigits, dif_pos (by omega)]
    exact ⟨rfl, by simp, fun h => absurd h (by omega)⟩
  | f + 1, n, h => by
    by_cases c : n < 10
    · rw [Lib.decDigits, dif_pos c]
      refine ⟨?_, by simp, fun h0 e => ?_⟩
      · have := decFrom_snoc [] 0 (UInt8.ofNat (48 + n))
        rw [List.nil_append] at this
        rw [this, digit_of c]
        simp [Lib.decFrom]
      · have e2 : UInt8.ofNat (48 + n) = 48 := by simpa using e
        have := congrArg UInt8.toNat e2
        rw [UInt8.toNat_ofNat'] at this
        have : (48 : UInt8).toNat = 48 := rfl
        omega
    · obtain ⟨a, b, d⟩ := dec_digits f (n / 10) (by rw [Nat.pow_succ] at h; omega)
      rw [Lib.decDigits, dif_neg c]
      refine ⟨?_, by simp, fun _ => ?_⟩
      · rw [decFrom_snoc, a, digit_of (by omega)]
        simp only [Option.bind_some, Option.map_some]
        congr 1
        omega
      · have q := d (by omega)
        cases e : Lib.decDigits (n / 10) with
        | nil => exact absurd e b
        | cons x r => rw [e] at q; exact q
theorem canon_back : ∀ (k : Nat) (l : List UInt8) (n : Nat), l.length ≤ k → Lib.decFrom 0 l = some n → l ≠ [] → (1 < l.length → l.head? ≠ some 48) → Lib.decDigits n = l
  | 0, l, n, hk, _, h0, _ => absurd (List.length_eq_zero_iff.1 (by omega)) h0
  | k + 1, l, n, hk, h, h0, hc => by
    obtain ⟨m, c, rfl⟩ : ∃ m c, l = m ++ [c] := ⟨l.dropLast, l.getLast h0, (List.dropLast_concat_getLast h0).symm⟩
    rw [decFrom_snoc] at h
    cases hm : Lib.decFrom 0 m with
    | none => rw [hm] at h; cases h
    | some j =>
      rw [hm] at h
      cases hd : Lib.digitVal c with
      | none => rw [hd] at h; cases h
      | some d =>
        rw [hd] at h
        simp only [Option.bind_some, Option.map_some, Option.some.injEq] at h
        obtain ⟨d1, d2⟩ := digit_back hd
        by_cases em : m = []
        · subst em
          have : j = 0 := by simpa [Lib.decFrom] using hm.symm
          subst this
          rw [Lib.decDigits, dif_pos (by omega), show n = d by omega, d2]
          rfl
        · have hl : 0 < m.length := List.length_pos_iff.2 em
          have hh : m.head? ≠ some 48 := by
            have q := hc (by simp; omega)
            cases m with
            | nil => exact absurd rfl em
            | cons x r => exact q
          have ih := canon_back k m j (by simp at hk; omega) hm em (fun _ => hh)
          have j0 : 0 < j := by
            rcases Nat.eq_zero_or_pos j with z | z
            · subst z
              rw [Lib.decDigits, dif_pos (by omega)] at ih
              rw [← ih] at hh
              exact absurd rfl hh
            · exact z
          rw [Lib.decDigits, dif_neg (by omega), show n / 10 = j by omega, ih, show n % 10 = d by omega, d2]
def numP (s : ByteArray) : Option Nat := if s.size ≤ 18 ∧ (1 < s.size → s.data.toList.head? ≠ some 48) then Lib.decNat s.data.toList else none
theorem numP_it {s : ByteArray} {n : Nat} : numP s = some n ↔ s = itT (n : Int) ∧ s.size ≤ 18 := by
  have hl := Lib.size_eq s
  unfold numP
  rw [it_nat]
  unfold dgT
  constructor
  · intro h
    split at h
    · rename_i c
      obtain ⟨a, b⟩ := Lib.decNat_some h
      refine ⟨?_, c.1⟩
      rw [canon_back _ _ _ (Nat.le_refl _) b a (fun q => c.2 (by omega))]
    · cases h
  · rintro ⟨rfl, h⟩
    have q := dec_digits n n (Nat.lt_pow_self (by omega))
    have hc : 1 < (⟨(Lib.decDigits n).toArray⟩ : ByteArray).size → (⟨(Lib.decDigits n).toArray⟩ : ByteArray).data.toList.head? ≠ some 48 := fun h1 => by
      rcases Nat.eq_zero_or_pos n with z | z
      · subst z
        have e : Lib.decDigits 0 = [48] := by rw [Lib.decDigits, dif_pos (by omega)]; rfl
        have : (⟨(Lib.decDigits 0).toArray⟩ : ByteArray).size = (Lib.decDigits 0).length := by simp [ByteArray.size]
        rw [this, e] at h1
        simp at h1
      · exact q.2.2 z
    rw [if_pos ⟨h, hc⟩]
    unfold Lib.decNat
    rw [if_neg (by simpa using q.2.1)]
    exact q.1
end Go.Proofs.YtjkdmhdehihcbaaGreatDoor

namespace Go.Proofs.YtjkdmhdehihcbaaGreatDoor
open Go.RowKit
def nuQ (s : ByteArray) (v : Int) (ok : Bool) : Prop := (∃ n : Nat, numP s = some n ∧ ok = true ∧ v = (n : Int)) ∨ (numP s = none ∧ (ok = false ∨ v < 0))
def nuP (s : ByteArray) (e : Ending) : Prop := ∃ (v : Int) (ok : Bool), e = .returned (.tuple #[.int .i64 v, .bool ok]) ∧ nuQ s v ok ∧ -9223372036854775808 ≤ v ∧ v ≤ 9223372036854775807
end Go.Proofs.YtjkdmhdehihcbaaGreatDoor

namespace Go.Proofs.YtjkdmhdehihcbaaGreatDoor
open Go.Shelf Go.RowKit
def laysM171_ren : Go.Shelf.Ren := ⟨fun | 171 => 80 | 243 => 112 | 246 => 146 | 283 => 198 | 284 => 199 | 285 => 200 | 286 => 201 | 129 => 262 | 317 => 261 | 318 => 263 | 319 => 264 | 320 => 265 | 337 => 306 | 338 => 307 | n => n, fun | 3 => 3 | 9 => 9 | 2 => 2 | 4 => 4 | 171 => 239 | 0 => 0 | 53 => 240 | 37 => 22 | 5 => 5 | 173 => 243 | 212 => 303 | 51 => 304 | 20 => 20 | 213 => 305 | 46 => 306 | 232 => 367 | 233 => 368 | n => n, fun | 17 => 5 | 18 => 11 | 19 => 12 | n => n⟩
theorem laysM171 : Go.Proofs.LaysM.n171 Tryz.prog laysM171_ren := {
  mixed := by kernel_rfl
  f129 := Tryz.func262.trans (congrArg some (by kernel_rfl))
  f171 := Tryz.func80.trans (congrArg some (by kernel_rfl))
  f243 := Tryz.func112.trans (congrArg some (by kernel_rfl))
  f246 := Tryz.func146.trans (congrArg some (by kernel_rfl))
  f283 := Tryz.func198.trans (congrArg some (by kernel_rfl))
  f284 := Tryz.func199.trans (congrArg some (by kernel_rfl))
  f285 := Tryz.func200.trans (congrArg some (by kernel_rfl))
  f286 := Tryz.func201.trans (congrArg some (by kernel_rfl))
  f317 := Tryz.func261.trans (congrArg some (by kernel_rfl))
  f318 := Tryz.func263.trans (congrArg some (by kernel_rfl))
  f319 := Tryz.func264.trans (congrArg some (by kernel_rfl))
  f320 := Tryz.func265.trans (congrArg some (by kernel_rfl))
  f337 := Tryz.func306.trans (congrArg some (by kernel_rfl))
  f338 := Tryz.func307.trans (congrArg some (by kernel_rfl))
  t0 := Tryz.underlying0
  a0 := Tryz.isAgg0
  z0 := Tryz.sizeOf0
  v0 := Tryz.zeroValue0
  t2 := Tryz.underlying2
  a2 := Tryz.isAgg2
  z2 := Tryz.sizeOf2
  v2 := Tryz.zeroValue2
  t3 := Tryz.underlying3
  a3 := Tryz.isAgg3
  z3 := Tryz.sizeOf3
  v3 := Tryz.zeroValue3
  t4 := Tryz.underlying4
  a4 := Tryz.isAgg4
  z4 := Tryz.sizeOf4
  v4 := Tryz.zeroValue4
  t5 := Tryz.underlying5
  a5 := Tryz.isAgg5
  z5 := Tryz.sizeOf5
  v5 := Tryz.zeroValue5
  t9 := Tryz.underlying9
  a9 := Tryz.isAgg9
  z9 := Tryz.sizeOf9
  v9 := Tryz.zeroValue9
  t20 := Tryz.underlying20
  a20 := Tryz.isAgg20
  z20 := Tryz.sizeOf20
  v20 := Tryz.zeroValue20
  t37 := Tryz.underlying22
  a37 := Tryz.isAgg22
  z37 := Tryz.sizeOf22
  v37 := Tryz.zeroValue22
  t46 := Tryz.underlying306
  a46 := Tryz.isAgg306
  z46 := Tryz.sizeOf306
  v46 := Tryz.zeroValue306
  t51 := Tryz.underlying304
  a51 := Tryz.isAgg304
  z51 := Tryz.sizeOf304
  v51 := Tryz.zeroValue304
  t53 := Tryz.underlying240
  a53 := Tryz.isAgg240
  z53 := Tryz.sizeOf240
  v53 := Tryz.zeroValue240
  t171 := Tryz.underlying239
  a171 := Tryz.isAgg239
  z171 := Tryz.sizeOf239
  v171 := Tryz.zeroValue239
  t173 := Tryz.underlying243
  a173 := Tryz.isAgg243
  z173 := Tryz.sizeOf243
  v173 := Tryz.zeroValue243
  t212 := Tryz.underlying303
  a212 := Tryz.isAgg303
  z212 := Tryz.sizeOf303
  v212 := Tryz.zeroValue303
  t213 := Tryz.underlying305
  a213 := Tryz.isAgg305
  z213 := Tryz.sizeOf305
  t232 := Tryz.underlying367
  a232 := Tryz.isAgg367
  z232 := Tryz.sizeOf367
  v232 := Tryz.zeroValue367
  t233 := Tryz.underlying368
  a233 := Tryz.isAgg368
  z233 := Tryz.sizeOf368
  v233 := Tryz.zeroValue368
  g17 := by kernel_rfl
  g18 := by kernel_rfl
  g19 := by kernel_rfl
  i0 := by kernel_rfl
  i2 := by kernel_rfl
  i3 := by kernel_rfl
  i4 := by kernel_rfl
  i5 := by kernel_rfl
  i9 := by kernel_rfl
  i20 := by kernel_rfl
  i37 := by kernel_rfl
  i46 := by kernel_rfl
  i51 := by kernel_rfl
  i53 := by kernel_rfl
  i171 := by kernel_rfl
  i173 := by kernel_rfl
  i212 := by kernel_rfl
  i232 := by kernel_rfl
  i233 := by kernel_rfl
  m17 := by kernel_rfl
  m18 := by kernel_rfl
  m19 := by kernel_rfl }
end Go.Proofs.YtjkdmhdehihcbaaGreatDoor
