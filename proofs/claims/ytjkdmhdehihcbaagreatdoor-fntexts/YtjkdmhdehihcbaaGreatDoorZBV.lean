/- Several texts laid together: HtA, FsJ. -/
import Derived.Test.YtjkdmhdehihcbaaGreatDoorZAD
import Derived.Test.YtjkdmhdehihcbaaGreatDoorZAC
import Derived.Test.YtjkdmhdehihcbaaGreatDoorZAE
import Derived.Test.YtjkdmhdehihcbaaGreatDoorZBT
import Derived.Deep.RegionHeld3
import Derived.Laws.OwnMore
import Derived.Deep.RegionWith
import Derived.Test.YtjkdmhdehihcbaaGreatDoorZBR
import Derived.Test.YtjkdmhdehihcbaaGreatDoorZAS
import Derived.Deep.DeepCutAuto
import Derived.Deep.RegionLaw
namespace Go.Proofs.YtjkdmhdehihcbaaGreatDoor
open Go.RowKit
set_option maxRecDepth 100000 in
theorem chanceN_any (n : Int) (hn : 2 ≤ n ∧ n ≤ 1000) (w0 w : World) (b k : Nat) (vC : Value) (bs : List Int) (h : Src w0 w b vC bs k) (hk : k ≤ 900000) :
    Calls Tryz.prog 53 #[.pointer (some ⟨b, 0, none⟩), .int .i64 n] w fun e w' => ∃ r : Bool, e = .returned (.bool r) ∧ Src w0 w' b vC bs (k + 3) ∧ Outside b (b + 1) w w' ∧ w'.heap.size = w.heap.size := by
  have HS := hideIt h
  have wn : IntKind.i64.wrap (n - 1) = n - 1 := by rw [IntKind.wrap_i64]; omega
  clear h
  go_enter Tryz.func53, Tryz.ntmps53
  go_wp2_with fail
  refine (srcNext_any n hn w0 w b k vC bs HS.out hk).mono ?_
  rintro e w1 ⟨r, rfl, r0, r1, hs, ho, hz⟩
  have S1 := hideIt hs
  have O1 := hideIt ho
  clear hs ho
  go_wp2
  go_ret
  exact ⟨_, rfl, S1.out, O1.out, hz⟩
end Go.Proofs.YtjkdmhdehihcbaaGreatDoor

namespace Go.Proofs.YtjkdmhdehihcbaaGreatDoor
open Go.RowKit
set_option maxRecDepth 100000 in
set_option maxHeartbeats 4000000 in
theorem pickN_any (ss : List ByteArray) (hn : 2 ≤ ss.length ∧ ss.length ≤ 1000) (w0 w : World) (b bl k : Nat) (vC : Value) (bs : List Int) (h : Src w0 w b vC bs k) (hk : k ≤ 900000) (hl : w.heap[bl]? = some (.cells (ss.map Value.string).toArray 9 (0, 0))) (hbl : bl ≠ b) :
    Calls Tryz.prog 103 #[.pointer (some ⟨b, 0, none⟩), .slice (some ⟨bl, 0, none⟩) ss.length ss.length] w fun e w' => ∃ s, e = .returned (.string s) ∧ s ∈ ss ∧ Src w0 w' b vC bs (k + 3) ∧ Outside b (b + 1) w w' ∧ w'.heap.size = w.heap.size := by
  have HS := hideIt h
  have HL := hideIt hl
  have lt : Hid (bl < w.heap.size) := (Array.getElem?_eq_some_iff.1 hl).1
  have h0 : ((ss.length : Int) == 0) = false := by rw [beq_eq_false_iff_ne]; omega
  have NX := hideIt (srcNext_any (ss.length : Int) (by omega) w0 w b k vC bs HS.out hk)
  obtain ⟨n1, n2⟩ := hn
  clear h hl
  go_enter Tryz.func103, Tryz.ntmps103
  go_wp2_with fail
  refine NX.out.mono ?_
  rintro e w1 ⟨r, rfl, r0, r1, hs, ho, hz⟩
  have S1 := hideIt hs
  have O1 := hideIt ho
  obtain ⟨j, rfl⟩ := Int.eq_ofNat_of_zero_le r0
  have hj : j < ss.length := by omega
  have hc : w1.cell? ⟨bl, j, none⟩ = some (.string ss[j]) := by
    have := (ho.block bl lt.out (by omega)).trans HL.out
    simp [World.cell?, this, hj]
  have EM := hideIt (List.getElem_mem hj)
  generalize ss[j] = s at hc EM
  clear hs ho NX
  go_wp2
  go_ret
  exact ⟨_, rfl, EM.out, S1.out, O1.out, hz⟩
def slB : ByteArray := ⟨#[47]⟩
def segs : List ByteArray := [⟨#[97]⟩, ⟨#[98]⟩, ⟨#[99]⟩, ⟨#[100, 105, 114]⟩, ⟨#[97]⟩]
def oneP : List ByteArray := segs.map fun s => slB ++ s
def twoP : List ByteArray := oneP.flatMap fun p => segs.map fun s => p ++ (slB ++ s)
def PathD (p : ByteArray) : Prop := p ∈ oneP ∨ p ∈ twoP
theorem PathD.size {p : ByteArray} (h : PathD p) : p.size ≤ 100 := by
  have : ∀ p ∈ oneP ++ twoP, p.size ≤ 100 := by decide
  exact this p (List.mem_append.2 h)
set_option maxRecDepth 100000 in
set_option maxHeartbeats 4000000 in
theorem srcPath_any (w0 w : World) (b k : Nat) (vC : Value) (bs : List Int) (h : Src w0 w b vC bs k) (hk : k ≤ 800000) :
    Calls Tryz.prog 52 #[.pointer (some ⟨b, 0, none⟩)] w fun e w' => ∃ p, e = .returned (.string p) ∧ PathD p ∧ Src w0 w' b vC bs (k + 9) ∧ Outside b (b + 1) w w' := by
  have hsz := h.size
  have HS := hideIt h
  clear h
  go_enter Tryz.func52, Tryz.ntmps52
  go_wp2_with fail
  refine (srcNext_any 5 (by omega) w0 _ b k vC bs HS.out (by omega)).mono ?_
  rintro e w1 ⟨r, rfl, r0, r1, hs, ho, hz⟩
  have S1 := hideIt hs
  have O1 := hideIt ho
  clear hs ho hz HS
  have step : ∀ (wr : World) (q : Nat), Outside b (b + 1) w wr → Src w0 wr b vC bs q → q ≤ 800100 → Calls Tryz.prog 103 #[.pointer (some ⟨b, 0, none⟩), .slice (some ⟨wr.heap.size, 0, none⟩) 5 5] (wr.alloc (.cells #[.string ⟨#[97]⟩, .string ⟨#[98]⟩, .string ⟨#[99]⟩, .string ⟨#[100, 105, 114]⟩, .string ⟨#[97]⟩] 9)) fun e w' => ∃ s, e = .returned (.string s) ∧ s ∈ segs ∧ Src w0 w' b vC bs (q + 3) ∧ Outside b (b + 1) w w' := fun wr q o s hq => by
    refine (pickN_any segs (by decide) w0 _ b wr.heap.size q vC bs (s.newer ((Below.refl _ _).alloc (Nat.le_refl _) _)) (by omega) (at_new rfl) (by have := s.size; omega)).mono ?_
    rintro e w' ⟨t, rfl, m, s', o', -⟩
    exact ⟨t, rfl, m, s', (o.trans (Outside.of_below ((Below.refl _ _).alloc (Nat.le_refl _) _))).trans o'⟩
  have STEP := hideIt step
  clear step
  obtain ⟨n, hn, hn12⟩ : ∃ n : Nat, 1 + r / 3 = (n : Int) ∧ (n = 1 ∨ n = 2) := by
    by_cases c : r < 3
    · exact ⟨1, by omega, .inl rfl⟩
    · exact ⟨2, by omega, .inr rfl⟩
  go_wp2
  go_loopw [3, 4] (fun vP i wr => ∃ (j q : Nat) (p : ByteArray), i = .int .i64 (j : Int) ∧ vP = .string p ∧ q + 3 * j ≤ k + 9 ∧ Hid ((j = n ∧ p = ⟨#[]⟩) ∨ (j = 1 ∧ p ∈ oneP) ∨ (j = 0 ∧ PathD p)) ∧ j ≤ 2 ∧ Hid (Src w0 wr b vC bs q ∧ Outside b (b + 1) w wr)) (fun _ i _ => (intOf i).toNat)
  case atStart => exact ⟨n, _, _, by go_num, rfl, by omega, .inl ⟨rfl, rfl⟩, by omega, S1.out, O1.out⟩
  case round =>
    obtain ⟨j, q, p, rfl, rfl, hq, P, j2, I⟩ := hrel
    by_cases c : 0 < j
    · have c0 : (0 : Int) < (j : Int) := by omega
      go_wp2_with fail
      refine (STEP.out _ q I.out.2 I.out.1 (by omega)).mono ?_
      rintro e w2 ⟨s, rfl, ms, hs2, ho2⟩
      have I2 := hideIt (And.intro hs2 ho2)
      have MS := hideIt ms
      have s1 : s.size ≤ 100 := (show ∀ s ∈ segs, s.size ≤ 100 by decide) s ms
      have p1 : p.size ≤ 100 := by
        rcases P.out with q | q | q
        · rw [q.2]; decide
        · exact PathD.size (.inl q.2)
        · exact PathD.size q.2
      have pe : Hid (p.size + (1 + s.size) ≤ 300) := by unfold Hid; omega
      clear ms hs2 ho2 I
      go_wp2
      go_roundw
      case rel =>
        refine ⟨j - 1, _, _, by go_num, rfl, by omega, ?_, by omega, I2⟩
        have e0 : (⟨#[]⟩ : ByteArray) ++ (slB ++ s) = slB ++ s := ByteArray.empty_append
        have m1 : slB ++ s ∈ oneP := List.mem_map.2 ⟨s, MS.out, rfl⟩
        rcases P.out with q | q | q
        · have e1 : p ++ (slB ++ s) = slB ++ s := by rw [q.2]; exact e0
          rcases hn12 with h | h
          · exact .inr (.inr ⟨by omega, .inl (by show p ++ (slB ++ s) ∈ oneP; rw [e1]; exact m1)⟩)
          · exact .inr (.inl ⟨by omega, (by show p ++ (slB ++ s) ∈ oneP; rw [e1]; exact m1)⟩)
        · exact .inr (.inr ⟨by omega, .inr (List.mem_flatMap.2 ⟨p, q.2, List.mem_map.2 ⟨s, MS.out, rfl⟩⟩)⟩)
        · omega
      case measure => simp [intOf]; omega
    · obtain rfl : j = 0 := by omega
      go_wp2
      go_ret
      refine ⟨_, rfl, ?_, I.out.1.more (by omega), I.out.2⟩
      rcases P.out with q | q | q
      · omega
      · omega
      · exact q.2
def any9 : List ByteArray := [⟨#[47]⟩, ⟨#[]⟩, ⟨#[97]⟩, ⟨#[47, 47]⟩, ⟨#[47, 97, 47]⟩, ⟨#[47, 65]⟩, ⟨#[47, 97, 47, 98, 47, 99, 47, 97, 47, 98, 47, 99]⟩, ⟨#[47, 97, 47, 98, 47, 99, 47, 97, 47, 98, 47, 99, 47, 100]⟩, ⟨#[47, 97, 47, 98, 47, 99, 47, 100]⟩]
set_option maxRecDepth 100000 in
set_option maxHeartbeats 4000000 in
theorem srcAnyPath_any (w0 w : World) (b k : Nat) (vC : Value) (bs : List Int) (h : Src w0 w b vC bs k) (hk : k ≤ 700000) :
    Calls Tryz.prog 55 #[.pointer (some ⟨b, 0, none⟩)] w fun e w' => ∃ p, e = .returned (.string p) ∧ p.size ≤ 100 ∧ Src w0 w' b vC bs (k + 12) ∧ Outside b (b + 1) w w' := by
  have HS := hideIt h
  clear h
  go_enter Tryz.func55, Tryz.ntmps55
  go_wp2_with fail
  refine (chanceN_any 6 (by omega) w0 _ b k vC bs HS.out (by omega)).mono ?_
  rintro e w1 ⟨r, rfl, hs, ho, hz⟩
  have S1 := hideIt hs
  have O1 := hideIt ho
  clear hs ho hz HS
  cases r with
  | true =>
    have PK := hideIt (pickN_any any9 (by decide) w0 (w1.alloc (.cells (any9.map Value.string).toArray 9)) b w1.heap.size (k + 3) vC bs (S1.out.newer ((Below.refl _ _).alloc (Nat.le_refl _) _)) (by omega) (at_new rfl) (by have := S1.out.size; omega))
    go_wp2_with fail
    refine PK.out.mono ?_
    rintro e w2 ⟨s, rfl, ms, hs, ho, -⟩
    have S2 := hideIt (hs.more (k' := k + 12) (by omega))
    have O2 := hideIt ((O1.out.trans (Outside.of_below ((Below.refl _ _).alloc (Nat.le_refl _) _))).trans ho)
    have Z := hideIt ((show ∀ s ∈ any9, s.size ≤ 100 by decide) s ms)
    clear hs ho ms PK
    go_wp2
    go_ret
    exact ⟨_, rfl, Z.out, S2.out, O2.out⟩
  | false =>
    go_wp2_with fail
    refine (srcPath_any w0 _ b (k + 3) vC bs S1.out (by omega)).mono ?_
    rintro e w2 ⟨s, rfl, ms, hs, ho⟩
    have S2 := hideIt hs
    have O2 := hideIt (O1.out.trans ho)
    have Z := hideIt ms.size
    clear hs ho ms
    go_wp2
    go_ret
    exact ⟨_, rfl, Z.out, S2.out, O2.out⟩
end Go.Proofs.YtjkdmhdehihcbaaGreatDoor
