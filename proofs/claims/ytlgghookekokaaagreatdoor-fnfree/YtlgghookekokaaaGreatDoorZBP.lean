/- Several texts laid together: HtA, FsJ. -/
import Derived.Test.YtlgghookekokaaaGreatDoorZBL
import Derived.Test.YtlgghookekokaaaGreatDoorZAK
import Derived.Test.YtlgghookekokaaaGreatDoorZAJ
namespace Go.Proofs.YtlgghookekokaaaGreatDoor
open Go.RowKit

theorem heat_mk {hs : List Int} (h : hs.length = 128) (k : ∀ k (h : k < hs.length), 0 ≤ hs[k] ∧ hs[k] ≤ 64) : heatB hs = true := decide_eq_true ⟨h, k⟩
theorem newH_heat : heatB (newH 128) = true := heat_mk (newH_len 128) (fun k h => by
  have e : (newH 128)[k] = 1 := List.eq_of_mem_replicate (List.getElem_mem h)
  rw [e]
  omega)
theorem touH_heat {hs : List Int} (h : heatB hs = true) (k : Nat) : heatB (touH hs k) = true := by
  obtain ⟨l, r⟩ := heat_parts h
  refine heat_mk (by unfold touH; rw [List.length_set]; exact l) (fun j hj => ?_)
  have m := List.getElem_mem hj
  generalize (touH hs k)[j] = z at m
  unfold touH at m
  have at_ : ∀ i, 0 ≤ hs.getD i 0 ∧ hs.getD i 0 ≤ 64 := fun i => by
    rw [List.getD_eq_getElem?_getD]
    rcases Nat.lt_or_ge i hs.length with q | q
    · rw [List.getElem?_eq_getElem q]
      exact r i q
    · rw [List.getElem?_eq_none q]
      exact ⟨Int.le_refl _, by decide⟩
  rcases List.mem_or_eq_of_mem_set m with q | rfl
  · obtain ⟨i, hi, rfl⟩ := List.getElem_of_mem q
    exact r i hi
  · have := at_ k
    omega
theorem decH_at {hs : List Int} (l : hs.length = 128) (j : Nat) (hj : j < 128) : (decH hs 128)[j]? = some (hs.getD j 0 / 2) := by
  unfold decH
  rw [List.getElem?_map, List.getElem?_take, if_pos hj, List.getD_eq_getElem?_getD, List.getElem?_eq_getElem (by omega)]
  rfl
theorem decH_128 {hs : List Int} (l : hs.length = 128) : (decH hs 128).length = 128 := by unfold decH; simp; omega
theorem decH_heat {hs : List Int} (h : heatB hs = true) : heatB (decH hs 128) = true := by
  obtain ⟨l, r⟩ := heat_parts h
  refine heat_mk (decH_128 l) (fun j hj => ?_)
  have hj' : j < 128 := by rw [decH_128 l] at hj; exact hj
  have e := decH_at l j hj'
  rw [List.getElem?_eq_getElem hj] at e
  obtain e := Option.some.inj e
  rw [e, List.getD_eq_getElem?_getD, List.getElem?_eq_getElem (by omega)]
  have := r j (by omega)
  simp only [Option.getD_some]
  omega

set_option maxRecDepth 100000 in
theorem chanceN_any (n : Int) (hn : 2 ≤ n ∧ n ≤ 1000) (w0 w : World) (b k : Nat) (vC : Value) (bs : List Int) (h : Src w0 w b vC bs k) (hk : k ≤ 900000) :
    Calls Tryz.prog 133 #[.pointer (some ⟨b, 0, none⟩), .int .i64 n] w fun e w' => ∃ r : Bool, e = .returned (.bool r) ∧ Src w0 w' b vC bs (k + 3) ∧ Outside b (b + 1) w w' ∧ w'.heap.size = w.heap.size := by
  have HS := hideIt h
  have wn : IntKind.i64.wrap (n - 1) = n - 1 := by rw [IntKind.wrap_i64]; omega
  clear h
  go_enter Tryz.func133, Tryz.ntmps133
  go_wp2_with fail
  refine (srcNext_any n hn w0 w b k vC bs HS.out hk).mono ?_
  rintro e w1 ⟨r, rfl, r0, r1, hs, ho, hz⟩
  have S1 := hideIt hs
  have O1 := hideIt ho
  clear hs ho
  go_wp2
  go_ret
  exact ⟨_, rfl, S1.out, O1.out, hz⟩

/-- In the midst of drawing heat. -/
structure HtI (w0 w wr : World) (b k : Nat) (vC : Value) (bs : List Int) (vL : Value) (hs : List Int) : Prop where
  heat : heatB hs = true
  row : Row wr 3 1 w.heap.size wr.heap.size vL 128 (ints hs)
  src : Src w0 wr b vC bs k
  out : Outside b (b + 1) w wr
theorem HtI.rd {w0 w wr : World} {b k : Nat} {vC : Value} {bs : List Int} {vL : Value} {hs : List Int} (h : HtI w0 w wr b k vC bs vL hs) : RdI wr vL hs := by
  unfold RdI
  rw [(heat_parts h.heat).1]
  exact h.row.rd
theorem HtI.drew {w0 w wr w' : World} {b k k' : Nat} {vC : Value} {bs : List Int} {vL : Value} {hs : List Int} (h : HtI w0 w wr b k vC bs vL hs) (hb : b < w.heap.size) (S : Src w0 w' b vC bs k') (O : Outside b (b + 1) wr w') : HtI w0 w w' b k' vC bs vL hs :=
  ⟨h.heat, (h.row.outside O (.inr (by omega)) (Nat.le_refl _)).wide (Nat.le_refl _) O.size, S, h.out.trans O⟩
theorem HtI.next {w0 w wr w' : World} {b k : Nat} {vC : Value} {bs : List Int} {vL vN : Value} {hs hn : List Int} (h : HtI w0 w wr b k vC bs vL hs) (hh : heatB hn = true) (R : Row w' 3 1 wr.heap.size w'.heap.size vN hn.length (ints hn)) (B : Below wr.heap.size wr w') : HtI w0 w w' b k vC bs vN hn :=
  ⟨hh, by rw [← (heat_parts hh).1]; exact R.wide h.out.size (Nat.le_refl _), h.src.newer B, h.out.trans (Outside.of_below B)⟩

set_option maxRecDepth 100000 in
set_option maxHeartbeats 8000000 in
theorem srcHeat_any (w0 w : World) (b k : Nat) (vC : Value) (bs : List Int) (h : Src w0 w b vC bs k) (hk : k ≤ 800000) :
    Calls Tryz.prog 90 #[.pointer (some ⟨b, 0, none⟩)] w fun e w' => ∃ v' hs k', e = .returned v' ∧ k' ≤ k + 200 ∧ HtI w0 w w' b k' vC bs v' hs := by
  have hsz := h.size
  have HS := hideIt h
  clear h
  go_enter Tryz.func90, Tryz.ntmps90
  go_wp2_with fail
  refine (l09New_any w).mono ?_
  rintro e w1 ⟨v1, rfl, hr1, hb1⟩
  rw [newH_len] at hr1
  have S1 := hideIt (HS.out.newer hb1)
  have I1 : Hid (HtI w0 w w1 b k vC bs v1 (newH 128)) := ⟨newH_heat, hr1, S1.out, Outside.of_below hb1⟩
  obtain ⟨-, a1, c1, hv1, -⟩ := hr1.rd
  subst hv1
  clear hr1 hb1
  go_wp2_with fail
  refine (srcNext_any 12 (by omega) w0 _ b k vC bs S1.out (by omega)).mono ?_
  rintro e w2 ⟨r, rfl, r0, r1, hs, ho, hz⟩
  have I2 := hideIt (I1.out.drew hsz hs ho)
  clear hs ho hz I1 S1
  obtain ⟨n, rfl⟩ : ∃ n : Nat, r = (n : Int) := ⟨r.toNat, by omega⟩
  have n12 : n < 12 := by omega
  go_wp2
  go_loopw [3, 4] (fun vL i wr => ∃ (j q : Nat) (hs : List Int), j < 12 ∧ i = .int .i64 (j : Int) ∧ q + 10 * j ≤ k + 150 ∧ Hid (HtI w0 w wr b q vC bs vL hs)) (fun _ i _ => (intOf i).toNat)
  case atStart => exact ⟨n, _, _, n12, rfl, by omega, I2⟩
  case round =>
    obtain ⟨j, q, hs, hj, rfl, hq, I⟩ := hrel
    clear I2
    by_cases c : 0 < j
    · have c0 : (0 : Int) < (j : Int) := by omega
      obtain ⟨-, aL, cL, hvL, -⟩ := I.out.row.rd
      subst hvL
      go_wp2_with fail
      refine (srcNext_any 4 (by omega) w0 _ b q vC bs I.out.src (by omega)).mono ?_
      rintro e w3 ⟨ra, rfl, ra0, ra1, hs3, ho3, hz3⟩
      have I3 := hideIt (I.out.drew hsz hs3 ho3)
      clear hs3 ho3 hz3 I
      go_wp2_with fail
      refine (srcNext_any 8 (by omega) w0 _ b _ vC bs I3.out.src (by omega)).mono ?_
      rintro e w4 ⟨rb, rfl, rb0, rb1, hs4, ho4, hz4⟩
      have I4 := hideIt (I3.out.drew hsz hs4 ho4)
      clear hs4 ho4 hz4 I3
      obtain ⟨a, rfl⟩ : ∃ a : Nat, ra = (a : Int) := ⟨ra.toNat, by omega⟩
      obtain ⟨p, rfl⟩ : ∃ p : Nat, rb = (p : Int) := ⟨rb.toNat, by omega⟩
      have LT := hideIt (l09Touch_any _ hs a p w4 I4.out.rd (heat_parts I4.out.heat).1 (heat_parts I4.out.heat).2 (by omega) (by omega))
      go_wp2_with fail
      refine LT.out.mono ?_
      rintro e w5 ⟨v5, rfl, hr5, hb5⟩
      have I5 := hideIt (I4.out.next (touH_heat I4.out.heat _) hr5 hb5)
      clear hr5 hb5 I4 LT
      generalize touH hs (8 * a + p) = H5 at *
      obtain ⟨-, a5, c5, hv5, -⟩ := I5.out.row.rd
      subst hv5
      go_wp2_with fail
      refine (chanceN_any 5 (by omega) w0 _ b _ vC bs I5.out.src (by omega)).mono ?_
      rintro e w6 ⟨rc, rfl, hs6, ho6, hz6⟩
      have I6 := hideIt (I5.out.drew hsz hs6 ho6)
      clear hs6 ho6 hz6 I5
      cases rc with
      | false =>
        go_wp2
        go_roundw
        case rel => exact ⟨j - 1, _, _, by omega, by go_num, by omega, I6⟩
        case measure => simp [intOf]; omega
      | true =>
        have LD := hideIt (l09Decay_any _ H5 w6 I6.out.rd (heat_parts I6.out.heat).1 (heat_parts I6.out.heat).2)
        go_wp2_with fail
        refine LD.out.mono ?_
        rintro e w7 ⟨v7, rfl, hr7, hb7⟩
        have I7 := hideIt (I6.out.next (decH_heat I6.out.heat) hr7 hb7)
        clear hr7 hb7 I6 LD
        obtain ⟨-, a7, c7, hv7, -⟩ := I7.out.row.rd
        subst hv7
        go_wp2
        go_roundw
        case rel => exact ⟨j - 1, _, _, by omega, by go_num, by omega, I7⟩
        case measure => simp [intOf]; omega
    · obtain rfl : j = 0 := by omega
      obtain ⟨-, aL, cL, hvL, -⟩ := I.out.row.rd
      subst hvL
      go_wp2
      go_ret
      exact ⟨_, _, _, rfl, by omega, I.out⟩

set_option maxRecDepth 100000 in
theorem heatOf_any (v : Value) (bs : List Int) (w : World) (h : RdB w v bs) (hl : bs.length ≤ 1048576) :
    Calls Tryz.prog 37 #[v] w fun e w' => ∃ v' hs, e = .returned v' ∧ heatB hs = true ∧ Row w' 3 1 w.heap.size w'.heap.size v' 128 (ints hs) ∧ Below w.heap.size w w' := by
  have H := hideIt h
  obtain ⟨aC, cC, rfl, _⟩ := h.shape
  clear h
  go_enter Tryz.func37, Tryz.ntmps37
  go_wp2_with fail
  refine (l00Source_any _ bs w H.out hl).mono ?_
  rintro e w1 ⟨rfl, S, hb⟩
  have S1 := hideIt S.src
  have B1 := hideIt hb
  clear S hb
  go_wp2_with fail
  refine (srcHeat_any w w1 _ _ _ bs S1.out (by omega)).mono ?_
  rintro e w2 ⟨v', hs, k', rfl, -, I⟩
  have B2 := hideIt (B1.out.trans (I.out.below (Nat.le_refl _) B1.out.size))
  have R2 := hideIt (I.row.wide (lo' := w.heap.size) (hi' := w2.heap.size) B1.out.size (Nat.le_refl _))
  have HE := hideIt I.heat
  obtain ⟨-, aL, cL, hvL, -⟩ := I.row.rd
  subst hvL
  clear I
  go_wp2
  go_ret
  exact ⟨_, _, rfl, HE.out, R2.out, B2.out⟩
end Go.Proofs.YtlgghookekokaaaGreatDoor

namespace Go.Proofs.YtlgghookekokaaaGreatDoor
open Go.RowKit

set_option maxRecDepth 100000 in
set_option maxHeartbeats 4000000 in
theorem pickN_any (ss : List ByteArray) (hn : 2 ≤ ss.length ∧ ss.length ≤ 1000) (w0 w : World) (b bl k : Nat) (vC : Value) (bs : List Int) (h : Src w0 w b vC bs k) (hk : k ≤ 900000) (hl : w.heap[bl]? = some (.cells (ss.map Value.string).toArray 9 (0, 0))) (hbl : bl ≠ b) :
    Calls Tryz.prog 128 #[.pointer (some ⟨b, 0, none⟩), .slice (some ⟨bl, 0, none⟩) ss.length ss.length] w fun e w' => ∃ s, e = .returned (.string s) ∧ s ∈ ss ∧ Src w0 w' b vC bs (k + 3) ∧ Outside b (b + 1) w w' ∧ w'.heap.size = w.heap.size := by
  have HS := hideIt h
  have HL := hideIt hl
  have lt : Hid (bl < w.heap.size) := (Array.getElem?_eq_some_iff.1 hl).1
  have h0 : ((ss.length : Int) == 0) = false := by rw [beq_eq_false_iff_ne]; omega
  have NX := hideIt (srcNext_any (ss.length : Int) (by omega) w0 w b k vC bs HS.out hk)
  obtain ⟨n1, n2⟩ := hn
  clear h hl
  go_enter Tryz.func128, Tryz.ntmps128
  go_wp2_with fail
  refine NX.out.mono ?_
  rintro e w1 ⟨r, rfl, r0, r1, hs, ho, hz⟩
  have S1 := hideIt hs
  have O1 := hideIt ho
  obtain ⟨j, rfl⟩ := Int.eq_ofNat_of_zero_le r0
  have hj : j < ss.length := by omega
  have hc : w1.cell? ⟨bl, j, none⟩ = some (.string ss[j]) := by
    have := (ho.block bl lt.out (by omega)).trans HL.out
    simp [World.cell?, this, hj]
  have EM := hideIt (List.getElem_mem hj)
  generalize ss[j] = s at hc EM
  clear hs ho NX
  go_wp2
  go_ret
  exact ⟨_, rfl, EM.out, S1.out, O1.out, hz⟩

def slB : ByteArray := ⟨#[47]⟩
def segs : List ByteArray := [⟨#[97]⟩, ⟨#[98]⟩, ⟨#[99]⟩, ⟨#[100, 105, 114]⟩, ⟨#[97]⟩]
def oneP : List ByteArray := segs.map fun s => slB ++ s
def twoP : List ByteArray := oneP.flatMap fun p => segs.map fun s => p ++ (slB ++ s)
/-- The paths that are drawn. -/
def PathD (p : ByteArray) : Prop := p ∈ oneP ∨ p ∈ twoP
theorem PathD.size {p : ByteArray} (h : PathD p) : p.size ≤ 100 := by
  have : ∀ p ∈ oneP ++ twoP, p.size ≤ 100 := by decide
  exact this p (List.mem_append.2 h)

set_option maxRecDepth 100000 in
set_option maxHeartbeats 4000000 in
theorem srcPath_any (w0 w : World) (b k : Nat) (vC : Value) (bs : List Int) (h : Src w0 w b vC bs k) (hk : k ≤ 800000) :
    Calls Tryz.prog 87 #[.pointer (some ⟨b, 0, none⟩)] w fun e w' => ∃ p, e = .returned (.string p) ∧ PathD p ∧ Src w0 w' b vC bs (k + 9) ∧ Outside b (b + 1) w w' := by
  have hsz := h.size
  have HS := hideIt h
  clear h
  go_enter Tryz.func87, Tryz.ntmps87
  go_wp2_with fail
  refine (srcNext_any 5 (by omega) w0 _ b k vC bs HS.out (by omega)).mono ?_
  rintro e w1 ⟨r, rfl, r0, r1, hs, ho, hz⟩
  have S1 := hideIt hs
  have O1 := hideIt ho
  clear hs ho hz HS
  have step : ∀ (wr : World) (q : Nat), Outside b (b + 1) w wr → Src w0 wr b vC bs q → q ≤ 800100 → Calls Tryz.prog 128 #[.pointer (some ⟨b, 0, none⟩), .slice (some ⟨wr.heap.size, 0, none⟩) 5 5] (wr.alloc (.cells #[.string ⟨#[97]⟩, .string ⟨#[98]⟩, .string ⟨#[99]⟩, .string ⟨#[100, 105, 114]⟩, .string ⟨#[97]⟩] 9)) fun e w' => ∃ s, e = .returned (.string s) ∧ s ∈ segs ∧ Src w0 w' b vC bs (q + 3) ∧ Outside b (b + 1) w w' := fun wr q o s hq => by
    refine (pickN_any segs (by decide) w0 _ b wr.heap.size q vC bs (s.newer ((Below.refl _ _).alloc (Nat.le_refl _) _)) (by omega) (at_new rfl) (by have := s.size; omega)).mono ?_
    rintro e w' ⟨t, rfl, m, s', o', -⟩
    exact ⟨t, rfl, m, s', (o.trans (Outside.of_below ((Below.refl _ _).alloc (Nat.le_refl _) _))).trans o'⟩
  have STEP := hideIt step
  clear step
  obtain ⟨n, hn, hn12⟩ : ∃ n : Nat, 1 + r / 3 = (n : Int) ∧ (n = 1 ∨ n = 2) := by
    by_cases c : r < 3
    · exact ⟨1, by omega, .inl rfl⟩
    · exact ⟨2, by omega, .inr rfl⟩
  go_wp2
  go_loopw [3, 4] (fun vP i wr => ∃ (j q : Nat) (p : ByteArray), i = .int .i64 (j : Int) ∧ vP = .string p ∧ q + 3 * j ≤ k + 9 ∧ Hid ((j = n ∧ p = ⟨#[]⟩) ∨ (j = 1 ∧ p ∈ oneP) ∨ (j = 0 ∧ PathD p)) ∧ j ≤ 2 ∧ Hid (Src w0 wr b vC bs q ∧ Outside b (b + 1) w wr)) (fun _ i _ => (intOf i).toNat)
  case atStart => exact ⟨n, _, _, by go_num, rfl, by omega, .inl ⟨rfl, rfl⟩, by omega, S1.out, O1.out⟩
  case round =>
    obtain ⟨j, q, p, rfl, rfl, hq, P, j2, I⟩ := hrel
    by_cases c : 0 < j
    · have c0 : (0 : Int) < (j : Int) := by omega
      go_wp2_with fail
      refine (STEP.out _ q I.out.2 I.out.1 (by omega)).mono ?_
      rintro e w2 ⟨s, rfl, ms, hs2, ho2⟩
      have I2 := hideIt (And.intro hs2 ho2)
      have MS := hideIt ms
      have s1 : s.size ≤ 100 := (show ∀ s ∈ segs, s.size ≤ 100 by decide) s ms
      have p1 : p.size ≤ 100 := by
        rcases P.out with q | q | q
        · rw [q.2]; decide
        · exact PathD.size (.inl q.2)
        · exact PathD.size q.2
      have pe : Hid (p.size + (1 + s.size) ≤ 300) := by unfold Hid; omega
      clear ms hs2 ho2 I
      go_wp2
      go_roundw
      case rel =>
        refine ⟨j - 1, _, _, by go_num, rfl, by omega, ?_, by omega, I2⟩
        have e0 : (⟨#[]⟩ : ByteArray) ++ (slB ++ s) = slB ++ s := ByteArray.empty_append
        have m1 : slB ++ s ∈ oneP := List.mem_map.2 ⟨s, MS.out, rfl⟩
        rcases P.out with q | q | q
        · have e1 : p ++ (slB ++ s) = slB ++ s := by rw [q.2]; exact e0
          rcases hn12 with h | h
          · exact .inr (.inr ⟨by omega, .inl (by show p ++ (slB ++ s) ∈ oneP; rw [e1]; exact m1)⟩)
          · exact .inr (.inl ⟨by omega, (by show p ++ (slB ++ s) ∈ oneP; rw [e1]; exact m1)⟩)
        · exact .inr (.inr ⟨by omega, .inr (List.mem_flatMap.2 ⟨p, q.2, List.mem_map.2 ⟨s, MS.out, rfl⟩⟩)⟩)
        · omega
      case measure => simp [intOf]; omega
    · obtain rfl : j = 0 := by omega
      go_wp2
      go_ret
      refine ⟨_, rfl, ?_, I.out.1.more (by omega), I.out.2⟩
      rcases P.out with q | q | q
      · omega
      · omega
      · exact q.2

def any9 : List ByteArray := [⟨#[47]⟩, ⟨#[]⟩, ⟨#[97]⟩, ⟨#[47, 47]⟩, ⟨#[47, 97, 47]⟩, ⟨#[47, 65]⟩, ⟨#[47, 97, 47, 98, 47, 99, 47, 97, 47, 98, 47, 99]⟩, ⟨#[47, 97, 47, 98, 47, 99, 47, 97, 47, 98, 47, 99, 47, 100]⟩, ⟨#[47, 97, 47, 98, 47, 99, 47, 100]⟩]
set_option maxRecDepth 100000 in
set_option maxHeartbeats 4000000 in
theorem srcAnyPath_any (w0 w : World) (b k : Nat) (vC : Value) (bs : List Int) (h : Src w0 w b vC bs k) (hk : k ≤ 700000) :
    Calls Tryz.prog 195 #[.pointer (some ⟨b, 0, none⟩)] w fun e w' => ∃ p, e = .returned (.string p) ∧ p.size ≤ 100 ∧ Src w0 w' b vC bs (k + 12) ∧ Outside b (b + 1) w w' := by
  have HS := hideIt h
  clear h
  go_enter Tryz.func195, Tryz.ntmps195
  go_wp2_with fail
  refine (chanceN_any 6 (by omega) w0 _ b k vC bs HS.out (by omega)).mono ?_
  rintro e w1 ⟨r, rfl, hs, ho, hz⟩
  have S1 := hideIt hs
  have O1 := hideIt ho
  clear hs ho hz HS
  cases r with
  | true =>
    have PK := hideIt (pickN_any any9 (by decide) w0 (w1.alloc (.cells (any9.map Value.string).toArray 9)) b w1.heap.size (k + 3) vC bs (S1.out.newer ((Below.refl _ _).alloc (Nat.le_refl _) _)) (by omega) (at_new rfl) (by have := S1.out.size; omega))
    go_wp2_with fail
    refine PK.out.mono ?_
    rintro e w2 ⟨s, rfl, ms, hs, ho, -⟩
    have S2 := hideIt (hs.more (k' := k + 12) (by omega))
    have O2 := hideIt ((O1.out.trans (Outside.of_below ((Below.refl _ _).alloc (Nat.le_refl _) _))).trans ho)
    have Z := hideIt ((show ∀ s ∈ any9, s.size ≤ 100 by decide) s ms)
    clear hs ho ms PK
    go_wp2
    go_ret
    exact ⟨_, rfl, Z.out, S2.out, O2.out⟩
  | false =>
    go_wp2_with fail
    refine (srcPath_any w0 _ b (k + 3) vC bs S1.out (by omega)).mono ?_
    rintro e w2 ⟨s, rfl, ms, hs, ho⟩
    have S2 := hideIt hs
    have O2 := hideIt (O1.out.trans ho)
    have Z := hideIt ms.size
    clear hs ho ms
    go_wp2
    go_ret
    exact ⟨_, rfl, Z.out, S2.out, O2.out⟩

set_option maxRecDepth 100000 in
theorem srcSize_any (w0 w : World) (b k : Nat) (vC : Value) (bs : List Int) (h : Src w0 w b vC bs k) :
    Calls Tryz.prog 145 #[.pointer (some ⟨b, 0, none⟩), .int .i64 20] w fun e w' => ∃ r : Int, e = .returned (.int .i64 r) ∧ 1 ≤ r ∧ r ≤ 20 ∧ w' = w := by
  obtain ⟨aC, cC, rfl, _⟩ := h.code.shape
  obtain ⟨at_, seed, _, _, _, _, hc⟩ := h.cells
  obtain ⟨c0, -, -, -⟩ := src_cells hc
  have hl := h.len
  clear h hc
  have cc : ((bs.length : Int) / 12) ≤ 100000 ∧ 0 ≤ ((bs.length : Int) / 12) := by omega
  go_enter Tryz.func145, Tryz.ntmps145
  go_wp2
  all_goals
    go_ret
    exact ⟨_, rfl, by omega, by omega, rfl⟩
end Go.Proofs.YtlgghookekokaaaGreatDoor
