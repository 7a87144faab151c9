/- What is kept, drawn; a word, drawn; the choices of a law. -/
import Derived.Test.YtbjcoeimcdodjaaDoorDraw
namespace Go.Proofs.YtbjcoeimcdodjaaDoor
open Go.RowKit
set_option maxRecDepth 100000 in
theorem l00Source_any (v : Value) (bs : List Int) (w : World) (h : RdB w v bs) (hl : bs.length ≤ 1048576) :
    Calls Tryd.prog 27 #[v] w fun e w' => e = .returned (.pointer (some ⟨w.heap.size, 0, none⟩)) ∧ SrcE w w' w.heap.size v bs 0 ((bs.length : Int) % 1000) ∧ Below w.heap.size w w' := by
  have H := hideIt h
  obtain ⟨aC, cC, rfl, _⟩ := h.shape
  clear h
  have hm : (0 : Int) ≤ (bs.length : Int) := by omega
  go_enter Tryd.func27, Tryd.ntmps27
  go_wp2
  go_ret
  refine ⟨rfl, ⟨⟨H.out, hl, Nat.le_refl _, (Below.refl _ _).alloc (Nat.le_refl _) _, by simp, 0, (bs.length : Int) % 1000, by omega, by omega, by omega, by omega, at_new rfl⟩, by omega, by omega, at_new rfl⟩, (Below.refl _ _).alloc (Nat.le_refl _) _⟩
set_option maxRecDepth 100000 in
theorem wordOf_any (v : Value) (bs : List Int) (w : World) (h : RdB w v bs) (hl : bs.length ≤ 1048576) :
    Calls Tryd.prog 7 #[v] w fun e w' => ∃ r : Int, e = .returned (.int .i64 r) ∧ 0 ≤ r ∧ r < 1099511627776 ∧ Below w.heap.size w w' := by
  have H := hideIt h
  obtain ⟨aC, cC, rfl, _⟩ := h.shape
  clear h
  go_enter Tryd.func7, Tryd.ntmps7
  go_wp2_with fail
  refine (l00Source_any _ bs w H.out hl).mono ?_
  rintro e w1 ⟨rfl, S, hb⟩
  have S1 := hideIt S
  have B1 := hideIt hb
  clear S hb
  go_wp2_with fail
  refine (srcWord_any w w1 _ 0 _ bs S1.out.src (by omega)).mono ?_
  rintro e w2 ⟨r, rfl, r0, r1, S, ho⟩
  have B2 := hideIt (B1.out.trans (ho.below (Nat.le_refl _) B1.out.size))
  clear S ho
  go_wp2
  go_ret
  exact ⟨_, rfl, r0, r1, B2.out⟩
def sdF (bs : List Int) : Nat → Int
  | 0 => (bs.length : Int) % 1000
  | i + 1 => byteS bs i (sdF bs i)
def keepN (bs : List Int) : Nat := (byteR bs 0 (sdF bs 0) % 6).toNat
def keepL (bs : List Int) (n : Nat) : List Int := (List.range n).map (fun j => byteR bs (j + 1) (sdF bs (j + 1)) % 4)
def keepZ (bs : List Int) : List Int := keepL bs (keepN bs)
theorem keepL_len (bs : List Int) (n : Nat) : (keepL bs n).length = n := by simp [keepL]
theorem keepL_snoc (bs : List Int) (n : Nat) : keepL bs (n + 1) = keepL bs n ++ [byteR bs (n + 1) (sdF bs (n + 1)) % 4] := by simp [keepL, List.range_succ]
theorem keepN_lt (bs : List Int) : keepN bs < 6 := by unfold keepN; omega
theorem keepZ_len (bs : List Int) : (keepZ bs).length < 6 := by unfold keepZ; rw [keepL_len]; exact keepN_lt bs
theorem keepZ_ok (bs : List Int) : ∀ z ∈ keepZ bs, 0 ≤ z ∧ z < 4 := by
  intro z hz
  obtain ⟨j, _, rfl⟩ := List.mem_map.1 hz
  omega
set_option maxRecDepth 100000 in
set_option maxHeartbeats 8000000 in
theorem srcKeeps_any (w0 w : World) (b : Nat) (vC : Value) (bs : List Int) (h : SrcE w0 w b vC bs 0 (sdF bs 0)) :
    Calls Tryd.prog 35 #[.pointer (some ⟨b, 0, none⟩)] w fun e w' => ∃ v', e = .returned v' ∧ Row w' 3 1 w.heap.size w'.heap.size v' (keepZ bs).length (ints (keepZ bs)) ∧ Outside b (b + 1) w w' := by
  have hsz := h.src.size
  have HC := hideIt h.src.code
  have HS := hideIt (h.newer ((Below.refl _ _).alloc (Nat.le_refl _) (.cells #[] 3)))
  have O0 := hideIt (Outside.of_below (lo := b) (hi := b + 1) ((Below.refl w.heap.size w).alloc (Nat.le_refl _) (.cells #[] 3)))
  have ho : (w.alloc (.cells #[] 3)).ownsRow w.heap.size 3 1 (.slice (some ⟨w.heap.size, 0, none⟩) 0 0) 0 [] := by
    simpa using World.ownsRow_lit (base := w.heap.size) (e := 3) (size := 1) w #[] 0 (by simp) (by simp) rfl
  have OW := hideIt ho
  clear h ho
  go_enter Tryd.func35, Tryd.ntmps35
  go_wp2_with fail
  refine (srcNext_exact 6 (by omega) w0 _ b 0 vC bs _ HS.out (by omega)).mono ?_
  rintro e w1 ⟨rfl, hs, ho, hz⟩
  have S1 : Hid (SrcE w0 w1 b vC bs 1 (sdF bs 1)) := hs
  have O1 := hideIt (O0.out.trans ho)
  have OW1 := hideIt ((own_block OW.out).outside ho (.inr (by omega)) (by simp))
  have hn0 := keepN_lt bs
  have e0 : byteR bs 0 (sdF bs 0) % 6 = (keepN bs : Int) := by unfold keepN; omega
  rw [e0]
  clear hs ho e0
  go_wp2
  go_loopw [3, 4] (fun vL i wr => ∃ (n m : Nat), i = .int .i64 n ∧ m + n = keepN bs ∧ Hid (wr.ownsRow w.heap.size 3 1 vL m (ints (keepL bs m)) ∧ SrcE w0 wr b vC bs (m + 1) (sdF bs (m + 1)) ∧ Outside b (b + 1) w wr) ∧ w.heap.size + 1 ≤ wr.heap.size) (fun _ i _ => (intOf i).toNat)
  case atStart => exact ⟨keepN bs, 0, rfl, by omega, ⟨OW1.out.1, S1.out, O1.out⟩, by simp at hz; omega⟩
  case round =>
    obtain ⟨n, m, rfl, hl, I, hz1⟩ := hrel
    by_cases c : 0 < n
    · go_wp2_with fail
      refine (srcNext_exact 4 (by omega) w0 _ b _ vC bs _ I.out.2.1 (by omega)).mono ?_
      rintro e w2 ⟨rfl, hs, ho, hz2⟩
      have E := hideIt (keepL_snoc bs m)
      have S0 : Hid (SrcE w0 w2 b vC bs (m + 1 + 1) (sdF bs (m + 1 + 1))) := hs
      clear hs
      generalize byteR bs (m + 1) (sdF bs (m + 1)) % 4 = r' at *
      have R2 := hideIt ((own_block I.out.1).outside ho (.inr (by omega)) (Nat.le_refl _))
      have O2 := hideIt (R2.out.1.alloc (.cells #[.int .i64 r'] 3))
      have S2 := hideIt (S0.out.newer ((Below.refl _ _).alloc (Nat.le_refl _) (.cells #[.int .i64 r'] 3)))
      have T2 := hideIt ((I.out.2.2.trans ho).trans (Outside.of_below ((Below.refl _ _).alloc (Nat.le_refl _) (.cells #[.int .i64 r'] 3))))
      have HRD := hideIt (rd_int w2 r')
      have hz2a := Nat.le_of_eq hz2
      have hz2b := Nat.le_of_eq hz2.symm
      clear ho hz2
      go_wp2_with (at_builtin; refine wpList_append_rd _ rfl (.tmp 12) (.tmp 15) 23 rfl w.heap.size 3 (.int .i64 0) 1 8 Tryd.underlying23 info3 rfl (by decide) _ _ _ rfl O2.out _ 1 _ rfl HRD.out (by simp [Value.oneCell']) (by simp [maxLen]; omega) (by omega) (by simp; omega) ?_)
      intro vN wN hownN hgrN
      have hl := fun k hk => (O2.out.lt k hk).1
      have hzN := hgrN.size
      simp only [World.size_alloc] at hzN
      have ON : Outside w.heap.size wN.heap.size (w2.alloc (.cells #[.int .i64 r'] 3)) wN := ⟨hgrN.os, hgrN.tape, hgrN.output, hgrN.size, fun j hj ho => hgrN.block j hj (fun e => by have := hl _ e.symm; simp only [World.size_alloc] at hj; omega)⟩
      have G : Hid (wN.ownsRow w.heap.size 3 1 vN (m + 1) (ints (keepL bs (m + 1))) ∧ SrcE w0 wN b vC bs (m + 1 + 1) (sdF bs (m + 1 + 1)) ∧ Outside b (b + 1) w wN) := by
        refine ⟨?_, ?_, ?_⟩
        · rw [E.out, ints_snoc]
          exact hownN
        · refine S2.out.outside ON (.inl hsz) ?_
          have := S2.out.src.old
          omega
        · refine ⟨ON.os.trans T2.out.os, ON.tape.trans T2.out.tape, ON.output.trans T2.out.output, Nat.le_trans T2.out.size ON.size, fun j hj hjo => (ON.block j ?_ (.inl hj)).trans (T2.out.block j hj hjo)⟩
          simp only [World.size_alloc]; omega
      clear hownN hgrN hl ON
      go_wp2
      go_roundw
      case rel => exact ⟨n - 1, m + 1, by go_num, by omega, G, by omega⟩
      case measure => simp [intOf]; omega
    · have e : n = 0 := by omega
      subst e
      obtain rfl : m = keepN bs := by omega
      obtain ⟨aL, cL, hvL⟩ := RdI.form (zs := keepL bs (keepN bs)) (by rw [RdI, keepL_len]; exact (own_block I.out.1).rd) (keepL_len _ _)
      subst hvL
      go_wp2
      go_ret
      refine ⟨_, rfl, ?_, I.out.2.2⟩
      unfold keepZ
      rw [keepL_len]
      exact own_block I.out.1
set_option maxRecDepth 100000 in
theorem keepsOf_any (v : Value) (bs : List Int) (w : World) (h : RdB w v bs) (hl : bs.length ≤ 1048576) :
    Calls Tryd.prog 12 #[v] w fun e w' => ∃ v', e = .returned v' ∧ Row w' 3 1 w.heap.size w'.heap.size v' (keepZ bs).length (ints (keepZ bs)) ∧ Below w.heap.size w w' := by
  have H := hideIt h
  obtain ⟨aC, cC, rfl, _⟩ := h.shape
  clear h
  go_enter Tryd.func12, Tryd.ntmps12
  go_wp2_with fail
  refine (l00Source_any _ bs w H.out hl).mono ?_
  rintro e w1 ⟨rfl, S, hb⟩
  have S1 := hideIt S
  have B1 := hideIt hb
  clear S hb
  go_wp2_with fail
  refine (srcKeeps_any w w1 _ _ bs S1.out).mono ?_
  rintro e w2 ⟨v', rfl, hr, ho⟩
  have B2 := hideIt (B1.out.trans (ho.below (Nat.le_refl _) B1.out.size))
  have R2 := hideIt (hr.wide (lo' := w.heap.size) (hi' := w2.heap.size) B1.out.size (Nat.le_refl _))
  obtain ⟨aL, cL, hvL⟩ := RdI.form hr.rd rfl
  subst hvL
  clear hr ho
  go_wp2
  go_ret
  exact ⟨_, rfl, R2.out, B2.out⟩
end Go.Proofs.YtbjcoeimcdodjaaDoor
