/- Numbers told in digits: by the model (spec.l00Digits is Lib.itoa). -/
import Derived.Test.YtjkdmhdehihcbaaGreatDoorZAC
import Derived.Test.YtjkdmhdehihcbaaGreatDoorOrdT
import Derived.Lib.ItoaNum
import Derived.Deep.DeepCutAuto
namespace Go.Proofs.YtjkdmhdehihcbaaGreatDoor
open Go.RowKit
theorem wpAnyT_two {P : Program} {ops : Array Oper} {Q : Exit → Act → World → Prop} {md : Region.Mode} {S : World → Prop} {z i j : Nat} {oi oj : Oper} {fuel : Nat} {l : Array Bool} {a : Act} {w : World} (hoi : ops[i]? = some oi) (hoj : ops[j]? = some oj) (hr : Region.ready md ops l = [i, j])
    (h1 : ∀ K' : Act → World → Prop, Hid (∀ a w, (i ≠ z → S w) → wpAnyT P md ops Q S z fuel (l.setIfInBounds i true) a w → K' a w) → if Region.wanted oi (yielded ops a.tmps) = true then Oper.wp P oi a w K' Q else K' (a.put oi.dst undef) w)
    (h2 : ∀ K' : Act → World → Prop, Hid (∀ a w, (j ≠ z → S w) → wpAnyT P md ops Q S z fuel (l.setIfInBounds j true) a w → K' a w) → if Region.wanted oj (yielded ops a.tmps) = true then Oper.wp P oj a w K' Q else K' (a.put oj.dst undef) w) :
    wpAnyT P md ops Q S z (fuel + 1) l a w := by
  refine ⟨fun h0 => (by rw [hr] at h0; cases h0), fun k hk => ?_⟩
  rw [hr] at hk
  rcases List.mem_cons.1 hk with rfl | hk
  · exact wpOp_step hoi (fun K' hK => h1 K' (fun a w hS hW => hK a w ⟨hS, hW⟩))
  · obtain rfl := List.mem_singleton.1 hk
    exact wpOp_step hoj (fun K' hK => h2 K' (fun a w hS hW => hK a w ⟨hS, hW⟩))
def dgT (u : Nat) : ByteArray := ⟨(Lib.decDigits u).toArray⟩
def itT (n : Int) : ByteArray := ⟨(Lib.itoa n).toArray⟩
theorem dg_one {u : Nat} (h : u < 10) : dgT u = ⟨#[UInt8.ofNat (48 + u)]⟩ := by
  unfold dgT
  rw [Lib.decDigits, dif_pos h]
theorem dg_more {u : Nat} (h : ¬ u < 10) : dgT u = dgT (u / 10) ++ ⟨#[UInt8.ofNat (48 + u % 10)]⟩ := by
  unfold dgT
  rw [Lib.decDigits, dif_neg h]
  apply ByteArray.ext
  simp
theorem dg_len : ∀ (f u : Nat), u < 10 ^ f → (dgT u).size ≤ f + 1
  | 0, u, h => by
    rw [dg_one (by simpa using Nat.lt_of_lt_of_le h (by decide))]
    exact Nat.le_refl _
  | f + 1, u, h => by
    by_cases c : u < 10
    · rw [dg_one c]
      show 1 ≤ _
      omega
    · rw [dg_more c, ByteArray.size_append]
      have := dg_len f (u / 10) (by rw [Nat.pow_succ] at h; omega)
      show _ + 1 ≤ _
      omega
theorem it_nat (u : Nat) : itT u = dgT u := by
  unfold itT dgT Lib.itoa
  rw [if_neg (by omega)]
  rfl
theorem it_neg {n : Int} (h : n < 0) : itT n = ⟨#[45]⟩ ++ dgT n.natAbs := by
  unfold itT dgT Lib.itoa
  rw [if_pos h]
  apply ByteArray.ext
  simp
set_option maxRecDepth 100000 in
set_option maxHeartbeats 2000000 in
theorem l00Digits_nat : ∀ (f n : Nat) (w : World), n < 10 ^ f → n ≤ 9223372036854775807 → f ≤ 20 →
    Calls Tryz.prog 67 #[.int .i64 n] w fun e w' => e = .returned (.string (dgT n)) ∧ Below w.heap.size w w'
  | 0, n, w, h, _, _ => by
    obtain rfl : n = 0 := by simpa using h
    have hcv := run_convert_bytes_arg (P := Tryz.prog) (w.alloc (.cells #[.int .u8 48] 5)) 22 5 Tryz.underlying22 Tryz.underlying5 w.heap.size 0 1 1 [48] rfl (fun i hi => by
      obtain rfl : i = 0 := by omega
      exact World.cell?_alloc_mark w #[.int .u8 48] 5 (0, 0) 0) 9 Tryz.underlying9
    have B : Hid (Below w.heap.size w (w.alloc (.cells #[.int .u8 48] 5))) := (Below.refl _ _).alloc (Nat.le_refl _) _
    go_enter Tryz.func67, Tryz.ntmps67
    go_wp2
    go_ret
    exact ⟨by rw [dg_one (by decide)]; rfl, B.out⟩
  | f + 1, n, w, h, hn, hf => by
    by_cases c : n < 10
    · have c' : (n : Int) < 10 := by omega
      have n1 : ¬ (n : Int) = -9223372036854775808 := by omega
      have n2 : ¬ (n : Int) < 0 := by omega
      have hcv := run_convert_bytes_arg (P := Tryz.prog) (w.alloc (.cells #[.int .u8 (48 + (n : Int))] 5)) 22 5 Tryz.underlying22 Tryz.underlying5 w.heap.size 0 1 1 [48 + (n : Int)] rfl (fun i hi => by
        obtain rfl : i = 0 := by omega
        exact World.cell?_alloc_mark w #[.int .u8 (48 + (n : Int))] 5 (0, 0) 0) 9 Tryz.underlying9
      have eb : strOfNums [48 + (n : Int)] = dgT n := by
        unfold strOfNums
        simp only [List.map_cons, List.map_nil]
        rw [show (48 + (n : Int)).toNat = 48 + n by omega, dg_one c]
      rw [eb] at hcv
      have B : Hid (Below w.heap.size w (w.alloc (.cells #[.int .u8 (48 + (n : Int))] 5))) := (Below.refl _ _).alloc (Nat.le_refl _) _
      clear eb h hf hn c
      generalize dgT n = d at *
      go_enter Tryz.func67, Tryz.ntmps67
      go_wp2
      go_ret
      exact ⟨rfl, B.out⟩
    · have c' : ¬ (n : Int) < 10 := by omega
      have n1 : ¬ (n : Int) = -9223372036854775808 := by omega
      have n2 : ¬ (n : Int) < 0 := by omega
      have IH := hideIt (fun w1 => l00Digits_nat f (n / 10) w1 (by rw [Nat.pow_succ] at h; omega) (by omega) (by omega))
      rw [show ((n / 10 : Nat) : Int) = (n : Int) / 10 by omega] at IH
      have hsz := dg_len f (n / 10) (by rw [Nat.pow_succ] at h; omega)
      have EM := hideIt (dg_more c)
      rw [EM.out]
      have eb : strOfNums [48 + (n : Int) % 10] = ⟨#[UInt8.ofNat (48 + n % 10)]⟩ := by
        unfold strOfNums
        simp only [List.map_cons, List.map_nil]
        rw [show (48 + (n : Int) % 10).toNat = 48 + n % 10 by omega]
      have HC : ∀ (w1 : World) (b : Nat), w1.cell? ⟨b, 0, none⟩ = some (.int .u8 (48 + (n : Int) % 10)) → (convert 22 9 (.slice (some ⟨b, 0, none⟩) 1 1)).run Tryz.prog w1 = .ok (.string ⟨#[UInt8.ofNat (48 + n % 10)]⟩) w1 := fun w1 b hb => by
        have q := run_convert_bytes_arg (P := Tryz.prog) w1 22 5 Tryz.underlying22 Tryz.underlying5 b 0 1 1 [48 + (n : Int) % 10] rfl (fun i hi => by
          obtain rfl : i = 0 := by omega
          exact hb) 9 Tryz.underlying9
        rw [eb] at q
        exact q
      have hd1 : (⟨#[UInt8.ofNat (48 + n % 10)]⟩ : ByteArray).size = 1 := rfl
      generalize (⟨#[UInt8.ofNat (48 + n % 10)]⟩ : ByteArray) = d1 at *
      have hn' : (n : Int) ≤ 9223372036854775807 := by omega
      clear EM h hn eb
      generalize dgT (n / 10) = d at *
      have had := fun (w1 : World) => run_string_add_sum (P := Tryz.prog) w1 d d1 (by omega)
      go_enter Tryz.func67, Tryz.ntmps67
      go_upto_region 7 with fail
      have q1 : IntKind.i64.wrap ((n : Int) / 10) = (n : Int) / 10 := by rw [IntKind.wrap_i64]; omega
      have q2 : (n : Int).tmod 10 = (n : Int) % 10 := Int.tmod_eq_emod_of_nonneg (by omega)
      have q3 : IntKind.u8.wrap (48 + (n : Int) % 10) = 48 + (n : Int) % 10 := by rw [IntKind.wrap_u8]; omega
      have q4 : IntKind.i64.wrap (48 + (n : Int) % 10) = 48 + (n : Int) % 10 := by rw [IntKind.wrap_i64]; omega
      refine wp_region_T 10 (fun _ => True) (by kernel_rfl) trivial (fun _ => ?_)
      refine wpAnyT_take (i := 0) (v := .int .i64 n) [9, 2, 1, 0] rfl (by kernel_rfl) (fun _ _ _ h => h) trivial rfl (fun w' hSw => by go_simp) ?_
      try simp only [Act.put]
      refine wpAnyT_take (i := 1) (v := .int .i64 ((n : Int) / 10)) [9, 2, 1] rfl (by kernel_rfl) (fun _ _ _ h => h) trivial rfl (fun w' hSw => by go_simp) ?_
      try simp only [Act.put]
      refine wpAnyT_take (i := 3) (v := .int .i64 n) [9, 8, 7, 6, 5, 4, 3] rfl (by kernel_rfl) (fun _ _ _ h => h) trivial rfl (fun w' hSw => by go_simp) ?_
      try simp only [Act.put]
      refine wpAnyT_take (i := 4) (v := .int .i64 ((n : Int) % 10)) [9, 8, 7, 6, 5, 4] rfl (by kernel_rfl) (fun _ _ _ h => h) trivial rfl (fun w' hSw => by go_simp) ?_
      try simp only [Act.put]
      refine wpAnyT_take (i := 5) (v := .int .i64 (48 + (n : Int) % 10)) [9, 8, 7, 6, 5] rfl (by kernel_rfl) (fun _ _ _ h => h) trivial rfl (fun w' hSw => by go_simp) ?_
      try simp only [Act.put]
      refine wpAnyT_take (i := 6) (v := .int .u8 (48 + (n : Int) % 10)) [9, 8, 7, 6] rfl (by kernel_rfl) (fun _ _ _ h => h) trivial rfl (fun w' hSw => by go_simp) ?_
      try simp only [Act.put]
      clear q1 q2
      refine wpAnyT_two (i := 2) (j := 7) rfl rfl (by kernel_rfl) (fun K hK => ?_) (fun K hK => ?_)
      · go_simp
        go_at_call 67
        refine (IH.out _).mono ?_
        rintro e w1 ⟨rfl, hb1⟩
        have B1 : Hid (Below w.heap.size w w1) := below_trans ((Below.refl _ _).drew) hb1 (Nat.le_refl _)
        refine hK.out _ _ (fun _ => trivial) ?_
        clear hK K hb1
        try simp only [Act.put]
        have B2 : Hid (Below w.heap.size w (w1.alloc (.cells #[.int .u8 (48 + (n : Int) % 10)] 5))) := B1.out.alloc B1.out.size _
        have hk : (w1.alloc (.cells #[.int .u8 (48 + (n : Int) % 10)] 5)).cell? ⟨w1.heap.size, 0, none⟩ = some (.int .u8 (48 + (n : Int) % 10)) := World.cell?_alloc_mark w1 #[.int .u8 (48 + (n : Int) % 10)] 5 (0, 0) 0
        have hv := HC _ _ hk
        refine wpAnyT_one (i := 7) rfl (by kernel_rfl) (fun K hK => ?_)
        go_simp
        refine hK.out _ _ (fun _ => trivial) ?_
        clear hK K
        try simp only [Act.put]
        refine wpAnyT_one (i := 8) rfl (by kernel_rfl) (fun K hK => ?_)
        go_simp
        refine hK.out _ _ (fun _ => trivial) ?_
        clear hK K
        try simp only [Act.put]
        refine wpAnyT_one (i := 9) rfl (by kernel_rfl) (fun K hK => ?_)
        go_simp
        refine hK.out _ _ (fun _ => trivial) ?_
        clear hK K
        try simp only [Act.put]
        refine wpAnyT_one (i := 10) rfl (by kernel_rfl) (fun K hK => ?_)
        go_simp
        refine hK.out _ _ (fun h => absurd rfl h) ?_
        clear hK K
        try simp only [Act.put]
        refine wpAnyT_done (by kernel_rfl) ?_ _
        go_wp2
        go_ret
        exact ⟨rfl, B2.out⟩
      · go_simp
        have B2 : Hid (Below w.heap.size w (w.drew.alloc (.cells #[.int .u8 (48 + (n : Int) % 10)] 5))) := ((Below.refl _ _).drew).alloc (Nat.le_refl _) _
        have hk : (w.drew.alloc (.cells #[.int .u8 (48 + (n : Int) % 10)] 5)).cell? ⟨w.heap.size, 0, none⟩ = some (.int .u8 (48 + (n : Int) % 10)) := World.cell?_alloc_mark w.drew #[.int .u8 (48 + (n : Int) % 10)] 5 (0, 0) 0
        have zk : w.heap.size < (w.drew.alloc (.cells #[.int .u8 (48 + (n : Int) % 10)] 5)).heap.size := by simp
        refine hK.out _ _ (fun _ => trivial) ?_
        clear hK K
        try simp only [Act.put]
        refine wpAnyT_two (i := 2) (j := 8) rfl rfl (by kernel_rfl) (fun K hK => ?_) (fun K hK => ?_)
        · go_simp
          go_at_call 67
          refine (IH.out _).mono ?_
          rintro e w1 ⟨rfl, hb1⟩
          have B3 : Hid (Below w.heap.size w w1) := below_trans B2.out hb1 B2.out.size
          have hk2 := (hb1.cell (p := ⟨w.heap.size, 0, none⟩) zk).trans hk
          have hv := HC _ _ hk2
          refine hK.out _ _ (fun _ => trivial) ?_
          clear hK K hb1 hk
          try simp only [Act.put]
          refine wpAnyT_one (i := 8) rfl (by kernel_rfl) (fun K hK => ?_)
          go_simp
          refine hK.out _ _ (fun _ => trivial) ?_
          clear hK K
          try simp only [Act.put]
          refine wpAnyT_one (i := 9) rfl (by kernel_rfl) (fun K hK => ?_)
          go_simp
          refine hK.out _ _ (fun _ => trivial) ?_
          clear hK K
          try simp only [Act.put]
          refine wpAnyT_one (i := 10) rfl (by kernel_rfl) (fun K hK => ?_)
          go_simp
          refine hK.out _ _ (fun h => absurd rfl h) ?_
          clear hK K
          try simp only [Act.put]
          refine wpAnyT_done (by kernel_rfl) ?_ _
          go_wp2
          go_ret
          exact ⟨rfl, B3.out⟩
        · have hv := HC _ _ hk
          go_simp
          refine hK.out _ _ (fun _ => trivial) ?_
          clear hK K hk hv
          try simp only [Act.put]
          refine wpAnyT_one (i := 2) rfl (by kernel_rfl) (fun K hK => ?_)
          go_simp
          go_at_call 67
          refine (IH.out _).mono ?_
          rintro e w1 ⟨rfl, hb1⟩
          have B3 : Hid (Below w.heap.size w w1) := below_trans B2.out hb1 B2.out.size
          refine hK.out _ _ (fun _ => trivial) ?_
          clear hK K hb1
          try simp only [Act.put]
          refine wpAnyT_one (i := 9) rfl (by kernel_rfl) (fun K hK => ?_)
          go_simp
          refine hK.out _ _ (fun _ => trivial) ?_
          clear hK K
          try simp only [Act.put]
          refine wpAnyT_one (i := 10) rfl (by kernel_rfl) (fun K hK => ?_)
          go_simp
          refine hK.out _ _ (fun h => absurd rfl h) ?_
          clear hK K
          try simp only [Act.put]
          refine wpAnyT_done (by kernel_rfl) ?_ _
          go_wp2
          go_ret
          exact ⟨rfl, B3.out⟩
end Go.Proofs.YtjkdmhdehihcbaaGreatDoor
