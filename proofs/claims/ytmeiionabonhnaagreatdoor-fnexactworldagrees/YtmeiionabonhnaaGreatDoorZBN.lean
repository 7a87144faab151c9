/- Several texts laid together: DgA, TqA, TpB, ShI, DgB. -/
import Derived.Test.YtmeiionabonhnaaGreatDoorZAB
import Derived.Test.YtmeiionabonhnaaGreatDoorZBK
import Derived.Lib.ItoaNum
import Derived.Deep.DeepCutAuto
import Derived.Test.YtmeiionabonhnaaGreatDoorZBM
import Derived.Test.YtmeiionabonhnaaGreatDoorZAX
import Derived.Test.YtmeiionabonhnaaGreatDoorZAW
import Derived.Test.YtmeiionabonhnaaGreatDoorZAF
import Derived.Test.YtmeiionabonhnaaGreatDoorRows
import Derived.Shelf.Strconv.Itoa3
import Derived.Lib.LaidTab
namespace Go.Proofs.YtmeiionabonhnaaGreatDoor
open Go.RowKit
theorem wpAnyT_two {P : Program} {ops : Array Oper} {Q : Exit → Act → World → Prop} {md : Region.Mode} {S : World → Prop} {z i j : Nat} {oi oj : Oper} {fuel : Nat} {l : Array Bool} {a : Act} {w : World} (hoi : ops[i]? = some oi) (hoj : ops[j]? = some oj) (hr : Region.ready md ops l = [i, j])
    (h1 : ∀ K' : Act → World → Prop, Hid (∀ a w, (i ≠ z → S w) → wpAnyT P md ops Q S z fuel (l.setIfInBounds i true) a w → K' a w) → if Region.wanted oi (yielded ops a.tmps) = true then Oper.wp P oi a w K' Q else K' (a.put oi.dst undef) w)
    (h2 : ∀ K' : Act → World → Prop, Hid (∀ a w, (j ≠ z → S w) → wpAnyT P md ops Q S z fuel (l.setIfInBounds j true) a w → K' a w) → if Region.wanted oj (yielded ops a.tmps) = true then Oper.wp P oj a w K' Q else K' (a.put oj.dst undef) w) :
    wpAnyT P md ops Q S z (fuel + 1) l a w := by
  refine ⟨fun h0 => (by rw [hr] at h0; cases h0), fun k hk => ?_⟩
  rw [hr] at hk
  rcases List.mem_cons.1 hk with rfl | hk
  · exact wpOp_step hoi (fun K' hK => h1 K' (fun a w hS hW => hK a w ⟨hS, hW⟩))
  · obtain rfl := List.mem_singleton.1 hk
    exact wpOp_step hoj (fun K' hK => h2 K' (fun a w hS hW => hK a w ⟨hS, hW⟩))
def dgT (u : Nat) : ByteArray := ⟨(Lib.decDigits u).toArray⟩
def itT (n : Int) : ByteArray := ⟨(Lib.itoa n).toArray⟩
theorem dg_one {u : Nat} (h : u < 10) : dgT u = ⟨#[UInt8.ofNat (48 + u)]⟩ := by
  unfold dgT
  rw [Lib.decDigits, dif_pos h]
theorem dg_more {u : Nat} (h : ¬ u < 10) : dgT u = dgT (u / 10) ++ ⟨#[UInt8.ofNat (48 + u % 10)]⟩ := by
  unfold dgT
  rw [Lib.decDigits, dif_neg h]
  apply ByteArray.ext
  simp
theorem dg_len : ∀ (f u : Nat), u < 10 ^ f → (dgT u).size ≤ f + 1
  | 0, u, h => by
    rw [dg_one (by simpa using Nat.lt_of_lt_of_le h (by decide))]
    exact Nat.le_refl _
  | f + 1, u, h => by
    by_cases c : u < 10
    · rw [dg_one c]
      show 1 ≤ _
      omega
    · rw [dg_more c, ByteArray.size_append]
      have := dg_len f (u / 10) (by rw [Nat.pow_succ] at h; omega)
      show _ + 1 ≤ _
      omega
theorem it_nat (u : Nat) : itT u = dgT u := by
  unfold itT dgT Lib.itoa
  rw [if_neg (by omega)]
  rfl
set_option maxRecDepth 100000 in
set_option maxHeartbeats 2000000 in
theorem l00Digits_nat : ∀ (f n : Nat) (w : World), n < 10 ^ f → n ≤ 9223372036854775807 → f ≤ 20 →
    Calls Tryz.prog 72 #[.int .i64 n] w fun e w' => e = .returned (.string (dgT n)) ∧ Below w.heap.size w w'
  | 0, n, w, h, _, _ => by
    obtain rfl : n = 0 := by simpa using h
    have hcv := run_convert_bytes_arg (P := Tryz.prog) (w.alloc (.cells #[.int .u8 48] 5)) 83 5 Tryz.underlying83 Tryz.underlying5 w.heap.size 0 1 1 [48] rfl (fun i hi => by
      obtain rfl : i = 0 := by omega
      exact World.cell?_alloc_mark w #[.int .u8 48] 5 (0, 0) 0) 9 Tryz.underlying9
    have B : Hid (Below w.heap.size w (w.alloc (.cells #[.int .u8 48] 5))) := (Below.refl _ _).alloc (Nat.le_refl _) _
    go_enter Tryz.func72, Tryz.ntmps72
    go_wp2
    go_ret
    exact ⟨by rw [dg_one (by decide)]; rfl, B.out⟩
  | f + 1, n, w, h, hn, hf => by
    by_cases c : n < 10
    · have c' : (n : Int) < 10 := by omega
      have n1 : ¬ (n : Int) = -9223372036854775808 := by omega
      have n2 : ¬ (n : Int) < 0 := by omega
      have hcv := run_convert_bytes_arg (P := Tryz.prog) (w.alloc (.cells #[.int .u8 (48 + (n : Int))] 5)) 83 5 Tryz.underlying83 Tryz.underlying5 w.heap.size 0 1 1 [48 + (n : Int)] rfl (fun i hi => by
        obtain rfl : i = 0 := by omega
        exact World.cell?_alloc_mark w #[.int .u8 (48 + (n : Int))] 5 (0, 0) 0) 9 Tryz.underlying9
      have eb : strOfNums [48 + (n : Int)] = dgT n := by
        unfold strOfNums
        simp only [List.map_cons, List.map_nil]
        rw [show (48 + (n : Int)).toNat = 48 + n by omega, dg_one c]
      rw [eb] at hcv
      have B : Hid (Below w.heap.size w (w.alloc (.cells #[.int .u8 (48 + (n : Int))] 5))) := (Below.refl _ _).alloc (Nat.le_refl _) _
      clear eb h hf hn c
      generalize dgT n = d at *
      go_enter Tryz.func72, Tryz.ntmps72
      go_wp2
      go_ret
      exact ⟨rfl, B.out⟩
    · have c' : ¬ (n : Int) < 10 := by omega
      have n1 : ¬ (n : Int) = -9223372036854775808 := by omega
      have n2 : ¬ (n : Int) < 0 := by omega
      have IH := hideIt (fun w1 => l00Digits_nat f (n / 10) w1 (by rw [Nat.pow_succ] at h; omega) (by omega) (by omega))
      rw [show ((n / 10 : Nat) : Int) = (n : Int) / 10 by omega] at IH
      have hsz := dg_len f (n / 10) (by rw [Nat.pow_succ] at h; omega)
      have EM := hideIt (dg_more c)
      rw [EM.out]
      have eb : strOfNums [48 + (n : Int) % 10] = ⟨#[UInt8.ofNat (48 + n % 10)]⟩ := by
        unfold strOfNums
        simp only [List.map_cons, List.map_nil]
        rw [show (48 + (n : Int) % 10).toNat = 48 + n % 10 by omega]
      have HC : ∀ (w1 : World) (b : Nat), w1.cell? ⟨b, 0, none⟩ = some (.int .u8 (48 + (n : Int) % 10)) → (convert 83 9 (.slice (some ⟨b, 0, none⟩) 1 1)).run Tryz.prog w1 = .ok (.string ⟨#[UInt8.ofNat (48 + n % 10)]⟩) w1 := fun w1 b hb => by
        have q := run_convert_bytes_arg (P := Tryz.prog) w1 83 5 Tryz.underlying83 Tryz.underlying5 b 0 1 1 [48 + (n : Int) % 10] rfl (fun i hi => by
          obtain rfl : i = 0 := by omega
          exact hb) 9 Tryz.underlying9
        rw [eb] at q
        exact q
      have hd1 : (⟨#[UInt8.ofNat (48 + n % 10)]⟩ : ByteArray).size = 1 := rfl
      generalize (⟨#[UInt8.ofNat (48 + n % 10)]⟩ : ByteArray) = d1 at *
      have hn' : (n : Int) ≤ 9223372036854775807 := by omega
      clear EM h hn eb
      generalize dgT (n / 10) = d at *
      have had := fun (w1 : World) => run_string_add_sum (P := Tryz.prog) w1 d d1 (by omega)
      go_enter Tryz.func72, Tryz.ntmps72
      go_upto_region 7 with fail
      have q1 : IntKind.i64.wrap ((n : Int) / 10) = (n : Int) / 10 := by rw [IntKind.wrap_i64]; omega
      have q2 : (n : Int).tmod 10 = (n : Int) % 10 := Int.tmod_eq_emod_of_nonneg (by omega)
      have q3 : IntKind.u8.wrap (48 + (n : Int) % 10) = 48 + (n : Int) % 10 := by rw [IntKind.wrap_u8]; omega
      have q4 : IntKind.i64.wrap (48 + (n : Int) % 10) = 48 + (n : Int) % 10 := by rw [IntKind.wrap_i64]; omega
      refine wp_region_T 10 (fun _ => True) (by kernel_rfl) trivial (fun _ => ?_)
      refine wpAnyT_take (i := 0) (v := .int .i64 n) [9, 2, 1, 0] rfl (by kernel_rfl) (fun _ _ _ h => h) trivial rfl (fun w' hSw => by go_simp) ?_
      try simp only [Act.put]
      refine wpAnyT_take (i := 1) (v := .int .i64 ((n : Int) / 10)) [9, 2, 1] rfl (by kernel_rfl) (fun _ _ _ h => h) trivial rfl (fun w' hSw => by go_simp) ?_
      try simp only [Act.put]
      refine wpAnyT_take (i := 3) (v := .int .i64 n) [9, 8, 7, 6, 5, 4, 3] rfl (by kernel_rfl) (fun _ _ _ h => h) trivial rfl (fun w' hSw => by go_simp) ?_
      try simp only [Act.put]
      refine wpAnyT_take (i := 4) (v := .int .i64 ((n : Int) % 10)) [9, 8, 7, 6, 5, 4] rfl (by kernel_rfl) (fun _ _ _ h => h) trivial rfl (fun w' hSw => by go_simp) ?_
      try simp only [Act.put]
      refine wpAnyT_take (i := 5) (v := .int .i64 (48 + (n : Int) % 10)) [9, 8, 7, 6, 5] rfl (by kernel_rfl) (fun _ _ _ h => h) trivial rfl (fun w' hSw => by go_simp) ?_
      try simp only [Act.put]
      refine wpAnyT_take (i := 6) (v := .int .u8 (48 + (n : Int) % 10)) [9, 8, 7, 6] rfl (by kernel_rfl) (fun _ _ _ h => h) trivial rfl (fun w' hSw => by go_simp) ?_
      try simp only [Act.put]
      clear q1 q2
      refine wpAnyT_two (i := 2) (j := 7) rfl rfl (by kernel_rfl) (fun K hK => ?_) (fun K hK => ?_)
      · go_simp
        go_at_call 72
        refine (IH.out _).mono ?_
        rintro e w1 ⟨rfl, hb1⟩
        have B1 : Hid (Below w.heap.size w w1) := below_trans ((Below.refl _ _).drew) hb1 (Nat.le_refl _)
        refine hK.out _ _ (fun _ => trivial) ?_
        clear hK K hb1
        try simp only [Act.put]
        have B2 : Hid (Below w.heap.size w (w1.alloc (.cells #[.int .u8 (48 + (n : Int) % 10)] 5))) := B1.out.alloc B1.out.size _
        have hk : (w1.alloc (.cells #[.int .u8 (48 + (n : Int) % 10)] 5)).cell? ⟨w1.heap.size, 0, none⟩ = some (.int .u8 (48 + (n : Int) % 10)) := World.cell?_alloc_mark w1 #[.int .u8 (48 + (n : Int) % 10)] 5 (0, 0) 0
        have hv := HC _ _ hk
        refine wpAnyT_one (i := 7) rfl (by kernel_rfl) (fun K hK => ?_)
        go_simp
        refine hK.out _ _ (fun _ => trivial) ?_
        clear hK K
        try simp only [Act.put]
        refine wpAnyT_one (i := 8) rfl (by kernel_rfl) (fun K hK => ?_)
        go_simp
        refine hK.out _ _ (fun _ => trivial) ?_
        clear hK K
        try simp only [Act.put]
        refine wpAnyT_one (i := 9) rfl (by kernel_rfl) (fun K hK => ?_)
        go_simp
        refine hK.out _ _ (fun _ => trivial) ?_
        clear hK K
        try simp only [Act.put]
        refine wpAnyT_one (i := 10) rfl (by kernel_rfl) (fun K hK => ?_)
        go_simp
        refine hK.out _ _ (fun h => absurd rfl h) ?_
        clear hK K
        try simp only [Act.put]
        refine wpAnyT_done (by kernel_rfl) ?_ _
        go_wp2
        go_ret
        exact ⟨rfl, B2.out⟩
      · go_simp
        have B2 : Hid (Below w.heap.size w (w.drew.alloc (.cells #[.int .u8 (48 + (n : Int) % 10)] 5))) := ((Below.refl _ _).drew).alloc (Nat.le_refl _) _
        have hk : (w.drew.alloc (.cells #[.int .u8 (48 + (n : Int) % 10)] 5)).cell? ⟨w.heap.size, 0, none⟩ = some (.int .u8 (48 + (n : Int) % 10)) := World.cell?_alloc_mark w.drew #[.int .u8 (48 + (n : Int) % 10)] 5 (0, 0) 0
        have zk : w.heap.size < (w.drew.alloc (.cells #[.int .u8 (48 + (n : Int) % 10)] 5)).heap.size := by simp
        refine hK.out _ _ (fun _ => trivial) ?_
        clear hK K
        try simp only [Act.put]
        refine wpAnyT_two (i := 2) (j := 8) rfl rfl (by kernel_rfl) (fun K hK => ?_) (fun K hK => ?_)
        · go_simp
          go_at_call 72
          refine (IH.out _).mono ?_
          rintro e w1 ⟨rfl, hb1⟩
          have B3 : Hid (Below w.heap.size w w1) := below_trans B2.out hb1 B2.out.size
          have hk2 := (hb1.cell (p := ⟨w.heap.size, 0, none⟩) zk).trans hk
          have hv := HC _ _ hk2
          refine hK.out _ _ (fun _ => trivial) ?_
          clear hK K hb1 hk
          try simp only [Act.put]
          refine wpAnyT_one (i := 8) rfl (by kernel_rfl) (fun K hK => ?_)
          go_simp
          refine hK.out _ _ (fun _ => trivial) ?_
          clear hK K
          try simp only [Act.put]
          refine wpAnyT_one (i := 9) rfl (by kernel_rfl) (fun K hK => ?_)
          go_simp
          refine hK.out _ _ (fun _ => trivial) ?_
          clear hK K
          try simp only [Act.put]
          refine wpAnyT_one (i := 10) rfl (by kernel_rfl) (fun K hK => ?_)
          go_simp
          refine hK.out _ _ (fun h => absurd rfl h) ?_
          clear hK K
          try simp only [Act.put]
          refine wpAnyT_done (by kernel_rfl) ?_ _
          go_wp2
          go_ret
          exact ⟨rfl, B3.out⟩
        · have hv := HC _ _ hk
          go_simp
          refine hK.out _ _ (fun _ => trivial) ?_
          clear hK K hk hv
          try simp only [Act.put]
          refine wpAnyT_one (i := 2) rfl (by kernel_rfl) (fun K hK => ?_)
          go_simp
          go_at_call 72
          refine (IH.out _).mono ?_
          rintro e w1 ⟨rfl, hb1⟩
          have B3 : Hid (Below w.heap.size w w1) := below_trans B2.out hb1 B2.out.size
          refine hK.out _ _ (fun _ => trivial) ?_
          clear hK K hb1
          try simp only [Act.put]
          refine wpAnyT_one (i := 9) rfl (by kernel_rfl) (fun K hK => ?_)
          go_simp
          refine hK.out _ _ (fun _ => trivial) ?_
          clear hK K
          try simp only [Act.put]
          refine wpAnyT_one (i := 10) rfl (by kernel_rfl) (fun K hK => ?_)
          go_simp
          refine hK.out _ _ (fun h => absurd rfl h) ?_
          clear hK K
          try simp only [Act.put]
          refine wpAnyT_done (by kernel_rfl) ?_ _
          go_wp2
          go_ret
          exact ⟨rfl, B3.out⟩
end Go.Proofs.YtmeiionabonhnaaGreatDoor

namespace Go.Proofs.YtmeiionabonhnaaGreatDoor
open Go.RowKit
theorem told_two {ws : List Ino} {ps : List Den} (h : imgB ws ps = true) {s : ByteArray} (hs : s ∈ pthN ws ps 16 0 ⟨#[]⟩) : 2 ≤ (pcs s).length := by
  have k0 : kindAt ws 0 = 2 := (pimg_all h).2.2.1
  obtain ⟨xs, x, z, j, e1, e2, e3, E⟩ := pth_mem h 16 0 0 ⟨#[]⟩ s k0 (by decide) rfl hs
  rw [e1, pcs_jn e2]
  simp
set_option maxRecDepth 100000 in
set_option maxHeartbeats 4000000 in
theorem l06Lookup2_any (v : Value) (ws : List Ino) (ps : List Den) (s : ByteArray) (w : World) (h : RdIm w v ws ps) (hi : imgB ws ps = true) (hs : s.size ≤ 65536) (h2 : 2 ≤ (pcs s).length) :
    Calls Tryz.prog 71 #[v, .string s] w fun e w' => e = .returned (.tuple #[.int .i64 (wk ws ps 0 (pcs s).tail).1, .int .i64 (wk ws ps 0 (pcs s).tail).2]) ∧ Below w.heap.size w w' := by
  have LC := hideIt (fun w1 => l00Cut_any s w1 hs)
  have LW := hideIt (fun vL w1 (hb : Below w.heap.size w w1) hL => l06Walk_any v vL ws ps (pcs s).tail w1 (h.below hb) hL hi (by have := pcs_len s; rw [List.length_tail]; omega))
  have TL : (pcs s).tail = (pcs s).drop 1 := (List.drop_one).symm
  rw [TL] at LW ⊢
  have DL : ((pcs s).drop 1).length = (pcs s).length - 1 := List.length_drop ..
  have P63 := pcs_len s
  obtain ⟨vW, vP, rfl, h1', h2'⟩ := h
  obtain ⟨aW, cW, rfl, -, -⟩ := h1'.shape
  obtain ⟨aP, cP, rfl, -, -⟩ := h2'.shape
  clear h1' h2' TL hi
  generalize wk ws ps 0 ((pcs s).drop 1) = r at *
  obtain ⟨r1, r2⟩ := r
  generalize pcs s = P at *
  obtain ⟨V, hV⟩ : ∃ V, V = w.alloc (.cells #[.slice aW ws.length cW, .slice aP ps.length cP] 98) := ⟨_, rfl⟩
  have BV : Hid (Below w.heap.size w V) := by rw [hV]; exact (Below.refl _ _).alloc (Nat.le_refl _) _
  have XV : Hid (V.heap[w.heap.size]? = some (.cells #[.slice aW ws.length cW, .slice aP ps.length cP] 98 (0, 0))) := by rw [hV]; exact at_new rfl
  have zV : w.heap.size < V.heap.size := (Array.getElem?_eq_some_iff.1 XV.out).1
  go_enter Tryz.func71, Tryz.ntmps71
  go_upto_region 1 with fail
  rw [← hV]
  clear hV
  refine wp_region_T 8 (fun w' => w'.heap[w.heap.size]? = some (.cells #[.slice aW ws.length cW, .slice aP ps.length cP] 98 (0, 0))) (by kernel_rfl) XV.out (fun hX => ?_)
  refine wpAnyT_take (i := 0) (v := .agg #[.slice aW ws.length cW, .slice aP ps.length cP]) [0] rfl (by kernel_rfl) (fun _ _ _ h => h) hX rfl (fun w' hSw => by obtain ⟨x0, x1, -⟩ := two_cells hSw; go_simp) ?_
  try simp only [Act.put]
  refine wpAnyT_take (i := 1) (v := .string s) [1] rfl (by kernel_rfl) (fun _ _ _ h => h) hX rfl (fun w' hSw => by go_simp) ?_
  try simp only [Act.put]
  refine wpAnyT_one (i := 2) rfl (by kernel_rfl) (fun K hK => ?_)
  go_simp
  go_at_call 133
  refine (LC.out _).mono ?_
  rintro e w1 ⟨v1, rfl, hr1, hb1⟩
  have B1 : Hid (Below w.heap.size w w1) := below_trans BV.out.drew hb1 BV.out.size
  have X1 := hideIt ((hb1.block w.heap.size zV).trans hX)
  have R1 : Hid (RdT w1 v1 P) := hr1.rd
  obtain ⟨aL, cL, rfl, hcap, hcP⟩ := R1.out.shape
  obtain ⟨b, o, rfl, hbl, -⟩ := hcP (by omega)
  have RD : Hid (Rd w1 1 (.slice (some ⟨b, o + 1, none⟩) (P.length - 1) (cL - 1)) (P.length - 1) (strs (P.drop 1))) := rdt_drop R1.out (by omega)
  have RT : Hid (RdT w1 (.slice (some ⟨b, o + 1, none⟩) (P.length - 1) (cL - 1)) (P.drop 1)) := by unfold Hid RdT; rw [DL]; exact RD.out
  refine hK.out _ _ (fun _ => X1.out) ?_
  clear hK K hb1 hr1 hcP hX LC RD R1 BV XV zV
  have cc : ¬ cL = 1 := by omega
  have p1 : 1 ≤ (P.length : Int) := by omega
  try simp only [Act.put]
  refine wpAnyT_one (i := 3) rfl (by kernel_rfl) (fun K hK => ?_)
  go_simp
  refine hK.out _ _ (fun _ => X1.out) ?_
  clear hK K
  try simp only [Act.put]
  refine wpAnyT_one (i := 4) rfl (by kernel_rfl) (fun K hK => ?_)
  go_simp
  go_at_call 132
  refine (LW.out _ w1 B1.out RT.out).mono ?_
  rintro e w2 ⟨rfl, hb2⟩
  have B2 : Hid (Below w.heap.size w w2) := below_trans B1.out hb2 B1.out.size
  have z1 : w.heap.size < w1.heap.size := (Array.getElem?_eq_some_iff.1 X1.out).1
  have X2 := hideIt ((hb2.block w.heap.size z1).trans X1.out)
  refine hK.out _ _ (fun _ => X2.out) ?_
  clear hK K hb2 LW RT B1 X1 z1
  try simp only
  refine wpAnyT_take (i := 5) (v := .int .i64 r1) [5] rfl (by kernel_rfl) (fun _ _ _ h => h) X2.out rfl (fun w' hSw => by go_simp) ?_
  try simp only [Act.put]
  refine wpAnyT_take (i := 6) (v := .int .i64 r2) [6] rfl (by kernel_rfl) (fun _ _ _ h => h) X2.out rfl (fun w' hSw => by go_simp) ?_
  try simp only [Act.put]
  refine wpAnyT_one (i := 7) rfl (by kernel_rfl) (fun K hK => ?_)
  go_simp
  refine hK.out _ _ (fun _ => X2.out) ?_
  clear hK K
  try simp only [Act.put]
  refine wpAnyT_one (i := 8) rfl (by kernel_rfl) (fun K hK => ?_)
  go_simp
  refine hK.out _ _ (fun h => absurd rfl h) ?_
  clear hK K
  try simp only [Act.put]
  refine wpAnyT_done (by kernel_rfl) ?_ _
  go_wp2
  go_ret2
  exact ⟨rfl, B2.out⟩
end Go.Proofs.YtmeiionabonhnaaGreatDoor

namespace Go.Proofs.YtmeiionabonhnaaGreatDoor
open Go.RowKit
def Chn (ts : List Den) : Nat → Den → Prop
  | 0, x => upE ts x.dir = none
  | n + 1, x => ∀ y, upE ts x.dir = some y → Chn ts n y
theorem upE_at {ts : List Den} {d : Int} {k : Nat} (hk : k < ts.length) (h : ∀ j (hj : j < ts.length), j < k → ¬ ts[j].child = d) (e : ts[k].child = d) : upE ts d = some ts[k] := by
  unfold upE
  exact List.find?_eq_some_iff_getElem.2 ⟨beq_iff_eq.2 e, k, hk, rfl, fun j hj => by
    have := h j (by omega) hj
    simpa using this⟩
theorem upE_not {ts : List Den} {d : Int} (h : ∀ j (hj : j < ts.length), ¬ ts[j].child = d) : upE ts d = none := by
  unfold upE
  rw [List.find?_eq_none]
  intro x hx e
  obtain ⟨j, hj, rfl⟩ := List.getElem_of_mem hx
  exact h j hj (beq_iff_eq.1 e)
theorem lt_boxT {c : World} {b : Nat} {o : Obj} (h : c.heap[b]? = some o) : b < c.heap.size := (Array.getElem?_eq_some_iff.1 h).1
theorem pt3 {w : World} {b : Nat} {t : TypeId} {x y z : Value} (h : w.heap[b]? = some (.cells #[x, y, z] t (0, 0))) : w.cell? ⟨b, 0, none⟩ = some x ∧ w.cell? ⟨b, 1, none⟩ = some y ∧ w.cell? ⟨b, 2, none⟩ = some z ∧ w.frozen? ⟨b, 0, none⟩ = false ∧ w.frozen? ⟨b, 1, none⟩ = false ∧ w.frozen? ⟨b, 2, none⟩ = false := by
  simp [World.cell?, World.frozen?, h]
theorem pt3_put {w : World} {b : Nat} {t : TypeId} {x y z : Value} (h : w.heap[b]? = some (.cells #[x, y, z] t (0, 0))) (p q r : Value) : (((w.setCell ⟨b, 0, none⟩ p).setCell ⟨b, 1, none⟩ q).setCell ⟨b, 2, none⟩ r).heap[b]? = some (.cells #[p, q, r] t (0, 0)) := by
  simp [World.setCell, Array.getElem?_modify, h]
set_option maxRecDepth 100000 in
set_option maxHeartbeats 8000000 in
theorem pathOf_any (v : Value) (ts : List Den) (x : Den) (n0 : Nat) (w : World) (h : RdD w v ts) (hn : ts.length ≤ 4096) (hs : ∀ y ∈ ts, y.name.size ≤ 40) (hx : x.name.size ≤ 40) (hc : Chn ts n0 x) (hn0 : n0 ≤ 16) :
    Calls Tryz.prog 76 #[v, .agg #[.int .i64 x.dir, .string x.name, .int .i64 x.child]] w fun e w' => e = .returned (.string (pthU ts n0 x ⟨#[]⟩)) ∧ Below w.heap.size w w' := by
  obtain ⟨ao, cap, rfl, -, hcell⟩ := h.shape
  have HP := hideIt hcell
  have HS := hideIt hs
  clear h hcell hs
  obtain ⟨TG, eTG⟩ : ∃ TG, TG = pthU ts n0 x ⟨#[]⟩ := ⟨_, rfl⟩
  have ET := hideIt eTG.symm
  rw [← eTG]
  clear eTG
  obtain ⟨V, hV⟩ : ∃ V, V = w.alloc (.cells #[.int .i64 x.dir, .string x.name, .int .i64 x.child] 140) := ⟨_, rfl⟩
  have BV : Hid (Below w.heap.size w V) := by rw [hV]; exact (Below.refl _ _).alloc (Nat.le_refl _) _
  have XV : Hid (V.heap[w.heap.size]? = some (.cells #[.int .i64 x.dir, .string x.name, .int .i64 x.child] 140 (0, 0))) := by rw [hV]; exact at_new rfl
  have HC := hideIt hc
  clear hc
  go_enter Tryz.func76, Tryz.ntmps76
  go_wp2
  go_step3
  go_wp2
  rw [← hV]
  clear hV
  go_step3
  go_wp2
  go_loopg [5] n0 (fun g p wr => ∃ (y : Den) (acc : ByteArray), p = .string acc ∧ y.name.size ≤ 40 ∧ acc.size + 41 * g ≤ 1000 ∧ Hid (Chn ts g y ∧ pthU ts g y acc = TG) ∧ Hid (Below w.heap.size w wr) ∧ Hid (wr.heap[w.heap.size]? = some (.cells #[.int .i64 y.dir, .string y.name, .int .i64 y.child] 140 (0, 0))))
  case atStart => exact ⟨x, ⟨#[]⟩, rfl, hx, by show 0 + _ ≤ _; omega, ⟨HC.out, ET.out⟩, BV.out, XV.out⟩
  case round =>
    obtain ⟨y, acc, rfl, hy, ha, C, B, X⟩ := hrel
    clear BV XV HC
    obtain ⟨x0, x1, -⟩ := pt3 X.out
    have s1 : (⟨#[47]⟩ : ByteArray).size = 1 := rfl
    have A1 := run_string_add_sum (P := Tryz.prog) wr ⟨#[47]⟩ y.name (by omega)
    have s2 : (⟨#[47]⟩ ++ y.name).size = 1 + y.name.size := ByteArray.size_append
    have A2 := run_string_add_sum (P := Tryz.prog) wr (⟨#[47]⟩ ++ y.name) acc (by omega)
    have s3 : (⟨#[47]⟩ ++ y.name ++ acc).size = 1 + y.name.size + acc.size := by rw [ByteArray.size_append, s2]
    obtain ⟨q, eq⟩ : ∃ q, q = ⟨#[47]⟩ ++ y.name ++ acc := ⟨_, rfl⟩
    rw [← eq] at A2 s3
    have C1 : Hid (upE ts y.dir = none → q = TG) := fun e => by
      rw [eq, ← pthU_none e gk acc]
      exact C.out.2
    have C2 : Hid (∀ z, upE ts y.dir = some z → ∃ g', gk = g' + 1 ∧ Chn ts g' z ∧ pthU ts g' z q = TG) := fun z e => by
      have c := C.out
      cases gk with
      | zero => rw [show upE ts y.dir = none from c.1] at e; cases e
      | succ g' =>
        refine ⟨g', rfl, c.1 z e, ?_⟩
        rw [eq, ← pthU_some e g' acc]
        exact c.2
    generalize (⟨#[47]⟩ ++ y.name : ByteArray) = q0 at *
    clear C eq s1 s2
    go_upto_region 3 with fail
    clear A1 A2 x0 x1
    go_wp2_with fail
    generalize gk = G0 at *
    generalize hVr : wr = V2 at *
    clear hVr
    have zV2 : w.heap.size < V2.heap.size := lt_boxT X.out
    go_loopg [15] ts.length (fun g2 i wq => ∃ k : Nat, k + g2 = ts.length ∧ i = .int .i64 k ∧ Hid (Below w.heap.size w wq) ∧ Hid (wq.heap[w.heap.size]? = some (.cells #[.int .i64 y.dir, .string y.name, .int .i64 y.child] 140 (0, 0))) ∧ Hid (∀ j (h : j < ts.length), j < k → ¬ ts[j].child = y.dir))
    case atStart => exact ⟨0, by omega, rfl, B.out, X.out, fun j h a => absurd a (by omega)⟩
    case round =>
      obtain ⟨k, hk, rfl, B1, X1, N1⟩ := hrel
      clear B X
      have k0 : (0 : Int) ≤ (k : Int) := by omega
      by_cases hlt : k < ts.length
      · obtain ⟨b0, o0, rfl, hbl, hcell⟩ := HP.out (by omega)
        obtain ⟨a0, a1, a2⟩ := hcell k hlt
        have d0 := (B1.out.cell (p := ⟨b0, o0 + k * 3, none⟩) hbl).trans a0
        have d1 := (B1.out.cell (p := ⟨b0, o0 + k * 3 + 1, none⟩) hbl).trans a1
        have d2 := (B1.out.cell (p := ⟨b0, o0 + k * 3 + 2, none⟩) hbl).trans a2
        have k1 : (k : Int) < (ts.length : Int) := by omega
        have HY := hideIt (fun e : ts[k].child = y.dir => upE_at hlt N1.out e)
        have HX := hideIt (fun (e : ¬ ts[k].child = y.dir) j (h : j < ts.length) (a : j < k + 1) => show ¬ ts[j].child = y.dir by
          by_cases q : j = k
          · subst q; exact e
          · exact N1.out j h (by omega))
        have hz := HS.out _ (List.getElem_mem hlt)
        have z1 : w.heap.size < wr.heap.size := lt_boxT X1.out
        clear hcell a0 a1 a2 N1
        generalize ts[k] = u at *
        obtain ⟨w5, hw5⟩ : ∃ w5, w5 = wr.alloc (.cells #[.int .i64 u.dir, .string u.name, .int .i64 u.child] 140) := ⟨_, rfl⟩
        have X5 : Hid (w5.heap[w.heap.size]? = some (.cells #[.int .i64 y.dir, .string y.name, .int .i64 y.child] 140 (0, 0))) := by rw [hw5]; exact at_old X1.out
        have Y5 : Hid (w5.heap[wr.heap.size]? = some (.cells #[.int .i64 u.dir, .string u.name, .int .i64 u.child] 140 (0, 0))) := by rw [hw5]; exact at_new rfl
        have B5 : Hid (Below w.heap.size w w5) := by rw [hw5]; exact B1.out.alloc B1.out.size _
        go_upto_region 6 with fail
        rw [← hw5]
        clear hw5 d0 d1 d2
        obtain ⟨x0, x1, x2, f0, f1, f2⟩ := pt3 X5.out
        obtain ⟨y0, y1, y2, -⟩ := pt3 Y5.out
        by_cases e : u.child = y.dir
        · have e1 : (u.child == y.dir) = true := beq_iff_eq.2 e
          obtain ⟨g', rfl, c1, c2⟩ := C2.out u (HY.out e)
          have C6 := hideIt (And.intro c1 c2)
          have P6 := hideIt (pt3_put X5.out (.int .i64 u.dir) (.string u.name) (.int .i64 u.child))
          have B6 := hideIt (((B5.out.setCell (p := ⟨w.heap.size, 0, none⟩) (Nat.le_refl _) (.int .i64 u.dir)).setCell (p := ⟨w.heap.size, 1, none⟩) (Nat.le_refl _) (.string u.name)).setCell (p := ⟨w.heap.size, 2, none⟩) (Nat.le_refl _) (.int .i64 u.child))
          clear c1 c2 HY HX C1 C2 X1 X5 Y5 B1 B5 e
          go_wp2
          go_roundg g'
          case measure => omega
          case rel => exact ⟨u, q, rfl, hz, by omega, C6.out, B6.out, P6.out⟩
        · have e1 : (u.child == y.dir) = false := by rw [beq_eq_false_iff_ne]; exact e
          have N5 := hideIt (HX.out e)
          clear HY HX X1 B1 Y5 e
          go_wp2
          go_roundg (gk - 1)
          case measure => omega
          case rel => exact ⟨k + 1, by omega, by go_num, B5.out, X5.out, N5.out⟩
      · have e : k = ts.length := by omega
        subst e
        have E := hideIt (C1.out (upE_not (fun j hj => N1.out j hj hj)))
        clear N1 C1 C2
        obtain rfl := E.out
        go_wp2
        try rw [Exit.noGoto_ret]
        go_ret
        exact ⟨rfl, B1.out⟩
end Go.Proofs.YtmeiionabonhnaaGreatDoor

namespace Go.Proofs.YtmeiionabonhnaaGreatDoor
open Go.Shelf Go.RowKit
def laysM171_ren : Go.Shelf.Ren := ⟨fun | 171 => 81 | 243 => 137 | 246 => 200 | 283 => 246 | 284 => 247 | 285 => 248 | 286 => 249 | 129 => 198 | 317 => 279 | 318 => 280 | 319 => 281 | 320 => 282 | 337 => 285 | 338 => 286 | n => n, fun | 3 => 3 | 9 => 9 | 2 => 2 | 4 => 4 | 171 => 296 | 0 => 0 | 53 => 254 | 37 => 83 | 5 => 5 | 173 => 298 | 212 => 328 | 51 => 252 | 20 => 20 | 213 => 329 | 46 => 200 | 232 => 333 | 233 => 334 | n => n, fun | 17 => 5 | 18 => 7 | 19 => 8 | n => n⟩
theorem laysM171 : Go.Proofs.LaysM.n171 Tryz.prog laysM171_ren := {
  mixed := by kernel_rfl
  f129 := Tryz.func198.trans (congrArg some (by kernel_rfl))
  f171 := Tryz.func81.trans (congrArg some (by kernel_rfl))
  f243 := Tryz.func137.trans (congrArg some (by kernel_rfl))
  f246 := Tryz.func200.trans (congrArg some (by kernel_rfl))
  f283 := Tryz.func246.trans (congrArg some (by kernel_rfl))
  f284 := Tryz.func247.trans (congrArg some (by kernel_rfl))
  f285 := Tryz.func248.trans (congrArg some (by kernel_rfl))
  f286 := Tryz.func249.trans (congrArg some (by kernel_rfl))
  f317 := Tryz.func279.trans (congrArg some (by kernel_rfl))
  f318 := Tryz.func280.trans (congrArg some (by kernel_rfl))
  f319 := Tryz.func281.trans (congrArg some (by kernel_rfl))
  f320 := Tryz.func282.trans (congrArg some (by kernel_rfl))
  f337 := Tryz.func285.trans (congrArg some (by kernel_rfl))
  f338 := Tryz.func286.trans (congrArg some (by kernel_rfl))
  t0 := Tryz.underlying0
  a0 := Tryz.isAgg0
  z0 := Tryz.sizeOf0
  v0 := Tryz.zeroValue0
  t2 := Tryz.underlying2
  a2 := Tryz.isAgg2
  z2 := Tryz.sizeOf2
  v2 := Tryz.zeroValue2
  t3 := Tryz.underlying3
  a3 := Tryz.isAgg3
  z3 := Tryz.sizeOf3
  v3 := Tryz.zeroValue3
  t4 := Tryz.underlying4
  a4 := Tryz.isAgg4
  z4 := Tryz.sizeOf4
  v4 := Tryz.zeroValue4
  t5 := Tryz.underlying5
  a5 := Tryz.isAgg5
  z5 := Tryz.sizeOf5
  v5 := Tryz.zeroValue5
  t9 := Tryz.underlying9
  a9 := Tryz.isAgg9
  z9 := Tryz.sizeOf9
  v9 := Tryz.zeroValue9
  t20 := Tryz.underlying20
  a20 := Tryz.isAgg20
  z20 := Tryz.sizeOf20
  v20 := Tryz.zeroValue20
  t37 := Tryz.underlying83
  a37 := Tryz.isAgg83
  z37 := Tryz.sizeOf83
  v37 := Tryz.zeroValue83
  t46 := Tryz.underlying200
  a46 := Tryz.isAgg200
  z46 := Tryz.sizeOf200
  v46 := Tryz.zeroValue200
  t51 := Tryz.underlying252
  a51 := Tryz.isAgg252
  z51 := Tryz.sizeOf252
  v51 := Tryz.zeroValue252
  t53 := Tryz.underlying254
  a53 := Tryz.isAgg254
  z53 := Tryz.sizeOf254
  v53 := Tryz.zeroValue254
  t171 := Tryz.underlying296
  a171 := Tryz.isAgg296
  z171 := Tryz.sizeOf296
  v171 := Tryz.zeroValue296
  t173 := Tryz.underlying298
  a173 := Tryz.isAgg298
  z173 := Tryz.sizeOf298
  v173 := Tryz.zeroValue298
  t212 := Tryz.underlying328
  a212 := Tryz.isAgg328
  z212 := Tryz.sizeOf328
  v212 := Tryz.zeroValue328
  t213 := Tryz.underlying329
  a213 := Tryz.isAgg329
  z213 := Tryz.sizeOf329
  t232 := Tryz.underlying333
  a232 := Tryz.isAgg333
  z232 := Tryz.sizeOf333
  v232 := Tryz.zeroValue333
  t233 := Tryz.underlying334
  a233 := Tryz.isAgg334
  z233 := Tryz.sizeOf334
  v233 := Tryz.zeroValue334
  g17 := by kernel_rfl
  g18 := by kernel_rfl
  g19 := by kernel_rfl
  i0 := by kernel_rfl
  i2 := by kernel_rfl
  i3 := by kernel_rfl
  i4 := by kernel_rfl
  i5 := by kernel_rfl
  i9 := by kernel_rfl
  i20 := by kernel_rfl
  i37 := by kernel_rfl
  i46 := by kernel_rfl
  i51 := by kernel_rfl
  i53 := by kernel_rfl
  i171 := by kernel_rfl
  i173 := by kernel_rfl
  i212 := by kernel_rfl
  i232 := by kernel_rfl
  i233 := by kernel_rfl
  m17 := by kernel_rfl
  m18 := by kernel_rfl
  m19 := by kernel_rfl }
end Go.Proofs.YtmeiionabonhnaaGreatDoor

namespace Go.Proofs.YtmeiionabonhnaaGreatDoor
open Go.RowKit
def PT (w : World) : Prop := ∃ t fr, w.heap[5]? = some (.cells (Lib.pow10Tab.map fun z => Value.int .u64 z).toArray t fr)
theorem PT.below {w w' : World} (h : PT w) (hb : Below w.heap.size w w') : PT w' := by
  obtain ⟨t, fr, e⟩ := h
  exact ⟨t, fr, (hb.block _ (Array.getElem?_eq_some_iff.1 e).1).trans e⟩
theorem g_pow10 : Tryz.prog.globalNamed "internal/strconv.uint64pow10" = some 5 := by kernel_rfl
theorem PT.tab {w : World} (h : PT w) : Lib.TabIs Tryz.prog w "internal/strconv.uint64pow10" .u64 Lib.pow10Tab := by
  obtain ⟨t, fr, e⟩ := h
  unfold Lib.TabIs
  simp only [World.var?, g_pow10, Option.bind_some, e]
theorem itoa_any (n : Int) (w : World) (h0 : -9223372036854775808 ≤ n) (h1 : n ≤ 9223372036854775807) (hp : PT w) :
    Calls Tryz.prog 81 #[.int .i64 n] w fun e w' => e = .returned (.string (itT n)) ∧ Below w.heap.size w w' := by
  refine (Any.strconv_Itoa laysM171 n h0 h1 w hp.tab).mono ?_
  rintro e w' ⟨rfl, k, os, rfl⟩
  exact ⟨rfl, rfl, rfl, rfl, by show w.heap.size ≤ (w.heap ++ os).size; rw [Array.size_append]; omega, fun j hj => by show (w.heap ++ os)[j]? = w.heap[j]?; rw [Array.getElem?_append_left hj]⟩
end Go.Proofs.YtmeiionabonhnaaGreatDoor
