/- Sets of addresses: by the program. -/
import Derived.Test.YtbjjdkemappelaaGreatDoorAdC
import Derived.Laws.Shifts
namespace Go.Proofs.YtbjjdkemappelaaGreatDoor
open Go.RowKit
theorem u_shl (z : Int) (h0 : 0 ≤ z) (h1 : z < 64) : IntKind.u64.wrap (2 ^ z.toNat) = ((2 ^ z.toNat : Nat) : Int) ∧ 2 ^ z.toNat < 18446744073709551616 := by
  have b : 2 ^ z.toNat < 2 ^ 64 := Nat.pow_lt_pow_right (by omega) (by omega)
  have b : 2 ^ z.toNat < 18446744073709551616 := b
  refine ⟨u_wrap _ _ b ?_, b⟩
  push_cast
  rfl
theorem u_oth (c : Nat) (k : Int) (m : Nat) (hm : m < 18446744073709551616) (hc : 2 ^ c - 1 < 18446744073709551616) (hk : k = ((2 ^ c - 1 : Nat) : Int)) : bits .andNot .u64 k (m : Int) = (othM c m : Int) := by
  rw [hk, u64_andNot_nat _ _ hc hm]
  rfl
set_option maxRecDepth 100000 in
set_option maxHeartbeats 4000000 in
theorem setOf_p (v : Value) (l : List Int) (w : World) (h : RdI w v l) (hn : l.length ≤ 128) (hb : ∀ a ∈ l, 0 ≤ a ∧ a < 64) :
    Calls Tryz.prog 115 #[v] w fun e w' => e = .returned (.agg #[.int .u64 (setM l)]) ∧ Below w.heap.size w w' := by
  obtain ⟨aL, cL, rfl, _, hc⟩ := h.shape
  have HC := hideIt hc
  have HB := hideIt hb
  have HL := hideIt (show setM (l.take l.length) = setM l by rw [List.take_length])
  clear h hc hb
  have B0 : Hid (Below w.heap.size w ((w.alloc (.cells #[.int .u64 0] 86)).alloc (.cells #[.int .u64 0] 86))) := ((Below.refl _ _).alloc (Nat.le_refl _) _).alloc (by simp) _
  have C0 : Hid (((w.alloc (.cells #[.int .u64 0] 86)).alloc (.cells #[.int .u64 0] 86)).heap[w.heap.size]? = some (.cells #[.int .u64 0] 86 (0, 0))) := at_old (at_new rfl)
  have C1 : Hid (((w.alloc (.cells #[.int .u64 0] 86)).alloc (.cells #[.int .u64 0] 86)).heap[w.heap.size + 1]? = some (.cells #[.int .u64 0] 86 (0, 0))) := by
    have := at_new (w := w.alloc (.cells #[.int .u64 0] 86)) (o := .cells #[.int .u64 0] 86) rfl
    rw [World.size_alloc] at this
    exact this
  go_enter Tryz.func115, Tryz.ntmps115
  go_wp2
  go_loopg [5, 8] l.length (fun g _ i wr => ∃ k : Nat, k + g = l.length ∧ i = .int .i64 k ∧ Hid (Below w.heap.size w wr) ∧ Hid (wr.heap[w.heap.size]? = some (.cells #[.int .u64 0] 86 (0, 0))) ∧ Hid (wr.heap[w.heap.size + 1]? = some (.cells #[.int .u64 (setM (l.take k))] 86 (0, 0))))
  case atStart => exact ⟨0, by omega, rfl, B0.out, C0.out, C1.out⟩
  case round =>
    clear B0 C0 C1
    obtain ⟨k, hk, rfl, B, D0, D1⟩ := hrel
    have hzr : w.heap.size ≤ wr.heap.size := B.out.size
    by_cases hlt : k < l.length
    · obtain ⟨b, o, rfl, hbl, hcell⟩ := HC.out (by omega)
      have hck := (B.out.cell (p := ⟨b, o + k, none⟩) hbl).trans (hcell k hlt)
      have k0 : (0 : Int) ≤ (k : Int) := by omega
      have k1 : (k : Int) < (l.length : Int) := by omega
      obtain ⟨z0, z1⟩ := HB.out l[k] (List.getElem_mem hlt)
      have ST : Hid (setM (l.take (k + 1)) = setM (l.take k) ||| 2 ^ (l[k]).toNat) := by unfold Hid; rw [List.take_succ_eq_append_getElem hlt, setM_snoc]
      have SL : setM (l.take k) < 18446744073709551616 := setM_lt (fun a ha => HB.out a (List.mem_of_mem_take ha))
      clear hcell
      generalize l[k] = z at hck z0 z1 ST
      obtain ⟨Z1, Z2⟩ := u_shl z z0 z1
      have Z3 := u64_or_nat (setM (l.take k)) (2 ^ z.toNat) SL Z2
      rw [← ST.out] at Z3
      have MN : Hid (∃ m, m = setM (l.take (k + 1))) := ⟨_, rfl⟩
      obtain ⟨m1, hm1⟩ := MN.out
      rw [← hm1] at Z3
      have hm1 := hideIt hm1
      generalize setM (l.take k) = m0 at *
      push_cast at Z3
      have c1 := one_cell D1.out
      have f1 := one_frozen D1.out
      go_wp2
      go_region
      all_goals
        go_wp2
        go_roundg (gk - 1)
        case measure => omega
        case rel => exact ⟨k + 1, by omega, by go_num, (B.out.setCell (by simp) _).drew, (Below.heap_setCell _ _ _ _ (by simp)).trans D0.out, by rw [← hm1.out]; exact one_set D1.out _⟩
    · obtain rfl : k = l.length := by omega
      rw [HL.out] at D1
      have c1 := one_cell D1.out
      have c0 := one_cell D0.out
      have f0 := one_frozen D0.out
      go_wp2
      have q0 := one_cell (one_set D0.out (.int .u64 (setM l)))
      refine bodyPost_ret (v := .agg #[.int .u64 (setM l)]) (by simp [results, Tryz.results115, go_sem, q0]) rfl ?_
      exact ⟨rfl, B.out.setCell (Nat.le_refl _) _⟩
set_option maxRecDepth 100000 in
set_option maxHeartbeats 4000000 in
theorem count_p (m : Nat) (w : World) (hm : m < 18446744073709551616) :
    Calls Tryz.prog 77 #[.agg #[.int .u64 m]] w fun e w' => e = .returned (.int .i64 (popN 64 m)) ∧ Below w.heap.size w w' := by
  have L := hideIt (fun w1 => onesCount_any m hm w1)
  have BW : Hid (Below w.heap.size w (w.alloc (.cells #[.int .u64 m] 86))) := (Below.refl _ _).alloc (Nat.le_refl _) _
  generalize popN 64 m = r at *
  go_enter Tryz.func77, Tryz.ntmps77
  go_wp2_with fail
  refine (L.out _).mono ?_
  rintro e w1 ⟨rfl, rfl⟩
  go_wp2
  go_ret
  exact ⟨rfl, BW.out⟩
set_option maxRecDepth 100000 in
set_option maxHeartbeats 4000000 in
theorem others_p (m : Nat) (w : World) (hm : m < 18446744073709551616) :
    Calls Tryz.prog 116 #[.agg #[.int .u64 m], .int .i64 24] w fun e w' => e = .returned (.agg #[.int .u64 (othM 24 m)]) ∧ Below w.heap.size w w' := by
  have E := u_oth 24 16777215 m hm (by decide) (by decide)
  generalize othM 24 m = r at *
  have BW : Hid (∀ u, Below w.heap.size w ((w.alloc (.cells #[.int .u64 m] 86)).alloc (.cells #[.int .u64 u] 86))) := fun u => ((Below.refl _ _).alloc (Nat.le_refl _) _).alloc (by simp) _
  have q1 : ((w.alloc (.cells #[.int .u64 m] 86)).alloc (.cells #[.int .u64 r] 86)).cell? ⟨w.heap.size + 1, 0, none⟩ = some (.int .u64 r) := by
    have := at_new (w := w.alloc (.cells #[.int .u64 m] 86)) (o := .cells #[.int .u64 r] 86) rfl
    rw [World.size_alloc] at this
    exact one_cell this
  go_enter Tryz.func116, Tryz.ntmps116
  go_wp2
  go_region
  all_goals
    go_wp2
    refine bodyPost_ret (v := .agg #[.int .u64 r]) (by simp [results, Tryz.results116, go_sem, q1]) rfl ?_
    exact ⟨rfl, by repeat (first | exact BW.out _ | refine Below.drew ?_)⟩
set_option maxRecDepth 100000 in
set_option maxHeartbeats 4000000 in
theorem addsUp_p (n : Nat) (m f : Nat) (w : World) (hf : f < 18446744073709551616) (hs : popN 64 f + n = 24) :
    Calls Tryz.prog 41 #[.agg #[.int .i64 n, .int .i64 24, .int .u64 m, .int .u64 f]] w fun e w' => e = .returned (.bool true) ∧ Below w.heap.size w w' := by
  have L := hideIt (fun w1 => count_p f w1 hf)
  have BW : Hid (Below w.heap.size w (w.alloc (.cells #[.int .i64 n, .int .i64 24, .int .u64 m, .int .u64 f] 88))) := (Below.refl _ _).alloc (Nat.le_refl _) _
  generalize popN 64 f = r at *
  have E : (n : Int) + (r : Int) = 24 := by omega
  have SK : Hid (∀ w', Below (w.alloc (.cells #[.int .i64 n, .int .i64 24, .int .u64 m, .int .u64 f] 88)).heap.size (w.alloc (.cells #[.int .i64 n, .int .i64 24, .int .u64 m, .int .u64 f] 88)) w' → w'.cell? ⟨w.heap.size, 0, none⟩ = some (.int .i64 n) ∧ w'.cell? ⟨w.heap.size, 1, none⟩ = some (.int .i64 24) ∧ w'.cell? ⟨w.heap.size, 3, none⟩ = some (.int .u64 f)) := fun w' hb => by
    have : w'.heap[w.heap.size]? = some (.cells #[.int .i64 n, .int .i64 24, .int .u64 m, .int .u64 f] 88 (0, 0)) := (hb.block _ (by simp)).trans (at_new rfl)
    simp [World.cell?, this]
  go_enter Tryz.func41, Tryz.ntmps41
  go_wp2
  go_region_held3 (fun w' => w'.cell? ⟨w.heap.size, 0, none⟩ = some (.int .i64 n) ∧ w'.cell? ⟨w.heap.size, 1, none⟩ = some (.int .i64 24) ∧ w'.cell? ⟨w.heap.size, 3, none⟩ = some (.int .u64 f))
    (exact SK.out _ (by repeat (first | exact BF.out | exact Below.refl _ _ | refine Below.drew ?_)))
    (first
      | (go_at_call 77; refine (L.out _).mono ?_; rintro e wf ⟨rfl, hbf⟩; have BF : Hid (Below (w.alloc (.cells #[.int .i64 n, .int .i64 24, .int .u64 m, .int .u64 f] 88)).heap.size (w.alloc (.cells #[.int .i64 n, .int .i64 24, .int .u64 m, .int .u64 f] 88)) wf) := (by first | exact hbf | exact below_trans (by repeat (first | exact Below.refl _ _ | refine Below.drew ?_)) hbf (Nat.le_refl _)); clear hbf))
  all_goals
    have B9 := hideIt (below_trans BW.out BF.out BW.out.size)
    go_wp2
    go_ret
    exact ⟨rfl, by repeat (first | exact B9.out | refine Below.drew ?_)⟩
set_option maxRecDepth 100000 in
set_option maxHeartbeats 4000000 in
theorem hasRoom_p (n : Nat) (m f : Nat) (w : World) (hf : f < 18446744073709551616) :
    Calls Tryz.prog 57 #[.agg #[.int .i64 n, .int .i64 24, .int .u64 m, .int .u64 f]] w fun e w' => e = .returned (.bool (decide (0 < popN 64 f))) ∧ Below w.heap.size w w' := by
  have L := hideIt (fun w1 => count_p f w1 hf)
  have BW : Hid (Below w.heap.size w (w.alloc (.cells #[.int .i64 n, .int .i64 24, .int .u64 m, .int .u64 f] 88))) := (Below.refl _ _).alloc (Nat.le_refl _) _
  generalize popN 64 f = r at *
  by_cases c : 0 < r
  · rw [decide_eq_true c]
    go_enter Tryz.func57, Tryz.ntmps57
    go_wp2_with fail
    refine (L.out _).mono ?_
    rintro e w1 ⟨rfl, hb1⟩
    have B9 := hideIt (below_trans BW.out hb1 BW.out.size)
    clear hb1
    go_wp2
    go_ret
    exact ⟨rfl, B9.out⟩
  · obtain rfl : r = 0 := by omega
    rw [decide_eq_false c]
    go_enter Tryz.func57, Tryz.ntmps57
    go_wp2_with fail
    refine (L.out _).mono ?_
    rintro e w1 ⟨rfl, hb1⟩
    have B9 := hideIt (below_trans BW.out hb1 BW.out.size)
    clear hb1
    go_wp2
    go_ret
    exact ⟨rfl, B9.out⟩
set_option maxRecDepth 100000 in
set_option maxHeartbeats 4000000 in
theorem setOf_s (v : Value) (l : List Int) (w : World) (h : RdI w v l) (hn : l.length ≤ 128) (hb : ∀ a ∈ l, 0 ≤ a ∧ a < 64) :
    Calls Tryz.prog 117 #[v] w fun e w' => e = .returned (.agg #[.int .u64 (setM l)]) ∧ Below w.heap.size w w' := by
  obtain ⟨aL, cL, rfl, _, hc⟩ := h.shape
  have HC := hideIt hc
  have HB := hideIt hb
  have HL := hideIt (show setM (l.take l.length) = setM l by rw [List.take_length])
  clear h hc hb
  have B0 : Hid (Below w.heap.size w ((w.alloc (.cells #[.int .u64 0] 89)).alloc (.cells #[.int .u64 0] 89))) := ((Below.refl _ _).alloc (Nat.le_refl _) _).alloc (by simp) _
  have C0 : Hid (((w.alloc (.cells #[.int .u64 0] 89)).alloc (.cells #[.int .u64 0] 89)).heap[w.heap.size]? = some (.cells #[.int .u64 0] 89 (0, 0))) := at_old (at_new rfl)
  have C1 : Hid (((w.alloc (.cells #[.int .u64 0] 89)).alloc (.cells #[.int .u64 0] 89)).heap[w.heap.size + 1]? = some (.cells #[.int .u64 0] 89 (0, 0))) := by
    have := at_new (w := w.alloc (.cells #[.int .u64 0] 89)) (o := .cells #[.int .u64 0] 89) rfl
    rw [World.size_alloc] at this
    exact this
  go_enter Tryz.func117, Tryz.ntmps117
  go_wp2
  go_loopg [5, 8] l.length (fun g _ i wr => ∃ k : Nat, k + g = l.length ∧ i = .int .i64 k ∧ Hid (Below w.heap.size w wr) ∧ Hid (wr.heap[w.heap.size]? = some (.cells #[.int .u64 0] 89 (0, 0))) ∧ Hid (wr.heap[w.heap.size + 1]? = some (.cells #[.int .u64 (setM (l.take k))] 89 (0, 0))))
  case atStart => exact ⟨0, by omega, rfl, B0.out, C0.out, C1.out⟩
  case round =>
    clear B0 C0 C1
    obtain ⟨k, hk, rfl, B, D0, D1⟩ := hrel
    have hzr : w.heap.size ≤ wr.heap.size := B.out.size
    by_cases hlt : k < l.length
    · obtain ⟨b, o, rfl, hbl, hcell⟩ := HC.out (by omega)
      have hck := (B.out.cell (p := ⟨b, o + k, none⟩) hbl).trans (hcell k hlt)
      have k0 : (0 : Int) ≤ (k : Int) := by omega
      have k1 : (k : Int) < (l.length : Int) := by omega
      obtain ⟨z0, z1⟩ := HB.out l[k] (List.getElem_mem hlt)
      have ST : Hid (setM (l.take (k + 1)) = setM (l.take k) ||| 2 ^ (l[k]).toNat) := by unfold Hid; rw [List.take_succ_eq_append_getElem hlt, setM_snoc]
      have SL : setM (l.take k) < 18446744073709551616 := setM_lt (fun a ha => HB.out a (List.mem_of_mem_take ha))
      clear hcell
      generalize l[k] = z at hck z0 z1 ST
      obtain ⟨Z1, Z2⟩ := u_shl z z0 z1
      have Z3 := u64_or_nat (setM (l.take k)) (2 ^ z.toNat) SL Z2
      rw [← ST.out] at Z3
      have MN : Hid (∃ m, m = setM (l.take (k + 1))) := ⟨_, rfl⟩
      obtain ⟨m1, hm1⟩ := MN.out
      rw [← hm1] at Z3
      have hm1 := hideIt hm1
      generalize setM (l.take k) = m0 at *
      push_cast at Z3
      have c1 := one_cell D1.out
      have f1 := one_frozen D1.out
      go_wp2
      go_region
      all_goals
        go_wp2
        go_roundg (gk - 1)
        case measure => omega
        case rel => exact ⟨k + 1, by omega, by go_num, (B.out.setCell (by simp) _).drew, (Below.heap_setCell _ _ _ _ (by simp)).trans D0.out, by rw [← hm1.out]; exact one_set D1.out _⟩
    · obtain rfl : k = l.length := by omega
      rw [HL.out] at D1
      have c1 := one_cell D1.out
      have c0 := one_cell D0.out
      have f0 := one_frozen D0.out
      go_wp2
      have q0 := one_cell (one_set D0.out (.int .u64 (setM l)))
      refine bodyPost_ret (v := .agg #[.int .u64 (setM l)]) (by simp [results, Tryz.results117, go_sem, q0]) rfl ?_
      exact ⟨rfl, B.out.setCell (Nat.le_refl _) _⟩
set_option maxRecDepth 100000 in
set_option maxHeartbeats 4000000 in
theorem count_s (m : Nat) (w : World) (hm : m < 18446744073709551616) :
    Calls Tryz.prog 78 #[.agg #[.int .u64 m]] w fun e w' => e = .returned (.int .i64 (popN 64 m)) ∧ Below w.heap.size w w' := by
  have L := hideIt (fun w1 => onesCount_any m hm w1)
  have BW : Hid (Below w.heap.size w (w.alloc (.cells #[.int .u64 m] 89))) := (Below.refl _ _).alloc (Nat.le_refl _) _
  generalize popN 64 m = r at *
  go_enter Tryz.func78, Tryz.ntmps78
  go_wp2_with fail
  refine (L.out _).mono ?_
  rintro e w1 ⟨rfl, rfl⟩
  go_wp2
  go_ret
  exact ⟨rfl, BW.out⟩
set_option maxRecDepth 100000 in
set_option maxHeartbeats 4000000 in
theorem others_s (m : Nat) (w : World) (hm : m < 18446744073709551616) :
    Calls Tryz.prog 118 #[.agg #[.int .u64 m], .int .i64 32] w fun e w' => e = .returned (.agg #[.int .u64 (othM 32 m)]) ∧ Below w.heap.size w w' := by
  have E := u_oth 32 4294967295 m hm (by decide) (by decide)
  generalize othM 32 m = r at *
  have BW : Hid (∀ u, Below w.heap.size w ((w.alloc (.cells #[.int .u64 m] 89)).alloc (.cells #[.int .u64 u] 89))) := fun u => ((Below.refl _ _).alloc (Nat.le_refl _) _).alloc (by simp) _
  have q1 : ((w.alloc (.cells #[.int .u64 m] 89)).alloc (.cells #[.int .u64 r] 89)).cell? ⟨w.heap.size + 1, 0, none⟩ = some (.int .u64 r) := by
    have := at_new (w := w.alloc (.cells #[.int .u64 m] 89)) (o := .cells #[.int .u64 r] 89) rfl
    rw [World.size_alloc] at this
    exact one_cell this
  go_enter Tryz.func118, Tryz.ntmps118
  go_wp2
  go_region
  all_goals
    go_wp2
    refine bodyPost_ret (v := .agg #[.int .u64 r]) (by simp [results, Tryz.results118, go_sem, q1]) rfl ?_
    exact ⟨rfl, by repeat (first | exact BW.out _ | refine Below.drew ?_)⟩
set_option maxRecDepth 100000 in
set_option maxHeartbeats 4000000 in
theorem addsUp_s (n : Nat) (m f : Nat) (w : World) (hf : f < 18446744073709551616) (hs : popN 64 f + n = 32) :
    Calls Tryz.prog 42 #[.agg #[.int .i64 n, .int .i64 32, .int .u64 m, .int .u64 f]] w fun e w' => e = .returned (.bool true) ∧ Below w.heap.size w w' := by
  have L := hideIt (fun w1 => count_s f w1 hf)
  have BW : Hid (Below w.heap.size w (w.alloc (.cells #[.int .i64 n, .int .i64 32, .int .u64 m, .int .u64 f] 91))) := (Below.refl _ _).alloc (Nat.le_refl _) _
  generalize popN 64 f = r at *
  have E : (n : Int) + (r : Int) = 32 := by omega
  have SK : Hid (∀ w', Below (w.alloc (.cells #[.int .i64 n, .int .i64 32, .int .u64 m, .int .u64 f] 91)).heap.size (w.alloc (.cells #[.int .i64 n, .int .i64 32, .int .u64 m, .int .u64 f] 91)) w' → w'.cell? ⟨w.heap.size, 0, none⟩ = some (.int .i64 n) ∧ w'.cell? ⟨w.heap.size, 1, none⟩ = some (.int .i64 32) ∧ w'.cell? ⟨w.heap.size, 3, none⟩ = some (.int .u64 f)) := fun w' hb => by
    have : w'.heap[w.heap.size]? = some (.cells #[.int .i64 n, .int .i64 32, .int .u64 m, .int .u64 f] 91 (0, 0)) := (hb.block _ (by simp)).trans (at_new rfl)
    simp [World.cell?, this]
  go_enter Tryz.func42, Tryz.ntmps42
  go_wp2
  go_region_held3 (fun w' => w'.cell? ⟨w.heap.size, 0, none⟩ = some (.int .i64 n) ∧ w'.cell? ⟨w.heap.size, 1, none⟩ = some (.int .i64 32) ∧ w'.cell? ⟨w.heap.size, 3, none⟩ = some (.int .u64 f))
    (exact SK.out _ (by repeat (first | exact BF.out | exact Below.refl _ _ | refine Below.drew ?_)))
    (first
      | (go_at_call 78; refine (L.out _).mono ?_; rintro e wf ⟨rfl, hbf⟩; have BF : Hid (Below (w.alloc (.cells #[.int .i64 n, .int .i64 32, .int .u64 m, .int .u64 f] 91)).heap.size (w.alloc (.cells #[.int .i64 n, .int .i64 32, .int .u64 m, .int .u64 f] 91)) wf) := (by first | exact hbf | exact below_trans (by repeat (first | exact Below.refl _ _ | refine Below.drew ?_)) hbf (Nat.le_refl _)); clear hbf))
  all_goals
    have B9 := hideIt (below_trans BW.out BF.out BW.out.size)
    go_wp2
    go_ret
    exact ⟨rfl, by repeat (first | exact B9.out | refine Below.drew ?_)⟩
set_option maxRecDepth 100000 in
set_option maxHeartbeats 4000000 in
theorem hasRoom_s (n : Nat) (m f : Nat) (w : World) (hf : f < 18446744073709551616) :
    Calls Tryz.prog 58 #[.agg #[.int .i64 n, .int .i64 32, .int .u64 m, .int .u64 f]] w fun e w' => e = .returned (.bool (decide (0 < popN 64 f))) ∧ Below w.heap.size w w' := by
  have L := hideIt (fun w1 => count_s f w1 hf)
  have BW : Hid (Below w.heap.size w (w.alloc (.cells #[.int .i64 n, .int .i64 32, .int .u64 m, .int .u64 f] 91))) := (Below.refl _ _).alloc (Nat.le_refl _) _
  generalize popN 64 f = r at *
  by_cases c : 0 < r
  · rw [decide_eq_true c]
    go_enter Tryz.func58, Tryz.ntmps58
    go_wp2_with fail
    refine (L.out _).mono ?_
    rintro e w1 ⟨rfl, hb1⟩
    have B9 := hideIt (below_trans BW.out hb1 BW.out.size)
    clear hb1
    go_wp2
    go_ret
    exact ⟨rfl, B9.out⟩
  · obtain rfl : r = 0 := by omega
    rw [decide_eq_false c]
    go_enter Tryz.func58, Tryz.ntmps58
    go_wp2_with fail
    refine (L.out _).mono ?_
    rintro e w1 ⟨rfl, hb1⟩
    have B9 := hideIt (below_trans BW.out hb1 BW.out.size)
    clear hb1
    go_wp2
    go_ret
    exact ⟨rfl, B9.out⟩
end Go.Proofs.YtbjjdkemappelaaGreatDoor
