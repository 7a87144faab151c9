/- OpText: by the program. -/
import Derived.Test.YtjkdmhdehihcbaaGreatDoorOtB
import Derived.Laws.EntriesVeiled
namespace Go.Proofs.YtjkdmhdehihcbaaGreatDoor
open Go.RowKit
theorem it_size2 {z : Int} (h0 : -9223372036854775808 ≤ z) (h1 : z ≤ 9223372036854775807) : (itT z).size ≤ 22 := by
  rcases Int.lt_or_le z 0 with h | h
  · rw [it_neg h, ByteArray.size_append]
    have := dg_len 19 z.natAbs (by omega)
    have : (⟨#[45]⟩ : ByteArray).size = 1 := rfl
    omega
  · have := it_size1 h h1
    omega
def FbI (V w : World) (n bx bk ck : Nat) : Prop := Below V.heap.size V w ∧ V.heap.size ≤ bx ∧ w.heap[bx]? = some (.cells #[.string (kwT n), .slice (some ⟨bk, 0, none⟩) (fdsOf n).length ck] 67 (0, 0)) ∧ bk < w.heap.size ∧ bk ≠ bx ∧
  ∀ i (h : i < (fdsOf n).length), w.cell? ⟨bk, i * 2, none⟩ = some (.func (.func (sayF (fdsOf n)[i])) #[] #[]) ∧ w.cell? ⟨bk, i * 2 + 1, none⟩ = some (.func (.func (hearF (fdsOf n)[i])) #[] #[])
theorem FoI.at_ {lo : Nat} {w : World} {b0 n : Nat} (h : FoI lo w b0) (h1 : 1 ≤ n) (h2 : n ≤ 10) : ∃ bk ck, bk < w.heap.size ∧ lo ≤ bk ∧ w.cell? ⟨b0, n * 2, none⟩ = some (.string (kwT n)) ∧ w.cell? ⟨b0, n * 2 + 1, none⟩ = some (.slice (some ⟨bk, 0, none⟩) (fdsOf n).length ck) ∧
    ∀ i (h : i < (fdsOf n).length), w.cell? ⟨bk, i * 2, none⟩ = some (.func (.func (sayF (fdsOf n)[i])) #[] #[]) ∧ w.cell? ⟨bk, i * 2 + 1, none⟩ = some (.func (.func (hearF (fdsOf n)[i])) #[] #[]) := by
  obtain ⟨a, -, c⟩ := h.2 n (by omega)
  obtain ⟨bk, ck, z, y, q, r⟩ := c h1
  exact ⟨bk, ck, z, y, a, q, r⟩
theorem FbI.mk_ {V w : World} {n bk ck : Nat} (hb : Below V.heap.size V w) (hk : bk < w.heap.size)
    (hf : ∀ i (h : i < (fdsOf n).length), w.cell? ⟨bk, i * 2, none⟩ = some (.func (.func (sayF (fdsOf n)[i])) #[] #[]) ∧ w.cell? ⟨bk, i * 2 + 1, none⟩ = some (.func (.func (hearF (fdsOf n)[i])) #[] #[])) :
    FbI V (w.alloc (.cells #[.string (kwT n), .slice (some ⟨bk, 0, none⟩) (fdsOf n).length ck] 67)) n w.heap.size bk ck := by
  have b : Below w.heap.size w (w.alloc (.cells #[.string (kwT n), .slice (some ⟨bk, 0, none⟩) (fdsOf n).length ck] 67)) := (Below.refl _ _).alloc (Nat.le_refl _) _
  exact ⟨below_trans hb b hb.size, hb.size, at_new rfl, by simp; omega, by omega, fun i hi => ⟨(b.cell (p := ⟨bk, i * 2, none⟩) hk).trans (hf i hi).1, (b.cell (p := ⟨bk, i * 2 + 1, none⟩) hk).trans (hf i hi).2⟩⟩
theorem FbI.set {V w : World} {n bx bk ck : Nat} {y z : Value} (hb : Below V.heap.size V w) (h0 : V.heap.size ≤ bx) (hx : w.heap[bx]? = some (.cells #[y, z] 67 (0, 0))) (hk : bk < w.heap.size) (hn : bk ≠ bx)
    (hf : ∀ i (h : i < (fdsOf n).length), w.cell? ⟨bk, i * 2, none⟩ = some (.func (.func (sayF (fdsOf n)[i])) #[] #[]) ∧ w.cell? ⟨bk, i * 2 + 1, none⟩ = some (.func (.func (hearF (fdsOf n)[i])) #[] #[])) :
    FbI V ((w.setCell ⟨bx, 0, none⟩ (.string (kwT n))).setCell ⟨bx, 1, none⟩ (.slice (some ⟨bk, 0, none⟩) (fdsOf n).length ck)) n bx bk ck := by
  refine ⟨(hb.setCell (by simp only; omega) _).setCell (by simp only; omega) _, h0, two_set1 (two_set0 hx _) _, by simpa using hk, hn, fun i hi => ?_⟩
  have far : ∀ o o' (w : World) (u : Value), (w.setCell ⟨bx, o', none⟩ u).cell? ⟨bk, o, none⟩ = w.cell? ⟨bk, o, none⟩ := fun o o' w u => World.cell?_setCell_other w _ _ u (fun e => hn (congrArg Addr.block e).symm)
  rw [far, far, far, far]
  exact hf i hi
set_option maxRecDepth 100000 in
set_option maxHeartbeats 8000000 in
theorem implOpText_any (k : Int) (p t : ByteArray) (g x : Int) (w : World) (hP : PT w) (hg : -9223372036854775808 ≤ g ∧ g ≤ 9223372036854775807) (hx : -9223372036854775808 ≤ x ∧ x ≤ 9223372036854775807) :
    Calls Tryz.prog 6 #[.agg #[.int .i64 k, .string p, .string t, .int .i64 g, .int .i64 x]] w fun e w' => e = .returned (.tuple #[.string (otS k p t g x), .int .i64 (otC k p t g x)]) ∧ Below w.heap.size w w' := by
  have LO := hideIt (fun w1 => implOpOK_any k p t g x w1)
  cases q1 : opB k p t g x with
  | false =>
    rw [q1] at LO
    have e : otB k p t g x = false := by unfold otB; rw [q1]; rfl
    have e1 : otS k p t g x = ⟨#[]⟩ := by unfold otS; rw [e]; rfl
    have e2 : otC k p t g x = 1 := by unfold otC; rw [e]; rfl
    rw [e1, e2]
    have BV : Hid (Below w.heap.size w (w.alloc (.cells #[.int .i64 k, .string p, .string t, .int .i64 g, .int .i64 x] 24))) := (Below.refl _ _).alloc (Nat.le_refl _) _
    clear e e1 e2 q1 hg hx hP
    go_enter Tryz.func6, Tryz.ntmps6
    go_wp2_with fail
    refine (LO.out _).mono ?_
    rintro e w1 ⟨rfl, hb1⟩
    have B1 := hideIt (below_trans BV.out hb1 BV.out.size)
    clear hb1
    go_wp2
    go_ret2
    exact ⟨rfl, B1.out⟩
  | true =>
  rw [q1] at LO
  have hq := opB_iff.1 q1
  obtain ⟨n, rfl⟩ : ∃ n : Nat, k = (n : Int) := ⟨k.toNat, by omega⟩
  have hq2 : p.size ≤ 65536 ∧ t.size ≤ 65536 := ⟨hq.2.1, hq.2.2.1⟩
  have hn1 : 1 ≤ n := by omega
  have hn2 : n ≤ 10 := by omega
  have eB : otB n p t g x = (fdsOf n).all (fdB p t g x) := by unfold otB; rw [q1, Bool.true_and, Int.toNat_natCast]
  have OF := hideIt (fun (h : (fdsOf n).all (fdB p t g x) = false) => show otS n p t g x = ⟨#[]⟩ ∧ otC n p t g x = 1 by unfold otS otC; rw [eB, h]; exact ⟨rfl, rfl⟩)
  have OT := hideIt (fun (h : (fdsOf n).all (fdB p t g x) = true) => show otS n p t g x = joinB (kwT n :: (fdsOf n).map (fdT p t g x)) ∧ otC n p t g x = 0 by unfold otS otC; rw [eB, h]; exact ⟨rfl, rfl⟩)
  obtain ⟨A, hA⟩ : ∃ A, A = otS n p t g x := ⟨_, rfl⟩
  obtain ⟨C, hC⟩ : ∃ C, C = otC n p t g x := ⟨_, rfl⟩
  rw [← hA, ← hC]
  rw [← hA, ← hC] at OF OT
  clear hA hC eB q1
  have LF := hideIt (fun w1 => opForms_any w1)
  have LS0 := hideIt (fun w1 => pathWord_any n p t g x w1)
  have LS3 := hideIt (fun w1 => toWord_any n p t g x w1)
  have LS1 := hideIt (fun w1 (hb : Below w.heap.size w w1) => pageWord_any n p t g x w1 (hP.below hb) hg.1 hg.2)
  have LS2 := hideIt (fun w1 (hb : Below w.heap.size w w1) => valueWord_any n p t g x w1 (hP.below hb) hx.1 hx.2)
  clear hP
  obtain ⟨V, hV⟩ : ∃ V, V = w.alloc (.cells #[.int .i64 n, .string p, .string t, .int .i64 g, .int .i64 x] 24) := ⟨_, rfl⟩
  have BV : Hid (Below w.heap.size w V) := by rw [hV]; exact (Below.refl _ _).alloc (Nat.le_refl _) _
  have XV : Hid (V.heap[w.heap.size]? = some (.cells #[.int .i64 n, .string p, .string t, .int .i64 g, .int .i64 x] 24 (0, 0))) := by rw [hV]; exact at_new rfl
  have zV := (Array.getElem?_eq_some_iff.1 XV.out).1
  have CV : Hid (∀ w', Below V.heap.size V w' → w'.cell? ⟨w.heap.size, 0, none⟩ = some (.int .i64 n) ∧ w'.cell? ⟨w.heap.size, 1, none⟩ = some (.string p) ∧ w'.cell? ⟨w.heap.size, 2, none⟩ = some (.string t) ∧ w'.cell? ⟨w.heap.size, 3, none⟩ = some (.int .i64 g) ∧ w'.cell? ⟨w.heap.size, 4, none⟩ = some (.int .i64 x)) := fun w' hb => by
    have h := (hb.block _ zV).trans XV.out
    refine ⟨?_, ?_, ?_, ?_, ?_⟩ <;> simp [World.cell?, h]
  clear XV
  have n0 : (0 : Int) ≤ (n : Int) := by omega
  have n1 : (n : Int) < 11 := by omega
  go_enter Tryz.func6, Tryz.ntmps6
  go_upto_region 1 with fail
  rw [← hV]
  clear hV
  obtain ⟨x0, x1, x2, x3, x4⟩ := CV.out V (Below.refl _ _)
  go_wp2_with fail
  refine (LO.out _).mono ?_
  rintro e w1 ⟨rfl, hb1⟩
  have B1 := hideIt hb1
  have z1 := hb1.size
  clear hb1 x0 x1 x2 x3 x4 LO
  have S1 := CV.out w1 B1.out
  go_upto_region 3 with fail
  go_cut [4] (fun s wx => ∃ bx bk ck : Nat, s = .pointer (some ⟨bx, 0, none⟩) ∧ Hid (FbI w1 wx n bx bk ck))
  case first =>
    refine wp_region_T 6 (fun w' => w'.cell? ⟨w.heap.size, 0, none⟩ = some (.int .i64 n) ∧ w'.cell? ⟨w.heap.size, 1, none⟩ = some (.string p) ∧ w'.cell? ⟨w.heap.size, 2, none⟩ = some (.string t) ∧ w'.cell? ⟨w.heap.size, 3, none⟩ = some (.int .i64 g) ∧ w'.cell? ⟨w.heap.size, 4, none⟩ = some (.int .i64 x)) (by kernel_rfl) S1 (fun hS => ?_)
    refine wpAnyT_take (i := 1) (v := .pointer (some ⟨w.heap.size, 0, none⟩)) [1] rfl (by kernel_rfl) (fun _ _ _ h => h) hS rfl (fun w' hSw => by go_simp) ?_
    try simp only [Act.put]
    refine wpAnyT_take (i := 2) (v := .int .i64 n) [2] rfl (by kernel_rfl) (fun _ _ _ h => h) hS rfl (fun w' hSw => by have h1 := hSw.1; go_simp) ?_
    try simp only [Act.put]
    refine wpAnyT_two (i := 0) (j := 5) rfl rfl (by kernel_rfl) (fun K hK => ?_) (fun K hK => ?_)
    · go_simp
      go_at_call 23
      refine (LF.out _).mono ?_
      rintro e w2 ⟨b0, rfl, hz0, hfo, hb2⟩
      have B2 : Hid (Below w1.heap.size w1 w2) := by first | exact hb2 | exact below_trans ((Below.refl _ _).drew) hb2 (Nat.le_refl _)
      have S2 := CV.out w2 (below_trans B1.out B2.out z1)
      obtain ⟨bk, ck, hbk, lbk, e0, e1, hfi⟩ := hfo.at_ hn1 hn2
      refine hK.out _ _ (fun _ => S2) ?_
      clear hK K hb2 hS S1
      try simp only [Act.put]
      refine wpAnyT_take (i := 3) (v := .pointer (some ⟨b0, n * 2, none⟩)) [4, 3] rfl (by kernel_rfl) (fun _ _ _ h => h) S2 rfl (fun w' hSw => by go_simp) ?_
      try simp only [Act.put]
      refine wpAnyT_two (i := 4) (j := 5) rfl rfl (by kernel_rfl) (fun K hK => ?_) (fun K hK => ?_)
      · go_simp
        refine hK.out _ _ (fun _ => S2) ?_
        clear hK K
        try simp only [Act.put]
        refine wpAnyT_one (i := 5) rfl (by kernel_rfl) (fun K hK => ?_)
        go_simp
        refine hK.out _ _ (fun _ => CV.out _ (below_trans B1.out (B2.out.alloc B2.out.size _) z1)) ?_
        clear hK K
        try simp only [Act.put]
        refine wpAnyT_one (i := 6) rfl (by kernel_rfl) (fun K hK => ?_)
        go_simp
        refine hK.out _ _ (fun h => absurd rfl h) ?_
        clear hK K
        try simp only [Act.put]
        refine wpAnyT_done (by kernel_rfl) ?_ _
        go_wp2_with fail
        go_meet
        exact ⟨_, bk, ck, rfl, FbI.mk_ B2.out hbk hfi⟩
      · go_simp
        have B3 : Below w2.heap.size w2 (w2.alloc (.cells #[.string ⟨#[]⟩, .slice none 0 0] 67)) := (Below.refl _ _).alloc (Nat.le_refl _) _
        have S3 := CV.out _ (below_trans B1.out (below_trans B2.out B3 B2.out.size) z1)
        refine hK.out _ _ (fun _ => S3) ?_
        clear hK K
        try simp only [Act.put]
        have e0' := (B3.cell (p := ⟨b0, n * 2, none⟩) hz0).trans e0
        have e1' := (B3.cell (p := ⟨b0, n * 2 + 1, none⟩) hz0).trans e1
        refine wpAnyT_one (i := 4) rfl (by kernel_rfl) (fun K hK => ?_)
        go_simp
        refine hK.out _ _ (fun _ => S3) ?_
        clear hK K
        try simp only [Act.put]
        refine wpAnyT_one (i := 6) rfl (by kernel_rfl) (fun K hK => ?_)
        go_simp
        refine hK.out _ _ (fun h => absurd rfl h) ?_
        clear hK K
        try simp only [Act.put]
        refine wpAnyT_done (by kernel_rfl) ?_ _
        go_wp2_with fail
        go_meet
        exact ⟨_, bk, ck, rfl, FbI.mk_ B2.out hbk hfi⟩
    · go_simp
      obtain ⟨wa, hwa⟩ : ∃ wa, wa = w1.alloc (.cells #[.string ⟨#[]⟩, .slice none 0 0] 67) := ⟨_, rfl⟩
      have Ba : Hid (Below w1.heap.size w1 wa) := by rw [hwa]; exact (Below.refl _ _).alloc (Nat.le_refl _) _
      have Xa : Hid (wa.heap[w1.heap.size]? = some (.cells #[.string ⟨#[]⟩, .slice none 0 0] 67 (0, 0))) := by rw [hwa]; exact at_new rfl
      have za := (Array.getElem?_eq_some_iff.1 Xa.out).1
      have Sa := CV.out wa (below_trans B1.out Ba.out z1)
      refine hK.out _ _ (fun _ => by have := Sa; rw [hwa] at this; exact this) ?_
      clear hK K
      try simp only [Act.put]
      refine wpAnyT_one (i := 0) rfl (by kernel_rfl) (fun K hK => ?_)
      go_simp
      go_at_call 23
      rw [← hwa]
      clear hwa
      refine (LF.out _).mono ?_
      rintro e w2 ⟨b0, rfl, hz0, hfo, hb2⟩
      have b2 : Below wa.heap.size wa w2 := by first | exact hb2 | exact below_trans ((Below.refl _ _).drew) hb2 (Nat.le_refl _)
      have B2 : Hid (Below w1.heap.size w1 w2) := below_trans Ba.out b2 Ba.out.size
      have X2 := hideIt ((b2.block _ za).trans Xa.out)
      have S2 := CV.out w2 (below_trans B1.out B2.out z1)
      obtain ⟨bk, ck, hbk, lbk, e0, e1, hfi⟩ := hfo.at_ hn1 hn2
      have lbk2 : wa.heap.size ≤ bk := lbk
      refine hK.out _ _ (fun _ => S2) ?_
      clear hK K hb2 hS S1 Sa Xa Ba b2
      try simp only [Act.put]
      refine wpAnyT_one (i := 3) rfl (by kernel_rfl) (fun K hK => ?_)
      go_simp
      refine hK.out _ _ (fun _ => S2) ?_
      clear hK K
      try simp only [Act.put]
      refine wpAnyT_one (i := 4) rfl (by kernel_rfl) (fun K hK => ?_)
      go_simp
      refine hK.out _ _ (fun _ => S2) ?_
      clear hK K
      try simp only [Act.put]
      obtain ⟨f0, f1, f2, f3⟩ := two_cells X2.out
      refine wpAnyT_one (i := 6) rfl (by kernel_rfl) (fun K hK => ?_)
      go_simp
      refine hK.out _ _ (fun h => absurd rfl h) ?_
      clear hK K
      try simp only [Act.put]
      refine wpAnyT_done (by kernel_rfl) ?_ _
      go_wp2_with fail
      go_meet
      exact ⟨_, bk, ck, rfl, FbI.set B2.out (Nat.le_refl _) X2.out hbk (by omega) hfi⟩
  case rest =>
  obtain ⟨bx, bk, ck, rfl, F0⟩ := hcut
  rename World => w3
  clear S1 LF
  have B3 := hideIt (below_trans B1.out F0.out.1 z1)
  have z3 : V.heap.size ≤ w3.heap.size := B3.out.size
  have X3 := hideIt F0.out.2.2.1
  have hbk := F0.out.2.2.2.1
  have HF := hideIt F0.out.2.2.2.2.2
  have zx := (Array.getElem?_eq_some_iff.1 X3.out).1
  clear F0 B1 z1
  obtain ⟨y0, y1, -⟩ := two_cells X3.out
  obtain ⟨W4, hW4⟩ : ∃ W4, W4 = w3.alloc (.cells #[.string (kwT n)] 9) := ⟨_, rfl⟩
  have b4 : Below w3.heap.size w3 W4 := by rw [hW4]; exact (Below.refl _ _).alloc (Nat.le_refl _) _
  have RW : Hid (RdT W4 (.slice (some ⟨w3.heap.size, 0, none⟩) [kwT n].length [kwT n].length) [kwT n]) := by unfold Hid; rw [hW4]; exact (sn_lit w3 (kwT n)).rd
  have B4 := hideIt (below_trans B3.out b4 z3)
  have z4 := B4.out.size
  have X4 := hideIt ((b4.block _ zx).trans X3.out)
  have HF4 : Hid (∀ i (h : i < (fdsOf n).length), W4.cell? ⟨bk, i * 2, none⟩ = some (.func (.func (sayF (fdsOf n)[i])) #[] #[]) ∧ W4.cell? ⟨bk, i * 2 + 1, none⟩ = some (.func (.func (hearF (fdsOf n)[i])) #[] #[])) :=
    fun i hi => ⟨(b4.cell (p := ⟨bk, i * 2, none⟩) hbk).trans (HF.out i hi).1, (b4.cell (p := ⟨bk, i * 2 + 1, none⟩) hbk).trans (HF.out i hi).2⟩
  have hbk4 : bk < W4.heap.size := by have := b4.size; omega
  go_upto_region 5 with fail
  rw [← hW4]
  clear hW4 b4 X3 HF hbk B3 z3 zx y0 y1
  obtain ⟨y0, y1, -⟩ := two_cells X4.out
  have START : Hid (OutV W4 W4 (.slice (some ⟨w3.heap.size, 0, none⟩) [kwT n].length [kwT n].length) [kwT n] (.slice (some ⟨w3.heap.size, 0, none⟩) 1 1) (kwT n :: ((fdsOf n).take 0).map (fdT p t g x))) := .inl ⟨rfl, rfl, Below.refl _ _⟩
  have LSF : Hid (∀ f, f ≤ 3 → ∀ w1, Below w.heap.size w w1 → Calls Tryz.prog (sayF f) #[.agg #[.int .i64 n, .string p, .string t, .int .i64 g, .int .i64 x]] w1 fun e w' => e = .returned (.tuple #[.string (fdT p t g x f), .bool (fdB p t g x f)]) ∧ Below w1.heap.size w1 w') := fun f hf w1 hb => by
    rcases (show f = 0 ∨ f = 1 ∨ f = 2 ∨ f = 3 by omega) with rfl | rfl | rfl | rfl
    · exact LS0.out w1
    · exact LS1.out w1 hb
    · exact LS2.out w1 hb
    · exact LS3.out w1
  have F3 : Hid (∀ f ∈ fdsOf n, f ≤ 3) := fun f hf => by
    unfold fdsOf at hf
    split at hf
    · simp at hf; omega
    · split at hf
      · simp at hf; omega
      · split at hf <;> (simp at hf; omega)
  have FL : Hid ((fdsOf n).length ≤ 3) := by
    unfold fdsOf Hid
    split
    · decide
    · split
      · decide
      · split <;> decide
  have SU : Hid (∀ q (h : q < (fdsOf n).length), kwT n :: ((fdsOf n).take (q + 1)).map (fdT p t g x) = (kwT n :: ((fdsOf n).take q).map (fdT p t g x)) ++ [fdT p t g x (fdsOf n)[q]]) := fun q h => by
    rw [List.take_succ_eq_append_getElem h, List.map_append]
    rfl
  have LEN : Hid (∀ q, (kwT n :: ((fdsOf n).take q).map (fdT p t g x)).length ≤ 4) := fun q => by
    have := FL.out
    rw [List.length_cons, List.length_map, List.length_take]
    omega
  have NO : Hid (∀ q (h : q < (fdsOf n).length), fdB p t g x (fdsOf n)[q] = false → (fdsOf n).all (fdB p t g x) = false) := fun q h e => by
    rw [List.all_eq_false]
    exact ⟨_, List.getElem_mem h, by rw [e]; decide⟩
  have YES : Hid ((∀ j (h : j < (fdsOf n).length), fdB p t g x (fdsOf n)[j] = true) → (fdsOf n).all (fdB p t g x) = true) := fun h => by
    rw [List.all_eq_true]
    intro f hf
    obtain ⟨j, hj, rfl⟩ := List.getElem_of_mem hf
    exact h j hj
  clear LS0 LS1 LS2 LS3
  go_wp2_with fail
  go_loopg [5, 24] (fdsOf n).length (fun gk o i wr => ∃ q : Nat, q + gk = (fdsOf n).length ∧ i = .int .i64 q ∧ Hid (OutV W4 wr (.slice (some ⟨w3.heap.size, 0, none⟩) [kwT n].length [kwT n].length) [kwT n] o (kwT n :: ((fdsOf n).take q).map (fdT p t g x))) ∧ Hid (∀ j (h : j < (fdsOf n).length), j < q → fdB p t g x (fdsOf n)[j] = true))
  case atStart => exact ⟨0, by omega, rfl, START.out, fun j h a => absurd a (by omega)⟩
  case round =>
    obtain ⟨q, hq, rfl, J, H⟩ := hrel
    clear START y0 y1
    have q0 : (0 : Int) ≤ (q : Int) := by omega
    have BR := hideIt J.out.b
    have BW := hideIt (below_trans B4.out BR.out z4)
    have zr := BR.out.size
    by_cases hlt : q < (fdsOf n).length
    · have q1 : (q : Int) < ((fdsOf n).length : Int) := by omega
      have e0 := (BR.out.cell (p := ⟨bk, q * 2, none⟩) hbk4).trans (HF4.out q hlt).1
      have e1 := (BR.out.cell (p := ⟨bk, q * 2 + 1, none⟩) hbk4).trans (HF4.out q hlt).2
      have LE := LEN.out q
      have SU2 := hideIt (SU.out q hlt)
      have LC := hideIt (LSF.out _ (F3.out _ (List.getElem_mem hlt)))
      have NO2 := hideIt (NO.out q hlt)
      have HX : Hid (fdB p t g x (fdsOf n)[q] = true → ∀ j (h : j < (fdsOf n).length), j < q + 1 → fdB p t g x (fdsOf n)[j] = true) := fun e j h a => by
        by_cases c : j = q
        · subst c; exact e
        · exact H.out j h (by omega)
      have hf3 := F3.out _ (List.getElem_mem hlt)
      have hm : q + 1 + ((fdsOf n).length - (q + 1)) = (fdsOf n).length := by omega
      have hq3 : q ≤ 3 := by have := FL.out; omega
      have hm2 : (fdsOf n).length - (q + 1) < gk := by omega
      clear SU LSF F3 NO HF4 H
      generalize (fdsOf n)[q] = f at *
      have SF : sayF f = 56 ∨ sayF f = 58 ∨ sayF f = 60 ∨ sayF f = 62 := by
        rcases (show f = 0 ∨ f = 1 ∨ f = 2 ∨ f = 3 by omega) with rfl | rfl | rfl | rfl
        · exact .inl rfl
        · exact .inr (.inl rfl)
        · exact .inr (.inr (.inl rfl))
        · exact .inr (.inr (.inr rfl))
      clear hf3
      generalize sayF f = sf at *
      generalize hearF f = hf at *
      rcases SF with hsf | hsf | hsf | hsf
      all_goals
        have HS := hideIt hsf
        clear hsf
        obtain ⟨wq, hwq⟩ : ∃ wq, wq = wr.alloc (.cells #[.func (.func (sf)) #[] #[], .func (.func (hf)) #[] #[]] 73) := ⟨_, rfl⟩
        have bq : Below wr.heap.size wr wq := by rw [hwq]; exact (Below.refl _ _).alloc (Nat.le_refl _) _
        have Xq : Hid (wq.heap[wr.heap.size]? = some (.cells #[.func (.func (sf)) #[] #[], .func (.func (hf)) #[] #[]] 73 (0, 0))) := by rw [hwq]; exact at_new rfl
        have Jq := hideIt (J.out.below bq)
        have Bq := hideIt (below_trans BW.out bq BW.out.size)
        go_upto_region 8 with fail
        rw [← hwq]
        clear hwq bq e0 e1 J BR BW zr
        obtain ⟨y0, y1, -⟩ := two_cells Xq.out
        obtain ⟨cx0, cx1, cx2, cx3, cx4⟩ := CV.out wq Bq.out
        have hsf := HS.out
        subst hsf
        go_wp2_with fail
        refine (LC.out wq (below_trans BV.out Bq.out BV.out.size)).mono ?_
        rintro e w5 ⟨rfl, hb5⟩
        have J5 := hideIt (Jq.out.below hb5)
        have B5 := hideIt (below_trans BV.out (below_trans Bq.out hb5 Bq.out.size) BV.out.size)
        clear hb5 cx0 cx1 cx2 cx3 cx4 y0 y1 Xq Jq Bq LC
        cases qf : fdB p t g x f with
        | false =>
          obtain ⟨rfl, rfl⟩ := OF.out (NO2.out qf)
          clear OF OT NO2 HX J5 SU2 YES LEN
          go_wp2
          go_ret2
          exact ⟨rfl, B5.out⟩
        | true =>
          have EM := hideIt (HX.out qf)
          obtain ⟨L', eL⟩ : ∃ L', L' = kwT n :: ((fdsOf n).take (q + 1)).map (fdT p t g x) := ⟨_, rfl⟩
          rw [← eL] at SU2
          have EL := hideIt eL
          clear eL NO2 HX qf
          generalize kwT n :: ((fdsOf n).take q).map (fdT p t g x) = LL at *
          generalize fdT p t g x f = sx at *
          have JB := hideIt (J5.out.below ((Below.refl _ _).alloc (Nat.le_refl _) (.cells #[.string sx] 9)))
          have RB := hideIt (rd_str w5 sx)
          clear J5
          go_wp2_with (at_builtin; refine wpList_append_outv rfl (.tmp 38) (.tmp 40) rfl rfl JB.out RW.out rfl (l := [sx]) RB.out (by simp) (by simp; omega) ?_)
          intro vN wN hN
          have G := hideIt hN
          rw [← SU2.out, EL.out] at G
          clear hN JB RB
          go_wp2
          go_roundg ((fdsOf n).length - (q + 1))
          case measure => first | exact hm2 | omega
          case rel => exact ⟨q + 1, hm, by go_num, G.out, EM.out⟩
    · have eq : q = (fdsOf n).length := by omega
      obtain ⟨eA, rfl⟩ := OT.out (YES.out (fun j h => H.out j h (by omega)))
      have J2 := hideIt (J.out.rd RW.out)
      rw [eq, List.take_length] at J2
      have LX := hideIt (fun v1 w1 h => textOf_any v1 (kwT n :: (fdsOf n).map (fdT p t g x)) 65536 w1 h (by simp) (by rw [List.length_cons, List.length_map]; have := FL.out; omega) (fun y hy => by
        rcases List.mem_cons.1 hy with rfl | hy
        · have := kwT_size (k := n); omega
        · obtain ⟨f, hf, rfl⟩ := List.mem_map.1 hy
          unfold fdT
          split
          · exact hq2.1
          · split
            · exact Nat.le_trans (it_size2 hg.1 hg.2) (by decide)
            · split
              · exact Nat.le_trans (it_size2 hx.1 hx.2) (by decide)
              · exact hq2.2) (by omega))
      rw [← eA] at LX
      clear J RW SU LEN NO YES HF4 H F3 LSF OT OF eA eq
      go_wp2_with fail
      refine (LX.out _ _ J2.out).mono ?_
      rintro e w5 ⟨rfl, hb5⟩
      have B5 := hideIt (below_trans BV.out (below_trans BW.out hb5 BW.out.size) BV.out.size)
      clear hb5
      go_wp2
      go_ret2
      exact ⟨rfl, B5.out⟩
end Go.Proofs.YtjkdmhdehihcbaaGreatDoor
