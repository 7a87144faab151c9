/- Steps told in words: by the program. -/
import Derived.Test.YtjkdmhdehihcbaaGreatDoorMtA
import Derived.Test.YtjkdmhdehihcbaaGreatDoorJiA
import Derived.Test.YtjkdmhdehihcbaaGreatDoorShJ
import Derived.Test.YtjkdmhdehihcbaaGreatDoorZAL
import Derived.Test.YtjkdmhdehihcbaaGreatDoorZAE
import Derived.ArgAppend
namespace Go.Proofs.YtjkdmhdehihcbaaGreatDoor
open Go.RowKit
def StF (w : World) : Prop := ∃ t fr, w.heap[2]? = some (.cells #[.string ⟨#[]⟩, .int .i64 0, .string ⟨#[115, 116, 111, 114, 101]⟩, .int .i64 2, .string ⟨#[102, 108, 117, 115, 104]⟩, .int .i64 1, .string ⟨#[102, 101, 110, 99, 101]⟩, .int .i64 0, .string ⟨#[119, 114, 105, 116, 101]⟩, .int .i64 2, .string ⟨#[98, 97, 114, 114, 105, 101, 114]⟩, .int .i64 0] t fr)
theorem StF.below {w w' : World} (h : StF w) (hb : Below w.heap.size w w') : StF w' := by
  obtain ⟨t, fr, h⟩ := h
  exact ⟨t, fr, (hb.block _ (Array.getElem?_eq_some_iff.1 h).1).trans h⟩
theorem StF.at {w : World} (h : StF w) {k a v : Int} (hm : miB ⟨k, a, v⟩ = true) : ∃ (j n : Nat) (wd : ByteArray), k = (j : Int) ∧ j < 6 ∧ n ≤ 2 ∧ wd.size ≤ 7 ∧ w.cell? ⟨2, j * 2, none⟩ = some (.string wd) ∧ w.cell? ⟨2, j * 2 + 1, none⟩ = some (.int .i64 n) ∧ miW ⟨k, a, v⟩ = wd :: ([a, v].take n).map itT ∧ (0 ≤ a ∧ a ≤ 9223372036854775807) ∧ 0 ≤ v ∧ v ≤ 9223372036854775807 := by
  obtain ⟨t, fr, h⟩ := h
  have hk := (miB_of k a v).1 hm
  rcases (show k = 1 ∨ k = 2 ∨ k = 3 ∨ k = 4 ∨ k = 5 by omega) with rfl | rfl | rfl | rfl | rfl
  · exact ⟨1, 2, _, rfl, by omega, by omega, by decide, by simp [World.cell?, h], by simp [World.cell?, h], rfl, by omega, by omega⟩
  · exact ⟨2, 1, _, rfl, by omega, by omega, by decide, by simp [World.cell?, h], by simp [World.cell?, h], rfl, by omega, by omega⟩
  · exact ⟨3, 0, _, rfl, by omega, by omega, by decide, by simp [World.cell?, h], by simp [World.cell?, h], rfl, by omega, by omega⟩
  · exact ⟨4, 2, _, rfl, by omega, by omega, by decide, by simp [World.cell?, h], by simp [World.cell?, h], rfl, by omega, by omega⟩
  · exact ⟨5, 0, _, rfl, by omega, by omega, by decide, by simp [World.cell?, h], by simp [World.cell?, h], rfl, by omega, by omega⟩
theorem lens_le (B : Nat) : ∀ (r : List (List UInt8)), (∀ x ∈ r, x.length ≤ B) → Lib.lens r ≤ B * r.length
  | [], _ => by simp [Lib.lens]
  | x :: r, h => by
    have h1 : (r.map (·.length)).sum ≤ B * r.length := lens_le B r (fun y hy => h y (List.mem_cons_of_mem _ hy))
    have h2 := h x (List.mem_cons_self ..)
    show ((x :: r).map (·.length)).sum ≤ B * (r.length + 1)
    rw [List.map_cons, List.sum_cons, Nat.mul_succ]
    omega
theorem joinB_size {xs : List ByteArray} {B : Nat} (h : ∀ x ∈ xs, x.size ≤ B) : (Lib.join (xs.map (·.data.toList)) [32]).length ≤ (B + 1) * xs.length := by
  cases xs with
  | nil => simp [Lib.join, List.intercalate]
  | cons x r =>
    have h1 := lens_le B ((x :: r).map (·.data.toList)) (fun y hy => by
      obtain ⟨z, hz, rfl⟩ := List.mem_map.1 hy
      have := h z hz
      show z.data.toList.length ≤ B
      rw [Array.length_toList]
      exact this)
    rw [List.length_map] at h1
    rw [List.map_cons] at h1 ⊢
    rw [Lib.join_length, List.length_map]
    show 1 * r.length + _ ≤ (B + 1) * (r.length + 1)
    rw [show (B + 1) * (r.length + 1) = B * (r.length + 1) + (r.length + 1) from by rw [Nat.add_mul, Nat.one_mul]]
    have h2 : Lib.lens (x.data.toList :: List.map (fun x => x.data.toList) r) ≤ B * (r.length + 1) := h1
    omega
theorem join_any (bk o c : Nat) (xs : List ByteArray) (B : Nat) (w : World) (hcells : ∀ (j : Nat) x, xs[j]? = some x → w.cell? ⟨bk, o + j, none⟩ = some (.string x)) (hbk : bk < w.heap.size) (hN : xs.length ≤ 4096) (hcap : xs.length ≤ c) (hB : ∀ x ∈ xs, x.size ≤ B) (hB2 : B ≤ 16777216) :
    Calls Tryz.prog 64 #[.slice (some ⟨bk, o, none⟩) xs.length c, .string ⟨#[32]⟩] w fun e w' => e = .returned (.string (joinB xs)) ∧ Below w.heap.size w w' := by
  have hl := joinB_size hB
  have : (B + 1) * xs.length ≤ 16777217 * 4096 := Nat.mul_le_mul (by omega) hN
  exact Any.strings_Join lays156 extraJ bk o c xs ⟨#[32]⟩ w hcells hbk (by omega) hcap (by
    show (Lib.join (xs.map (·.data.toList)) [32]).length ≤ _
    omega)
theorem textOf_any (v : Value) (xs : List ByteArray) (B : Nat) (w : World) (h : RdT w v xs) (h0 : 0 < xs.length) (hN : xs.length ≤ 4096) (hB : ∀ x ∈ xs, x.size ≤ B) (hB2 : B ≤ 16777216) :
    Calls Tryz.prog 24 #[v] w fun e w' => e = .returned (.string (joinB xs)) ∧ Below w.heap.size w w' := by
  obtain ⟨ao, c, rfl, hcap, hcell⟩ := h.shape
  obtain ⟨b, o, rfl, hb, hcell⟩ := hcell h0
  have LJ := hideIt (join_any b o c xs B w (fun j x hx => by
    obtain ⟨hj, rfl⟩ := List.getElem?_eq_some_iff.1 hx
    exact hcell j hj) hb hN (by omega) hB hB2)
  clear h hcell hcap hB hB2
  go_enter Tryz.func24, Tryz.ntmps24
  go_wp2_with fail
  refine LJ.out.mono ?_
  rintro e w1 ⟨rfl, hb1⟩
  have B1 := hideIt hb1
  clear hb1
  go_wp2
  go_ret
  exact ⟨rfl, B1.out⟩
def OutV (W w : World) (v0 : Value) (l0 : List ByteArray) (v : Value) (ss : List ByteArray) : Prop := (v = v0 ∧ ss = l0 ∧ Below W.heap.size W w) ∨ SnI W w v ss
theorem OutV.b {W w : World} {v0 v : Value} {l0 ss : List ByteArray} (h : OutV W w v0 l0 v ss) : Below W.heap.size W w := by
  rcases h with ⟨_, _, h⟩ | h
  · exact h
  · exact h.b
theorem OutV.below {W w w' : World} {v0 v : Value} {l0 ss : List ByteArray} (h : OutV W w v0 l0 v ss) (hb : Below w.heap.size w w') : OutV W w' v0 l0 v ss := by
  rcases h with ⟨e, f, h⟩ | h
  · exact .inl ⟨e, f, below_trans h hb h.size⟩
  · exact .inr (h.below hb)
theorem own_base1 {w : World} {base base' : Nat} {e : TypeId} {size : Nat} {v : Value} {n : Nat} {xs : List Value} (h : w.ownsRow base e size v n xs) (hb : base' ≤ base) : w.ownsRow base' e size v n xs := by
  obtain ⟨hl, h | ⟨g, cap, cur, h1, h2, h3⟩⟩ := h
  · exact ⟨hl, .inl h⟩
  · exact ⟨hl, .inr ⟨g, cap, cur, h1, Nat.le_trans hb h2, h3⟩⟩
theorem OutV.rd {W w : World} {b0 : Nat} {v : Value} {l0 ss : List ByteArray} (h : OutV W w (.slice (some ⟨b0, 0, none⟩) l0.length l0.length) l0 v ss) (h0 : RdT W (.slice (some ⟨b0, 0, none⟩) l0.length l0.length) l0) : RdT w v ss := by
  rcases h with ⟨rfl, rfl, h⟩ | h
  · exact Rd.below h0 h
  · exact h.rd
theorem rdt_cells {w : World} {b n c : Nat} {ss : List ByteArray} (h : RdT w (.slice (some ⟨b, 0, none⟩) n c) ss) : ∀ j (hj : j < ss.length), w.cell? ⟨b, 0 + j, none⟩ = some (.string ss[j]) := fun j hj => by
  obtain ⟨ao, cap, e, _, hc⟩ := h.shape
  obtain ⟨b1, o1, e2, _, hcell⟩ := hc (by omega)
  have e1 := (Value.slice.inj e).1
  rw [e2] at e1
  have e3 := Option.some.inj e1
  have e4 : b = b1 := congrArg Addr.block e3
  have e5 : 0 = o1 := congrArg Addr.off e3
  subst e4 e5
  exact hcell j hj
theorem run_append_outv {W w : World} {b0 : Nat} {v u : Value} {l0 ss l : List ByteArray} (ty : TypeId) (ho : OutV W w (.slice (some ⟨b0, 0, none⟩) l0.length l0.length) l0 v ss) (h0 : RdT W (.slice (some ⟨b0, 0, none⟩) l0.length l0.length) l0) (hr : RdT w u l) (hq : 0 < l.length) (h63 : ss.length + l.length ≤ 1099511627776) :
    ∃ v' w', (Builtin.append_ #[35, 35] ty #[v, u]).run Tryz.prog w = .ok v' w' ∧ OutV W w' (.slice (some ⟨b0, 0, none⟩) l0.length l0.length) l0 v' (ss ++ l) := by
  have hm : (1099511627776 : Nat) ≤ maxLen := by simp [maxLen]
  rcases ho with ⟨rfl, rfl, hb⟩ | h
  · have h1 : RdT w (.slice (some ⟨b0, 0, none⟩) ss.length ss.length) ss := Rd.below h0 hb
    obtain ⟨ao, cap, rfl, _, hc⟩ := hr.shape
    obtain ⟨b, o, rfl, _, hcell⟩ := hc (by omega)
    obtain ⟨i, hi, hz, hs, hby⟩ := info_parts info9
    obtain ⟨v', w', hrun, h2, h3⟩ := run_append_arg_grows (P := Tryz.prog) w 35 ty 9 i (.string ⟨#[]⟩) 1 16 Tryz.underlying35 hi hz hs hby rfl (by decide) ⟨b0, 0, none⟩ ss.length ss.length (strs ss) (by simp [strs]) (fun j u hj => by
      have hj' : j < ss.length := by
        have := (List.getElem?_eq_some_iff.1 hj).1
        simpa [strs] using this
      have hcell := rdt_cells h1
      rw [Addr.add_lit, hcell j hj']
      simpa [strs, List.getElem?_map, List.getElem?_eq_getElem hj'] using hj) ⟨b, o, none⟩ l.length cap (strs l) (by simp [strs]) (fun j u hj => by
      have hj' : j < l.length := by
        have := (List.getElem?_eq_some_iff.1 hj).1
        simpa [strs] using this
      rw [Addr.add_lit, hcell j hj']
      simpa [strs, List.getElem?_map, List.getElem?_eq_getElem hj'] using hj) (by omega) (by omega) (by omega)
    refine ⟨v', w', hrun, .inr ⟨?_, ?_⟩⟩
    · have := own_base1 h2 hb.size
      rw [strs_app, List.length_append]
      exact this
    · exact hb.grown h3 hb.size (fun q hq => by cases hq)
  · obtain ⟨v', w', hrun, h2, h3⟩ := run_append_rd (P := Tryz.prog) w W.heap.size 35 ty 9 (.string ⟨#[]⟩) 1 16 Tryz.underlying35 info9 rfl (by decide) v ss.length (strs ss) h.l u l.length (strs l) hr (strs_one _) (by omega) (by omega) h.z
    exact ⟨v', w', hrun, .inr (h.grow l rfl h2 h3)⟩
theorem wpList_append_outv {W w : World} {b0 : Nat} {v u : Value} {l0 ss l : List ByteArray} {ops : Array Oper} {rest : List Oper} {o : Oper} {a : Act} {Q : Exit → Act → World → Prop} (hgd : o.guard = none) (s x : Operand)
    (hop : o.op = .call { callee := .builtin .append, args := #[s, x], argTypes := #[35, 35] }) (hs : a.eval s = v) (ho : OutV W w (.slice (some ⟨b0, 0, none⟩) l0.length l0.length) l0 v ss) (h0 : RdT W (.slice (some ⟨b0, 0, none⟩) l0.length l0.length) l0) (hx : a.eval x = u) (hr : RdT w u l) (hq : 0 < l.length) (h63 : ss.length + l.length ≤ 1099511627776)
    (h : ∀ v' w', OutV W w' (.slice (some ⟨b0, 0, none⟩) l0.length l0.length) l0 v' (ss ++ l) → wpList Tryz.prog ops Q rest (a.put o.dst v') w') : wpList Tryz.prog ops Q (o :: rest) a w := by
  refine wpList_plain hgd fun K hK => ?_
  obtain ⟨v', w', hrun, h2⟩ := run_append_outv o.type ho h0 hr hq h63
  unfold Oper.wp execOp
  simp only [hop, resolve, invoke, builtin, Sem.run_bind, Sem.run_pure, Result.andThen_ok, List.map_toArray, List.map_cons, List.map_nil, hs, hx, hrun]
  exact hK _ _ (h v' w' h2)
theorem sn_lit (W : World) (x : ByteArray) : SnI W (W.alloc (.cells #[.string x] 9)) (.slice (some ⟨W.heap.size, 0, none⟩) 1 1) [x] :=
  ⟨World.ownsRow_lit W #[.string x] 1 (Nat.le_refl _) (by simp [maxLen]) rfl, (Below.refl _ _).alloc (Nat.le_refl _) _⟩
theorem map_take_succ (f : Int → ByteArray) (l : List Int) (k : Nat) (h : k < l.length) : (l.take (k + 1)).map f = (l.take k).map f ++ [f l[k]] := by
  rw [List.take_succ_eq_append_getElem h, List.map_append]
  rfl
set_option maxRecDepth 100000 in
set_option maxHeartbeats 8000000 in
theorem stepText_any (m : Mi) (w : World) (hm : miB m = true) (hF : StF w) (hP : PT w) : Calls Tryz.prog 40 #[m.v] w fun e w' => e = .returned (.string (miT m)) ∧ Below w.heap.size w w' := by
  obtain ⟨k, a, v⟩ := m
  obtain ⟨V, hV⟩ : ∃ V, V = w.alloc (.cells #[.int .i64 k, .int .i64 a, .int .i64 v] 41) := ⟨_, rfl⟩
  have BV : Hid (Below w.heap.size w V) := by rw [hV]; exact (Below.refl _ _).alloc (Nat.le_refl _) _
  have XV : Hid (V.heap[w.heap.size]? = some (.cells #[.int .i64 k, .int .i64 a, .int .i64 v] 41 (0, 0))) := by rw [hV]; exact at_new rfl
  have zV := (Array.getElem?_eq_some_iff.1 XV.out).1
  obtain ⟨j, n, wd, rfl, hj, hn, hw, c0, c1, ew, ha, hv⟩ := (hF.below BV.out).at hm
  have LI := hideIt (fun (z : Int) (h0 : 0 ≤ z) (h1 : z ≤ 9223372036854775807) w1 (hb : Below w.heap.size w w1) => itoa_any z w1 (by omega) h1 (hP.below hb))
  have sa := it_size1 ha.1 ha.2
  have sv := it_size1 hv.1 hv.2
  unfold miT
  rw [ew]
  unfold Mi.v
  simp only
  have ALL : Hid (∀ x ∈ wd :: ([a, v].take n).map itT, x.size ≤ 20) := fun x hx => by
    rcases List.mem_cons.1 hx with rfl | hx
    · omega
    · obtain ⟨z, hz, rfl⟩ := List.mem_map.1 hx
      rcases List.mem_cons.1 (List.mem_of_mem_take hz) with rfl | hz
      · exact sa
      · obtain rfl := List.mem_singleton.1 hz
        exact sv
  have NL : Hid (([a, v].take n).length = n) := by unfold Hid; rw [List.length_take]; show min n 2 = n; omega
  have LX := hideIt (fun v1 w1 h => textOf_any v1 (wd :: ([a, v].take n).map itT) 20 w1 h (by simp) (by rw [List.length_cons, List.length_map, NL.out]; omega) ALL.out (by omega))
  obtain ⟨R, hR⟩ : ∃ R, R = joinB (wd :: ([a, v].take n).map itT) := ⟨_, rfl⟩
  rw [← hR] at LX ⊢
  clear hR
  have SU : Hid (∀ i (h : i < n), wd :: ([a, v].take (i + 1)).map itT = (wd :: ([a, v].take i).map itT) ++ [itT ([a, v].getD i 0)]) := fun i h => by
    have q : i < [a, v].length := by show i < 2; omega
    rw [map_take_succ itT [a, v] i q, List.getD_eq_getElem?_getD, List.getElem?_eq_getElem q]
    rfl
  have GD : Hid (∀ i, i < n → 0 ≤ [a, v].getD i 0 ∧ [a, v].getD i 0 ≤ 9223372036854775807) := fun i h => by
    rcases (show i = 0 ∨ i = 1 by omega) with rfl | rfl
    · exact ha
    · exact hv
  have LEN : Hid (∀ i, i ≤ n → (wd :: ([a, v].take i).map itT).length ≤ 3) := fun i h => by
    rw [List.length_cons, List.length_map, List.length_take]
    show min i 2 + 1 ≤ 3
    omega
  clear ALL NL hm hF hP ew ha hv sa sv
  go_enter Tryz.func40, Tryz.ntmps40
  go_upto_region 1 with fail
  rw [← hV]
  clear hV
  obtain ⟨x0, x1, x2⟩ := three_cells XV.out
  go_upto_region 2 with fail
  obtain ⟨W2, hW2⟩ : ∃ W2, W2 = V.alloc (.cells #[.string wd, .int .i64 n] 125) := ⟨_, rfl⟩
  have b2 : Below V.heap.size V W2 := by rw [hW2]; exact (Below.refl _ _).alloc (Nat.le_refl _) _
  have X2 : Hid (W2.heap[V.heap.size]? = some (.cells #[.string wd, .int .i64 n] 125 (0, 0))) := by rw [hW2]; exact at_new rfl
  have XV2 := hideIt ((b2.block w.heap.size zV).trans XV.out)
  have B2 := hideIt (below_trans BV.out b2 BV.out.size)
  have z2 := (Array.getElem?_eq_some_iff.1 X2.out).1
  have zv2 := b2.size
  rw [← hW2]
  clear hW2 b2 BV XV x0 x1 x2 c0 c1
  obtain ⟨y0, y1, -⟩ := two_cells X2.out
  obtain ⟨W3, hW3⟩ : ∃ W3, W3 = W2.alloc (.cells #[.string wd] 9) := ⟨_, rfl⟩
  have b3 : Below W2.heap.size W2 W3 := by rw [hW3]; exact (Below.refl _ _).alloc (Nat.le_refl _) _
  have S3 : Hid (SnI W2 W3 (.slice (some ⟨W2.heap.size, 0, none⟩) 1 1) [wd]) := by rw [hW3]; exact sn_lit W2 wd
  have X3 := hideIt ((b3.block V.heap.size z2).trans X2.out)
  have XV3 := hideIt ((b3.block w.heap.size (by omega)).trans XV2.out)
  have B3 := hideIt (below_trans B2.out b3 B2.out.size)
  have z3 := b3.size
  go_upto_region 3 with fail
  rw [← hW3]
  clear hW3 b3 B2 X2 XV2 y0 y1
  obtain ⟨y0, y1, -⟩ := two_cells X3.out
  obtain ⟨x0, x1, x2⟩ := three_cells XV3.out
  obtain ⟨W4, hW4⟩ : ∃ W4, W4 = W3.alloc (.cells #[.int .i64 a, .int .i64 v] 3) := ⟨_, rfl⟩
  have b4 : Below W3.heap.size W3 W4 := by rw [hW4]; exact (Below.refl _ _).alloc (Nat.le_refl _) _
  have X4 : Hid (W4.heap[W3.heap.size]? = some (.cells #[.int .i64 a, .int .i64 v] 3 (0, 0))) := by rw [hW4]; exact at_new rfl
  have zX := (Array.getElem?_eq_some_iff.1 X4.out).1
  have RW : Hid (RdT W4 (.slice (some ⟨W2.heap.size, 0, none⟩) [wd].length [wd].length) [wd]) := Rd.below S3.out.rd b4
  have B4 := hideIt (below_trans B3.out b4 B3.out.size)
  have START : Hid (OutV W4 W4 (.slice (some ⟨W2.heap.size, 0, none⟩) [wd].length [wd].length) [wd] (.slice (some ⟨W2.heap.size, 0, none⟩) 1 1) (wd :: ([a, v].take 0).map itT)) := .inl ⟨rfl, rfl, Below.refl _ _⟩
  have CL : Hid (∀ w', Below W4.heap.size W4 w' → ∀ i, i < 2 → w'.cell? ⟨W3.heap.size, i, none⟩ = some (.int .i64 ([a, v].getD i 0))) := fun w' hb i hi => by
    obtain ⟨q0, q1, -⟩ := two_cells ((hb.block _ zX).trans X4.out)
    rcases (show i = 0 ∨ i = 1 by omega) with rfl | rfl
    · exact q0
    · exact q1
  have f1 := (b4.cell (p := ⟨V.heap.size, 1, none⟩) (by show V.heap.size < W3.heap.size; omega)).trans y1
  rw [hW4] at f1
  clear b4 X4 S3 XV3 X3 zX
  go_wp2_with fail
  rw [← hW4]
  clear hW4 x0 x1 x2 y0 y1 f1
  go_loopg [4, 23] n (fun g o i wr => ∃ q : Nat, q + g = n ∧ i = .int .i64 q ∧ Hid (OutV W4 wr (.slice (some ⟨W2.heap.size, 0, none⟩) [wd].length [wd].length) [wd] o (wd :: ([a, v].take q).map itT)))
  case atStart => exact ⟨0, by omega, rfl, START.out⟩
  case round =>
    obtain ⟨q, hq, rfl, J⟩ := hrel
    clear START
    have q0 : (0 : Int) ≤ (q : Int) := by omega
    have BR := hideIt J.out.b
    by_cases hlt : q < n
    · have q1 : (q : Int) < (n : Int) := by omega
      have q2 : q < 2 := by omega
      have SU2 := hideIt (SU.out q hlt)
      obtain ⟨g0, g1⟩ := GD.out q hlt
      have e0 := CL.out wr BR.out q q2
      have LE := LEN.out q (by omega)
      clear SU GD LEN
      generalize [a, v].getD q 0 = z at *
      have LZ := hideIt (LI.out z g0 g1)
      generalize wd :: ([a, v].take q).map itT = L at *
      obtain ⟨L', eL⟩ : ∃ L', L' = wd :: ([a, v].take (q + 1)).map itT := ⟨_, rfl⟩
      rw [← eL] at SU2
      have EL := hideIt eL
      clear eL
      go_wp2_with fail
      refine (LZ.out wr (below_trans B4.out BR.out B4.out.size)).mono ?_
      rintro e w5 ⟨rfl, hb5⟩
      generalize itT z = s at *
      have JB := hideIt ((J.out.below hb5).below ((Below.refl _ _).alloc (Nat.le_refl _) (.cells #[.string s] 9)))
      have RB := hideIt (rd_str w5 s)
      clear hb5 e0 J BR
      go_wp2_with (at_builtin; refine wpList_append_outv rfl (.tmp 27) (.tmp 30) rfl rfl JB.out RW.out rfl (l := [s]) RB.out (by simp) (by simp; omega) ?_)
      intro vN wN hN
      have G := hideIt hN
      rw [← SU2.out, EL.out] at G
      clear hN JB RB
      go_wp2
      go_roundg (n - (q + 1))
      case measure => omega
      case rel => exact ⟨q + 1, by omega, by go_num, G.out⟩
    · obtain rfl : q = n := by omega
      have J2 := hideIt (J.out.rd RW.out)
      have Bw := hideIt (below_trans B4.out BR.out B4.out.size)
      clear J BR RW SU GD LEN CL B4 LI
      go_wp2_with fail
      refine (LX.out _ _ J2.out).mono ?_
      rintro e w5 ⟨rfl, hb5⟩
      have B5 := hideIt (below_trans Bw.out hb5 Bw.out.size)
      clear hb5
      go_wp2
      go_ret
      exact ⟨rfl, B5.out⟩
end Go.Proofs.YtjkdmhdehihcbaaGreatDoor
