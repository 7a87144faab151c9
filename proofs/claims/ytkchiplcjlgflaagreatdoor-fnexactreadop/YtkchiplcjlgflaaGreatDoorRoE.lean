/- An operation is read: the walk of the model. -/
import Derived.Test.YtkchiplcjlgflaaGreatDoorRoF
import Derived.Test.YtkchiplcjlgflaaGreatDoorOrdT
namespace Go.Proofs.YtkchiplcjlgflaaGreatDoor
open Go.RowKit
theorem wdG_len : ∀ (l cur : List UInt8) (x : List UInt8), x ∈ wdG cur l → x.length ≤ cur.length + l.length
  | [], cur, x, h => by
    unfold wdG at h
    split at h
    · cases h
    · obtain rfl := List.mem_singleton.1 h
      omega
  | c :: l, cur, x, h => by
    rw [wdG_cons] at h
    simp only [List.length_cons]
    split at h
    · split at h
      · have := wdG_len l [] x h
        simp at this
        omega
      · rcases List.mem_cons.1 h with rfl | h
        · omega
        · have := wdG_len l [] x h
          simp at this
          omega
    · have := wdG_len l (cur ++ [c]) x h
      simp at this
      omega
theorem wds_size {s x : ByteArray} (h : x ∈ wds s) : x.size ≤ s.size := by
  unfold wds at h
  obtain ⟨l, hl, rfl⟩ := List.mem_map.1 h
  have := wdG_len _ [] l hl
  rw [← Lib.size_eq] at this
  have e : (mkB l).size = l.length := by simp [mkB, ByteArray.size]
  rw [e]
  simpa using this
theorem wdG_count : ∀ (l cur : List UInt8), (wdG cur l).length ≤ cur.length + l.length
  | [], cur => by
    unfold wdG
    split
    · simp
    · rename_i h
      have : cur.length ≠ 0 := fun e => h (by rw [List.length_eq_zero_iff.1 e])
      simp
      omega
  | c :: l, cur => by
    rw [wdG_cons]
    simp only [List.length_cons]
    split
    · have := wdG_count l []
      simp only [List.length_nil] at this
      split
      · omega
      · simp only [List.length_cons]
        omega
    · have := wdG_count l (cur ++ [c])
      simp at this
      omega
theorem wds_len {s : ByteArray} : (wds s).length ≤ s.size := by
  unfold wds
  have := wdG_count s.data.toList []
  rw [List.length_map, Lib.size_eq]
  simpa using this
def roP (ws : List ByteArray) (e : Ending) : Prop := ∃ (k : Int) (p t : ByteArray) (g x : Int) (ok : Bool), e = .returned (.tuple #[.agg #[.int .i64 k, .string p, .string t, .int .i64 g, .int .i64 x], .bool ok]) ∧
  ((∃ (n : Nat) (g' x' : Nat), rdW ws = some (n, p, t, g', x') ∧ ok = true ∧ k = n ∧ g = g' ∧ x = x') ∨ (rdW ws = none ∧ ok = false))
theorem five_box {w : World} {b : Nat} {t : TypeId} {x0 x1 x2 x3 x4 : Value} (h : w.heap[b]? = some (.cells #[x0, x1, x2, x3, x4] t (0, 0))) : (w.cell? ⟨b, 0, none⟩ = some x0 ∧ w.cell? ⟨b, 1, none⟩ = some x1 ∧ w.cell? ⟨b, 2, none⟩ = some x2 ∧ w.cell? ⟨b, 3, none⟩ = some x3 ∧ w.cell? ⟨b, 4, none⟩ = some x4) ∧ w.frozen? ⟨b, 0, none⟩ = false ∧ w.frozen? ⟨b, 1, none⟩ = false ∧ w.frozen? ⟨b, 2, none⟩ = false ∧ w.frozen? ⟨b, 3, none⟩ = false ∧ w.frozen? ⟨b, 4, none⟩ = false := by
  simp [World.cell?, World.frozen?, h]
def put5o (w : World) (b : Nat) (u0 u1 u2 u3 u4 : Value) : World := ((((w.setCell ⟨b, 0, none⟩ u0).setCell ⟨b, 1, none⟩ u1).setCell ⟨b, 2, none⟩ u2).setCell ⟨b, 3, none⟩ u3).setCell ⟨b, 4, none⟩ u4
theorem put5o_box {w : World} {b : Nat} {t : TypeId} {x0 x1 x2 x3 x4 : Value} (h : w.heap[b]? = some (.cells #[x0, x1, x2, x3, x4] t (0, 0))) (u0 u1 u2 u3 u4 : Value) : (put5o w b u0 u1 u2 u3 u4).heap[b]? = some (.cells #[u0, u1, u2, u3, u4] t (0, 0)) := by
  unfold put5o
  simp [World.setCell, Array.getElem?_modify, h]
theorem put5o_below {W w : World} {b : Nat} (hb : Below W.heap.size W w) (h : W.heap.size ≤ b) (u0 u1 u2 u3 u4 : Value) : Below W.heap.size W (put5o w b u0 u1 u2 u3 u4) := by
  unfold put5o
  exact ((((hb.setCell (by simp only; omega) _).setCell (by simp only; omega) _).setCell (by simp only; omega) _).setCell (by simp only; omega) _).setCell (by simp only; omega) _
theorem box_drew {w : World} {b : Nat} {o : Option Obj} (h : w.heap[b]? = o) : w.drew.heap[b]? = o := h
theorem cell_drew {w : World} {a : Addr} {x : Option Value} (h : w.cell? a = x) : w.drew.cell? a = x := h
theorem put5o_cell {w : World} {b c o : Nat} {u0 u1 u2 u3 u4 : Value} (h : c ≠ b) : (put5o w b u0 u1 u2 u3 u4).cell? ⟨c, o, none⟩ = w.cell? ⟨c, o, none⟩ := by
  have h2 : ¬ b = c := fun e => h e.symm
  unfold put5o
  simp [World.cell?, World.setCell, Array.getElem?_modify, h2]
def RoK (w w4 : World) (b5 : Nat) (u0 u1 u2 u3 u4 : Value) (wr : World) : Prop := Below w.heap.size w wr ∧ wr.heap[b5]? = some (.cells #[u0, u1, u2, u3, u4] 23 (0, 0)) ∧ w4.heap.size ≤ wr.heap.size ∧ ∀ k, k < w4.heap.size → k ≠ b5 → wr.heap[k]? = w4.heap[k]?
theorem RoK.cell {w w4 wr : World} {b5 : Nat} {u0 u1 u2 u3 u4 : Value} (h : RoK w w4 b5 u0 u1 u2 u3 u4 wr) {b o : Nat} (hb : b < w4.heap.size) (hn : b ≠ b5) : wr.cell? ⟨b, o, none⟩ = w4.cell? ⟨b, o, none⟩ := by
  have := h.2.2.2 b hb hn
  simp only [World.cell?, this]
theorem RoK.drew {w w4 wr : World} {b5 : Nat} {u0 u1 u2 u3 u4 : Value} (h : RoK w w4 b5 u0 u1 u2 u3 u4 wr) : RoK w w4 b5 u0 u1 u2 u3 u4 wr.drew := ⟨h.1.drew, h.2.1, h.2.2.1, h.2.2.2⟩
theorem RoK.set0 {w w4 wr : World} {b5 : Nat} {u0 u1 u2 u3 u4 : Value} (h : RoK w w4 b5 u0 u1 u2 u3 u4 wr) (hb : w.heap.size ≤ b5) (v : Value) : RoK w w4 b5 v u1 u2 u3 u4 (wr.setCell ⟨b5, 0, none⟩ v) :=
  ⟨h.1.setCell (by simp only; omega) _, by simp [World.setCell, Array.getElem?_modify, h.2.1], by simpa using h.2.2.1, fun k hk hn => by
    have := h.2.2.2 k hk hn
    simp only [World.setCell, Array.getElem?_modify]
    rw [if_neg (fun e => hn e.symm)]
    exact this⟩
structure SnN (W w : World) (vL : Value) (zs : List Int) : Prop where
  l : w.ownsRow W.heap.size 3 1 vL zs.length (ints zs)
  b : Below W.heap.size W w
theorem SnN.z {W w : World} {vL : Value} {zs : List Int} (h : SnN W w vL zs) : W.heap.size ≤ w.heap.size := h.b.size
theorem SnN.rd {W w : World} {vL : Value} {zs : List Int} (h : SnN W w vL zs) : RdI w vL zs := (own_block h.l).rd
theorem SnN.below {W w w' : World} {vL : Value} {zs : List Int} (h : SnN W w vL zs) (hb : Below w.heap.size w w') : SnN W w' vL zs :=
  ⟨((own_block h.l).below hb (Nat.le_refl _)).1, below_trans h.b hb h.z⟩
theorem SnN.grow {W w w' : World} {vL v' : Value} {zs : List Int} (h : SnN W w vL zs) (x : Int) (ho : w'.ownsRow W.heap.size 3 1 v' (zs.length + 1) (ints zs ++ [.int .i64 x])) (hg : w.grownBy w' vL.ownBlock) : SnN W w' v' (zs ++ [x]) :=
  ⟨by rw [ints_snoc, List.length_append]; exact ho, h.b.grown hg h.z (fun q hq => (h.l.lt q hq).1)⟩
theorem SnN.form {W w : World} {vL : Value} {zs : List Int} (h : SnN W w vL zs) (hn : 0 < zs.length) : ∃ b c, vL = .slice (some ⟨b, 0, none⟩) zs.length c ∧ W.heap.size ≤ b ∧ ∀ k (hk : k < zs.length), w.cell? ⟨b, 0 + k, none⟩ = some (.int .i64 zs[k]) := by
  obtain ⟨ao, c', e, _, hcl⟩ := h.rd.shape
  rcases (own_block h.l).shape with ⟨_, e2, _⟩ | ⟨b, c, rfl, hc, _⟩
  · omega
  · obtain ⟨_, h1, _, h2, _⟩ := (own_block h.l).at
    obtain ⟨b', o', rfl, _, hq⟩ := hcl hn
    cases e
    exact ⟨b, _, rfl, h1, hq⟩
theorem one_num (x : Int) : ∀ u ∈ [Value.int .i64 x], u.oneCell' = true := by
  intro u hu
  rw [List.mem_singleton.1 hu]
  rfl
theorem bytes_eq {a b : ByteArray} : (a.toList == b.toList) = decide (a = b) := by
  by_cases h : a = b
  · subst h; simp
  · rw [decide_eq_false h, beq_eq_false_iff_ne]
    intro e
    apply h
    rw [ByteArray.toList_eq, ByteArray.toList_eq] at e
    obtain ⟨⟨x⟩⟩ := a
    obtain ⟨⟨y⟩⟩ := b
    have : x = y := e
    rw [this]
set_option maxRecDepth 100000 in
set_option maxHeartbeats 8000000 in
theorem l15Read_any (s : ByteArray) (w : World) (hs : s.size ≤ 65536) :
    Calls Tryz.prog 7 #[.string s] w fun e w' => roP (wds s) e ∧ Below w.heap.size w w' := by
  have LW := hideIt (fun w1 => l00Words_any s w1 hs)
  have LP := hideIt (fun x w1 => specPathOK_any x w1)
  have LK := hideIt (fun w1 => l15Words_any w1)
  have MF : Hid (∀ k p t g x, rdW (wds s) = none → roP (wds s) (.returned (.tuple #[.agg #[.int .i64 k, .string p, .string t, .int .i64 g, .int .i64 x], .bool false]))) := fun k p t g x h => ⟨k, p, t, g, x, false, rfl, .inr ⟨h, rfl⟩⟩
  have MT : Hid (∀ (n : Nat) p t (g x : Nat), rdW (wds s) = some (n, p, t, g, x) → roP (wds s) (.returned (.tuple #[.agg #[.int .i64 n, .string p, .string t, .int .i64 g, .int .i64 x], .bool true]))) := fun n p t g x h => ⟨n, p, t, g, x, true, rfl, .inl ⟨n, g, x, h, rfl, rfl, rfl, rfl⟩⟩
  have SZ : Hid (∀ x ∈ wds s, x.size ≤ 65536) := fun x hx => Nat.le_trans (wds_size hx) hs
  have SL : (wds s).length ≤ 65536 := Nat.le_trans wds_len hs
  have WS : Hid (∀ i, (wa (wds s) i).size ≤ 65536) := fun i => by
    unfold wa
    rw [List.getD_eq_getElem?_getD]
    cases e : (wds s)[i]? with
    | none => exact Nat.zero_le _
    | some x => exact SZ.out x (List.mem_of_getElem? e)
  have L0 : Hid ((wds s).length < 2 → rdW (wds s) = none) := fun h => by
    have e : hrO (kdOf ((wds s).getD 0 ⟨#[]⟩)) (wds s) = none := by
      unfold hrO
      rw [if_neg (show ¬ (wds s).length = 3 by omega), if_neg (show ¬ (wds s).length = 4 by omega), if_neg (show ¬ (wds s).length = 3 by omega), if_neg (show ¬ (wds s).length = 2 by omega)]
      simp
    unfold rdW
    rw [e]
    rfl
  have L1 : Hid ((spC ((wds s).getD 1 ⟨#[]⟩) == 0) = false → rdW (wds s) = none) := fun h => rd_path h
  have LN := hideIt (fun x w1 (h : x.size ≤ 65536) => l00Number_any x w1 h)
  have EW : Hid (∀ vL w', Row w' 9 1 w.heap.size w'.heap.size vL (wds s).length (strs (wds s)) → RdT w' vL (wds s)) := fun vL w' h => h.rd
  generalize roP (wds s) = PP at *
  generalize wds s = ws at *
  obtain ⟨V, hV⟩ : ∃ V, V = w.alloc (.cells #[.int .i64 0, .string ⟨#[]⟩, .string ⟨#[]⟩, .int .i64 0, .int .i64 0] 23) := ⟨_, rfl⟩
  have BV : Hid (Below w.heap.size w V) := by rw [hV]; exact (Below.refl _ _).alloc (Nat.le_refl _) _
  have XV : Hid (V.heap[w.heap.size]? = some (.cells #[.int .i64 0, .string ⟨#[]⟩, .string ⟨#[]⟩, .int .i64 0, .int .i64 0] 23 (0, 0))) := by rw [hV]; exact at_new rfl
  have zV := (Array.getElem?_eq_some_iff.1 XV.out).1
  go_enter Tryz.func7, Tryz.ntmps7
  go_upto_region 1 with fail
  rw [← hV]
  clear hV
  go_wp2_with fail
  refine (LW.out V).mono ?_
  rintro e w1 ⟨v1, rfl, hr, hb⟩
  have B1 := hideIt (below_trans BV.out hb BV.out.size)
  have X1 := hideIt ((hb.block _ zV).trans XV.out)
  have z1 := (Array.getElem?_eq_some_iff.1 X1.out).1
  have R1 : Hid (RdT w1 v1 ws) := hr.rd
  obtain ⟨aL, cL, rfl, hcap, hcell⟩ := R1.out.shape
  have HC := hideIt hcell
  clear hb hr BV XV zV LW hcell EW
  by_cases hl2 : ws.length < 2
  · have hl3 : (ws.length : Int) < 2 := by omega
    have QF := hideIt (L0.out hl2)
    obtain ⟨⟨x0, x1, x2, x3, x4⟩, f0, f1, f2, f3, f4⟩ := five_box X1.out
    have D := hideIt (put5o_box X1.out (.int .i64 0) (.string ⟨#[]⟩) (.string ⟨#[]⟩) (.int .i64 0) (.int .i64 0))
    have BF := hideIt (put5o_below B1.out (Nat.le_refl _) (.int .i64 0) (.string ⟨#[]⟩) (.string ⟨#[]⟩) (.int .i64 0) (.int .i64 0))
    obtain ⟨W', hW'⟩ : ∃ W', W' = put5o w1 w.heap.size (.int .i64 0) (.string ⟨#[]⟩) (.string ⟨#[]⟩) (.int .i64 0) (.int .i64 0) := ⟨_, rfl⟩
    rw [← hW'] at D BF
    unfold put5o at hW'
    clear L0 L1 hl2
    go_wp2
    rw [← hW']
    clear hW' x0 x1 x2 x3 x4 f0 f1 f2 f3 f4
    obtain ⟨⟨y0, y1, y2, y3, y4⟩, -⟩ := five_box D.out
    refine bodyPost_ret (v := .tuple #[.agg #[.int .i64 0, .string ⟨#[]⟩, .string ⟨#[]⟩, .int .i64 0, .int .i64 0], .bool false]) (by simp [results, Tryz.results7, go_sem, y0, y1, y2, y3, y4]) rfl ?_
    exact ⟨MF.out _ _ _ _ _ QF.out, BF.out⟩
  · have hl3 : ¬ (ws.length : Int) < 2 := by omega
    have hl4 : (1 : Int) < (ws.length : Int) := by omega
    have hl5 : (0 : Int) < (ws.length : Int) := by omega
    obtain ⟨bL, oL, rfl, hbL, hcl⟩ := HC.out (by omega)
    have g1 : ws.getD 1 ⟨#[]⟩ = ws[1] := by rw [List.getD_eq_getElem?_getD, List.getElem?_eq_getElem (by omega)]; rfl
    have g0 : ws.getD 0 ⟨#[]⟩ = ws[0] := by rw [List.getD_eq_getElem?_getD, List.getElem?_eq_getElem (by omega)]; rfl
    rw [g1] at L1
    have e1 := hcl 1 (by omega)
    have HW := hideIt hcl
    clear hcl HC L0 R1 hcap
    go_wp2_with fail
    refine (LP.out ws[1] w1).mono ?_
    rintro e w2 ⟨rfl, hb⟩
    have B2 := hideIt (below_trans B1.out hb B1.out.size)
    have X2 := hideIt ((hb.block _ z1).trans X1.out)
    have z2 := (Array.getElem?_eq_some_iff.1 X2.out).1
    have HW2 : Hid (∀ k (h : k < ws.length), w2.cell? ⟨bL, oL + k, none⟩ = some (.string ws[k])) := fun k hk => (hb.cell (p := ⟨bL, oL + k, none⟩) hbL).trans (HW.out k hk)
    have hbL2 : bL < w2.heap.size := by have := hb.size; omega
    clear hb HW X1 B1 z1 e1
    cases q1 : (spC ws[1] == 0) with
    | false =>
      have QF := hideIt (L1.out q1)
      obtain ⟨⟨x0, x1, x2, x3, x4⟩, f0, f1, f2, f3, f4⟩ := five_box X2.out
      have D := hideIt (put5o_box X2.out (.int .i64 0) (.string ⟨#[]⟩) (.string ⟨#[]⟩) (.int .i64 0) (.int .i64 0))
      have BF := hideIt (put5o_below B2.out (Nat.le_refl _) (.int .i64 0) (.string ⟨#[]⟩) (.string ⟨#[]⟩) (.int .i64 0) (.int .i64 0))
      obtain ⟨W', hW'⟩ : ∃ W', W' = put5o w2 w.heap.size (.int .i64 0) (.string ⟨#[]⟩) (.string ⟨#[]⟩) (.int .i64 0) (.int .i64 0) := ⟨_, rfl⟩
      rw [← hW'] at D BF
      unfold put5o at hW'
      clear L1 q1 HW2
      go_wp2
      rw [← hW']
      clear hW' x0 x1 x2 x3 x4 f0 f1 f2 f3 f4
      obtain ⟨⟨y0, y1, y2, y3, y4⟩, -⟩ := five_box D.out
      refine bodyPost_ret (v := .tuple #[.agg #[.int .i64 0, .string ⟨#[]⟩, .string ⟨#[]⟩, .int .i64 0, .int .i64 0], .bool false]) (by simp [results, Tryz.results7, go_sem, y0, y1, y2, y3, y4]) rfl ?_
      exact ⟨MF.out _ _ _ _ _ QF.out, BF.out⟩
    | true =>
    clear L1
    have e1 := HW2.out 1 (by omega)
    obtain ⟨W3, hW3⟩ : ∃ W3, W3 = w2.alloc (.cells #[.int .i64 0, .string ws[1], .string ⟨#[]⟩, .int .i64 0, .int .i64 0] 23) := ⟨_, rfl⟩
    have b3 : Below w2.heap.size w2 W3 := by rw [hW3]; exact (Below.refl _ _).alloc (Nat.le_refl _) _
    have Y3 : Hid (W3.heap[w2.heap.size]? = some (.cells #[.int .i64 0, .string ws[1], .string ⟨#[]⟩, .int .i64 0, .int .i64 0] 23 (0, 0))) := by rw [hW3]; exact at_new rfl
    have y3 := (Array.getElem?_eq_some_iff.1 Y3.out).1
    have X3 := hideIt ((b3.block _ z2).trans X2.out)
    have B3 := hideIt (below_trans B2.out b3 B2.out.size)
    go_upto_region 5 with fail
    rw [← hW3]
    clear hW3 X2 e1
    go_wp2_with fail
    refine (LK.out W3).mono ?_
    rintro e w4 ⟨bK, rfl, hcK, hb⟩
    have B4 := hideIt (below_trans B3.out hb B3.out.size)
    have X4 := hideIt ((hb.block _ (by omega)).trans X3.out)
    have Y4 := hideIt ((hb.block _ y3).trans Y3.out)
    have HW4 : Hid (∀ k (h : k < ws.length), w4.cell? ⟨bL, oL + k, none⟩ = some (.string ws[k])) := fun k hk => (hb.cell (p := ⟨bL, oL + k, none⟩) (by show bL < W3.heap.size; have := b3.size; omega)).trans ((b3.cell (p := ⟨bL, oL + k, none⟩) hbL2).trans (HW2.out k hk))
    have HK := hideIt hcK
    have ltb : w2.heap.size < w4.heap.size := by have := hb.size; omega
    have neL : bL ≠ w2.heap.size := by omega
    have neK : bK ≠ w2.heap.size := fun e => by
      have h := HK.out 0 (by omega)
      rw [e] at h
      simp [World.cell?, Y4.out] at h
    have ltK : bK < w4.heap.size := World.block_lt_of_cell? w4 ⟨bK, 0, none⟩ (HK.out 0 (by omega))
    have ltL : bL < w4.heap.size := by have := hb.size; have := b3.size; omega
    have z4 : w.heap.size ≤ w2.heap.size := by omega
    have hw0 := HW4.out 0 (by omega)
    have hne : ws ≠ [] := fun e => by rw [e] at hl4; simp at hl4
    have START : Hid (RoK w w4 w2.heap.size (.int .i64 (kdTo ws[0] 1 : Nat)) (.string ws[1]) (.string ⟨#[]⟩) (.int .i64 0) (.int .i64 0) w4) := ⟨B4.out, Y4.out, Nat.le_refl _, fun k _ _ => rfl⟩
    clear hb b3 X3 Y3 B3 B2 LK Y4 HW2 hcK
    go_wp2_with fail
    go_loopg [7] 10 (fun g i wr => ∃ k : Nat, k + g = 11 ∧ 1 ≤ k ∧ i = .int .i64 k ∧ Hid (RoK w w4 w2.heap.size (.int .i64 (kdTo ws[0] k : Nat)) (.string ws[1]) (.string ⟨#[]⟩) (.int .i64 0) (.int .i64 0) wr))
    case atStart => exact ⟨1, by omega, by omega, rfl, START.out⟩
    case round =>
      obtain ⟨k, hk, hk1, rfl, J⟩ := hrel
      clear START
      have k0 : (0 : Int) ≤ (k : Int) := by omega
      by_cases hlt : k < 11
      · have k1 : (k : Int) < 11 := by omega
        have c0 : wr.cell? ⟨bK, k, none⟩ = some (.string (kwT k)) := (J.out.cell ltK neK).trans (HK.out k hlt)
        have c1 : wr.cell? ⟨bL, oL, none⟩ = some (.string ws[0]) := (J.out.cell ltL neL).trans hw0
        have KS : Hid (kdTo ws[0] (k + 1) = if 1 ≤ k ∧ kwT k = ws[0] then k else kdTo ws[0] k) := rfl
        go_upto_region 9 with fail
        refine wp_region_T 7 (fun w' => w'.cell? ⟨bK, k, none⟩ = some (.string (kwT k)) ∧ w'.cell? ⟨bL, oL, none⟩ = some (.string ws[0])) (by kernel_rfl) ⟨c0, c1⟩ (fun hS => ?_)
        clear c0 c1
        refine wpAnyT_take (i := 0) (v := .slice (some ⟨bK, 0, none⟩) 11 11) [3, 2, 0] rfl (by kernel_rfl) (fun _ _ _ h => h) hS rfl (fun w' hSw => by go_simp) ?_
        go_simp
        refine wpAnyT_take (i := 1) (v := .int .i64 k) [3, 2, 1] rfl (by kernel_rfl) (fun _ _ _ h => h) hS rfl (fun w' hSw => by go_simp) ?_
        go_simp
        refine wpAnyT_take (i := 2) (v := .pointer (some ⟨bK, k, none⟩)) [3, 2] rfl (by kernel_rfl) (fun _ _ _ h => h) hS rfl (fun w' hSw => by go_simp) ?_
        go_simp
        refine wpAnyT_take (i := 3) (v := .string (kwT k)) [3] rfl (by kernel_rfl) (fun _ _ _ h => h) hS rfl (fun w' hSw => by have h1 := hSw.1; go_simp) ?_
        go_simp
        refine wpAnyT_take (i := 4) (v := .slice (some ⟨bL, oL, none⟩) ws.length cL) [6, 5, 4] rfl (by kernel_rfl) (fun _ _ _ h => h) hS rfl (fun w' hSw => by go_simp) ?_
        go_simp
        refine wpAnyT_take (i := 5) (v := .pointer (some ⟨bL, oL, none⟩)) [6, 5] rfl (by kernel_rfl) (fun _ _ _ h => h) hS rfl (fun w' hSw => by go_simp) ?_
        go_simp
        refine wpAnyT_take (i := 6) (v := .string ws[0]) [6] rfl (by kernel_rfl) (fun _ _ _ h => h) hS rfl (fun w' hSw => by have h1 := hSw.2; go_simp) ?_
        go_simp
        refine wpAnyT_one (i := 7) rfl (by kernel_rfl) (fun K hK => ?_)
        go_simp
        refine hK.out _ _ (fun h => absurd rfl h) ?_
        clear hK K hS
        go_simp
        refine wpAnyT_done (by kernel_rfl) ?_ _
        have J2 := hideIt J.out.drew
        clear J
        by_cases ck : kwT k = ws[0]
        · rw [show ((kwT k).toList == ws[0].toList) = true from bytes_eq.trans (decide_eq_true ck)]
          obtain ⟨⟨x0, x1, x2, x3, x4⟩, f0, f1, f2, f3, f4⟩ := five_box J2.out.2.1
          have J3 := hideIt (J2.out.set0 z4 (.int .i64 k))
          have KE : kdTo ws[0] (k + 1) = k := KS.out.trans (if_pos ⟨hk1, ck⟩)
          clear KS J2
          go_wp2
          go_roundg (11 - (k + 1))
          case measure => omega
          case rel => exact ⟨k + 1, by omega, by omega, by go_num, by unfold Hid; rw [KE]; exact J3.out⟩
        · rw [show ((kwT k).toList == ws[0].toList) = false from bytes_eq.trans (decide_eq_false ck)]
          have KE : kdTo ws[0] (k + 1) = kdTo ws[0] k := KS.out.trans (if_neg (fun q => ck q.2))
          clear KS
          go_wp2
          go_roundg (11 - (k + 1))
          case measure => omega
          case rel => exact ⟨k + 1, by omega, by omega, by go_num, by unfold Hid; rw [KE]; exact J2.out⟩
      · obtain rfl : k = 11 := by omega
        have c11 : ¬ ((11 : Nat) : Int) < 11 := by omega
        obtain ⟨W5, rfl⟩ : ∃ W5, W5 = wr := ⟨_, rfl⟩
        have X5 := hideIt ((J.out.2.2.2 w.heap.size (by omega) (by omega)).trans X4.out)
        have HW5 : Hid (∀ k (h : k < ws.length), W5.cell? ⟨bL, oL + k, none⟩ = some (.string ws[k])) := fun k hk => (J.out.cell ltL neL).trans (HW4.out k hk)
        have B5 := hideIt J.out.1
        have Y5 := hideIt J.out.2.1
        have z5 : w2.heap.size < W5.heap.size := by have := J.out.2.2.1; omega
        have l5 : bL < W5.heap.size := by have := J.out.2.2.1; omega
        have z6 : w.heap.size < W5.heap.size := by omega
        obtain ⟨K, hK⟩ : ∃ K, K = kdTo ws[0] 11 := ⟨_, rfl⟩
        rw [← hK] at Y5
        have KO : Hid (kdOf (wa ws 0) = K) := by rw [hK, show wa ws 0 = ws[0] from g0]; rfl
        have START : Hid (SnN W5 (W5.alloc (.cells #[] 3)) (.slice (some ⟨W5.heap.size, 0, none⟩) 0 0) (([] : List Nat).map Int.ofNat)) := ⟨World.ownsRow_lit W5 #[] 0 (Nat.le_refl _) (by simp [maxLen]) (by simp), (Below.refl _ _).alloc (Nat.le_refl _) _⟩
        clear J HK HW4 X4 B4 hK neL neK ltK ltL hw0 ltb
        go_wp2_with fail
        go_loopg [8, 9] (ws.length - 2) (fun g v i wx => ∃ ns : List Nat, ns.length + 2 + g = ws.length ∧ i = .int .i64 ((ns.length + 2 : Nat) : Int) ∧ (∀ j (h : j < ns.length), numP (wa ws (j + 2)) = some ns[j]) ∧ ((K = 4 ∨ K = 5) → ns = []) ∧ Hid (SnN W5 wx v (ns.map Int.ofNat)))
        case atStart => exact ⟨[], by simp; omega, rfl, fun j h => absurd h (by simp), fun _ => rfl, START.out⟩
        case round =>
          obtain ⟨ns, hns, rfl, HN, H4, I⟩ := hrel
          clear START
          have k0 : (0 : Int) ≤ ((ns.length + 2 : Nat) : Int) := by omega
          have Y6 := hideIt ((I.out.b.block _ z5).trans Y5.out)
          have X6 := hideIt ((I.out.b.block _ z6).trans X5.out)
          have B6 := hideIt (below_trans B5.out I.out.b B5.out.size)
          obtain ⟨⟨y0, y1, y2, y3, y4⟩, -⟩ := five_box Y6.out
          by_cases hlt : ns.length + 2 < ws.length
          · have k1 : ((ns.length + 2 : Nat) : Int) < (ws.length : Int) := by omega
            by_cases h4 : K = 4
            · subst h4
              have hk : kdOf (wa ws 0) = 4 ∨ kdOf (wa ws 0) = 5 := by rw [KO.out]; decide
              by_cases l3 : ws.length = 3
              · have h2l : 2 < ws.length := by omega
                have hl6 : (2 : Int) < (ws.length : Int) := by omega
                have r3 : ((ws.length : Int) != 3) = false := by rw [bne_eq_false_iff_eq]; omega
                have hw : wr.cell? ⟨bL, oL + 2, none⟩ = some (.string ws[2]) := (I.out.b.cell (p := ⟨bL, oL + 2, none⟩) l5).trans (HW5.out 2 h2l)
                have g2 : wa ws 2 = ws[2] := by unfold wa; rw [List.getD_eq_getElem?_getD, List.getElem?_eq_getElem h2l]; rfl
                have zX := (Array.getElem?_eq_some_iff.1 X6.out).1
                have zY := (Array.getElem?_eq_some_iff.1 Y6.out).1
                have zL : bL < wr.heap.size := by have := I.out.z; omega
                clear I
                go_wp2_with fail
                refine (LP.out ws[2] wr).mono ?_
                rintro e w8 ⟨rfl, hb8⟩
                have B8 := hideIt (below_trans B6.out hb8 B6.out.size)
                have X8 := hideIt ((hb8.block _ zX).trans X6.out)
                have Y8 := hideIt ((hb8.block _ zY).trans Y6.out)
                have hw8 : w8.cell? ⟨bL, oL + 2, none⟩ = some (.string ws[2]) := (hb8.cell (p := ⟨bL, oL + 2, none⟩) zL).trans hw
                clear hb8 hw y0 y1 y2 y3 y4 X6 Y6 B6
                cases q2 : (spC ws[2] == 0) with
                | false =>
                  have QF := hideIt (rd_linkb (ws := ws) hk (by rw [g2]; exact q2))
                  obtain ⟨⟨x0, x1, x2, x3, x4⟩, f0, f1, f2, f3, f4⟩ := five_box X8.out
                  have D := hideIt (put5o_box X8.out (.int .i64 0) (.string ⟨#[]⟩) (.string ⟨#[]⟩) (.int .i64 0) (.int .i64 0))
                  have BF := hideIt (put5o_below B8.out (Nat.le_refl _) (.int .i64 0) (.string ⟨#[]⟩) (.string ⟨#[]⟩) (.int .i64 0) (.int .i64 0))
                  obtain ⟨W', hW'⟩ : ∃ W', W' = put5o w8 w.heap.size (.int .i64 0) (.string ⟨#[]⟩) (.string ⟨#[]⟩) (.int .i64 0) (.int .i64 0) := ⟨_, rfl⟩
                  rw [← hW'] at D BF
                  unfold put5o at hW'
                  clear Y8 q2
                  go_wp2_with fail
                  rw [← hW']
                  clear hW' x0 x1 x2 x3 x4 f0 f1 f2 f3 f4
                  obtain ⟨⟨y0, y1, y2, y3, y4⟩, -⟩ := five_box D.out
                  refine bodyPost_ret (v := .tuple #[.agg #[.int .i64 0, .string ⟨#[]⟩, .string ⟨#[]⟩, .int .i64 0, .int .i64 0], .bool false]) (by simp [results, Tryz.results7, go_sem, y0, y1, y2, y3, y4]) rfl ?_
                  exact ⟨MF.out _ _ _ _ _ QF.out, BF.out⟩
                | true =>
                  have R := hideIt (rd_link (ws := ws) hk l3 WS.out (show (spC (wa ws 1) == 0) = true by rw [show wa ws 1 = ws[1] from g1]; exact q1) (by rw [g2]; exact q2))
                  have OUT : Hid (PP (.returned (.tuple #[.agg #[.int .i64 4, .string ws[1], .string ws[2], .int .i64 0, .int .i64 0], .bool true]))) := by
                    rw [KO.out, show wa ws 1 = ws[1] from g1, g2] at R
                    exact MT.out 4 _ _ 0 0 R.out
                  obtain ⟨-, f0, f1, f2, f3, f4⟩ := five_box Y8.out
                  obtain ⟨⟨y0, y1, y2, y3, y4⟩, -⟩ := five_box Y8.out
                  obtain ⟨W7, hW7⟩ : ∃ W7, W7 = w8.setCell ⟨w2.heap.size, 2, none⟩ (.string ws[2]) := ⟨_, rfl⟩
                  have Y7 : Hid (W7.heap[w2.heap.size]? = some (.cells #[.int .i64 4, .string ws[1], .string ws[2], .int .i64 0, .int .i64 0] 23 (0, 0))) := by rw [hW7]; unfold Hid; simp [World.setCell, Array.getElem?_modify, Y8.out]
                  have X7 : Hid (W7.heap[w.heap.size]? = some (.cells #[.int .i64 0, .string ⟨#[]⟩, .string ⟨#[]⟩, .int .i64 0, .int .i64 0] 23 (0, 0))) := by rw [hW7]; unfold Hid; simp only [World.setCell, Array.getElem?_modify]; rw [if_neg (show ¬ w2.heap.size = w.heap.size by omega)]; exact X8.out
                  have B7 : Hid (Below w.heap.size w W7) := by rw [hW7]; exact B8.out.setCell (by simp only; omega) _
                  clear R q2
                  go_upto_region 39 with fail
                  rw [← hW7]
                  clear hW7 X8 Y8 B8 f0 f1 f2 f3 f4 y0 y1 y2 y3 y4 hw8
                  obtain ⟨⟨x0, x1, x2, x3, x4⟩, f0, f1, f2, f3, f4⟩ := five_box (w := W7) X7.out
                  obtain ⟨⟨y0, y1, y2, y3, y4⟩, -⟩ := five_box (w := W7) Y7.out
                  have D := hideIt (put5o_box (w := W7) X7.out (.int .i64 4) (.string ws[1]) (.string ws[2]) (.int .i64 0) (.int .i64 0))
                  have BF := hideIt (put5o_below B7.out (Nat.le_refl _) (.int .i64 4) (.string ws[1]) (.string ws[2]) (.int .i64 0) (.int .i64 0))
                  have N := hideIt (fun o => put5o_cell (w := W7) (b := w.heap.size) (c := w2.heap.size) (o := o) (u0 := .int .i64 4) (u1 := .string ws[1]) (u2 := (.string ws[2])) (u3 := (.int .i64 0)) (u4 := (.int .i64 0)) (by omega))
                  obtain ⟨W', hW'⟩ : ∃ W', W' = (put5o W7 w.heap.size (.int .i64 4) (.string ws[1]) (.string ws[2]) (.int .i64 0) (.int .i64 0)).drew := ⟨_, rfl⟩
                  have D : Hid (W'.heap[w.heap.size]? = some (.cells #[.int .i64 4, .string ws[1], (.string ws[2]), (.int .i64 0), (.int .i64 0)] 23 (0, 0))) := by rw [hW']; exact box_drew D.out
                  have BF : Hid (Below w.heap.size w W') := by rw [hW']; exact BF.out.drew
                  have N : Hid (∀ o, W'.cell? ⟨w2.heap.size, o, none⟩ = W7.cell? ⟨w2.heap.size, o, none⟩) := fun o => by rw [hW']; exact cell_drew (N.out o)
                  unfold put5o at hW'
                  refine wp_region_T 5 (fun w' => w'.cell? ⟨w2.heap.size, 0, none⟩ = some (.int .i64 4) ∧ w'.cell? ⟨w2.heap.size, 1, none⟩ = some (.string ws[1]) ∧ w'.cell? ⟨w2.heap.size, 2, none⟩ = some (.string ws[2]) ∧ w'.cell? ⟨w2.heap.size, 3, none⟩ = some (.int .i64 0) ∧ w'.cell? ⟨w2.heap.size, 4, none⟩ = some (.int .i64 0)) (by kernel_rfl) ⟨y0, y1, y2, y3, y4⟩ (fun hS => ?_)
                  have SN : Hid (W'.cell? ⟨w2.heap.size, 0, none⟩ = some (.int .i64 4) ∧ W'.cell? ⟨w2.heap.size, 1, none⟩ = some (.string ws[1]) ∧ W'.cell? ⟨w2.heap.size, 2, none⟩ = some (.string ws[2]) ∧ W'.cell? ⟨w2.heap.size, 3, none⟩ = some (.int .i64 0) ∧ W'.cell? ⟨w2.heap.size, 4, none⟩ = some (.int .i64 0)) := ⟨(N.out 0).trans y0, (N.out 1).trans y1, (N.out 2).trans y2, (N.out 3).trans y3, (N.out 4).trans y4⟩
                  clear N y0 y1 y2 y3 y4
                  refine wpAnyT_take (i := 0) (v := .agg #[.int .i64 4, .string ws[1], (.string ws[2]), (.int .i64 0), (.int .i64 0)]) [0] rfl (by kernel_rfl) (fun _ _ _ h => h) hS rfl (fun w' hSw => by obtain ⟨h0, h1, h2, h3, h4⟩ := hSw; go_simp) ?_
                  go_simp
                  refine wpAnyT_take (i := 1) (v := .pointer (some ⟨w2.heap.size, 3, none⟩)) [3, 2, 1] rfl (by kernel_rfl) (fun _ _ _ h => h) hS rfl (fun w' hSw => by go_simp) ?_
                  go_simp
                  refine wpAnyT_take (i := 2) (v := (.int .i64 0)) [3, 2] rfl (by kernel_rfl) (fun _ _ _ h => h) hS rfl (fun w' hSw => by have h3 := hSw.2.2.2.1; go_simp) ?_
                  go_simp
                  refine wpAnyT_take (i := 3) (v := .bool true) [3] rfl (by kernel_rfl) (fun _ _ _ h => h) hS rfl (fun w' hSw => by go_simp) ?_
                  go_simp
                  refine wpAnyT_one (i := 4) rfl (by kernel_rfl) (fun K4 hK4 => ?_)
                  go_simp
                  rw [← hW']
                  refine hK4.out _ _ (fun _ => SN.out) ?_
                  clear hK4 K4 hS SN hW' x0 x1 x2 x3 x4 f0 f1 f2 f3 f4
                  go_simp
                  refine wpAnyT_one (i := 5) rfl (by kernel_rfl) (fun K5 hK5 => ?_)
                  go_simp
                  refine hK5.out _ _ (fun h => absurd rfl h) ?_
                  clear hK5 K5
                  go_simp
                  refine wpAnyT_done (by kernel_rfl) ?_ _
                  obtain ⟨⟨y0, y1, y2, y3, y4⟩, -⟩ := five_box D.out
                  go_wp2
                  refine bodyPost_ret (v := .tuple #[.agg #[.int .i64 4, .string ws[1], (.string ws[2]), (.int .i64 0), (.int .i64 0)], .bool true]) (by simp [results, Tryz.results7, go_sem, y0, y1, y2, y3, y4]) rfl ?_
                  exact ⟨OUT.out, BF.out⟩
              · have r3 : ((ws.length : Int) != 3) = true := by rw [bne_iff_ne]; omega
                have QF := hideIt (rd_linkn (ws := ws) hk l3)
                obtain ⟨⟨x0, x1, x2, x3, x4⟩, f0, f1, f2, f3, f4⟩ := five_box X6.out
                have D := hideIt (put5o_box X6.out (.int .i64 0) (.string ⟨#[]⟩) (.string ⟨#[]⟩) (.int .i64 0) (.int .i64 0))
                have BF := hideIt (put5o_below B6.out (Nat.le_refl _) (.int .i64 0) (.string ⟨#[]⟩) (.string ⟨#[]⟩) (.int .i64 0) (.int .i64 0))
                obtain ⟨W', hW'⟩ : ∃ W', W' = put5o wr w.heap.size (.int .i64 0) (.string ⟨#[]⟩) (.string ⟨#[]⟩) (.int .i64 0) (.int .i64 0) := ⟨_, rfl⟩
                rw [← hW'] at D BF
                unfold put5o at hW'
                clear y1 y2 y3 y4 I Y6
                go_wp2_with fail
                rw [← hW']
                clear hW' x0 x1 x2 x3 x4 f0 f1 f2 f3 f4
                obtain ⟨⟨y0, y1, y2, y3, y4⟩, -⟩ := five_box D.out
                refine bodyPost_ret (v := .tuple #[.agg #[.int .i64 0, .string ⟨#[]⟩, .string ⟨#[]⟩, .int .i64 0, .int .i64 0], .bool false]) (by simp [results, Tryz.results7, go_sem, y0, y1, y2, y3, y4]) rfl ?_
                exact ⟨MF.out _ _ _ _ _ QF.out, BF.out⟩
            by_cases h5 : K = 5
            · subst h5
              have hk : kdOf (wa ws 0) = 4 ∨ kdOf (wa ws 0) = 5 := by rw [KO.out]; decide
              by_cases l3 : ws.length = 3
              · have h2l : 2 < ws.length := by omega
                have hl6 : (2 : Int) < (ws.length : Int) := by omega
                have r3 : ((ws.length : Int) != 3) = false := by rw [bne_eq_false_iff_eq]; omega
                have hw : wr.cell? ⟨bL, oL + 2, none⟩ = some (.string ws[2]) := (I.out.b.cell (p := ⟨bL, oL + 2, none⟩) l5).trans (HW5.out 2 h2l)
                have g2 : wa ws 2 = ws[2] := by unfold wa; rw [List.getD_eq_getElem?_getD, List.getElem?_eq_getElem h2l]; rfl
                have zX := (Array.getElem?_eq_some_iff.1 X6.out).1
                have zY := (Array.getElem?_eq_some_iff.1 Y6.out).1
                have zL : bL < wr.heap.size := by have := I.out.z; omega
                clear I
                go_wp2_with fail
                refine (LP.out ws[2] wr).mono ?_
                rintro e w8 ⟨rfl, hb8⟩
                have B8 := hideIt (below_trans B6.out hb8 B6.out.size)
                have X8 := hideIt ((hb8.block _ zX).trans X6.out)
                have Y8 := hideIt ((hb8.block _ zY).trans Y6.out)
                have hw8 : w8.cell? ⟨bL, oL + 2, none⟩ = some (.string ws[2]) := (hb8.cell (p := ⟨bL, oL + 2, none⟩) zL).trans hw
                clear hb8 hw y0 y1 y2 y3 y4 X6 Y6 B6
                cases q2 : (spC ws[2] == 0) with
                | false =>
                  have QF := hideIt (rd_linkb (ws := ws) hk (by rw [g2]; exact q2))
                  obtain ⟨⟨x0, x1, x2, x3, x4⟩, f0, f1, f2, f3, f4⟩ := five_box X8.out
                  have D := hideIt (put5o_box X8.out (.int .i64 0) (.string ⟨#[]⟩) (.string ⟨#[]⟩) (.int .i64 0) (.int .i64 0))
                  have BF := hideIt (put5o_below B8.out (Nat.le_refl _) (.int .i64 0) (.string ⟨#[]⟩) (.string ⟨#[]⟩) (.int .i64 0) (.int .i64 0))
                  obtain ⟨W', hW'⟩ : ∃ W', W' = put5o w8 w.heap.size (.int .i64 0) (.string ⟨#[]⟩) (.string ⟨#[]⟩) (.int .i64 0) (.int .i64 0) := ⟨_, rfl⟩
                  rw [← hW'] at D BF
                  unfold put5o at hW'
                  clear Y8 q2
                  go_wp2_with fail
                  rw [← hW']
                  clear hW' x0 x1 x2 x3 x4 f0 f1 f2 f3 f4
                  obtain ⟨⟨y0, y1, y2, y3, y4⟩, -⟩ := five_box D.out
                  refine bodyPost_ret (v := .tuple #[.agg #[.int .i64 0, .string ⟨#[]⟩, .string ⟨#[]⟩, .int .i64 0, .int .i64 0], .bool false]) (by simp [results, Tryz.results7, go_sem, y0, y1, y2, y3, y4]) rfl ?_
                  exact ⟨MF.out _ _ _ _ _ QF.out, BF.out⟩
                | true =>
                  have R := hideIt (rd_link (ws := ws) hk l3 WS.out (show (spC (wa ws 1) == 0) = true by rw [show wa ws 1 = ws[1] from g1]; exact q1) (by rw [g2]; exact q2))
                  have OUT : Hid (PP (.returned (.tuple #[.agg #[.int .i64 5, .string ws[1], .string ws[2], .int .i64 0, .int .i64 0], .bool true]))) := by
                    rw [KO.out, show wa ws 1 = ws[1] from g1, g2] at R
                    exact MT.out 5 _ _ 0 0 R.out
                  obtain ⟨-, f0, f1, f2, f3, f4⟩ := five_box Y8.out
                  obtain ⟨⟨y0, y1, y2, y3, y4⟩, -⟩ := five_box Y8.out
                  obtain ⟨W7, hW7⟩ : ∃ W7, W7 = w8.setCell ⟨w2.heap.size, 2, none⟩ (.string ws[2]) := ⟨_, rfl⟩
                  have Y7 : Hid (W7.heap[w2.heap.size]? = some (.cells #[.int .i64 5, .string ws[1], .string ws[2], .int .i64 0, .int .i64 0] 23 (0, 0))) := by rw [hW7]; unfold Hid; simp [World.setCell, Array.getElem?_modify, Y8.out]
                  have X7 : Hid (W7.heap[w.heap.size]? = some (.cells #[.int .i64 0, .string ⟨#[]⟩, .string ⟨#[]⟩, .int .i64 0, .int .i64 0] 23 (0, 0))) := by rw [hW7]; unfold Hid; simp only [World.setCell, Array.getElem?_modify]; rw [if_neg (show ¬ w2.heap.size = w.heap.size by omega)]; exact X8.out
                  have B7 : Hid (Below w.heap.size w W7) := by rw [hW7]; exact B8.out.setCell (by simp only; omega) _
                  clear R q2
                  go_upto_region 39 with fail
                  rw [← hW7]
                  clear hW7 X8 Y8 B8 f0 f1 f2 f3 f4 y0 y1 y2 y3 y4 hw8
                  obtain ⟨⟨x0, x1, x2, x3, x4⟩, f0, f1, f2, f3, f4⟩ := five_box (w := W7) X7.out
                  obtain ⟨⟨y0, y1, y2, y3, y4⟩, -⟩ := five_box (w := W7) Y7.out
                  have D := hideIt (put5o_box (w := W7) X7.out (.int .i64 5) (.string ws[1]) (.string ws[2]) (.int .i64 0) (.int .i64 0))
                  have BF := hideIt (put5o_below B7.out (Nat.le_refl _) (.int .i64 5) (.string ws[1]) (.string ws[2]) (.int .i64 0) (.int .i64 0))
                  have N := hideIt (fun o => put5o_cell (w := W7) (b := w.heap.size) (c := w2.heap.size) (o := o) (u0 := .int .i64 5) (u1 := .string ws[1]) (u2 := (.string ws[2])) (u3 := (.int .i64 0)) (u4 := (.int .i64 0)) (by omega))
                  obtain ⟨W', hW'⟩ : ∃ W', W' = (put5o W7 w.heap.size (.int .i64 5) (.string ws[1]) (.string ws[2]) (.int .i64 0) (.int .i64 0)).drew := ⟨_, rfl⟩
                  have D : Hid (W'.heap[w.heap.size]? = some (.cells #[.int .i64 5, .string ws[1], (.string ws[2]), (.int .i64 0), (.int .i64 0)] 23 (0, 0))) := by rw [hW']; exact box_drew D.out
                  have BF : Hid (Below w.heap.size w W') := by rw [hW']; exact BF.out.drew
                  have N : Hid (∀ o, W'.cell? ⟨w2.heap.size, o, none⟩ = W7.cell? ⟨w2.heap.size, o, none⟩) := fun o => by rw [hW']; exact cell_drew (N.out o)
                  unfold put5o at hW'
                  refine wp_region_T 5 (fun w' => w'.cell? ⟨w2.heap.size, 0, none⟩ = some (.int .i64 5) ∧ w'.cell? ⟨w2.heap.size, 1, none⟩ = some (.string ws[1]) ∧ w'.cell? ⟨w2.heap.size, 2, none⟩ = some (.string ws[2]) ∧ w'.cell? ⟨w2.heap.size, 3, none⟩ = some (.int .i64 0) ∧ w'.cell? ⟨w2.heap.size, 4, none⟩ = some (.int .i64 0)) (by kernel_rfl) ⟨y0, y1, y2, y3, y4⟩ (fun hS => ?_)
                  have SN : Hid (W'.cell? ⟨w2.heap.size, 0, none⟩ = some (.int .i64 5) ∧ W'.cell? ⟨w2.heap.size, 1, none⟩ = some (.string ws[1]) ∧ W'.cell? ⟨w2.heap.size, 2, none⟩ = some (.string ws[2]) ∧ W'.cell? ⟨w2.heap.size, 3, none⟩ = some (.int .i64 0) ∧ W'.cell? ⟨w2.heap.size, 4, none⟩ = some (.int .i64 0)) := ⟨(N.out 0).trans y0, (N.out 1).trans y1, (N.out 2).trans y2, (N.out 3).trans y3, (N.out 4).trans y4⟩
                  clear N y0 y1 y2 y3 y4
                  refine wpAnyT_take (i := 0) (v := .agg #[.int .i64 5, .string ws[1], (.string ws[2]), (.int .i64 0), (.int .i64 0)]) [0] rfl (by kernel_rfl) (fun _ _ _ h => h) hS rfl (fun w' hSw => by obtain ⟨h0, h1, h2, h3, h4⟩ := hSw; go_simp) ?_
                  go_simp
                  refine wpAnyT_take (i := 1) (v := .pointer (some ⟨w2.heap.size, 3, none⟩)) [3, 2, 1] rfl (by kernel_rfl) (fun _ _ _ h => h) hS rfl (fun w' hSw => by go_simp) ?_
                  go_simp
                  refine wpAnyT_take (i := 2) (v := (.int .i64 0)) [3, 2] rfl (by kernel_rfl) (fun _ _ _ h => h) hS rfl (fun w' hSw => by have h3 := hSw.2.2.2.1; go_simp) ?_
                  go_simp
                  refine wpAnyT_take (i := 3) (v := .bool true) [3] rfl (by kernel_rfl) (fun _ _ _ h => h) hS rfl (fun w' hSw => by go_simp) ?_
                  go_simp
                  refine wpAnyT_one (i := 4) rfl (by kernel_rfl) (fun K4 hK4 => ?_)
                  go_simp
                  rw [← hW']
                  refine hK4.out _ _ (fun _ => SN.out) ?_
                  clear hK4 K4 hS SN hW' x0 x1 x2 x3 x4 f0 f1 f2 f3 f4
                  go_simp
                  refine wpAnyT_one (i := 5) rfl (by kernel_rfl) (fun K5 hK5 => ?_)
                  go_simp
                  refine hK5.out _ _ (fun h => absurd rfl h) ?_
                  clear hK5 K5
                  go_simp
                  refine wpAnyT_done (by kernel_rfl) ?_ _
                  obtain ⟨⟨y0, y1, y2, y3, y4⟩, -⟩ := five_box D.out
                  go_wp2
                  refine bodyPost_ret (v := .tuple #[.agg #[.int .i64 5, .string ws[1], (.string ws[2]), (.int .i64 0), (.int .i64 0)], .bool true]) (by simp [results, Tryz.results7, go_sem, y0, y1, y2, y3, y4]) rfl ?_
                  exact ⟨OUT.out, BF.out⟩
              · have r3 : ((ws.length : Int) != 3) = true := by rw [bne_iff_ne]; omega
                have QF := hideIt (rd_linkn (ws := ws) hk l3)
                obtain ⟨⟨x0, x1, x2, x3, x4⟩, f0, f1, f2, f3, f4⟩ := five_box X6.out
                have D := hideIt (put5o_box X6.out (.int .i64 0) (.string ⟨#[]⟩) (.string ⟨#[]⟩) (.int .i64 0) (.int .i64 0))
                have BF := hideIt (put5o_below B6.out (Nat.le_refl _) (.int .i64 0) (.string ⟨#[]⟩) (.string ⟨#[]⟩) (.int .i64 0) (.int .i64 0))
                obtain ⟨W', hW'⟩ : ∃ W', W' = put5o wr w.heap.size (.int .i64 0) (.string ⟨#[]⟩) (.string ⟨#[]⟩) (.int .i64 0) (.int .i64 0) := ⟨_, rfl⟩
                rw [← hW'] at D BF
                unfold put5o at hW'
                clear y1 y2 y3 y4 I Y6
                go_wp2_with fail
                rw [← hW']
                clear hW' x0 x1 x2 x3 x4 f0 f1 f2 f3 f4
                obtain ⟨⟨y0, y1, y2, y3, y4⟩, -⟩ := five_box D.out
                refine bodyPost_ret (v := .tuple #[.agg #[.int .i64 0, .string ⟨#[]⟩, .string ⟨#[]⟩, .int .i64 0, .int .i64 0], .bool false]) (by simp [results, Tryz.results7, go_sem, y0, y1, y2, y3, y4]) rfl ?_
                exact ⟨MF.out _ _ _ _ _ QF.out, BF.out⟩
            have q4 : ((K : Int) != 4) = true := by rw [bne_iff_ne]; omega
            have q5 : ((K : Int) != 5) = true := by rw [bne_iff_ne]; omega
            have hw : wr.cell? ⟨bL, oL + (ns.length + 2), none⟩ = some (.string ws[ns.length + 2]) := (I.out.b.cell (p := ⟨bL, oL + (ns.length + 2), none⟩) l5).trans (HW5.out _ hlt)
            have gk1 : wa ws (ns.length + 2) = ws[ns.length + 2] := by unfold wa; rw [List.getD_eq_getElem?_getD, List.getElem?_eq_getElem hlt]; rfl
            have LNk := hideIt (fun w1 => LN.out ws[ns.length + 2] w1 (SZ.out _ (List.getElem_mem hlt)))
            go_wp2_with fail
            refine (LNk.out _).mono ?_
            rintro e wn ⟨⟨v, ok, rfl, hq, lo, hi⟩, rfl⟩
            clear LNk hw
            rcases hq with ⟨n, hn, rfl, rfl⟩ | ⟨hn, hbad⟩
            · have v0 : ¬ ((n : Nat) : Int) < 0 := by omega
              have JB : Hid (SnN W5 (wn.alloc (.cells #[.int .i64 (n : Int)] 3)) u8 (ns.map Int.ofNat)) := I.out.below ((Below.refl _ _).alloc (Nat.le_refl _) _)
              have RB := hideIt (rd_int wn (n : Int))
              have hzb := JB.out.z
              have nl : (ns.map Int.ofNat).length = ns.length := List.length_map ..
              clear y0 y1 y2 y3 y4 X6 Y6 I q4 q5
              go_wp2_with (at_builtin; refine wpList_append_rd _ rfl (.tmp 78) (.tmp 80) 35 rfl W5.heap.size 3 (.int .i64 0) 1 8 Tryz.underlying35 info3 rfl (by decide) _ _ _ rfl JB.out.l _ 1 _ rfl RB.out (one_num _) (by simp [maxLen]; omega) (by omega) (by omega) ?_)
              intro vN wN hownN hgrN
              have G := hideIt (JB.out.grow (n : Int) (by rw [nl]; exact hownN) hgrN)
              clear hownN hgrN JB RB
              go_wp2
              go_roundg (ws.length - (ns.length + 3))
              case measure => omega
              case rel =>
                refine ⟨ns ++ [n], by simp; omega, by rw [List.length_append]; simp; go_num, fun j hj => ?_, fun q => absurd q (by omega), by unfold Hid; rw [List.map_append]; exact G.out⟩
                by_cases hj2 : j < ns.length
                · rw [List.getElem_append_left hj2]; exact HN j hj2
                · obtain rfl : j = ns.length := by rw [List.length_append] at hj; simp at hj; omega
                  rw [List.getElem_append_right (Nat.le_refl _), gk1, hn]
                  simp
            · have QF := hideIt (rd_badnum (ws := ws) (by rw [KO.out]; omega) (show 2 ≤ ns.length + 2 by omega) hlt (by rw [gk1]; exact hn))
              clear y0 y1 y2 y3 y4 I q4 q5 Y6
              cases ok with
              | false =>
                obtain ⟨⟨x0, x1, x2, x3, x4⟩, f0, f1, f2, f3, f4⟩ := five_box X6.out
                have D := hideIt (put5o_box X6.out (.int .i64 0) (.string ⟨#[]⟩) (.string ⟨#[]⟩) (.int .i64 0) (.int .i64 0))
                have BF := hideIt (put5o_below B6.out (Nat.le_refl _) (.int .i64 0) (.string ⟨#[]⟩) (.string ⟨#[]⟩) (.int .i64 0) (.int .i64 0))
                obtain ⟨W', hW'⟩ : ∃ W', W' = put5o wn w.heap.size (.int .i64 0) (.string ⟨#[]⟩) (.string ⟨#[]⟩) (.int .i64 0) (.int .i64 0) := ⟨_, rfl⟩
                rw [← hW'] at D BF
                unfold put5o at hW'
                go_wp2
                rw [← hW']
                clear hW' x0 x1 x2 x3 x4 f0 f1 f2 f3 f4
                obtain ⟨⟨y0, y1, y2, y3, y4⟩, -⟩ := five_box D.out
                refine bodyPost_ret (v := .tuple #[.agg #[.int .i64 0, .string ⟨#[]⟩, .string ⟨#[]⟩, .int .i64 0, .int .i64 0], .bool false]) (by simp [results, Tryz.results7, go_sem, y0, y1, y2, y3, y4]) rfl ?_
                exact ⟨MF.out _ _ _ _ _ QF.out, BF.out⟩
              | true =>
                have hv : v < 0 := hbad.resolve_left (by decide)
                obtain ⟨⟨x0, x1, x2, x3, x4⟩, f0, f1, f2, f3, f4⟩ := five_box X6.out
                have D := hideIt (put5o_box X6.out (.int .i64 0) (.string ⟨#[]⟩) (.string ⟨#[]⟩) (.int .i64 0) (.int .i64 0))
                have BF := hideIt (put5o_below B6.out (Nat.le_refl _) (.int .i64 0) (.string ⟨#[]⟩) (.string ⟨#[]⟩) (.int .i64 0) (.int .i64 0))
                obtain ⟨W', hW'⟩ : ∃ W', W' = put5o wn w.heap.size (.int .i64 0) (.string ⟨#[]⟩) (.string ⟨#[]⟩) (.int .i64 0) (.int .i64 0) := ⟨_, rfl⟩
                rw [← hW'] at D BF
                unfold put5o at hW'
                go_wp2
                rw [← hW']
                clear hW' x0 x1 x2 x3 x4 f0 f1 f2 f3 f4
                obtain ⟨⟨y0, y1, y2, y3, y4⟩, -⟩ := five_box D.out
                refine bodyPost_ret (v := .tuple #[.agg #[.int .i64 0, .string ⟨#[]⟩, .string ⟨#[]⟩, .int .i64 0, .int .i64 0], .bool false]) (by simp [results, Tryz.results7, go_sem, y0, y1, y2, y3, y4]) rfl ?_
                exact ⟨MF.out _ _ _ _ _ QF.out, BF.out⟩
          · have hlen : ns.length + 2 = ws.length := by omega
            have k1 : ¬ ((ns.length + 2 : Nat) : Int) < (ws.length : Int) := by omega
            have nl : (ns.map Int.ofNat).length = ns.length := List.length_map ..
            obtain ⟨aN, cN, rfl, -, -⟩ := I.out.rd.shape
            have KT := kdOf_le (wa ws 0)
            rw [KO.out] at KT
            by_cases h0 : K = 0
            · have q0 : ((K : Int) == 0) = true := by rw [beq_iff_eq]; omega
              have QF := hideIt (rd_zero (ws := ws) (by rw [KO.out]; exact h0))
              obtain ⟨⟨x0, x1, x2, x3, x4⟩, f0, f1, f2, f3, f4⟩ := five_box X6.out
              have D := hideIt (put5o_box X6.out (.int .i64 0) (.string ⟨#[]⟩) (.string ⟨#[]⟩) (.int .i64 0) (.int .i64 0))
              have BF := hideIt (put5o_below B6.out (Nat.le_refl _) (.int .i64 0) (.string ⟨#[]⟩) (.string ⟨#[]⟩) (.int .i64 0) (.int .i64 0))
              obtain ⟨W', hW'⟩ : ∃ W', W' = put5o wr w.heap.size (.int .i64 0) (.string ⟨#[]⟩) (.string ⟨#[]⟩) (.int .i64 0) (.int .i64 0) := ⟨_, rfl⟩
              rw [← hW'] at D BF
              unfold put5o at hW'
              clear y1 y2 y3 y4 I Y6
              go_wp2_with fail
              rw [← hW']
              clear hW' x0 x1 x2 x3 x4 f0 f1 f2 f3 f4
              obtain ⟨⟨y0, y1, y2, y3, y4⟩, -⟩ := five_box D.out
              refine bodyPost_ret (v := .tuple #[.agg #[.int .i64 0, .string ⟨#[]⟩, .string ⟨#[]⟩, .int .i64 0, .int .i64 0], .bool false]) (by simp [results, Tryz.results7, go_sem, y0, y1, y2, y3, y4]) rfl ?_
              exact ⟨MF.out _ _ _ _ _ QF.out, BF.out⟩
            by_cases h4 : K = 4 ∨ K = 5
            · have e0 : ns.length = 0 := by rw [H4 h4]; rfl
              have q0 : ((K : Int) == 0) = false := by rw [beq_eq_false_iff_ne]; omega
              have r3 : ((ws.length : Int) != 3) = true := by rw [bne_iff_ne]; omega
              have QF := hideIt (rd_linkn (ws := ws) (by rw [KO.out]; exact h4) (by omega))
              rcases h4 with h4 | h4
              · have q4 : ((K : Int) == 4) = true := by rw [beq_iff_eq]; omega
                obtain ⟨⟨x0, x1, x2, x3, x4⟩, f0, f1, f2, f3, f4⟩ := five_box X6.out
                have D := hideIt (put5o_box X6.out (.int .i64 0) (.string ⟨#[]⟩) (.string ⟨#[]⟩) (.int .i64 0) (.int .i64 0))
                have BF := hideIt (put5o_below B6.out (Nat.le_refl _) (.int .i64 0) (.string ⟨#[]⟩) (.string ⟨#[]⟩) (.int .i64 0) (.int .i64 0))
                obtain ⟨W', hW'⟩ : ∃ W', W' = put5o wr w.heap.size (.int .i64 0) (.string ⟨#[]⟩) (.string ⟨#[]⟩) (.int .i64 0) (.int .i64 0) := ⟨_, rfl⟩
                rw [← hW'] at D BF
                unfold put5o at hW'
                clear y1 y2 y3 y4 I Y6
                go_wp2_with fail
                rw [← hW']
                clear hW' x0 x1 x2 x3 x4 f0 f1 f2 f3 f4
                obtain ⟨⟨y0, y1, y2, y3, y4⟩, -⟩ := five_box D.out
                refine bodyPost_ret (v := .tuple #[.agg #[.int .i64 0, .string ⟨#[]⟩, .string ⟨#[]⟩, .int .i64 0, .int .i64 0], .bool false]) (by simp [results, Tryz.results7, go_sem, y0, y1, y2, y3, y4]) rfl ?_
                exact ⟨MF.out _ _ _ _ _ QF.out, BF.out⟩
              · have q4 : ((K : Int) == 4) = false := by rw [beq_eq_false_iff_ne]; omega
                have q5 : ((K : Int) == 5) = true := by rw [beq_iff_eq]; omega
                obtain ⟨⟨x0, x1, x2, x3, x4⟩, f0, f1, f2, f3, f4⟩ := five_box X6.out
                have D := hideIt (put5o_box X6.out (.int .i64 0) (.string ⟨#[]⟩) (.string ⟨#[]⟩) (.int .i64 0) (.int .i64 0))
                have BF := hideIt (put5o_below B6.out (Nat.le_refl _) (.int .i64 0) (.string ⟨#[]⟩) (.string ⟨#[]⟩) (.int .i64 0) (.int .i64 0))
                obtain ⟨W', hW'⟩ : ∃ W', W' = put5o wr w.heap.size (.int .i64 0) (.string ⟨#[]⟩) (.string ⟨#[]⟩) (.int .i64 0) (.int .i64 0) := ⟨_, rfl⟩
                rw [← hW'] at D BF
                unfold put5o at hW'
                clear y1 y2 y3 y4 I Y6
                go_wp2_with fail
                rw [← hW']
                clear hW' x0 x1 x2 x3 x4 f0 f1 f2 f3 f4
                obtain ⟨⟨y0, y1, y2, y3, y4⟩, -⟩ := five_box D.out
                refine bodyPost_ret (v := .tuple #[.agg #[.int .i64 0, .string ⟨#[]⟩, .string ⟨#[]⟩, .int .i64 0, .int .i64 0], .bool false]) (by simp [results, Tryz.results7, go_sem, y0, y1, y2, y3, y4]) rfl ?_
                exact ⟨MF.out _ _ _ _ _ QF.out, BF.out⟩
            have q0 : ((K : Int) == 0) = false := by rw [beq_eq_false_iff_ne]; omega
            have q4 : ((K : Int) == 4) = false := by rw [beq_eq_false_iff_ne]; omega
            have q5 : ((K : Int) == 5) = false := by rw [beq_eq_false_iff_ne]; omega
            by_cases h6 : K = 6
            · subst h6
              have h6 : kdOf (wa ws 0) = 6 := KO.out
              by_cases l4 : ws.length = 4
              · obtain ⟨g, x, rfl⟩ : ∃ g x, ns = [g, x] := by
                  match ns, (show ns.length = 2 by omega) with
                  | [g, x], _ => exact ⟨g, x, rfl⟩
                obtain ⟨bN, cN', e, lbN, hcN⟩ := I.out.form (show 0 < ([g, x].map Int.ofNat).length by simp)
                cases e
                have n0 : wr.cell? ⟨bN, 0, none⟩ = some (.int .i64 (g : Int)) := hcN 0 (by simp)
                have n1 : wr.cell? ⟨bN, 1, none⟩ = some (.int .i64 (x : Int)) := hcN 1 (by simp)
                have R := hideIt (rd_write (ws := ws) (g := g) (x := x) h6 l4 WS.out (show (spC (wa ws 1) == 0) = true by rw [show wa ws 1 = ws[1] from g1]; exact q1) (HN 0 (by simp)) (HN 1 (by simp)))
                rw [KO.out, show wa ws 1 = ws[1] from g1] at R
                clear hcN HN I h6
                go_wp2_with fail
                refine (l01Word_any _ _).mono ?_
                rintro e w' ⟨rfl, rfl⟩
                cases hx : wordB (x : Int) with
                | false =>
                  have QF : Hid (rdW ws = none) := R.out.trans (if_neg (by rw [hx]; simp))
                  obtain ⟨⟨x0, x1, x2, x3, x4⟩, f0, f1, f2, f3, f4⟩ := five_box X6.out
                  have D := hideIt (put5o_box X6.out (.int .i64 0) (.string ⟨#[]⟩) (.string ⟨#[]⟩) (.int .i64 0) (.int .i64 0))
                  have BF := hideIt (put5o_below B6.out (Nat.le_refl _) (.int .i64 0) (.string ⟨#[]⟩) (.string ⟨#[]⟩) (.int .i64 0) (.int .i64 0))
                  obtain ⟨W', hW'⟩ : ∃ W', W' = put5o w' w.heap.size (.int .i64 0) (.string ⟨#[]⟩) (.string ⟨#[]⟩) (.int .i64 0) (.int .i64 0) := ⟨_, rfl⟩
                  rw [← hW'] at D BF
                  unfold put5o at hW'
                  clear y1 y2 y3 y4 R Y6
                  go_wp2_with fail
                  rw [← hW']
                  clear hW' x0 x1 x2 x3 x4 f0 f1 f2 f3 f4
                  obtain ⟨⟨y0, y1, y2, y3, y4⟩, -⟩ := five_box D.out
                  refine bodyPost_ret (v := .tuple #[.agg #[.int .i64 0, .string ⟨#[]⟩, .string ⟨#[]⟩, .int .i64 0, .int .i64 0], .bool false]) (by simp [results, Tryz.results7, go_sem, y0, y1, y2, y3, y4]) rfl ?_
                  exact ⟨MF.out _ _ _ _ _ QF.out, BF.out⟩
                | true =>
                  have OUT : Hid (PP (.returned (.tuple #[.agg #[.int .i64 6, .string ws[1], .string ⟨#[]⟩, .int .i64 (g : Int), .int .i64 (x : Int)], .bool (decide ((g : Int) ≤ 1000))]))) := by
                    by_cases hg : g ≤ 1000
                    · rw [decide_eq_true (show (g : Int) ≤ 1000 by omega)]
                      exact MT.out 6 _ _ _ _ (R.out.trans (if_pos ⟨hx, hg⟩))
                    · rw [decide_eq_false (show ¬ (g : Int) ≤ 1000 by omega)]
                      exact MF.out 6 _ _ _ _ (R.out.trans (if_neg (fun q => hg q.2)))
                  obtain ⟨-, f0, f1, f2, f3, f4⟩ := five_box Y6.out
                  have n1' : (w'.setCell ⟨w2.heap.size, 3, none⟩ (.int .i64 (g : Int))).cell? ⟨bN, 1, none⟩ = some (.int .i64 (x : Int)) := by
                    have h2 : ¬ w2.heap.size = bN := by omega
                    rw [← n1]
                    simp [World.cell?, World.setCell, Array.getElem?_modify, h2]
                  obtain ⟨W7, hW7⟩ : ∃ W7, W7 = (w'.setCell ⟨w2.heap.size, 3, none⟩ (.int .i64 (g : Int))).setCell ⟨w2.heap.size, 4, none⟩ (.int .i64 (x : Int)) := ⟨_, rfl⟩
                  have Y7 : Hid (W7.heap[w2.heap.size]? = some (.cells #[.int .i64 6, .string ws[1], .string ⟨#[]⟩, .int .i64 (g : Int), .int .i64 (x : Int)] 23 (0, 0))) := by rw [hW7]; unfold Hid; simp [World.setCell, Array.getElem?_modify, Y6.out]
                  have X7 : Hid (W7.heap[w.heap.size]? = some (.cells #[.int .i64 0, .string ⟨#[]⟩, .string ⟨#[]⟩, .int .i64 0, .int .i64 0] 23 (0, 0))) := by rw [hW7]; unfold Hid; simp only [World.setCell, Array.getElem?_modify]; rw [if_neg (show ¬ w2.heap.size = w.heap.size by omega), if_neg (show ¬ w2.heap.size = w.heap.size by omega)]; exact X6.out
                  have B7 : Hid (Below w.heap.size w W7) := by rw [hW7]; exact (B6.out.setCell (by simp only; omega) _).setCell (by simp only; omega) _
                  clear R hx
                  go_upto_region 39 with fail
                  rw [← hW7]
                  clear hW7 X6 Y6 B6 f0 f1 f2 f3 f4 y0 y1 y2 y3 y4 n0 n1 n1'
                  obtain ⟨⟨x0, x1, x2, x3, x4⟩, f0, f1, f2, f3, f4⟩ := five_box (w := W7) X7.out
                  obtain ⟨⟨y0, y1, y2, y3, y4⟩, -⟩ := five_box (w := W7) Y7.out
                  have D := hideIt (put5o_box (w := W7) X7.out (.int .i64 6) (.string ws[1]) (.string ⟨#[]⟩) (.int .i64 (g : Int)) (.int .i64 (x : Int)))
                  have BF := hideIt (put5o_below B7.out (Nat.le_refl _) (.int .i64 6) (.string ws[1]) (.string ⟨#[]⟩) (.int .i64 (g : Int)) (.int .i64 (x : Int)))
                  have N := hideIt (fun o => put5o_cell (w := W7) (b := w.heap.size) (c := w2.heap.size) (o := o) (u0 := .int .i64 6) (u1 := .string ws[1]) (u2 := (.string ⟨#[]⟩)) (u3 := (.int .i64 (g : Int))) (u4 := (.int .i64 (x : Int))) (by omega))
                  obtain ⟨W', hW'⟩ : ∃ W', W' = (put5o W7 w.heap.size (.int .i64 6) (.string ws[1]) (.string ⟨#[]⟩) (.int .i64 (g : Int)) (.int .i64 (x : Int))).drew := ⟨_, rfl⟩
                  have D : Hid (W'.heap[w.heap.size]? = some (.cells #[.int .i64 6, .string ws[1], (.string ⟨#[]⟩), (.int .i64 (g : Int)), (.int .i64 (x : Int))] 23 (0, 0))) := by rw [hW']; exact box_drew D.out
                  have BF : Hid (Below w.heap.size w W') := by rw [hW']; exact BF.out.drew
                  have N : Hid (∀ o, W'.cell? ⟨w2.heap.size, o, none⟩ = W7.cell? ⟨w2.heap.size, o, none⟩) := fun o => by rw [hW']; exact cell_drew (N.out o)
                  unfold put5o at hW'
                  refine wp_region_T 5 (fun w' => w'.cell? ⟨w2.heap.size, 0, none⟩ = some (.int .i64 6) ∧ w'.cell? ⟨w2.heap.size, 1, none⟩ = some (.string ws[1]) ∧ w'.cell? ⟨w2.heap.size, 2, none⟩ = some (.string ⟨#[]⟩) ∧ w'.cell? ⟨w2.heap.size, 3, none⟩ = some (.int .i64 (g : Int)) ∧ w'.cell? ⟨w2.heap.size, 4, none⟩ = some (.int .i64 (x : Int))) (by kernel_rfl) ⟨y0, y1, y2, y3, y4⟩ (fun hS => ?_)
                  have SN : Hid (W'.cell? ⟨w2.heap.size, 0, none⟩ = some (.int .i64 6) ∧ W'.cell? ⟨w2.heap.size, 1, none⟩ = some (.string ws[1]) ∧ W'.cell? ⟨w2.heap.size, 2, none⟩ = some (.string ⟨#[]⟩) ∧ W'.cell? ⟨w2.heap.size, 3, none⟩ = some (.int .i64 (g : Int)) ∧ W'.cell? ⟨w2.heap.size, 4, none⟩ = some (.int .i64 (x : Int))) := ⟨(N.out 0).trans y0, (N.out 1).trans y1, (N.out 2).trans y2, (N.out 3).trans y3, (N.out 4).trans y4⟩
                  clear N y0 y1 y2 y3 y4
                  refine wpAnyT_take (i := 0) (v := .agg #[.int .i64 6, .string ws[1], (.string ⟨#[]⟩), (.int .i64 (g : Int)), (.int .i64 (x : Int))]) [0] rfl (by kernel_rfl) (fun _ _ _ h => h) hS rfl (fun w' hSw => by obtain ⟨h0, h1, h2, h3, h4⟩ := hSw; go_simp) ?_
                  go_simp
                  refine wpAnyT_take (i := 1) (v := .pointer (some ⟨w2.heap.size, 3, none⟩)) [3, 2, 1] rfl (by kernel_rfl) (fun _ _ _ h => h) hS rfl (fun w' hSw => by go_simp) ?_
                  go_simp
                  refine wpAnyT_take (i := 2) (v := (.int .i64 (g : Int))) [3, 2] rfl (by kernel_rfl) (fun _ _ _ h => h) hS rfl (fun w' hSw => by have h3 := hSw.2.2.2.1; go_simp) ?_
                  go_simp
                  refine wpAnyT_take (i := 3) (v := .bool (decide ((g : Int) ≤ 1000))) [3] rfl (by kernel_rfl) (fun _ _ _ h => h) hS rfl (fun w' hSw => by go_simp) ?_
                  go_simp
                  refine wpAnyT_one (i := 4) rfl (by kernel_rfl) (fun K4 hK4 => ?_)
                  go_simp
                  rw [← hW']
                  refine hK4.out _ _ (fun _ => SN.out) ?_
                  clear hK4 K4 hS SN hW' x0 x1 x2 x3 x4 f0 f1 f2 f3 f4
                  go_simp
                  refine wpAnyT_one (i := 5) rfl (by kernel_rfl) (fun K5 hK5 => ?_)
                  go_simp
                  refine hK5.out _ _ (fun h => absurd rfl h) ?_
                  clear hK5 K5
                  go_simp
                  refine wpAnyT_done (by kernel_rfl) ?_ _
                  obtain ⟨⟨y0, y1, y2, y3, y4⟩, -⟩ := five_box D.out
                  go_wp2
                  refine bodyPost_ret (v := .tuple #[.agg #[.int .i64 6, .string ws[1], (.string ⟨#[]⟩), (.int .i64 (g : Int)), (.int .i64 (x : Int))], .bool (decide ((g : Int) ≤ 1000))]) (by simp [results, Tryz.results7, go_sem, y0, y1, y2, y3, y4]) rfl ?_
                  exact ⟨OUT.out, BF.out⟩
              · have r2 : ((ns.length : Int) != 2) = true := by rw [bne_iff_ne]; omega
                have QF := hideIt (rd_writen (ws := ws) h6 l4)
                rw [nl]
                obtain ⟨⟨x0, x1, x2, x3, x4⟩, f0, f1, f2, f3, f4⟩ := five_box X6.out
                have D := hideIt (put5o_box X6.out (.int .i64 0) (.string ⟨#[]⟩) (.string ⟨#[]⟩) (.int .i64 0) (.int .i64 0))
                have BF := hideIt (put5o_below B6.out (Nat.le_refl _) (.int .i64 0) (.string ⟨#[]⟩) (.string ⟨#[]⟩) (.int .i64 0) (.int .i64 0))
                obtain ⟨W', hW'⟩ : ∃ W', W' = put5o wr w.heap.size (.int .i64 0) (.string ⟨#[]⟩) (.string ⟨#[]⟩) (.int .i64 0) (.int .i64 0) := ⟨_, rfl⟩
                rw [← hW'] at D BF
                unfold put5o at hW'
                clear y1 y2 y3 y4 I Y6
                go_wp2_with fail
                rw [← hW']
                clear hW' x0 x1 x2 x3 x4 f0 f1 f2 f3 f4
                obtain ⟨⟨y0, y1, y2, y3, y4⟩, -⟩ := five_box D.out
                refine bodyPost_ret (v := .tuple #[.agg #[.int .i64 0, .string ⟨#[]⟩, .string ⟨#[]⟩, .int .i64 0, .int .i64 0], .bool false]) (by simp [results, Tryz.results7, go_sem, y0, y1, y2, y3, y4]) rfl ?_
                exact ⟨MF.out _ _ _ _ _ QF.out, BF.out⟩
            have q6 : ((K : Int) == 6) = false := by rw [beq_eq_false_iff_ne]; omega
            by_cases h7 : K = 7 ∨ K = 8
            · by_cases l3 : ws.length = 3
              · rcases h7 with h7 | h7
                · subst h7
                  have h7 : kdOf (wa ws 0) = 7 ∨ kdOf (wa ws 0) = 8 := by rw [KO.out]; decide
                  obtain ⟨g, rfl⟩ : ∃ g, ns = [g] := List.length_eq_one_iff.1 (by omega)
                  obtain ⟨bN, cN', e, lbN, hcN⟩ := I.out.form (show 0 < ([g].map Int.ofNat).length by simp)
                  cases e
                  have n0 : wr.cell? ⟨bN, 0, none⟩ = some (.int .i64 (g : Int)) := hcN 0 (by simp)
                  have R := hideIt (rd_page (ws := ws) (g := g) h7 l3 WS.out (show (spC (wa ws 1) == 0) = true by rw [show wa ws 1 = ws[1] from g1]; exact q1) (HN 0 (by simp)))
                  have OUT : Hid (PP (.returned (.tuple #[.agg #[.int .i64 7, .string ws[1], .string ⟨#[]⟩, .int .i64 (g : Int), .int .i64 0], .bool (decide ((g : Int) ≤ 1000))]))) := by
                    rw [KO.out, show wa ws 1 = ws[1] from g1] at R
                    by_cases hg : g ≤ 1000
                    · rw [decide_eq_true (show (g : Int) ≤ 1000 by omega)]
                      exact MT.out 7 _ _ _ 0 (R.out.trans (if_pos hg))
                    · rw [decide_eq_false (show ¬ (g : Int) ≤ 1000 by omega)]
                      exact MF.out 7 _ _ _ _ (R.out.trans (if_neg hg))
                  obtain ⟨-, f0, f1, f2, f3, f4⟩ := five_box Y6.out
                  obtain ⟨W7, hW7⟩ : ∃ W7, W7 = wr.setCell ⟨w2.heap.size, 3, none⟩ (.int .i64 (g : Int)) := ⟨_, rfl⟩
                  have Y7 : Hid (W7.heap[w2.heap.size]? = some (.cells #[.int .i64 7, .string ws[1], .string ⟨#[]⟩, .int .i64 (g : Int), .int .i64 0] 23 (0, 0))) := by rw [hW7]; unfold Hid; simp [World.setCell, Array.getElem?_modify, Y6.out]
                  have X7 : Hid (W7.heap[w.heap.size]? = some (.cells #[.int .i64 0, .string ⟨#[]⟩, .string ⟨#[]⟩, .int .i64 0, .int .i64 0] 23 (0, 0))) := by rw [hW7]; unfold Hid; simp only [World.setCell, Array.getElem?_modify]; rw [if_neg (show ¬ w2.heap.size = w.heap.size by omega)]; exact X6.out
                  have B7 : Hid (Below w.heap.size w W7) := by rw [hW7]; exact B6.out.setCell (by simp only; omega) _
                  clear R I hcN HN h7
                  go_upto_region 39 with fail
                  rw [← hW7]
                  clear hW7 X6 Y6 B6 f0 f1 f2 f3 f4 y0 y1 y2 y3 y4 n0
                  obtain ⟨⟨x0, x1, x2, x3, x4⟩, f0, f1, f2, f3, f4⟩ := five_box (w := W7) X7.out
                  obtain ⟨⟨y0, y1, y2, y3, y4⟩, -⟩ := five_box (w := W7) Y7.out
                  have D := hideIt (put5o_box (w := W7) X7.out (.int .i64 7) (.string ws[1]) (.string ⟨#[]⟩) (.int .i64 (g : Int)) (.int .i64 0))
                  have BF := hideIt (put5o_below B7.out (Nat.le_refl _) (.int .i64 7) (.string ws[1]) (.string ⟨#[]⟩) (.int .i64 (g : Int)) (.int .i64 0))
                  have N := hideIt (fun o => put5o_cell (w := W7) (b := w.heap.size) (c := w2.heap.size) (o := o) (u0 := .int .i64 7) (u1 := .string ws[1]) (u2 := (.string ⟨#[]⟩)) (u3 := (.int .i64 (g : Int))) (u4 := (.int .i64 0)) (by omega))
                  obtain ⟨W', hW'⟩ : ∃ W', W' = (put5o W7 w.heap.size (.int .i64 7) (.string ws[1]) (.string ⟨#[]⟩) (.int .i64 (g : Int)) (.int .i64 0)).drew := ⟨_, rfl⟩
                  have D : Hid (W'.heap[w.heap.size]? = some (.cells #[.int .i64 7, .string ws[1], (.string ⟨#[]⟩), (.int .i64 (g : Int)), (.int .i64 0)] 23 (0, 0))) := by rw [hW']; exact box_drew D.out
                  have BF : Hid (Below w.heap.size w W') := by rw [hW']; exact BF.out.drew
                  have N : Hid (∀ o, W'.cell? ⟨w2.heap.size, o, none⟩ = W7.cell? ⟨w2.heap.size, o, none⟩) := fun o => by rw [hW']; exact cell_drew (N.out o)
                  unfold put5o at hW'
                  refine wp_region_T 5 (fun w' => w'.cell? ⟨w2.heap.size, 0, none⟩ = some (.int .i64 7) ∧ w'.cell? ⟨w2.heap.size, 1, none⟩ = some (.string ws[1]) ∧ w'.cell? ⟨w2.heap.size, 2, none⟩ = some (.string ⟨#[]⟩) ∧ w'.cell? ⟨w2.heap.size, 3, none⟩ = some (.int .i64 (g : Int)) ∧ w'.cell? ⟨w2.heap.size, 4, none⟩ = some (.int .i64 0)) (by kernel_rfl) ⟨y0, y1, y2, y3, y4⟩ (fun hS => ?_)
                  have SN : Hid (W'.cell? ⟨w2.heap.size, 0, none⟩ = some (.int .i64 7) ∧ W'.cell? ⟨w2.heap.size, 1, none⟩ = some (.string ws[1]) ∧ W'.cell? ⟨w2.heap.size, 2, none⟩ = some (.string ⟨#[]⟩) ∧ W'.cell? ⟨w2.heap.size, 3, none⟩ = some (.int .i64 (g : Int)) ∧ W'.cell? ⟨w2.heap.size, 4, none⟩ = some (.int .i64 0)) := ⟨(N.out 0).trans y0, (N.out 1).trans y1, (N.out 2).trans y2, (N.out 3).trans y3, (N.out 4).trans y4⟩
                  clear N y0 y1 y2 y3 y4
                  refine wpAnyT_take (i := 0) (v := .agg #[.int .i64 7, .string ws[1], (.string ⟨#[]⟩), (.int .i64 (g : Int)), (.int .i64 0)]) [0] rfl (by kernel_rfl) (fun _ _ _ h => h) hS rfl (fun w' hSw => by obtain ⟨h0, h1, h2, h3, h4⟩ := hSw; go_simp) ?_
                  go_simp
                  refine wpAnyT_take (i := 1) (v := .pointer (some ⟨w2.heap.size, 3, none⟩)) [3, 2, 1] rfl (by kernel_rfl) (fun _ _ _ h => h) hS rfl (fun w' hSw => by go_simp) ?_
                  go_simp
                  refine wpAnyT_take (i := 2) (v := (.int .i64 (g : Int))) [3, 2] rfl (by kernel_rfl) (fun _ _ _ h => h) hS rfl (fun w' hSw => by have h3 := hSw.2.2.2.1; go_simp) ?_
                  go_simp
                  refine wpAnyT_take (i := 3) (v := .bool (decide ((g : Int) ≤ 1000))) [3] rfl (by kernel_rfl) (fun _ _ _ h => h) hS rfl (fun w' hSw => by go_simp) ?_
                  go_simp
                  refine wpAnyT_one (i := 4) rfl (by kernel_rfl) (fun K4 hK4 => ?_)
                  go_simp
                  rw [← hW']
                  refine hK4.out _ _ (fun _ => SN.out) ?_
                  clear hK4 K4 hS SN hW' x0 x1 x2 x3 x4 f0 f1 f2 f3 f4
                  go_simp
                  refine wpAnyT_one (i := 5) rfl (by kernel_rfl) (fun K5 hK5 => ?_)
                  go_simp
                  refine hK5.out _ _ (fun h => absurd rfl h) ?_
                  clear hK5 K5
                  go_simp
                  refine wpAnyT_done (by kernel_rfl) ?_ _
                  obtain ⟨⟨y0, y1, y2, y3, y4⟩, -⟩ := five_box D.out
                  go_wp2
                  refine bodyPost_ret (v := .tuple #[.agg #[.int .i64 7, .string ws[1], (.string ⟨#[]⟩), (.int .i64 (g : Int)), (.int .i64 0)], .bool (decide ((g : Int) ≤ 1000))]) (by simp [results, Tryz.results7, go_sem, y0, y1, y2, y3, y4]) rfl ?_
                  exact ⟨OUT.out, BF.out⟩
                · subst h7
                  have h7 : kdOf (wa ws 0) = 7 ∨ kdOf (wa ws 0) = 8 := by rw [KO.out]; decide
                  obtain ⟨g, rfl⟩ : ∃ g, ns = [g] := List.length_eq_one_iff.1 (by omega)
                  obtain ⟨bN, cN', e, lbN, hcN⟩ := I.out.form (show 0 < ([g].map Int.ofNat).length by simp)
                  cases e
                  have n0 : wr.cell? ⟨bN, 0, none⟩ = some (.int .i64 (g : Int)) := hcN 0 (by simp)
                  have R := hideIt (rd_page (ws := ws) (g := g) h7 l3 WS.out (show (spC (wa ws 1) == 0) = true by rw [show wa ws 1 = ws[1] from g1]; exact q1) (HN 0 (by simp)))
                  have OUT : Hid (PP (.returned (.tuple #[.agg #[.int .i64 8, .string ws[1], .string ⟨#[]⟩, .int .i64 (g : Int), .int .i64 0], .bool (decide ((g : Int) ≤ 1000))]))) := by
                    rw [KO.out, show wa ws 1 = ws[1] from g1] at R
                    by_cases hg : g ≤ 1000
                    · rw [decide_eq_true (show (g : Int) ≤ 1000 by omega)]
                      exact MT.out 8 _ _ _ 0 (R.out.trans (if_pos hg))
                    · rw [decide_eq_false (show ¬ (g : Int) ≤ 1000 by omega)]
                      exact MF.out 8 _ _ _ _ (R.out.trans (if_neg hg))
                  obtain ⟨-, f0, f1, f2, f3, f4⟩ := five_box Y6.out
                  obtain ⟨W7, hW7⟩ : ∃ W7, W7 = wr.setCell ⟨w2.heap.size, 3, none⟩ (.int .i64 (g : Int)) := ⟨_, rfl⟩
                  have Y7 : Hid (W7.heap[w2.heap.size]? = some (.cells #[.int .i64 8, .string ws[1], .string ⟨#[]⟩, .int .i64 (g : Int), .int .i64 0] 23 (0, 0))) := by rw [hW7]; unfold Hid; simp [World.setCell, Array.getElem?_modify, Y6.out]
                  have X7 : Hid (W7.heap[w.heap.size]? = some (.cells #[.int .i64 0, .string ⟨#[]⟩, .string ⟨#[]⟩, .int .i64 0, .int .i64 0] 23 (0, 0))) := by rw [hW7]; unfold Hid; simp only [World.setCell, Array.getElem?_modify]; rw [if_neg (show ¬ w2.heap.size = w.heap.size by omega)]; exact X6.out
                  have B7 : Hid (Below w.heap.size w W7) := by rw [hW7]; exact B6.out.setCell (by simp only; omega) _
                  clear R I hcN HN h7
                  go_upto_region 39 with fail
                  rw [← hW7]
                  clear hW7 X6 Y6 B6 f0 f1 f2 f3 f4 y0 y1 y2 y3 y4 n0
                  obtain ⟨⟨x0, x1, x2, x3, x4⟩, f0, f1, f2, f3, f4⟩ := five_box (w := W7) X7.out
                  obtain ⟨⟨y0, y1, y2, y3, y4⟩, -⟩ := five_box (w := W7) Y7.out
                  have D := hideIt (put5o_box (w := W7) X7.out (.int .i64 8) (.string ws[1]) (.string ⟨#[]⟩) (.int .i64 (g : Int)) (.int .i64 0))
                  have BF := hideIt (put5o_below B7.out (Nat.le_refl _) (.int .i64 8) (.string ws[1]) (.string ⟨#[]⟩) (.int .i64 (g : Int)) (.int .i64 0))
                  have N := hideIt (fun o => put5o_cell (w := W7) (b := w.heap.size) (c := w2.heap.size) (o := o) (u0 := .int .i64 8) (u1 := .string ws[1]) (u2 := (.string ⟨#[]⟩)) (u3 := (.int .i64 (g : Int))) (u4 := (.int .i64 0)) (by omega))
                  obtain ⟨W', hW'⟩ : ∃ W', W' = (put5o W7 w.heap.size (.int .i64 8) (.string ws[1]) (.string ⟨#[]⟩) (.int .i64 (g : Int)) (.int .i64 0)).drew := ⟨_, rfl⟩
                  have D : Hid (W'.heap[w.heap.size]? = some (.cells #[.int .i64 8, .string ws[1], (.string ⟨#[]⟩), (.int .i64 (g : Int)), (.int .i64 0)] 23 (0, 0))) := by rw [hW']; exact box_drew D.out
                  have BF : Hid (Below w.heap.size w W') := by rw [hW']; exact BF.out.drew
                  have N : Hid (∀ o, W'.cell? ⟨w2.heap.size, o, none⟩ = W7.cell? ⟨w2.heap.size, o, none⟩) := fun o => by rw [hW']; exact cell_drew (N.out o)
                  unfold put5o at hW'
                  refine wp_region_T 5 (fun w' => w'.cell? ⟨w2.heap.size, 0, none⟩ = some (.int .i64 8) ∧ w'.cell? ⟨w2.heap.size, 1, none⟩ = some (.string ws[1]) ∧ w'.cell? ⟨w2.heap.size, 2, none⟩ = some (.string ⟨#[]⟩) ∧ w'.cell? ⟨w2.heap.size, 3, none⟩ = some (.int .i64 (g : Int)) ∧ w'.cell? ⟨w2.heap.size, 4, none⟩ = some (.int .i64 0)) (by kernel_rfl) ⟨y0, y1, y2, y3, y4⟩ (fun hS => ?_)
                  have SN : Hid (W'.cell? ⟨w2.heap.size, 0, none⟩ = some (.int .i64 8) ∧ W'.cell? ⟨w2.heap.size, 1, none⟩ = some (.string ws[1]) ∧ W'.cell? ⟨w2.heap.size, 2, none⟩ = some (.string ⟨#[]⟩) ∧ W'.cell? ⟨w2.heap.size, 3, none⟩ = some (.int .i64 (g : Int)) ∧ W'.cell? ⟨w2.heap.size, 4, none⟩ = some (.int .i64 0)) := ⟨(N.out 0).trans y0, (N.out 1).trans y1, (N.out 2).trans y2, (N.out 3).trans y3, (N.out 4).trans y4⟩
                  clear N y0 y1 y2 y3 y4
                  refine wpAnyT_take (i := 0) (v := .agg #[.int .i64 8, .string ws[1], (.string ⟨#[]⟩), (.int .i64 (g : Int)), (.int .i64 0)]) [0] rfl (by kernel_rfl) (fun _ _ _ h => h) hS rfl (fun w' hSw => by obtain ⟨h0, h1, h2, h3, h4⟩ := hSw; go_simp) ?_
                  go_simp
                  refine wpAnyT_take (i := 1) (v := .pointer (some ⟨w2.heap.size, 3, none⟩)) [3, 2, 1] rfl (by kernel_rfl) (fun _ _ _ h => h) hS rfl (fun w' hSw => by go_simp) ?_
                  go_simp
                  refine wpAnyT_take (i := 2) (v := (.int .i64 (g : Int))) [3, 2] rfl (by kernel_rfl) (fun _ _ _ h => h) hS rfl (fun w' hSw => by have h3 := hSw.2.2.2.1; go_simp) ?_
                  go_simp
                  refine wpAnyT_take (i := 3) (v := .bool (decide ((g : Int) ≤ 1000))) [3] rfl (by kernel_rfl) (fun _ _ _ h => h) hS rfl (fun w' hSw => by go_simp) ?_
                  go_simp
                  refine wpAnyT_one (i := 4) rfl (by kernel_rfl) (fun K4 hK4 => ?_)
                  go_simp
                  rw [← hW']
                  refine hK4.out _ _ (fun _ => SN.out) ?_
                  clear hK4 K4 hS SN hW' x0 x1 x2 x3 x4 f0 f1 f2 f3 f4
                  go_simp
                  refine wpAnyT_one (i := 5) rfl (by kernel_rfl) (fun K5 hK5 => ?_)
                  go_simp
                  refine hK5.out _ _ (fun h => absurd rfl h) ?_
                  clear hK5 K5
                  go_simp
                  refine wpAnyT_done (by kernel_rfl) ?_ _
                  obtain ⟨⟨y0, y1, y2, y3, y4⟩, -⟩ := five_box D.out
                  go_wp2
                  refine bodyPost_ret (v := .tuple #[.agg #[.int .i64 8, .string ws[1], (.string ⟨#[]⟩), (.int .i64 (g : Int)), (.int .i64 0)], .bool (decide ((g : Int) ≤ 1000))]) (by simp [results, Tryz.results7, go_sem, y0, y1, y2, y3, y4]) rfl ?_
                  exact ⟨OUT.out, BF.out⟩
              · have r1 : ((ns.length : Int) != 1) = true := by rw [bne_iff_ne]; omega
                have QF := hideIt (rd_pagen (ws := ws) (by rw [KO.out]; exact h7) l3)
                rcases h7 with h7 | h7
                · have q7 : ((K : Int) == 7) = true := by rw [beq_iff_eq]; omega
                  rw [nl]
                  obtain ⟨⟨x0, x1, x2, x3, x4⟩, f0, f1, f2, f3, f4⟩ := five_box X6.out
                  have D := hideIt (put5o_box X6.out (.int .i64 0) (.string ⟨#[]⟩) (.string ⟨#[]⟩) (.int .i64 0) (.int .i64 0))
                  have BF := hideIt (put5o_below B6.out (Nat.le_refl _) (.int .i64 0) (.string ⟨#[]⟩) (.string ⟨#[]⟩) (.int .i64 0) (.int .i64 0))
                  obtain ⟨W', hW'⟩ : ∃ W', W' = put5o wr w.heap.size (.int .i64 0) (.string ⟨#[]⟩) (.string ⟨#[]⟩) (.int .i64 0) (.int .i64 0) := ⟨_, rfl⟩
                  rw [← hW'] at D BF
                  unfold put5o at hW'
                  clear y1 y2 y3 y4 I Y6
                  go_wp2_with fail
                  rw [← hW']
                  clear hW' x0 x1 x2 x3 x4 f0 f1 f2 f3 f4
                  obtain ⟨⟨y0, y1, y2, y3, y4⟩, -⟩ := five_box D.out
                  refine bodyPost_ret (v := .tuple #[.agg #[.int .i64 0, .string ⟨#[]⟩, .string ⟨#[]⟩, .int .i64 0, .int .i64 0], .bool false]) (by simp [results, Tryz.results7, go_sem, y0, y1, y2, y3, y4]) rfl ?_
                  exact ⟨MF.out _ _ _ _ _ QF.out, BF.out⟩
                · have q7 : ((K : Int) == 7) = false := by rw [beq_eq_false_iff_ne]; omega
                  have q8 : ((K : Int) == 8) = true := by rw [beq_iff_eq]; omega
                  rw [nl]
                  obtain ⟨⟨x0, x1, x2, x3, x4⟩, f0, f1, f2, f3, f4⟩ := five_box X6.out
                  have D := hideIt (put5o_box X6.out (.int .i64 0) (.string ⟨#[]⟩) (.string ⟨#[]⟩) (.int .i64 0) (.int .i64 0))
                  have BF := hideIt (put5o_below B6.out (Nat.le_refl _) (.int .i64 0) (.string ⟨#[]⟩) (.string ⟨#[]⟩) (.int .i64 0) (.int .i64 0))
                  obtain ⟨W', hW'⟩ : ∃ W', W' = put5o wr w.heap.size (.int .i64 0) (.string ⟨#[]⟩) (.string ⟨#[]⟩) (.int .i64 0) (.int .i64 0) := ⟨_, rfl⟩
                  rw [← hW'] at D BF
                  unfold put5o at hW'
                  clear y1 y2 y3 y4 I Y6
                  go_wp2_with fail
                  rw [← hW']
                  clear hW' x0 x1 x2 x3 x4 f0 f1 f2 f3 f4
                  obtain ⟨⟨y0, y1, y2, y3, y4⟩, -⟩ := five_box D.out
                  refine bodyPost_ret (v := .tuple #[.agg #[.int .i64 0, .string ⟨#[]⟩, .string ⟨#[]⟩, .int .i64 0, .int .i64 0], .bool false]) (by simp [results, Tryz.results7, go_sem, y0, y1, y2, y3, y4]) rfl ?_
                  exact ⟨MF.out _ _ _ _ _ QF.out, BF.out⟩
            have q7 : ((K : Int) == 7) = false := by rw [beq_eq_false_iff_ne]; omega
            have q8 : ((K : Int) == 8) = false := by rw [beq_eq_false_iff_ne]; omega
            by_cases l2 : ws.length = 2
            · have r2 : ((ws.length : Int) != 2) = false := by rw [bne_eq_false_iff_eq]; omega
              have QF := hideIt (rd_plain (ws := ws) (by rw [KO.out]; exact h0) (by rw [KO.out]; exact h4) (by rw [KO.out]; exact h6) (by rw [KO.out]; exact h7) l2 WS.out (show (spC (wa ws 1) == 0) = true by rw [show wa ws 1 = ws[1] from g1]; exact q1))
              go_upto_region 39 with fail
              have OUT : Hid (rdW ws = some (K, ws[1], ⟨#[]⟩, 0, 0)) := by rw [KO.out, show wa ws 1 = ws[1] from g1] at QF; exact QF
              clear QF q0 q4 q5 q6 q7 q8 r2 y0 y1 y2 y3 y4
              obtain ⟨⟨x0, x1, x2, x3, x4⟩, f0, f1, f2, f3, f4⟩ := five_box (w := wr) X6.out
              obtain ⟨⟨y0, y1, y2, y3, y4⟩, -⟩ := five_box (w := wr) Y6.out
              have D := hideIt (put5o_box (w := wr) X6.out (.int .i64 (K : Int)) (.string ws[1]) (.string ⟨#[]⟩) (.int .i64 0) (.int .i64 0))
              have BF := hideIt (put5o_below B6.out (Nat.le_refl _) (.int .i64 (K : Int)) (.string ws[1]) (.string ⟨#[]⟩) (.int .i64 0) (.int .i64 0))
              have N := hideIt (fun o => put5o_cell (w := wr) (b := w.heap.size) (c := w2.heap.size) (o := o) (u0 := .int .i64 (K : Int)) (u1 := .string ws[1]) (u2 := (.string ⟨#[]⟩)) (u3 := (.int .i64 0)) (u4 := (.int .i64 0)) (by omega))
              obtain ⟨W', hW'⟩ : ∃ W', W' = (put5o wr w.heap.size (.int .i64 (K : Int)) (.string ws[1]) (.string ⟨#[]⟩) (.int .i64 0) (.int .i64 0)).drew := ⟨_, rfl⟩
              have D : Hid (W'.heap[w.heap.size]? = some (.cells #[.int .i64 (K : Int), .string ws[1], (.string ⟨#[]⟩), (.int .i64 0), (.int .i64 0)] 23 (0, 0))) := by rw [hW']; exact box_drew D.out
              have BF : Hid (Below w.heap.size w W') := by rw [hW']; exact BF.out.drew
              have N : Hid (∀ o, W'.cell? ⟨w2.heap.size, o, none⟩ = wr.cell? ⟨w2.heap.size, o, none⟩) := fun o => by rw [hW']; exact cell_drew (N.out o)
              unfold put5o at hW'
              refine wp_region_T 5 (fun w' => w'.cell? ⟨w2.heap.size, 0, none⟩ = some (.int .i64 (K : Int)) ∧ w'.cell? ⟨w2.heap.size, 1, none⟩ = some (.string ws[1]) ∧ w'.cell? ⟨w2.heap.size, 2, none⟩ = some (.string ⟨#[]⟩) ∧ w'.cell? ⟨w2.heap.size, 3, none⟩ = some (.int .i64 0) ∧ w'.cell? ⟨w2.heap.size, 4, none⟩ = some (.int .i64 0)) (by kernel_rfl) ⟨y0, y1, y2, y3, y4⟩ (fun hS => ?_)
              have SN : Hid (W'.cell? ⟨w2.heap.size, 0, none⟩ = some (.int .i64 (K : Int)) ∧ W'.cell? ⟨w2.heap.size, 1, none⟩ = some (.string ws[1]) ∧ W'.cell? ⟨w2.heap.size, 2, none⟩ = some (.string ⟨#[]⟩) ∧ W'.cell? ⟨w2.heap.size, 3, none⟩ = some (.int .i64 0) ∧ W'.cell? ⟨w2.heap.size, 4, none⟩ = some (.int .i64 0)) := ⟨(N.out 0).trans y0, (N.out 1).trans y1, (N.out 2).trans y2, (N.out 3).trans y3, (N.out 4).trans y4⟩
              clear N y0 y1 y2 y3 y4
              refine wpAnyT_take (i := 0) (v := .agg #[.int .i64 (K : Int), .string ws[1], (.string ⟨#[]⟩), (.int .i64 0), (.int .i64 0)]) [0] rfl (by kernel_rfl) (fun _ _ _ h => h) hS rfl (fun w' hSw => by obtain ⟨h0, h1, h2, h3, h4⟩ := hSw; go_simp) ?_
              go_simp
              refine wpAnyT_take (i := 1) (v := .pointer (some ⟨w2.heap.size, 3, none⟩)) [3, 2, 1] rfl (by kernel_rfl) (fun _ _ _ h => h) hS rfl (fun w' hSw => by go_simp) ?_
              go_simp
              refine wpAnyT_take (i := 2) (v := (.int .i64 0)) [3, 2] rfl (by kernel_rfl) (fun _ _ _ h => h) hS rfl (fun w' hSw => by have h3 := hSw.2.2.2.1; go_simp) ?_
              go_simp
              refine wpAnyT_take (i := 3) (v := .bool true) [3] rfl (by kernel_rfl) (fun _ _ _ h => h) hS rfl (fun w' hSw => by go_simp) ?_
              go_simp
              refine wpAnyT_one (i := 4) rfl (by kernel_rfl) (fun K4 hK4 => ?_)
              go_simp
              rw [← hW']
              refine hK4.out _ _ (fun _ => SN.out) ?_
              clear hK4 K4 hS SN hW' x0 x1 x2 x3 x4 f0 f1 f2 f3 f4
              go_simp
              refine wpAnyT_one (i := 5) rfl (by kernel_rfl) (fun K5 hK5 => ?_)
              go_simp
              refine hK5.out _ _ (fun h => absurd rfl h) ?_
              clear hK5 K5
              go_simp
              refine wpAnyT_done (by kernel_rfl) ?_ _
              obtain ⟨⟨y0, y1, y2, y3, y4⟩, -⟩ := five_box D.out
              go_wp2
              refine bodyPost_ret (v := .tuple #[.agg #[.int .i64 (K : Int), .string ws[1], (.string ⟨#[]⟩), (.int .i64 0), (.int .i64 0)], .bool true]) (by simp [results, Tryz.results7, go_sem, y0, y1, y2, y3, y4]) rfl ?_
              exact ⟨MT.out _ _ _ _ _ OUT.out, BF.out⟩
            · have r2 : ((ws.length : Int) != 2) = true := by rw [bne_iff_ne]; omega
              have QF := hideIt (rd_plainn (ws := ws) (by rw [KO.out]; exact h0) (by rw [KO.out]; exact h4) (by rw [KO.out]; exact h6) (by rw [KO.out]; exact h7) l2)
              obtain ⟨⟨x0, x1, x2, x3, x4⟩, f0, f1, f2, f3, f4⟩ := five_box X6.out
              have D := hideIt (put5o_box X6.out (.int .i64 0) (.string ⟨#[]⟩) (.string ⟨#[]⟩) (.int .i64 0) (.int .i64 0))
              have BF := hideIt (put5o_below B6.out (Nat.le_refl _) (.int .i64 0) (.string ⟨#[]⟩) (.string ⟨#[]⟩) (.int .i64 0) (.int .i64 0))
              obtain ⟨W', hW'⟩ : ∃ W', W' = put5o wr w.heap.size (.int .i64 0) (.string ⟨#[]⟩) (.string ⟨#[]⟩) (.int .i64 0) (.int .i64 0) := ⟨_, rfl⟩
              rw [← hW'] at D BF
              unfold put5o at hW'
              clear y1 y2 y3 y4 I Y6
              go_wp2_with fail
              rw [← hW']
              clear hW' x0 x1 x2 x3 x4 f0 f1 f2 f3 f4
              obtain ⟨⟨y0, y1, y2, y3, y4⟩, -⟩ := five_box D.out
              refine bodyPost_ret (v := .tuple #[.agg #[.int .i64 0, .string ⟨#[]⟩, .string ⟨#[]⟩, .int .i64 0, .int .i64 0], .bool false]) (by simp [results, Tryz.results7, go_sem, y0, y1, y2, y3, y4]) rfl ?_
              exact ⟨MF.out _ _ _ _ _ QF.out, BF.out⟩
end Go.Proofs.YtkchiplcjlgflaaGreatDoor
