/- Steps told in words: by the program. -/
import Derived.Test.YtkchiplcjlgflaaDoorZAG
import Derived.Test.YtkchiplcjlgflaaDoorZAC
import Derived.Test.YtkchiplcjlgflaaDoorMem
import Derived.Test.YtkchiplcjlgflaaDoorZAK
import Derived.Test.YtkchiplcjlgflaaDoorZAI
import Derived.ArgAppend
import Derived.Deep.OwnRows
import Derived.Deep.QuietTactic
import Derived.BigQuiet
namespace Go.Proofs.YtkchiplcjlgflaaDoor
open Go.RowKit
theorem lens_le (B : Nat) : ∀ (r : List (List UInt8)), (∀ x ∈ r, x.length ≤ B) → Lib.lens r ≤ B * r.length
  | [], _ => by simp [Lib.lens]
  | x :: r, h => by
    have h1 : (r.map (·.length)).sum ≤ B * r.length := lens_le B r (fun y hy => h y (List.mem_cons_of_mem _ hy))
    have h2 := h x (List.mem_cons_self ..)
    show ((x :: r).map (·.length)).sum ≤ B * (r.length + 1)
    rw [List.map_cons, List.sum_cons, Nat.mul_succ]
    omega
theorem joinB_size {xs : List ByteArray} {B : Nat} (h : ∀ x ∈ xs, x.size ≤ B) : (Lib.join (xs.map (·.data.toList)) [32]).length ≤ (B + 1) * xs.length := by
  cases xs with
  | nil => simp [Lib.join, List.intercalate]
  | cons x r =>
    have h1 := lens_le B ((x :: r).map (·.data.toList)) (fun y hy => by
      obtain ⟨z, hz, rfl⟩ := List.mem_map.1 hy
      have := h z hz
      show z.data.toList.length ≤ B
      rw [Array.length_toList]
      exact this)
    rw [List.length_map] at h1
    rw [List.map_cons] at h1 ⊢
    rw [Lib.join_length, List.length_map]
    show 1 * r.length + _ ≤ (B + 1) * (r.length + 1)
    rw [show (B + 1) * (r.length + 1) = B * (r.length + 1) + (r.length + 1) from by rw [Nat.add_mul, Nat.one_mul]]
    have h2 : Lib.lens (x.data.toList :: List.map (fun x => x.data.toList) r) ≤ B * (r.length + 1) := h1
    omega
theorem join_any (bk o c : Nat) (xs : List ByteArray) (B : Nat) (w : World) (hcells : ∀ (j : Nat) x, xs[j]? = some x → w.cell? ⟨bk, o + j, none⟩ = some (.string x)) (hbk : bk < w.heap.size) (hN : xs.length ≤ 4096) (hcap : xs.length ≤ c) (hB : ∀ x ∈ xs, x.size ≤ B) (hB2 : B ≤ 16777216) :
    Calls Tryd.prog 31 #[.slice (some ⟨bk, o, none⟩) xs.length c, .string ⟨#[32]⟩] w fun e w' => e = .returned (.string (joinB xs)) ∧ Below w.heap.size w w' := by
  have hl := joinB_size hB
  have : (B + 1) * xs.length ≤ 16777217 * 4096 := Nat.mul_le_mul (by omega) hN
  exact Any.strings_Join lays156 extraJ bk o c xs ⟨#[32]⟩ w hcells hbk (by omega) hcap (by
    show (Lib.join (xs.map (·.data.toList)) [32]).length ≤ _
    omega)
theorem textOf_any (v : Value) (xs : List ByteArray) (B : Nat) (w : World) (h : RdT w v xs) (h0 : 0 < xs.length) (hN : xs.length ≤ 4096) (hB : ∀ x ∈ xs, x.size ≤ B) (hB2 : B ≤ 16777216) :
    Calls Tryd.prog 22 #[v] w fun e w' => e = .returned (.string (joinB xs)) ∧ Below w.heap.size w w' := by
  obtain ⟨ao, c, rfl, hcap, hcell⟩ := h.shape
  obtain ⟨b, o, rfl, hb, hcell⟩ := hcell h0
  have LJ := hideIt (join_any b o c xs B w (fun j x hx => by
    obtain ⟨hj, rfl⟩ := List.getElem?_eq_some_iff.1 hx
    exact hcell j hj) hb hN (by omega) hB hB2)
  clear h hcell hcap hB hB2
  go_enter Tryd.func22, Tryd.ntmps22
  go_wp2_with fail
  refine LJ.out.mono ?_
  rintro e w1 ⟨rfl, hb1⟩
  have B1 := hideIt hb1
  clear hb1
  go_wp2
  go_ret
  exact ⟨rfl, B1.out⟩
def OutV (W w : World) (v0 : Value) (l0 : List ByteArray) (v : Value) (ss : List ByteArray) : Prop := (v = v0 ∧ ss = l0 ∧ Below W.heap.size W w) ∨ SnI W w v ss
theorem OutV.b {W w : World} {v0 v : Value} {l0 ss : List ByteArray} (h : OutV W w v0 l0 v ss) : Below W.heap.size W w := by
  rcases h with ⟨_, _, h⟩ | h
  · exact h
  · exact h.b
theorem own_base1 {w : World} {base base' : Nat} {e : TypeId} {size : Nat} {v : Value} {n : Nat} {xs : List Value} (h : w.ownsRow base e size v n xs) (hb : base' ≤ base) : w.ownsRow base' e size v n xs := by
  obtain ⟨hl, h | ⟨g, cap, cur, h1, h2, h3⟩⟩ := h
  · exact ⟨hl, .inl h⟩
  · exact ⟨hl, .inr ⟨g, cap, cur, h1, Nat.le_trans hb h2, h3⟩⟩
theorem OutV.rd {W w : World} {b0 : Nat} {v : Value} {l0 ss : List ByteArray} (h : OutV W w (.slice (some ⟨b0, 0, none⟩) l0.length l0.length) l0 v ss) (h0 : RdT W (.slice (some ⟨b0, 0, none⟩) l0.length l0.length) l0) : RdT w v ss := by
  rcases h with ⟨rfl, rfl, h⟩ | h
  · exact Rd.below h0 h
  · exact h.rd
theorem rdt_cells {w : World} {b n c : Nat} {ss : List ByteArray} (h : RdT w (.slice (some ⟨b, 0, none⟩) n c) ss) : ∀ j (hj : j < ss.length), w.cell? ⟨b, 0 + j, none⟩ = some (.string ss[j]) := fun j hj => by
  obtain ⟨ao, cap, e, _, hc⟩ := h.shape
  obtain ⟨b1, o1, e2, _, hcell⟩ := hc (by omega)
  have e1 := (Value.slice.inj e).1
  rw [e2] at e1
  have e3 := Option.some.inj e1
  have e4 : b = b1 := congrArg Addr.block e3
  have e5 : 0 = o1 := congrArg Addr.off e3
  subst e4 e5
  exact hcell j hj
theorem run_append_outv {W w : World} {b0 : Nat} {v u : Value} {l0 ss l : List ByteArray} (ty : TypeId) (ho : OutV W w (.slice (some ⟨b0, 0, none⟩) l0.length l0.length) l0 v ss) (h0 : RdT W (.slice (some ⟨b0, 0, none⟩) l0.length l0.length) l0) (hr : RdT w u l) (hq : 0 < l.length) (h63 : ss.length + l.length ≤ 1099511627776) :
    ∃ v' w', (Builtin.append_ #[24, 24] ty #[v, u]).run Tryd.prog w = .ok v' w' ∧ OutV W w' (.slice (some ⟨b0, 0, none⟩) l0.length l0.length) l0 v' (ss ++ l) := by
  have hm : (1099511627776 : Nat) ≤ maxLen := by simp [maxLen]
  rcases ho with ⟨rfl, rfl, hb⟩ | h
  · have h1 : RdT w (.slice (some ⟨b0, 0, none⟩) ss.length ss.length) ss := Rd.below h0 hb
    obtain ⟨ao, cap, rfl, _, hc⟩ := hr.shape
    obtain ⟨b, o, rfl, _, hcell⟩ := hc (by omega)
    obtain ⟨i, hi, hz, hs, hby⟩ := info_parts info9
    obtain ⟨v', w', hrun, h2, h3⟩ := run_append_arg_grows (P := Tryd.prog) w 24 ty 9 i (.string ⟨#[]⟩) 1 16 Tryd.underlying24 hi hz hs hby rfl (by decide) ⟨b0, 0, none⟩ ss.length ss.length (strs ss) (by simp [strs]) (fun j u hj => by
      have hj' : j < ss.length := by
        have := (List.getElem?_eq_some_iff.1 hj).1
        simpa [strs] using this
      have hcell := rdt_cells h1
      rw [Addr.add_lit, hcell j hj']
      simpa [strs, List.getElem?_map, List.getElem?_eq_getElem hj'] using hj) ⟨b, o, none⟩ l.length cap (strs l) (by simp [strs]) (fun j u hj => by
      have hj' : j < l.length := by
        have := (List.getElem?_eq_some_iff.1 hj).1
        simpa [strs] using this
      rw [Addr.add_lit, hcell j hj']
      simpa [strs, List.getElem?_map, List.getElem?_eq_getElem hj'] using hj) (by omega) (by omega) (by omega)
    refine ⟨v', w', hrun, .inr ⟨?_, ?_⟩⟩
    · have := own_base1 h2 hb.size
      rw [strs_app, List.length_append]
      exact this
    · exact hb.grown h3 hb.size (fun q hq => by cases hq)
  · obtain ⟨v', w', hrun, h2, h3⟩ := run_append_rd (P := Tryd.prog) w W.heap.size 24 ty 9 (.string ⟨#[]⟩) 1 16 Tryd.underlying24 info9 rfl (by decide) v ss.length (strs ss) h.l u l.length (strs l) hr (strs_one _) (by omega) (by omega) h.z
    exact ⟨v', w', hrun, .inr (h.grow l rfl h2 h3)⟩
theorem wpList_append_outv {W w : World} {b0 : Nat} {v u : Value} {l0 ss l : List ByteArray} {ops : Array Oper} {rest : List Oper} {o : Oper} {a : Act} {Q : Exit → Act → World → Prop} (hgd : o.guard = none) (s x : Operand)
    (hop : o.op = .call { callee := .builtin .append, args := #[s, x], argTypes := #[24, 24] }) (hs : a.eval s = v) (ho : OutV W w (.slice (some ⟨b0, 0, none⟩) l0.length l0.length) l0 v ss) (h0 : RdT W (.slice (some ⟨b0, 0, none⟩) l0.length l0.length) l0) (hx : a.eval x = u) (hr : RdT w u l) (hq : 0 < l.length) (h63 : ss.length + l.length ≤ 1099511627776)
    (h : ∀ v' w', OutV W w' (.slice (some ⟨b0, 0, none⟩) l0.length l0.length) l0 v' (ss ++ l) → wpList Tryd.prog ops Q rest (a.put o.dst v') w') : wpList Tryd.prog ops Q (o :: rest) a w := by
  refine wpList_plain hgd fun K hK => ?_
  obtain ⟨v', w', hrun, h2⟩ := run_append_outv o.type ho h0 hr hq h63
  unfold Oper.wp execOp
  simp only [hop, resolve, invoke, builtin, Sem.run_bind, Sem.run_pure, Result.andThen_ok, List.map_toArray, List.map_cons, List.map_nil, hs, hx, hrun]
  exact hK _ _ (h v' w' h2)
end Go.Proofs.YtkchiplcjlgflaaDoor
