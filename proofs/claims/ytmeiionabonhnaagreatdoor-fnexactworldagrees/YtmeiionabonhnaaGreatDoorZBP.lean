/- Several texts laid together: PeB, PeF, PeG, PeH, PeI. -/
import Derived.Test.YtmeiionabonhnaaGreatDoorZBL
import Derived.ArgAppend
import Derived.Test.YtmeiionabonhnaaGreatDoorZBM
import Derived.Test.YtmeiionabonhnaaGreatDoorZBA
namespace Go.Proofs.YtmeiionabonhnaaGreatDoor
open Go.RowKit
def OutI (W w : World) (b0 : Nat) (v : Value) (ss : List ByteArray) : Prop := (v = .slice (some ⟨b0, 0, none⟩) 0 0 ∧ ss = [] ∧ Below W.heap.size W w) ∨ (SnI W w v ss ∧ 0 < ss.length)
theorem OutI.b {W w : World} {b0 : Nat} {v : Value} {ss : List ByteArray} (h : OutI W w b0 v ss) : Below W.heap.size W w := by
  rcases h with ⟨_, _, h⟩ | ⟨h, _⟩
  · exact h
  · exact h.b
theorem OutI.below {W w w' : World} {b0 : Nat} {v : Value} {ss : List ByteArray} (h : OutI W w b0 v ss) (hb : Below w.heap.size w w') : OutI W w' b0 v ss := by
  rcases h with ⟨e, f, h⟩ | ⟨h, q⟩
  · exact .inl ⟨e, f, below_trans h hb h.size⟩
  · exact .inr ⟨h.below hb, q⟩
theorem OutI.form {W w : World} {b0 : Nat} {v : Value} {ss : List ByteArray} (h : OutI W w b0 v ss) : ∃ b c, v = .slice (some ⟨b, 0, none⟩) ss.length c := by
  rcases h with ⟨e, f, _⟩ | ⟨h, q⟩
  · subst f; exact ⟨b0, 0, e⟩
  · obtain ⟨b, c, e, _⟩ := h.form (h.some_ q)
    exact ⟨b, c, e⟩
theorem own_base {w : World} {base base' : Nat} {e : TypeId} {size : Nat} {v : Value} {n : Nat} {xs : List Value} (h : w.ownsRow base e size v n xs) (hb : base' ≤ base) : w.ownsRow base' e size v n xs := by
  obtain ⟨hl, h | ⟨g, cap, cur, h1, h2, h3⟩⟩ := h
  · exact ⟨hl, .inl h⟩
  · exact ⟨hl, .inr ⟨g, cap, cur, h1, Nat.le_trans hb h2, h3⟩⟩
theorem run_append_out {W w : World} {b0 : Nat} {v u : Value} {ss l : List ByteArray} (ty : TypeId) (ho : OutI W w b0 v ss) (hr : RdT w u l) (hq : 0 < ss.length ∨ 0 < l.length) (h63 : ss.length + l.length ≤ 1099511627776) :
    ∃ v' w', (Builtin.append_ #[27, 27] ty #[v, u]).run Tryz.prog w = .ok v' w' ∧ OutI W w' b0 v' (ss ++ l) := by
  have hm : (1099511627776 : Nat) ≤ maxLen := by simp [maxLen]
  · rcases ho with ⟨rfl, rfl, hb⟩ | ⟨h, q0⟩
    · have q : 0 < l.length := by simpa using hq
      obtain ⟨ao, cap, rfl, _, hc⟩ := hr.shape
      obtain ⟨b, o, rfl, _, hcell⟩ := hc (by omega)
      obtain ⟨i, hi, hz, hs, hby⟩ := info_parts info9
      obtain ⟨v', w', hrun, h2, h3⟩ := run_append_arg_grows (P := Tryz.prog) w 27 ty 9 i (.string ⟨#[]⟩) 1 16 Tryz.underlying27 hi hz hs hby rfl (by decide) ⟨b0, 0, none⟩ 0 0 [] rfl (fun j u hj => by simp at hj) ⟨b, o, none⟩ l.length cap (strs l) (by simp [strs]) (fun j u hj => by
        have hj' : j < l.length := by
          have := (List.getElem?_eq_some_iff.1 hj).1
          simpa [strs] using this
        rw [Addr.add_lit, hcell j hj']
        simpa [strs, List.getElem?_map, List.getElem?_eq_getElem hj'] using hj) (by omega) (by omega) (by omega)
      refine ⟨v', w', hrun, .inr ⟨⟨?_, ?_⟩, by simpa using q⟩⟩
      · have := own_base h2 hb.size
        simpa using this
      · exact hb.grown h3 hb.size (fun q hq => by cases hq)
    · obtain ⟨v', w', hrun, h2, h3⟩ := run_append_rd (P := Tryz.prog) w W.heap.size 27 ty 9 (.string ⟨#[]⟩) 1 16 Tryz.underlying27 info9 rfl (by decide) v ss.length (strs ss) h.l u l.length (strs l) hr (strs_one _) (by omega) (by omega) h.z
      exact ⟨v', w', hrun, .inr ⟨h.grow l rfl h2 h3, by rw [List.length_append]; omega⟩⟩
theorem wpList_append_out {W w : World} {b0 : Nat} {v u : Value} {ss l : List ByteArray} {ops : Array Oper} {rest : List Oper} {o : Oper} {a : Act} {Q : Exit → Act → World → Prop} (hgd : o.guard = none) (s x : Operand)
    (hop : o.op = .call { callee := .builtin .append, args := #[s, x], argTypes := #[27, 27] }) (hs : a.eval s = v) (ho : OutI W w b0 v ss) (hx : a.eval x = u) (hr : RdT w u l) (hq : 0 < ss.length ∨ 0 < l.length) (h63 : ss.length + l.length ≤ 1099511627776)
    (h : ∀ v' w', OutI W w' b0 v' (ss ++ l) → wpList Tryz.prog ops Q rest (a.put o.dst v') w') : wpList Tryz.prog ops Q (o :: rest) a w := by
  refine wpList_plain hgd fun K hK => ?_
  obtain ⟨v', w', hrun, h2⟩ := run_append_out o.type ho hr hq h63
  unfold Oper.wp execOp
  simp only [hop, resolve, invoke, builtin, Sem.run_bind, Sem.run_pure, Result.andThen_ok, List.map_toArray, List.map_cons, List.map_nil, hs, hx, hrun]
  exact hK _ _ (h v' w' h2)
end Go.Proofs.YtmeiionabonhnaaGreatDoor

namespace Go.Proofs.YtmeiionabonhnaaGreatDoor
open Go.RowKit
theorem name_size {ws : List Ino} {ps : List Den} (h : imgB ws ps = true) {j : Nat} (hj : j < ps.length) (hc : 1 ≤ ps[j].child) : ps[j].name.size ≤ 6 := by
  rcases pimg_ent h j hj with r | r
  · omega
  · have := r.2.2.1
    unfold nmB at this
    exact (of_decide_eq_true this).2.1
theorem pthK_take (ws : List Ino) (ps : List Den) (n : Nat) (d : Int) (hd : ByteArray) (ns : List ByteArray) (m : Nat) : (pthK ws ps n d hd (ns.take m)).length ≤ (pthK ws ps n d hd ns).length := by
  have e : pthK ws ps n d hd ns = pthK ws ps n d hd (ns.take m) ++ pthK ws ps n d hd (ns.drop m) := by
    unfold pthK
    rw [← List.flatMap_append, List.take_append_drop]
  rw [e, List.length_append]
  omega
theorem OutI.row {W w : World} {b0 lo : Nat} {v : Value} {ss : List ByteArray} (h : OutI W w b0 v ss) (hr : Row w 9 1 lo w.heap.size (.slice (some ⟨b0, 0, none⟩) 0 0) 0 []) (hl : lo ≤ W.heap.size) : Row w 9 1 lo w.heap.size v ss.length (strs ss) := by
  rcases h with ⟨rfl, rfl, _⟩ | ⟨h, _⟩
  · exact hr
  · exact (own_block h.l).wide hl (Nat.le_refl _)
theorem path_size (a b : ByteArray) : (a ++ ⟨#[47]⟩ ++ b).size = a.size + 1 + b.size := by
  rw [ByteArray.size_append, ByteArray.size_append]
  rfl
set_option maxRecDepth 100000 in
set_option maxHeartbeats 8000000 in
theorem l06Paths_any {ws : List Ino} {ps : List Den} (hi : imgB ws ps = true) : ∀ (n kd : Nat) (d : Int) (hd : ByteArray) (v : Value) (w : World), kd + n = 16 → dep ps kd d → (0 ≤ d ∧ d ≤ 15) → kindAt ws d = 2 → hd.size ≤ 7 * kd → RdIm w v ws ps →
    Calls Tryz.prog 70 #[v, .int .i64 d, .string hd] w fun e w' => ∃ v', e = .returned v' ∧ Row w' 9 1 w.heap.size w'.heap.size v' (pthN ws ps n d hd).length (strs (pthN ws ps n d hd)) ∧ Below w.heap.size w w' := by
  intro n
  induction n with
  | zero => intro kd d hd v w hkn hdep h0 hk; exact absurd (dep_small hi h0 hk hdep) (by omega)
  | succ n IH =>
  intro kd d hd v w hkn hdep hd0 hkd hhd h
  have HR := hideIt h
  have LE := hideIt (fun nm w1 h => l06Entry_any v ws ps d nm w1 h (by have := (pimg_all hi).2.1; omega))
  have LN := hideIt (fun w1 h => l05Names_any v ws ps d w1 h (by have := (pimg_all hi).2.1; omega))
  have LP := hideIt (fun (j : Nat) (hj : j < ps.length) (e : ps[j].dir = d) (c : 1 ≤ ps[j].child ∧ ps[j].child ≤ 15) (q : kindAt ws ps[j].child = 2) s w1 (hs : s.size ≤ 7 * (kd + 1)) h => IH (kd + 1) ps[j].child s v w1 (by omega) (dep_down hi hj c q (by rw [e]; exact hdep)) (by omega) q hs h)
  have NE := hideIt (fun nm (hm : nm ∈ sorted (namesD ps d)) => name_ent hi hm)
  have LEN := hideIt (fun (m : Nat) (hm : m ≤ (sorted (namesD ps d)).length) => show (pthK ws ps n d hd ((sorted (namesD ps d)).take m)).length ≤ 24 from by
    refine Nat.le_trans ?_ (pthN_len hi (n + 1) kd d hd hdep)
    rw [pthK_all]
    exact pthK_take ws ps n d hd _ m)
  have SUCC := hideIt (fun (m : Nat) (hm : m < (sorted (namesD ps d)).length) => pthK_succ ws ps n d hd hm)
  have ALL := hideIt (pthK_all ws ps n d hd)
  have Z0 := hideIt (pthK_zero ws ps n d hd (sorted (namesD ps d)))
  have NSZ := hideIt (fun (j : Nat) (hj : j < ps.length) (c : 1 ≤ ps[j].child) => name_size hi hj c)
  have PL := hideIt (fun (j : Nat) (hj : j < ps.length) (e : ps[j].dir = d) (c : 1 ≤ ps[j].child ∧ ps[j].child ≤ 15) (q : kindAt ws ps[j].child = 2) s => pthN_len hi n (kd + 1) ps[j].child s (dep_down hi hj c q (by rw [e]; exact hdep)))
  clear IH
  obtain ⟨vW, vP, rfl, h1, h2⟩ := h
  obtain ⟨aW, cW, rfl, _, hcW⟩ := h1.shape
  obtain ⟨aP, cP, rfl, _, hcP⟩ := h2.shape
  have L16 := hideIt (pimg_all hi).1
  have L24 := hideIt (pimg_all hi).2.1
  obtain ⟨bW, oW, rfl, hblW, hcellW⟩ := hcW (by have := L16.out; omega)
  obtain ⟨bP, oP, rfl, hblP, hcellP⟩ := hcP (by have := L24.out; omega)
  have HW : Hid (∀ w', Below w.heap.size w w' → ∀ n : Nat, n < 16 → w'.cell? ⟨bW, oW + n * 11, none⟩ = some (.int .i64 (kindAt ws n))) := fun w' hb n hn => by
    have hnl : n < ws.length := by have := L16.out; omega
    rw [kindAt_of hnl]
    exact (hb.cell (p := ⟨bW, oW + n * 11, none⟩) hblW).trans (hcellW n hnl).1
  have HP : Hid (∀ w', Below w.heap.size w w' → ∀ k (h : k < ps.length), w'.cell? ⟨bP, oP + k * 3 + 2, none⟩ = some (.int .i64 ps[k].child)) := fun w' hb k hk => (hb.cell (p := ⟨bP, oP + k * 3 + 2, none⟩) hblP).trans (hcellP k hk).2.2
  clear h1 h2 hcW hcP hcellW hcellP hi hdep hkd
  obtain ⟨W, hW⟩ : ∃ W, W = (w.alloc (.cells #[.slice (some ⟨bW, oW, none⟩) ws.length cW, .slice (some ⟨bP, oP, none⟩) ps.length cP] 98)).alloc (.cells #[] 9) := ⟨_, rfl⟩
  have hz1 : W.heap.size = w.heap.size + 1 + 1 := by rw [hW]; simp
  have CA : Hid (∀ w', Below W.heap.size W w' → w'.cell? ⟨w.heap.size, 0, none⟩ = some (.slice (some ⟨bW, oW, none⟩) ws.length cW) ∧ w'.cell? ⟨w.heap.size, 1, none⟩ = some (.slice (some ⟨bP, oP, none⟩) ps.length cP)) := fun w' hb => by
    have : w'.heap[w.heap.size]? = some (.cells #[.slice (some ⟨bW, oW, none⟩) ws.length cW, .slice (some ⟨bP, oP, none⟩) ps.length cP] 98 (0, 0)) := (hb.block _ (by omega)).trans (by rw [hW]; exact at_old (at_new rfl))
    exact ⟨(two_cells this).1, (two_cells this).2.1⟩
  have R0 : Hid (Row W 9 1 w.heap.size W.heap.size (.slice (some ⟨w.heap.size + 1, 0, none⟩) 0 0) 0 []) := by
    have := row_none9 (w.alloc (.cells #[.slice (some ⟨bW, oW, none⟩) ws.length cW, .slice (some ⟨bP, oP, none⟩) ps.length cP] 98))
    rw [← hW, World.size_alloc] at this
    exact this.wide (by omega) (Nat.le_refl _)
  have BW : Hid (Below w.heap.size w W) := by rw [hW]; exact ((Below.refl _ _).alloc (Nat.le_refl _) _).alloc (by simp) _
  have hz : w.heap.size ≤ W.heap.size := BW.out.size
  obtain ⟨x0, x1⟩ := CA.out W (Below.refl _ _)
  go_enter Tryz.func70, Tryz.ntmps70
  go_wp2_with fail
  rw [← hW]
  clear hW hz1
  refine (LN.out _ (HR.out.below BW.out)).mono ?_
  rintro e w1 ⟨vN, rfl, hrN, hbN⟩
  have hNS : (sorted (namesD ps d)).length ≤ 24 := by
    rw [sorted_len, ← L24.out]
    exact names_len ps d
  generalize sorted (namesD ps d) = NS at *
  have RN : Hid (RdT w1 vN NS) := hrN.rd
  have BN := hideIt hbN
  obtain ⟨aN, cN, rfl, _, hcN⟩ := RN.out.shape
  have HN := hideIt hcN
  have hzN : W.heap.size ≤ w1.heap.size := hbN.size
  clear hrN hbN hcN LN x0 x1
  have START : Hid (OutI w1 w1 (w.heap.size + 1) (.slice (some ⟨w.heap.size + 1, 0, none⟩) 0 0) (pthK ws ps n d hd (NS.take 0))) := .inl ⟨rfl, Z0.out, Below.refl _ _⟩
  clear Z0
  go_wp2_with fail
  go_loopg [7, 9] NS.length (fun g o i wr => ∃ k : Nat, k + g = NS.length ∧ i = .int .i64 k ∧ Hid (OutI w1 wr (w.heap.size + 1) o (pthK ws ps n d hd (NS.take k))))
  case atStart => exact ⟨0, by omega, rfl, START.out⟩
  case round =>
    obtain ⟨k, hk, rfl, J⟩ := hrel
    clear START
    have k0 : (0 : Int) ≤ (k : Int) := by omega
    have B1 := hideIt J.out.b
    have BB := hideIt (below_trans BW.out (below_trans BN.out B1.out hzN) hz)
    by_cases hlt : k < NS.length
    · have k1 : (k : Int) < (NS.length : Int) := by omega
      obtain ⟨bN, oN, rfl, hblN, hcell⟩ := HN.out (by omega)
      have CN : Hid (∀ w', Below w1.heap.size w1 w' → w'.cell? ⟨bN, oN + k, none⟩ = some (.string NS[k])) := fun w' hb => (hb.cell (p := ⟨bN, oN + k, none⟩) hblN).trans (hcell k hlt)
      obtain ⟨j, hj, ej, ed, en, ec, c1, c2⟩ := NE.out NS[k] (List.getElem_mem hlt)
      have SU := hideIt (SUCC.out k hlt)
      rw [ec] at SU
      have nsz := NSZ.out j hj c1
      rw [en] at nsz
      have EI : Hid (entI ps d NS[k] = (j : Int)) := by unfold Hid entI; rw [ej]
      have LE2 := hideIt (fun w2 (hb : Below w.heap.size w w2) => LE.out NS[k] w2 (HR.out.below hb))
      rw [EI.out] at LE2
      have HJ := hideIt (fun w' (hb : Below w.heap.size w w') => HP.out w' hb j hj)
      have LP2 := hideIt (fun (q : kindAt ws ps[j].child = 2) s w2 hs (hb : Below w.heap.size w w2) => LP.out j hj ed ⟨c1, c2⟩ q s w2 hs (HR.out.below hb))
      have PL2 := hideIt (fun (q : kindAt ws ps[j].child = 2) s => PL.out j hj ed ⟨c1, c2⟩ q s)
      have l1 := LEN.out k (by omega)
      clear hcell NE LE LP PL NSZ LEN SUCC EI ej ed en ec HP
      have j0 : (0 : Int) ≤ (j : Int) := by omega
      have j1 : (j : Int) < (ps.length : Int) := by omega
      obtain ⟨y, hy⟩ : ∃ y : Nat, ps[j].child = (y : Int) := ⟨ps[j].child.toNat, by omega⟩
      rw [hy] at SU HJ LP2 PL2 c1 c2
      clear hy
      have y0 : (0 : Int) ≤ (y : Int) := by omega
      have y1 : (y : Int) < (ws.length : Int) := by have := L16.out; omega
      have HK := hideIt (fun w' (hb : Below w.heap.size w w') => HW.out w' hb y (by omega))
      clear HW
      generalize NS[k] = nm at *
      obtain ⟨p, hp⟩ : ∃ p, p = hd ++ ⟨#[47]⟩ ++ nm := ⟨_, rfl⟩
      have psz : p.size ≤ 7 * (kd + 1) := by rw [hp, path_size]; omega
      have SP := hideIt hp
      rw [← hp] at SU
      generalize pthK ws ps n d hd (NS.take k) = P at *
      obtain ⟨bO, cO, rfl⟩ := J.out.form
      have JB := hideIt (J.out.below ((Below.refl _ _).alloc (Nat.le_refl _) (.cells #[.string p] 9)))
      have RB := hideIt (rd_str wr p)
      have n0 := CN.out wr B1.out
      subst hp
      go_wp2_with (at_builtin; refine wpList_append_out rfl (.tmp 29) (.tmp 31) rfl rfl JB.out rfl RB.out (.inr (by simp)) (by simp; omega) ?_)
      intro vA wA OA0
      have OA := hideIt OA0
      clear OA0 SP
      generalize hd ++ ⟨#[47]⟩ ++ nm = p at *
      obtain ⟨bA, cA, rfl⟩ := OA.out.form
      have hl : (P ++ [p]).length = P.length + 1 := by simp
      rw [hl] at OA
      clear hl
      have A1 := hideIt OA.out.b
      have AB := hideIt (below_trans BW.out (below_trans BN.out A1.out hzN) hz)
      have SK : Hid (∀ w', Below wA.heap.size wA w' → ((w'.cell? ⟨w.heap.size, 0, none⟩ = some (.slice (some ⟨bW, oW, none⟩) ws.length cW) ∧ w'.cell? ⟨w.heap.size, 1, none⟩ = some (.slice (some ⟨bP, oP, none⟩) ps.length cP)) ∧ w'.cell? ⟨bN, oN + k, none⟩ = some (.string nm)) ∧ w'.cell? ⟨bP, oP + j * 3 + 2, none⟩ = some (.int .i64 (y : Int))) := fun w' hb => ⟨⟨CA.out w' (below_trans BN.out (below_trans A1.out hb A1.out.size) hzN), CN.out w' (below_trans A1.out hb A1.out.size)⟩, HJ.out w' (below_trans AB.out hb AB.out.size)⟩
      have LE3 := hideIt (fun w2 (hb : Below wA.heap.size wA w2) => LE2.out w2 (below_trans AB.out hb AB.out.size))
      clear n0 JB RB J LE2 HJ
      obtain ⟨⟨⟨x0, x1⟩, n1⟩, m0⟩ := SK.out wA (Below.refl _ _)
      go_wp2_with fail
      go_region_held3 (fun w' => ((w'.cell? ⟨w.heap.size, 0, none⟩ = some (.slice (some ⟨bW, oW, none⟩) ws.length cW) ∧ w'.cell? ⟨w.heap.size, 1, none⟩ = some (.slice (some ⟨bP, oP, none⟩) ps.length cP)) ∧ w'.cell? ⟨bN, oN + k, none⟩ = some (.string nm)) ∧ w'.cell? ⟨bP, oP + j * 3 + 2, none⟩ = some (.int .i64 (y : Int)))
        (exact SK.out _ (by repeat (first | with_reducible exact BF.out | with_reducible exact Below.refl _ _ | with_reducible refine Below.drew ?_)))
        (first
          | (go_at_call 131; refine (LE3.out _ (by repeat (first | with_reducible exact BF.out | with_reducible exact Below.refl _ _ | with_reducible refine Below.drew ?_))).mono ?_; rintro e w2 ⟨rfl, hb1⟩; have BF : Hid (Below wA.heap.size wA w2) := (by first | exact hb1 | exact below_trans (by repeat (first | with_reducible exact BF.out | with_reducible exact Below.refl _ _ | with_reducible refine Below.drew ?_)) hb1 (Nat.le_refl _)); clear hb1))
      all_goals
        have B3 := hideIt (below_trans AB.out BF.out AB.out.size)
        have ky := HK.out _ B3.out
        obtain ⟨⟨⟨y2, y3⟩, _⟩, _⟩ := SK.out _ BF.out
        have O2 := hideIt (OA.out.below BF.out)
        clear SK x0 x1 n1 m0 OA LE3 HK
        by_cases q : kindAt ws (y : Int) = 2
        · rw [if_pos q] at SU
          rw [q] at ky
          have LP3 := hideIt (LP2.out q p _ psz B3.out)
          have l2 := PL2.out q p
          clear LP2 PL2 q
          go_wp2_with fail
          refine LP3.out.mono ?_
          rintro e w3 ⟨v3, rfl, hr3, hb3⟩
          have O3 := hideIt (O2.out.below hb3)
          have R3 : Hid (RdT w3 v3 (pthN ws ps n (y : Int) p)) := hr3.rd
          obtain ⟨a3, c3, rfl, _⟩ := R3.out.shape
          clear O2 hr3 hb3 LP3 ky y2 y3 B3 BF
          generalize pthN ws ps n (y : Int) p = L at *
          go_wp2_with (at_builtin; refine wpList_append_out rfl (.tmp 52) (.tmp 56) rfl rfl O3.out rfl R3.out (.inl (by simp)) (by simp; omega) ?_)
          intro vB wB OB0
          have OB : Hid (OutI w1 wB (w.heap.size + 1) vB (pthK ws ps n d hd (NS.take (k + 1)))) := by unfold Hid; rw [SU.out, List.append_assoc]; exact OB0
          clear OB0 O3 R3 SU
          go_wp2
          go_roundg (NS.length - (k + 1))
          case measure => omega
          case rel => exact ⟨k + 1, by omega, by go_num, OB.out⟩
        · rw [if_neg q, List.append_nil] at SU
          have OB : Hid (OutI w1 w2 (w.heap.size + 1) (.slice (some ⟨bA, 0, none⟩) (P.length + 1) cA) (pthK ws ps n d hd (NS.take (k + 1)))) := by unfold Hid; rw [SU.out]; exact O2.out
          have q1 : (kindAt ws (y : Int) == 2) = false := by rw [beq_eq_false_iff_ne]; exact q
          clear O2 SU LP2 PL2
          go_wp2
          go_roundg (NS.length - (k + 1))
          case measure => omega
          case rel => exact ⟨k + 1, by omega, by go_num, OB.out⟩
    · obtain rfl : k = NS.length := by omega
      rw [List.take_length, ← ALL.out] at J
      have RF := hideIt (J.out.row (R0.out.below (below_trans BN.out B1.out hzN) (Nat.le_refl _) |>.wide (Nat.le_refl _) (by have := B1.out.size; omega)) (by omega))
      clear J ALL SUCC LEN NE LE LP PL NSZ HW HP HN CA
      go_wp2
      go_ret
      exact ⟨_, rfl, RF.out, BB.out⟩
end Go.Proofs.YtmeiionabonhnaaGreatDoor

namespace Go.Proofs.YtmeiionabonhnaaGreatDoor
open Go.RowKit
def poC (ws : List Ino) (ps : List Den) : Int := if imgB ws ps = true then 0 else 1
def poL (ws : List Ino) (ps : List Den) : List ByteArray := if imgB ws ps = true then pthN ws ps 16 0 ⟨#[]⟩ else []
theorem poL_len (ws : List Ino) (ps : List Den) : (poL ws ps).length ≤ 24 := by
  unfold poL
  split
  · rename_i h; exact pthN_len h 16 0 0 _ rfl
  · exact Nat.zero_le _
end Go.Proofs.YtmeiionabonhnaaGreatDoor

namespace Go.Proofs.YtmeiionabonhnaaGreatDoor
open Go.RowKit
def wkF (bR bS bF : Nat) : Value := .func (.func 80) #[] #[.pointer (some ⟨bR, 0, none⟩), .pointer (some ⟨bS, 0, none⟩), .pointer (some ⟨bF, 0, none⟩)]
structure WkI (tF : TypeId) (W w : World) (bR bS bF : Nat) (vS : Value) (ss : List ByteArray) : Prop where
  s : w.heap[bS]? = some (.cells #[vS] 27 (0, 0))
  f : w.heap[bF]? = some (.cells #[wkF bR bS bF] tF (0, 0))
  i : SnI W w vS ss
  hs : W.heap.size ≤ bS
  ne : ¬ bF = bS
theorem WkI.below {tF : TypeId} {W w w' : World} {bR bS bF : Nat} {vS : Value} {ss : List ByteArray} (h : WkI tF W w bR bS bF vS ss) (hb : Below w.heap.size w w') : WkI tF W w' bR bS bF vS ss :=
  ⟨(hb.block _ (Array.getElem?_eq_some_iff.1 h.s).1).trans h.s, (hb.block _ (Array.getElem?_eq_some_iff.1 h.f).1).trans h.f, h.i.below hb, h.hs, h.ne⟩
theorem WkI.grow {tF : TypeId} {W w w' : World} {bR bS bF : Nat} {vS v' : Value} {ss : List ByteArray} (h : WkI tF W w bR bS bF vS ss) (hF : (9 : Nat) ≠ tF) (l : List ByteArray) {m : Nat} (hm : m = l.length) (ho : w'.ownsRow W.heap.size 9 1 v' (ss.length + m) (strs ss ++ strs l)) (hg : w.grownBy w' vS.ownBlock) :
    w'.heap[bS]? = some (.cells #[vS] 27 (0, 0)) ∧ WkI tF W (w'.setCell ⟨bS, 0, none⟩ v') bR bS bF v' (ss ++ l) := by
  have hs : w'.heap[bS]? = some (.cells #[vS] 27 (0, 0)) := (hg.block _ (Array.getElem?_eq_some_iff.1 h.s).1 (own_type h.i.l h.s (by decide)).symm).trans h.s
  have hf : w'.heap[bF]? = some (.cells #[wkF bR bS bF] tF (0, 0)) := (hg.block _ (Array.getElem?_eq_some_iff.1 h.f).1 (own_type h.i.l h.f hF).symm).trans h.f
  have g := h.i.grow l hm ho hg
  refine ⟨hs, eight_set (xs := [vS]) hs 0 v', ?_, ⟨?_, g.b.setCell h.hs _⟩, h.hs, h.ne⟩
  · rw [Below.heap_setCell _ _ _ _ (by exact h.ne)]; exact hf
  · exact ownsRow_setCell_other g.l (own_type g.l hs (by decide)) _
theorem one_cells {w : World} {b : Nat} {t : TypeId} {x : Value} (h : w.heap[b]? = some (.cells #[x] t (0, 0))) : w.cell? ⟨b, 0, none⟩ = some x ∧ w.frozen? ⟨b, 0, none⟩ = false := eight_at (xs := [x]) h 0
def wkK (rs : List Den) (m : Nat) (d : Int) (hd : ByteArray) (l : List Den) : List ByteArray := (l.filter fun x => x.dir == d).flatMap fun x => (hd ++ ⟨#[47]⟩ ++ x.name) :: pthR rs m x.child (hd ++ ⟨#[47]⟩ ++ x.name)
theorem wkK_succ (rs : List Den) (m : Nat) (d : Int) (hd : ByteArray) {l : List Den} {k : Nat} (hk : k < l.length) : wkK rs m d hd (l.take (k + 1)) = if l[k].dir = d then (wkK rs m d hd (l.take k) ++ [hd ++ ⟨#[47]⟩ ++ l[k].name]) ++ pthR rs m l[k].child (hd ++ ⟨#[47]⟩ ++ l[k].name) else wkK rs m d hd (l.take k) := by
  unfold wkK
  rw [List.take_succ_eq_append_getElem hk, List.filter_append, List.flatMap_append]
  by_cases c : l[k].dir = d
  · rw [if_pos c]; simp [c]
  · rw [if_neg c]; simp [c]
theorem wkK_none {rs l : List Den} {d : Int} (h : ∀ x ∈ l, ¬ x.dir = d) (m : Nat) (hd : ByteArray) : wkK rs m d hd l = [] := by
  unfold wkK
  rw [List.filter_eq_nil_iff.2 (fun x hx => by simp [h x hx])]
  rfl
theorem wkK_take (rs : List Den) (m : Nat) (d : Int) (hd : ByteArray) (l : List Den) (j : Nat) : (wkK rs m d hd (l.take j)).length ≤ (wkK rs m d hd l).length := by
  have e : wkK rs m d hd l = wkK rs m d hd (l.take j) ++ wkK rs m d hd (l.drop j) := by
    unfold wkK
    rw [← List.flatMap_append, ← List.filter_append, List.take_append_drop]
  rw [e, List.length_append]
  omega
end Go.Proofs.YtmeiionabonhnaaGreatDoor

namespace Go.Proofs.YtmeiionabonhnaaGreatDoor
open Go.RowKit
def wkAt (ws : List Ino) (ps rs : List Den) (n : Nat) (d : Int) (hd : ByteArray) (ss : List ByteArray) : Prop := (∃ kd, kd + n = 16 ∧ dep ps kd d ∧ (0 ≤ d ∧ d ≤ 15) ∧ kindAt ws d = 2 ∧ hd.size ≤ 7 * kd ∧ ss.length ≤ 1000 * kd) ∨ (∀ x ∈ rs, ¬ x.dir = d)
theorem wk_eq {ws : List Ino} {ps rs : List Den} (hi : imgB ws ps = true) {n : Nat} {d : Int} {hd : ByteArray} {ss : List ByteArray} (hc : wkAt ws ps rs n d hd ss) : wkK rs (n - 1) d hd rs = pthR rs n d hd := by
  rcases hc with ⟨kd, h1, h2, h3, h4, _⟩ | hc
  · have := dep_small hi h3 h4 h2
    obtain ⟨m, rfl⟩ : ∃ m, n = m + 1 := ⟨n - 1, by omega⟩
    rfl
  · rw [wkK_none hc, pthR_none hc]
theorem wk_down {ws : List Ino} {ps rs : List Den} (hi : imgB ws ps = true) (hp : rs.Perm (takenD ps)) {n : Nat} {d : Int} {hd : ByteArray} {ss : List ByteArray} (hc : wkAt ws ps rs n d hd ss) {k : Nat} (hk : k < rs.length) (e : rs[k].dir = d) : (n - 1 < n ∧ ss.length + (wkK rs (n - 1) d hd (rs.take k)).length ≤ 20000 ∧ hd.size ≤ 112 ∧ rs[k].name.size ≤ 6) ∧ wkAt ws ps rs (n - 1) rs[k].child (hd ++ ⟨#[47]⟩ ++ rs[k].name) ((ss ++ wkK rs (n - 1) d hd (rs.take k)) ++ [hd ++ ⟨#[47]⟩ ++ rs[k].name]) := by
  have hq := wk_eq hi hc
  rcases hc with ⟨kd, h1, h2, h3, h4, h5, h6⟩ | hc
  · have h7 := dep_small hi h3 h4 h2
    have hm := perm_ents hp (taken_ents hi)
    have hl := pth_len hi hm (hp.nodup_iff.2 (taken_nodup hi)) n kd d hd h2
    have hr : rs.length ≤ 24 := by
      rw [hp.length_eq, ← (pimg_all hi).2.1]
      exact List.length_filter_le _ _
    rw [← hq] at hl
    have ht := wkK_take rs (n - 1) d hd rs k
    have ed := ent_dir hi hm (List.getElem_mem hk)
    obtain ⟨j, hj, ej, c0⟩ := hm _ (List.getElem_mem hk)
    have nz := name_size hi hj (by rw [ej]; exact ed.1.1)
    rw [ej] at nz
    refine ⟨⟨by omega, by omega, by omega, nz⟩, ?_⟩
    by_cases q : kindAt ws rs[k].child = 2
    · left
      refine ⟨kd + 1, by omega, ?_, by omega, q, ?_, ?_⟩
      · rw [← ej] at q ed ⊢
        exact dep_down hi hj ed.1 q (by rw [ej, e]; exact h2)
      · rw [path_size]; omega
      · simp only [List.length_append, List.length_cons, List.length_nil]; omega
    · right
      intro y hy ey
      exact q (by rw [← ey]; exact (ent_dir hi hm hy).2.2)
  · exact absurd e (hc _ (List.getElem_mem hk))
set_option maxRecDepth 100000 in
set_option maxHeartbeats 8000000 in
theorem walk_any {ws : List Ino} {ps rs : List Den} (hi : imgB ws ps = true) (hp : rs.Perm (takenD ps)) (tF : TypeId) (hF : (9 : Nat) ≠ tF) (W : World) (aR : Option Addr) (cR bR bS bF : Nat) (hR : ∀ w', Below W.heap.size W w' → w'.cell? ⟨bR, 0, none⟩ = some (.slice aR rs.length cR)) (hD : RdD W (.slice aR rs.length cR) rs) :
    ∀ (n : Nat) (d : Int) (hd : ByteArray) (w : World) (vS : Value) (ss : List ByteArray), wkAt ws ps rs n d hd ss → WkI tF W w bR bS bF vS ss →
    Calls Tryz.prog 80 #[.int .i64 d, .string hd, .pointer (some ⟨bR, 0, none⟩), .pointer (some ⟨bS, 0, none⟩), .pointer (some ⟨bF, 0, none⟩)] w fun e w' => e = .returned (.tuple #[]) ∧ ∃ v', WkI tF W w' bR bS bF v' (ss ++ pthR rs n d hd) := by
  intro n
  induction n using Nat.strongRecOn with
  | ind n IH =>
  intro d hd w vS ss hc hI
  have EQ := hideIt (wk_eq hi hc)
  have DN := hideIt (fun (k : Nat) (hk : k < rs.length) (e : rs[k].dir = d) => (wk_down hi hp hc hk e).1.2)
  have ST := hideIt (fun (k : Nat) (hk : k < rs.length) (e : rs[k].dir = d) (w1 : World) (v1 : Value) h => IH (n - 1) (wk_down hi hp hc hk e).1.1 rs[k].child (hd ++ ⟨#[47]⟩ ++ rs[k].name) w1 v1 _ (wk_down hi hp hc hk e).2 h)
  have SU := hideIt (fun (k : Nat) (hk : k < rs.length) => wkK_succ rs (n - 1) d hd hk)
  have hr : rs.length ≤ 24 := by
    rw [hp.length_eq, ← (pimg_all hi).2.1]
    exact List.length_filter_le _ _
  have Z0 : Hid (wkK rs (n - 1) d hd (rs.take 0) = []) := rfl
  obtain ⟨ao, co, e0, _, hcD⟩ := hD.shape
  injection e0 with e1 _ e2
  subst e1 e2
  have HD := hideIt hcD
  have HR := hideIt hR
  have H9 := hideIt hF
  have START : Hid (∃ v', WkI tF W w bR bS bF v' (ss ++ wkK rs (n - 1) d hd (rs.take 0))) := ⟨vS, by rw [Z0.out, List.append_nil]; exact hI⟩
  have x0 := HR.out w hI.i.b
  clear hi hp hc IH hcD hR hD hI Z0 hF
  go_enter Tryz.func80, Tryz.ntmps80
  go_wp2_with fail
  go_loopg [12] rs.length (fun g i wr => ∃ k : Nat, k + g = rs.length ∧ i = .int .i64 k ∧ Hid (∃ v', WkI tF W wr bR bS bF v' (ss ++ wkK rs (n - 1) d hd (rs.take k))))
  case atStart => exact ⟨0, by omega, rfl, START.out⟩
  case round =>
    obtain ⟨k, hk, rfl, J⟩ := hrel
    clear START x0
    obtain ⟨vS, I0⟩ := J.out
    have I := hideIt I0
    have k0 : (0 : Int) ≤ (k : Int) := by omega
    clear J I0
    by_cases hlt : k < rs.length
    · have k1 : (k : Int) < (rs.length : Int) := by omega
      obtain ⟨bD, oD, rfl, hbl, hcell⟩ := HD.out (by omega)
      obtain ⟨q0, q1, q2⟩ := hcell k hlt
      have r0 := (I.out.i.b.cell (p := ⟨bD, oD + k * 3, none⟩) hbl).trans q0
      have r1 := (I.out.i.b.cell (p := ⟨bD, oD + k * 3 + 1, none⟩) hbl).trans q1
      have r2 := (I.out.i.b.cell (p := ⟨bD, oD + k * 3 + 2, none⟩) hbl).trans q2
      have SU2 := hideIt (SU.out k hlt)
      clear hcell q0 q1 q2
      by_cases c : rs[k].dir = d
      case neg =>
        rw [if_neg c] at SU2
        have c1 : (rs[k].dir == d) = false := by rw [beq_eq_false_iff_ne]; exact c
        have G := hideIt (I.out.below ((Below.refl _ _).alloc (Nat.le_refl _) (.cells #[.int .i64 rs[k].dir, .string rs[k].name, .int .i64 rs[k].child] 140)))
        rw [← SU2.out] at G
        clear SU2 c I ST DN SU EQ
        go_wp2
        go_roundg (rs.length - (k + 1))
        case measure => omega
        case rel => exact ⟨k + 1, by omega, by go_num, _, G.out⟩
      rw [if_pos c] at SU2
      have ST2 := hideIt (ST.out k hlt c)
      obtain ⟨dn, z1, z2⟩ := DN.out k hlt c
      clear ST DN SU
      rw [c] at r0
      generalize rs[k].child = ch at *
      generalize rs[k].name = nm at *
      clear c
      obtain ⟨p, hp⟩ : ∃ p, p = hd ++ ⟨#[47]⟩ ++ nm := ⟨_, rfl⟩
      rw [← hp] at SU2 ST2
      obtain ⟨P, hP⟩ : ∃ P, P = ss ++ wkK rs (n - 1) d hd (rs.take k) := ⟨_, rfl⟩
      have NX : Hid (ss ++ wkK rs (n - 1) d hd (rs.take (k + 1)) = (P ++ [p]) ++ pthR rs (n - 1) ch p) := by unfold Hid; rw [SU2.out, hP]; simp only [List.append_assoc]
      have pl : P.length ≤ 20000 := by rw [hP, List.length_append]; exact dn
      rw [← hP] at I ST2
      clear SU2 dn hP
      have IX := hideIt (I.out.below ((Below.refl _ _).alloc (Nat.le_refl _) (.cells #[.int .i64 d, .string nm, .int .i64 ch] 140)))
      have XB : Hid ((wr.alloc (.cells #[.int .i64 d, .string nm, .int .i64 ch] 140)).heap[wr.heap.size]? = some (.cells #[.int .i64 d, .string nm, .int .i64 ch] 140 (0, 0))) := at_new rfl
      have e1 := (eight_at (xs := [.int .i64 d, .string nm, .int .i64 ch]) XB.out 1).1
      have e2 := (eight_at (xs := [.int .i64 d, .string nm, .int .i64 ch]) XB.out 2).1
      simp only [List.getElem?_cons_zero, List.getElem?_cons_succ] at e1 e2
      obtain ⟨s0, s1⟩ := one_cells IX.out.s
      have IA := hideIt (IX.out.below ((Below.refl _ _).alloc (Nat.le_refl _) (.cells #[.string p] 9)))
      have XA := hideIt (at_old (o := .cells #[.string p] 9) XB.out)
      have RX := hideIt (rd_str (wr.alloc (.cells #[.int .i64 d, .string nm, .int .i64 ch] 140)) p)
      simp only [World.size_alloc] at RX
      have hzI := I.out.i.z
      have hsb : bS < wr.heap.size := (Array.getElem?_eq_some_iff.1 I.out.s).1
      subst hp
      go_wp2_with (at_builtin; refine wpList_append_rd _ rfl (.tmp 25) (.tmp 27) 27 rfl W.heap.size 9 (.string ⟨#[]⟩) 1 16 Tryz.underlying27 info9 rfl (by decide) _ _ _ rfl IA.out.i.l _ 1 _ rfl RX.out (strs_one _) (by simp [maxLen]; omega) (by omega) IA.out.i.z ?_)
      intro vN wN hownN hgrN
      rcases (own_block hownN).shape with ⟨_, eN, _⟩ | ⟨bN, cN, rfl, _, _⟩
      · omega
      obtain ⟨g1, g2⟩ := IA.out.grow H9.out [_] rfl hownN hgrN
      have XN : Hid (wN.heap[wr.heap.size]? = some (.cells #[.int .i64 d, .string nm, .int .i64 ch] 140 (0, 0))) := (hgrN.block _ (by simp; omega) (own_type IA.out.i.l XA.out (by decide)).symm).trans XA.out
      have XS : Hid ((wN.setCell ⟨bS, 0, none⟩ (.slice (some ⟨bN, 0, none⟩) (P.length + 1) cN)).heap[wr.heap.size]? = some (.cells #[.int .i64 d, .string nm, .int .i64 ch] 140 (0, 0))) := by unfold Hid; rw [Below.heap_setCell _ _ _ _ (by simp only; omega)]; exact XN.out
      generalize hd ++ ⟨#[47]⟩ ++ nm = p at *
      have G := hideIt g2
      obtain ⟨t0, t1⟩ := one_cells g1
      obtain ⟨f0, _⟩ := one_cells G.out.f
      unfold wkF at f0
      have e3 := (eight_at (xs := [.int .i64 d, .string nm, .int .i64 ch]) XS.out 2).1
      simp only [List.getElem?_cons_zero, List.getElem?_cons_succ] at e3
      clear s0 s1 e1 e2 r0 r1 r2 g1 g2 hownN hgrN XN XA XB RX IX IA I
      go_wp2_with fail
      refine (ST2.out _ _ G.out).mono ?_
      rintro e w3 ⟨rfl, v3, h3⟩
      have G3 : Hid (WkI tF W w3 bR bS bF v3 (ss ++ wkK rs (n - 1) d hd (rs.take (k + 1)))) := by unfold Hid; rw [NX.out]; exact h3
      clear h3 ST2 G NX t0 t1 f0 e3
      go_wp2
      go_roundg (rs.length - (k + 1))
      case measure => omega
      case rel => exact ⟨k + 1, by omega, by go_num, _, G3.out⟩
    · obtain rfl : k = rs.length := by omega
      rw [List.take_length, EQ.out] at I
      clear EQ ST DN SU
      go_wp2
      refine bodyPost_end (v := .tuple #[]) (by simp [results, Tryz.results80, go_sem]) rfl ?_
      exact ⟨rfl, _, I.out⟩
end Go.Proofs.YtmeiionabonhnaaGreatDoor
