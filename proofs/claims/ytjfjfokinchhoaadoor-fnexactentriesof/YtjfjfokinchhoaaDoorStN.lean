/- The entries of a directory: by the model and by the program. -/
import Derived.Test.YtjfjfokinchhoaaDoorStA
import Derived.Test.YtjfjfokinchhoaaDoorImX
import Derived.BigQuiet
import Derived.Laws.Cover1
import Derived.Test.YtjfjfokinchhoaaDoorPiP
namespace Go.Proofs.YtjfjfokinchhoaaDoor
open Go.RowKit

theorem below_allocS {a w : World} (h : Below a.heap.size a w) (o : Obj) : Below a.heap.size a (w.alloc o) := h.alloc h.size o
theorem text_cases (a x : ByteArray) : (Op.bytesLess a.toList x.toList = false ∧ (a.toList == x.toList) = false ∧ x.toList < a.toList) ∨ (Op.bytesLess a.toList x.toList = true ∧ (a.toList == x.toList) = false ∧ a.toList ≤ x.toList) ∨ (Op.bytesLess a.toList x.toList = false ∧ (a.toList == x.toList) = true ∧ a.toList ≤ x.toList) := by
  generalize a.toList = a
  generalize x.toList = x
  rw [bytesLess_eq]
  by_cases h : a < x
  · refine .inr (.inl ⟨decide_eq_true h, ?_, List.le_of_lt h⟩)
    rw [beq_eq_false_iff_ne]
    rintro rfl
    exact List.lt_irrefl a h
  · by_cases e : a = x
    · subst e
      exact .inr (.inr ⟨decide_eq_false h, by simp, List.le_refl _⟩)
    · refine .inl ⟨decide_eq_false h, by rw [beq_eq_false_iff_ne]; exact e, ?_⟩
      exact Classical.byContradiction fun q => e (List.le_antisymm (show a ≤ x from q) (show x ≤ a from h))

set_option maxRecDepth 100000 in
set_option maxHeartbeats 8000000 in
theorem l05Names_any (v : Value) (ws : List Ino) (ps : List Den) (d : Int) (w : World) (h : RdIm w v ws ps) (hn : ps.length ≤ 4096) :
    Calls Tryd.prog 104 #[v, .int .i64 d] w fun e w' => ∃ v', e = .returned v' ∧ Row w' 9 1 w.heap.size w'.heap.size v' (sorted (namesD ps d)).length (strs (sorted (namesD ps d))) ∧ Below w.heap.size w w' := by
  obtain ⟨vW, vP, rfl, h1, h2⟩ := h
  obtain ⟨aW, cW, rfl, _, _⟩ := h1.shape
  obtain ⟨aP, cP, rfl, _, hcP⟩ := h2.shape
  have HZ := hideIt hcP
  clear h1 h2 hcP
  obtain ⟨W, hW⟩ : ∃ W, W = w.alloc (.cells #[.slice aW ws.length cW, .slice aP ps.length cP] 30) := ⟨_, rfl⟩
  have CA : Hid (∀ w', Below W.heap.size W w' → w'.cell? ⟨w.heap.size, 1, none⟩ = some (.slice aP ps.length cP)) := fun w' hb => by
    have : w'.heap[w.heap.size]? = some (.cells #[.slice aW ws.length cW, .slice aP ps.length cP] 30 (0, 0)) := (hb.block _ (by rw [hW]; simp)).trans (by rw [hW]; exact at_new rfl)
    exact (two_cells this).2.1
  have BW : Hid (Below w.heap.size w W) := by rw [hW]; exact (Below.refl _ _).alloc (Nat.le_refl _) _
  have hz : w.heap.size ≤ W.heap.size := BW.out.size
  have START : Hid (SnI W (W.alloc (.cells #[] 9)) (.slice (some ⟨W.heap.size, 0, none⟩) 0 0) []) := ⟨World.ownsRow_lit W #[] 0 (Nat.le_refl _) (by simp [maxLen]) (by simp), (Below.refl _ _).alloc (Nat.le_refl _) _⟩
  go_enter Tryd.func104, Tryd.ntmps104
  go_wp2
  rw [hW] at START
  simp only [World.size_alloc] at START
  go_loopw [5, 6] (fun vL i wr => ∃ k : Nat, k ≤ ps.length ∧ i = .int .i64 k ∧ ∃ ss : List ByteArray, vL ≠ .slice none 0 0 ∧ ss.length ≤ k ∧ Hid (SnI W wr vL ss ∧ Ord ss ∧ ss.Perm (namesD (ps.take k) d))) (fun _ i _ => ps.length - (intOf i).toNat)
  case atStart => exact ⟨0, by omega, rfl, [], (fun e => by cases e), Nat.le_refl _, by rw [hW]; exact START.out, List.Pairwise.nil, List.Perm.refl _⟩
  case round =>
    obtain ⟨k, hk, rfl, ss, hv, hl, I⟩ := hrel
    clear START hW
    have x1 := CA.out wr I.out.1.b
    have hzr : W.heap.size ≤ wr.heap.size := I.out.1.z
    have k0 : (0 : Int) ≤ (k : Int) := by omega
    obtain ⟨bL, cL, rfl, hcL, hbL, hbL'⟩ := I.out.1.form hv
    clear hv
    by_cases hlt : k < ps.length
    · obtain ⟨b, o, rfl, hbl, hcell⟩ := HZ.out (by omega)
      obtain ⟨a0, a1, a2⟩ := hcell k hlt
      have JW := hideIt (below_trans BW.out I.out.1.b hz)
      have d0 := (JW.out.cell (p := ⟨b, o + k * 3, none⟩) hbl).trans a0
      have d1 := (JW.out.cell (p := ⟨b, o + k * 3 + 1, none⟩) hbl).trans a1
      have d2 := (JW.out.cell (p := ⟨b, o + k * 3 + 2, none⟩) hbl).trans a2
      have k1 : (k : Int) < (ps.length : Int) := by omega
      have NS := hideIt (names_succ (d := d) hlt)
      clear a0 a1 a2 hcell
      generalize ps[k] = x at *
      obtain ⟨wx, hwx⟩ : ∃ wx, wx = wr.alloc (.cells #[.int .i64 x.dir, .string x.name, .int .i64 x.child] 86) := ⟨_, rfl⟩
      have BX : Hid (Below wr.heap.size wr wx) := by rw [hwx]; exact (Below.refl _ _).alloc (Nat.le_refl _) _
      have IX := hideIt (I.out.1.below BX.out)
      have hzx : wr.heap.size < wx.heap.size := by rw [hwx]; simp
      have CX : Hid (∀ w', Below wx.heap.size wx w' → w'.cell? ⟨wr.heap.size, 1, none⟩ = some (.string x.name)) := fun w' hb => by
        have : w'.heap[wr.heap.size]? = some (.cells #[.int .i64 x.dir, .string x.name, .int .i64 x.child] 86 (0, 0)) := (hb.block _ hzx).trans (by rw [hwx]; exact at_new rfl)
        exact (three_cells this).2.1
      by_cases c1 : x.child < 0
      · have q1 : decide (x.child < 0) = true := decide_eq_true c1
        have E : Hid (namesD (ps.take (k + 1)) d = namesD (ps.take k) d) := by unfold Hid; rw [NS.out, if_neg (fun h => h.1 c1)]
        go_wp2
        rw [← hwx]
        go_roundw
        case rel => exact ⟨k + 1, by omega, by go_num, ss, (fun e => by cases e), by omega, IX.out, I.out.2.1, by rw [E.out]; exact I.out.2.2⟩
        case measure => simp [intOf]; omega
      have q1 : decide (x.child < 0) = false := decide_eq_false c1
      by_cases c2 : x.dir = d
      case neg =>
        have q2 : (x.dir != d) = true := by rw [bne_iff_ne]; exact c2
        have E : Hid (namesD (ps.take (k + 1)) d = namesD (ps.take k) d) := by unfold Hid; rw [NS.out, if_neg (fun h => c2 h.2)]
        clear c1 c2
        go_wp2
        rw [← hwx]
        go_roundw
        case rel => exact ⟨k + 1, by omega, by go_num, ss, (fun e => by cases e), by omega, IX.out, I.out.2.1, by rw [E.out]; exact I.out.2.2⟩
        case measure => simp [intOf]; omega
      have q2 : (x.dir != d) = false := by rw [c2]; simp
      have E : Hid (namesD (ps.take (k + 1)) d = namesD (ps.take k) d ++ [x.name]) := by unfold Hid; rw [NS.out, if_pos ⟨c1, c2⟩]
      clear c1 c2 NS
      go_wp2
      rw [← hwx]
      clear x1 d0 d1 d2 q1 q2
      have OR := hideIt I.out.2
      clear I
      generalize x.name = nm at *
      clear BX JW
      generalize wr.heap.size = X at *
      go_loopw [8] (fun i wq => ∃ j : Nat, j ≤ ss.length ∧ i = .int .i64 j ∧ Hid (Below wx.heap.size wx wq ∧ ∀ i (h : i < ss.length), j ≤ i → nm.toList < ss[i].toList)) (fun i _ => (intOf i).toNat)
      case atStart => exact ⟨ss.length, Nat.le_refl _, rfl, Below.refl _ _, fun i h1 h2 => absurd h1 (by omega)⟩
      case round =>
        obtain ⟨j, hj, rfl, J⟩ := hrel
        have JI := hideIt (IX.out.below J.out.1)
        have hzy : wx.heap.size ≤ wr.heap.size := J.out.1.size
        have y1 := CX.out wr J.out.1
        rcases Nat.eq_zero_or_pos j with rfl | hjp
        · have g0 : decide (((0 : Nat) : Int) > 0) = false := rfl
          go_wp2_with fail
          go_quiet (fail)
          go_wp2_with fail
          obtain ⟨wy, hwy⟩ : ∃ wy, wy = wr.drewN nq := ⟨_, rfl⟩
          rw [← hwy]
          have BY : Hid (Below wx.heap.size wx wy) := by rw [hwy]; exact below_drewS J.out.1 _
          have OI : Hid (Ord (ss.take 0 ++ [nm] ++ ss.drop 0)) := ord_ins hj OR.out.1 J.out.2 (fun i h1 h2 => absurd h2 (by omega))
          have OP : Hid ((ss.take 0 ++ [nm] ++ ss.drop 0).Perm (namesD (ps.take (k + 1)) d)) := by unfold Hid; rw [E.out]; exact (perm_ins ss nm 0).trans (List.Perm.append_right _ OR.out.2)
          have OL : Hid ((ss.take 0 ++ [nm] ++ ss.drop 0).length ≤ k + 1) := by unfold Hid; simp <;> omega
          have ON : Hid (0 < (ss.take 0 ++ [nm] ++ ss.drop 0).length) := by unfold Hid; simp <;> omega
          have SY := hideIt (IX.out.below BY.out)
          have tl : Hid (0 = (ss.take 0).length) := by unfold Hid; rw [List.length_take]; omega
          have dl : Hid (ss.length - 0 = (ss.drop 0).length) := by unfold Hid; rw [List.length_drop]
          have TK : Hid (∀ w', Below wy.heap.size wy w' → Rd w' 1 (.slice (some ⟨bL, 0, none⟩) 0 cL) 0 (strs (ss.take 0))) := fun w' hb => rdt_take (SY.out.below hb).rd hj
          have DR0 : Hid (∀ w', Below wy.heap.size wy w' → Rd w' 1 (.slice (some ⟨bL, 0 + 0, none⟩) (ss.length - 0) (cL - 0)) (ss.length - 0) (strs (ss.drop 0))) := fun w' hb => rdt_drop (SY.out.below hb).rd hj
          have DR1 : Hid (∀ w', cL = 0 → Rd w' 1 (.slice (some ⟨bL, 0, none⟩) 0 0) 0 (strs (ss.drop 0))) := fun w' e => rdt_none (by omega)
          have KC : Hid (∀ w', Below wy.heap.size wy w' → w'.cell? ⟨X, 1, none⟩ = some (.string nm)) := fun w' hb => CX.out w' (below_trans BY.out hb BY.out.size)
          have z1 := KC.out wy (Below.refl _ _)
          have A1 : Hid (SnI wy (wy.alloc (.cells #[] 9)) (.slice (some ⟨wy.heap.size, 0, none⟩) 0 0) []) := ⟨World.ownsRow_lit wy #[] 0 (Nat.le_refl _) (by simp [maxLen]) (by simp), (Below.refl _ _).alloc (Nat.le_refl _) _⟩
          have A2 := hideIt (A1.out.below ((Below.refl _ _).alloc (Nat.le_refl _) (.cells #[.string nm] 9)))
          have A3 : Hid (SnI wy ((wy.alloc (.cells #[.string nm] 9)).alloc (.cells #[] 9)) (.slice (some ⟨wy.heap.size + 1, 0, none⟩) 0 0) []) := by
            have := World.ownsRow_lit (e := 9) (size := 1) (base := wy.heap.size) (wy.alloc (.cells #[.string nm] 9)) #[] 0 (by simp) (by simp [maxLen]) (by simp)
            rw [World.size_alloc] at this
            exact ⟨this, below_allocS (below_allocS (Below.refl _ _) _) _⟩
          have N2 : Hid (Rd ((wy.alloc (.cells #[] 9)).alloc (.cells #[.string nm] 9)) 1 (.slice (some ⟨wy.heap.size + 1, 0, none⟩) 1 1) 1 (strs [nm])) := by
            have := rd_str (wy.alloc (.cells #[] 9)) nm
            rw [World.size_alloc] at this
            exact this
          have N3 : Hid (Rd ((wy.alloc (.cells #[.string nm] 9)).alloc (.cells #[] 9)) 1 (.slice (some ⟨wy.heap.size, 0, none⟩) 1 1) 1 (strs [nm])) := Rd.alloc (rd_str wy nm) (.cells #[] 9)
          clear hwy J JI
          have WY : Hid (Below W.heap.size W wy) := SY.out.b
          have hzq : W.heap.size ≤ wy.heap.size := WY.out.size
          have jl : (((0 : Nat) : Int) : Int) ≤ (ss.length : Int) := by omega
          have jc : (((0 : Nat) : Int) : Int) ≤ (cL : Int) := by omega
          have j0 : (0 : Int) ≤ (((0 : Nat) : Int) : Int) := by omega
          by_cases cc : cL = 0
          · subst cc
            have DR : Hid (∀ w', Below wy.heap.size wy w' → Rd w' 1 (.slice (some ⟨bL, 0, none⟩) 0 0) 0 (strs (ss.drop 0))) := fun w' _ => DR1.out w' rfl
            have dl0 : Hid (0 = (ss.drop 0).length) := by unfold Hid; rw [List.length_drop]; omega
            go_region_held3 (fun w' => w'.cell? ⟨X, 1, none⟩ = some (.string nm)) (first | exact z1 | exact KC.out _ (by repeat (first | exact BN.out | exact BM.out | exact BO.out | exact Below.refl _ _ | refine below_allocS ?_ _ | refine Below.drew ?_)))
              (first
                | (refine step_append_rd rfl (.tmp 47) (.tmp 50) 66 rfl wy.heap.size 9 (.string ⟨#[]⟩) 1 16 Tryd.underlying66 info9 rfl (by decide) _ _ _ rfl A1.out.l _ 0 _ rfl (TK.out _ (by repeat (first | exact BN.out | exact BM.out | exact BO.out | exact Below.refl _ _ | refine below_allocS ?_ _ | refine Below.drew ?_))) (strs_one _) (by simp [maxLen] <;> omega) (by simp <;> omega) A1.out.z ?_; intro vN wN hownN hgrN; have G := hideIt ((A1.out.below (by repeat (first | exact Below.refl _ _ | refine Below.drew ?_))).grow (ss.take 0) tl.out hownN hgrN); have BN := hideIt G.out.b; have G1 := hideIt (G.out.below ((Below.refl _ _).alloc (Nat.le_refl _) (.cells #[.string nm] 9))); have N1 := hideIt (rd_str wN nm); clear hownN hgrN)
                | (refine step_append_rd rfl (.tmp 47) (.tmp 50) 66 rfl wy.heap.size 9 (.string ⟨#[]⟩) 1 16 Tryd.underlying66 info9 rfl (by decide) _ _ _ rfl A2.out.l _ 0 _ rfl (TK.out _ (by repeat (first | exact BN.out | exact BM.out | exact BO.out | exact Below.refl _ _ | refine below_allocS ?_ _ | refine Below.drew ?_))) (strs_one _) (by simp [maxLen] <;> omega) (by simp <;> omega) A2.out.z ?_; intro vN wN hownN hgrN; have G := hideIt ((A2.out.below (by repeat (first | exact Below.refl _ _ | refine Below.drew ?_))).grow (ss.take 0) tl.out hownN hgrN); have BN := hideIt G.out.b; have G1 := hideIt G.out; have N1 := hideIt (Rd.same N2.out hgrN.size (fun b hb he => hgrN.block b hb (fun e => by have h1 : wy.heap.size + 1 = b := Option.some.inj he; have h2 : b = wy.heap.size := Option.some.inj e; omega))); clear hownN hgrN)
                | (refine step_append_rd rfl (.tmp 47) (.tmp 50) 66 rfl wy.heap.size 9 (.string ⟨#[]⟩) 1 16 Tryd.underlying66 info9 rfl (by decide) _ _ _ rfl A3.out.l _ 0 _ rfl (TK.out _ (by repeat (first | exact BN.out | exact BM.out | exact BO.out | exact Below.refl _ _ | refine below_allocS ?_ _ | refine Below.drew ?_))) (strs_one _) (by simp [maxLen] <;> omega) (by simp <;> omega) A3.out.z ?_; intro vN wN hownN hgrN; have G := hideIt ((A3.out.below (by repeat (first | exact Below.refl _ _ | refine Below.drew ?_))).grow (ss.take 0) tl.out hownN hgrN); have BN := hideIt G.out.b; have G1 := hideIt G.out; have N1 := hideIt (Rd.same N3.out hgrN.size (fun b hb he => hgrN.block b hb (fun e => by have h1 : wy.heap.size = b := Option.some.inj he; have h2 : b = wy.heap.size + 1 := Option.some.inj e; omega))); clear hownN hgrN)
                | (refine step_append_rd rfl (.tmp 51) (.tmp 54) 66 rfl wy.heap.size 9 (.string ⟨#[]⟩) 1 16 Tryd.underlying66 info9 rfl (by decide) _ _ _ rfl G1.out.l _ 1 _ rfl N1.out (strs_one _) (by simp [maxLen] <;> omega) (by simp <;> omega) G1.out.z ?_; intro vM wM hownM hgrM; have G5 := hideIt ((G1.out.below (by repeat (first | exact Below.refl _ _ | refine Below.drew ?_))).grow [nm] rfl hownM hgrM); have BM := hideIt G5.out.b; clear hownM hgrM)
                | (refine step_append_rd rfl (.tmp 55) (.tmp 58) 66 rfl wy.heap.size 9 (.string ⟨#[]⟩) 1 16 Tryd.underlying66 info9 rfl (by decide) _ _ _ rfl G5.out.l _ 0 _ rfl (DR.out _ (below_trans G5.out.b (by repeat (first | exact Below.refl _ _ | refine Below.drew ?_)) G5.out.z)) (strs_one _) (by simp [maxLen] <;> omega) (by simp <;> omega) G5.out.z ?_; intro vO wO hownO hgrO; have G6 := hideIt ((G5.out.below (by repeat (first | exact Below.refl _ _ | refine Below.drew ?_))).grow (ss.drop 0) dl0.out hownO hgrO); have BO := hideIt G6.out.b; clear hownO hgrO))
            all_goals
              go_wp2
              go_roundw
              case rel => exact ⟨k + 1, by omega, by go_num, ss.take 0 ++ [nm] ++ ss.drop 0, (by have := G6.out.some_ (by simp <;> omega); exact this), OL.out, ⟨(own_block G6.out.l).wide hzq (Nat.le_refl _) |>.1, below_trans WY.out G6.out.b WY.out.size⟩, OI.out, OP.out⟩
              case measure => simp [intOf]; omega
          · have DR : Hid (∀ w', Below wy.heap.size wy w' → Rd w' 1 (.slice (some ⟨bL, 0, none⟩) (ss.length - 0) (cL - 0)) (ss.length - 0) (strs (ss.drop 0))) := fun w' hb => by have := DR0.out w' hb; rw [Nat.zero_add] at this; exact this
            go_region_held3 (fun w' => w'.cell? ⟨X, 1, none⟩ = some (.string nm)) (first | exact z1 | exact KC.out _ (by repeat (first | exact BN.out | exact BM.out | exact BO.out | exact Below.refl _ _ | refine below_allocS ?_ _ | refine Below.drew ?_)))
              (first
                | (refine step_append_rd rfl (.tmp 47) (.tmp 50) 66 rfl wy.heap.size 9 (.string ⟨#[]⟩) 1 16 Tryd.underlying66 info9 rfl (by decide) _ _ _ rfl A1.out.l _ 0 _ rfl (TK.out _ (by repeat (first | exact BN.out | exact BM.out | exact BO.out | exact Below.refl _ _ | refine below_allocS ?_ _ | refine Below.drew ?_))) (strs_one _) (by simp [maxLen] <;> omega) (by simp <;> omega) A1.out.z ?_; intro vN wN hownN hgrN; have G := hideIt ((A1.out.below (by repeat (first | exact Below.refl _ _ | refine Below.drew ?_))).grow (ss.take 0) tl.out hownN hgrN); have BN := hideIt G.out.b; have G1 := hideIt (G.out.below ((Below.refl _ _).alloc (Nat.le_refl _) (.cells #[.string nm] 9))); have N1 := hideIt (rd_str wN nm); clear hownN hgrN)
                | (refine step_append_rd rfl (.tmp 47) (.tmp 50) 66 rfl wy.heap.size 9 (.string ⟨#[]⟩) 1 16 Tryd.underlying66 info9 rfl (by decide) _ _ _ rfl A2.out.l _ 0 _ rfl (TK.out _ (by repeat (first | exact BN.out | exact BM.out | exact BO.out | exact Below.refl _ _ | refine below_allocS ?_ _ | refine Below.drew ?_))) (strs_one _) (by simp [maxLen] <;> omega) (by simp <;> omega) A2.out.z ?_; intro vN wN hownN hgrN; have G := hideIt ((A2.out.below (by repeat (first | exact Below.refl _ _ | refine Below.drew ?_))).grow (ss.take 0) tl.out hownN hgrN); have BN := hideIt G.out.b; have G1 := hideIt G.out; have N1 := hideIt (Rd.same N2.out hgrN.size (fun b hb he => hgrN.block b hb (fun e => by have h1 : wy.heap.size + 1 = b := Option.some.inj he; have h2 : b = wy.heap.size := Option.some.inj e; omega))); clear hownN hgrN)
                | (refine step_append_rd rfl (.tmp 47) (.tmp 50) 66 rfl wy.heap.size 9 (.string ⟨#[]⟩) 1 16 Tryd.underlying66 info9 rfl (by decide) _ _ _ rfl A3.out.l _ 0 _ rfl (TK.out _ (by repeat (first | exact BN.out | exact BM.out | exact BO.out | exact Below.refl _ _ | refine below_allocS ?_ _ | refine Below.drew ?_))) (strs_one _) (by simp [maxLen] <;> omega) (by simp <;> omega) A3.out.z ?_; intro vN wN hownN hgrN; have G := hideIt ((A3.out.below (by repeat (first | exact Below.refl _ _ | refine Below.drew ?_))).grow (ss.take 0) tl.out hownN hgrN); have BN := hideIt G.out.b; have G1 := hideIt G.out; have N1 := hideIt (Rd.same N3.out hgrN.size (fun b hb he => hgrN.block b hb (fun e => by have h1 : wy.heap.size = b := Option.some.inj he; have h2 : b = wy.heap.size + 1 := Option.some.inj e; omega))); clear hownN hgrN)
                | (refine step_append_rd rfl (.tmp 51) (.tmp 54) 66 rfl wy.heap.size 9 (.string ⟨#[]⟩) 1 16 Tryd.underlying66 info9 rfl (by decide) _ _ _ rfl G1.out.l _ 1 _ rfl N1.out (strs_one _) (by simp [maxLen] <;> omega) (by simp <;> omega) G1.out.z ?_; intro vM wM hownM hgrM; have G5 := hideIt ((G1.out.below (by repeat (first | exact Below.refl _ _ | refine Below.drew ?_))).grow [nm] rfl hownM hgrM); have BM := hideIt G5.out.b; clear hownM hgrM)
                | (refine step_append_rd rfl (.tmp 55) (.tmp 58) 66 rfl wy.heap.size 9 (.string ⟨#[]⟩) 1 16 Tryd.underlying66 info9 rfl (by decide) _ _ _ rfl G5.out.l _ (ss.length - 0) _ rfl (DR.out _ (below_trans G5.out.b (by repeat (first | exact Below.refl _ _ | refine Below.drew ?_)) G5.out.z)) (strs_one _) (by simp [maxLen] <;> omega) (by simp <;> omega) G5.out.z ?_; intro vO wO hownO hgrO; have G6 := hideIt ((G5.out.below (by repeat (first | exact Below.refl _ _ | refine Below.drew ?_))).grow (ss.drop 0) dl.out hownO hgrO); have BO := hideIt G6.out.b; clear hownO hgrO))
            all_goals
              go_wp2
              go_roundw
              case rel => exact ⟨k + 1, by omega, by go_num, ss.take 0 ++ [nm] ++ ss.drop 0, (by have := G6.out.some_ (by simp <;> omega); exact this), OL.out, ⟨(own_block G6.out.l).wide hzq (Nat.le_refl _) |>.1, below_trans WY.out G6.out.b WY.out.size⟩, OI.out, OP.out⟩
              case measure => simp [intOf]; omega
        obtain ⟨m, rfl⟩ : ∃ m, j = m + 1 := ⟨j - 1, by omega⟩
        obtain ⟨aT, cT, eT, _, hcS⟩ := JI.out.rd.shape
        cases eT
        obtain ⟨b', o', e', _, hcT⟩ := hcS (by omega)
        cases e'
        clear hcS
        have t1 := hcT m (by omega)
        rw [Nat.zero_add] at t1
        have m0 : (0 : Int) ≤ (m : Int) := by omega
        have m1 : (m : Int) < (ss.length : Int) := by omega
        have JN : Hid (nm.toList < ss[m].toList → ∀ i (h : i < ss.length), m ≤ i → nm.toList < ss[i].toList) := fun q i h1 h2 => by
          by_cases e : i = m
          · subst e; exact q
          · exact J.out.2 i h1 (by omega)
        have TC := text_cases ss[m] nm
        clear hcT
        have g0 : decide (((m + 1 : Nat) : Int) > 0) = true := decide_eq_true (by omega)
        have g1 : IntKind.i64.wrap (m : Int) = (m : Int) := by rw [IntKind.wrap_i64]; omega
        have SM : Hid (∀ (q : ss[m].toList ≤ nm.toList) i (h : i < ss.length), i + 1 = m + 1 → ss[i].toList ≤ nm.toList) := fun q i h1 h2 => by
          obtain rfl : i = m := by omega
          exact q
        generalize ss[m] = y at *
        rcases TC with ⟨t2, t3, t4⟩ | TC
        · go_wp2_with fail
          go_quiet (fail)
          go_wp2
          go_roundw
          case rel => exact ⟨m, by omega, by go_num, below_drewS J.out.1 _, JN.out t4⟩
          case measure => simp [intOf]
        rcases TC with ⟨t2, t3, t4⟩ | ⟨t2, t3, t4⟩
        all_goals
          go_wp2_with fail
          go_quiet (fail)
          go_wp2_with fail
          obtain ⟨wy, hwy⟩ : ∃ wy, wy = wr.drewN nq := ⟨_, rfl⟩
          rw [← hwy]
          have BY : Hid (Below wx.heap.size wx wy) := by rw [hwy]; exact below_drewS J.out.1 _
          have OI : Hid (Ord (ss.take (m + 1) ++ [nm] ++ ss.drop (m + 1))) := ord_ins hj OR.out.1 J.out.2 (SM.out t4)
          have OP : Hid ((ss.take (m + 1) ++ [nm] ++ ss.drop (m + 1)).Perm (namesD (ps.take (k + 1)) d)) := by unfold Hid; rw [E.out]; exact (perm_ins ss nm (m + 1)).trans (List.Perm.append_right _ OR.out.2)
          have OL : Hid ((ss.take (m + 1) ++ [nm] ++ ss.drop (m + 1)).length ≤ k + 1) := by unfold Hid; simp <;> omega
          have ON : Hid (0 < (ss.take (m + 1) ++ [nm] ++ ss.drop (m + 1)).length) := by unfold Hid; simp <;> omega
          have SY := hideIt (IX.out.below BY.out)
          have tl : Hid ((m + 1) = (ss.take (m + 1)).length) := by unfold Hid; rw [List.length_take]; omega
          have dl : Hid (ss.length - (m + 1) = (ss.drop (m + 1)).length) := by unfold Hid; rw [List.length_drop]
          have TK : Hid (∀ w', Below wy.heap.size wy w' → Rd w' 1 (.slice (some ⟨bL, 0, none⟩) (m + 1) cL) (m + 1) (strs (ss.take (m + 1)))) := fun w' hb => rdt_take (SY.out.below hb).rd hj
          have DR0 : Hid (∀ w', Below wy.heap.size wy w' → Rd w' 1 (.slice (some ⟨bL, 0 + (m + 1), none⟩) (ss.length - (m + 1)) (cL - (m + 1))) (ss.length - (m + 1)) (strs (ss.drop (m + 1)))) := fun w' hb => rdt_drop (SY.out.below hb).rd hj
          have DR1 : Hid (∀ w', cL = (m + 1) → Rd w' 1 (.slice (some ⟨bL, 0, none⟩) 0 0) 0 (strs (ss.drop (m + 1)))) := fun w' e => rdt_none (by omega)
          have KC : Hid (∀ w', Below wy.heap.size wy w' → w'.cell? ⟨X, 1, none⟩ = some (.string nm)) := fun w' hb => CX.out w' (below_trans BY.out hb BY.out.size)
          have z1 := KC.out wy (Below.refl _ _)
          have A1 : Hid (SnI wy (wy.alloc (.cells #[] 9)) (.slice (some ⟨wy.heap.size, 0, none⟩) 0 0) []) := ⟨World.ownsRow_lit wy #[] 0 (Nat.le_refl _) (by simp [maxLen]) (by simp), (Below.refl _ _).alloc (Nat.le_refl _) _⟩
          have A2 := hideIt (A1.out.below ((Below.refl _ _).alloc (Nat.le_refl _) (.cells #[.string nm] 9)))
          have A3 : Hid (SnI wy ((wy.alloc (.cells #[.string nm] 9)).alloc (.cells #[] 9)) (.slice (some ⟨wy.heap.size + 1, 0, none⟩) 0 0) []) := by
            have := World.ownsRow_lit (e := 9) (size := 1) (base := wy.heap.size) (wy.alloc (.cells #[.string nm] 9)) #[] 0 (by simp) (by simp [maxLen]) (by simp)
            rw [World.size_alloc] at this
            exact ⟨this, below_allocS (below_allocS (Below.refl _ _) _) _⟩
          have N2 : Hid (Rd ((wy.alloc (.cells #[] 9)).alloc (.cells #[.string nm] 9)) 1 (.slice (some ⟨wy.heap.size + 1, 0, none⟩) 1 1) 1 (strs [nm])) := by
            have := rd_str (wy.alloc (.cells #[] 9)) nm
            rw [World.size_alloc] at this
            exact this
          have N3 : Hid (Rd ((wy.alloc (.cells #[.string nm] 9)).alloc (.cells #[] 9)) 1 (.slice (some ⟨wy.heap.size, 0, none⟩) 1 1) 1 (strs [nm])) := Rd.alloc (rd_str wy nm) (.cells #[] 9)
          clear hwy J JI
          have WY : Hid (Below W.heap.size W wy) := SY.out.b
          have hzq : W.heap.size ≤ wy.heap.size := WY.out.size
          have jl : ((m : Int) + 1 : Int) ≤ (ss.length : Int) := by omega
          have jc : ((m : Int) + 1 : Int) ≤ (cL : Int) := by omega
          have j0 : (0 : Int) ≤ ((m : Int) + 1 : Int) := by omega
          by_cases cc : cL = (m + 1)
          · subst cc
            have DR : Hid (∀ w', Below wy.heap.size wy w' → Rd w' 1 (.slice (some ⟨bL, 0, none⟩) 0 0) 0 (strs (ss.drop (m + 1)))) := fun w' _ => DR1.out w' rfl
            have dl0 : Hid (0 = (ss.drop (m + 1)).length) := by unfold Hid; rw [List.length_drop]; omega
            go_region_held3 (fun w' => w'.cell? ⟨X, 1, none⟩ = some (.string nm)) (first | exact z1 | exact KC.out _ (by repeat (first | exact BN.out | exact BM.out | exact BO.out | exact Below.refl _ _ | refine below_allocS ?_ _ | refine Below.drew ?_)))
              (first
                | (refine step_append_rd rfl (.tmp 47) (.tmp 50) 66 rfl wy.heap.size 9 (.string ⟨#[]⟩) 1 16 Tryd.underlying66 info9 rfl (by decide) _ _ _ rfl A1.out.l _ (m + 1) _ rfl (TK.out _ (by repeat (first | exact BN.out | exact BM.out | exact BO.out | exact Below.refl _ _ | refine below_allocS ?_ _ | refine Below.drew ?_))) (strs_one _) (by simp [maxLen] <;> omega) (by simp <;> omega) A1.out.z ?_; intro vN wN hownN hgrN; have G := hideIt ((A1.out.below (by repeat (first | exact Below.refl _ _ | refine Below.drew ?_))).grow (ss.take (m + 1)) tl.out hownN hgrN); have BN := hideIt G.out.b; have G1 := hideIt (G.out.below ((Below.refl _ _).alloc (Nat.le_refl _) (.cells #[.string nm] 9))); have N1 := hideIt (rd_str wN nm); clear hownN hgrN)
                | (refine step_append_rd rfl (.tmp 47) (.tmp 50) 66 rfl wy.heap.size 9 (.string ⟨#[]⟩) 1 16 Tryd.underlying66 info9 rfl (by decide) _ _ _ rfl A2.out.l _ (m + 1) _ rfl (TK.out _ (by repeat (first | exact BN.out | exact BM.out | exact BO.out | exact Below.refl _ _ | refine below_allocS ?_ _ | refine Below.drew ?_))) (strs_one _) (by simp [maxLen] <;> omega) (by simp <;> omega) A2.out.z ?_; intro vN wN hownN hgrN; have G := hideIt ((A2.out.below (by repeat (first | exact Below.refl _ _ | refine Below.drew ?_))).grow (ss.take (m + 1)) tl.out hownN hgrN); have BN := hideIt G.out.b; have G1 := hideIt G.out; have N1 := hideIt (Rd.same N2.out hgrN.size (fun b hb he => hgrN.block b hb (fun e => by have h1 : wy.heap.size + 1 = b := Option.some.inj he; have h2 : b = wy.heap.size := Option.some.inj e; omega))); clear hownN hgrN)
                | (refine step_append_rd rfl (.tmp 47) (.tmp 50) 66 rfl wy.heap.size 9 (.string ⟨#[]⟩) 1 16 Tryd.underlying66 info9 rfl (by decide) _ _ _ rfl A3.out.l _ (m + 1) _ rfl (TK.out _ (by repeat (first | exact BN.out | exact BM.out | exact BO.out | exact Below.refl _ _ | refine below_allocS ?_ _ | refine Below.drew ?_))) (strs_one _) (by simp [maxLen] <;> omega) (by simp <;> omega) A3.out.z ?_; intro vN wN hownN hgrN; have G := hideIt ((A3.out.below (by repeat (first | exact Below.refl _ _ | refine Below.drew ?_))).grow (ss.take (m + 1)) tl.out hownN hgrN); have BN := hideIt G.out.b; have G1 := hideIt G.out; have N1 := hideIt (Rd.same N3.out hgrN.size (fun b hb he => hgrN.block b hb (fun e => by have h1 : wy.heap.size = b := Option.some.inj he; have h2 : b = wy.heap.size + 1 := Option.some.inj e; omega))); clear hownN hgrN)
                | (refine step_append_rd rfl (.tmp 51) (.tmp 54) 66 rfl wy.heap.size 9 (.string ⟨#[]⟩) 1 16 Tryd.underlying66 info9 rfl (by decide) _ _ _ rfl G1.out.l _ 1 _ rfl N1.out (strs_one _) (by simp [maxLen] <;> omega) (by simp <;> omega) G1.out.z ?_; intro vM wM hownM hgrM; have G5 := hideIt ((G1.out.below (by repeat (first | exact Below.refl _ _ | refine Below.drew ?_))).grow [nm] rfl hownM hgrM); have BM := hideIt G5.out.b; clear hownM hgrM)
                | (refine step_append_rd rfl (.tmp 55) (.tmp 58) 66 rfl wy.heap.size 9 (.string ⟨#[]⟩) 1 16 Tryd.underlying66 info9 rfl (by decide) _ _ _ rfl G5.out.l _ 0 _ rfl (DR.out _ (below_trans G5.out.b (by repeat (first | exact Below.refl _ _ | refine Below.drew ?_)) G5.out.z)) (strs_one _) (by simp [maxLen] <;> omega) (by simp <;> omega) G5.out.z ?_; intro vO wO hownO hgrO; have G6 := hideIt ((G5.out.below (by repeat (first | exact Below.refl _ _ | refine Below.drew ?_))).grow (ss.drop (m + 1)) dl0.out hownO hgrO); have BO := hideIt G6.out.b; clear hownO hgrO))
            all_goals
              go_wp2
              go_roundw
              case rel => exact ⟨k + 1, by omega, by go_num, ss.take (m + 1) ++ [nm] ++ ss.drop (m + 1), (by have := G6.out.some_ (by simp <;> omega); exact this), OL.out, ⟨(own_block G6.out.l).wide hzq (Nat.le_refl _) |>.1, below_trans WY.out G6.out.b WY.out.size⟩, OI.out, OP.out⟩
              case measure => simp [intOf]; omega
          · have DR : Hid (∀ w', Below wy.heap.size wy w' → Rd w' 1 (.slice (some ⟨bL, (m + 1), none⟩) (ss.length - (m + 1)) (cL - (m + 1))) (ss.length - (m + 1)) (strs (ss.drop (m + 1)))) := fun w' hb => by have := DR0.out w' hb; rw [Nat.zero_add] at this; exact this
            go_region_held3 (fun w' => w'.cell? ⟨X, 1, none⟩ = some (.string nm)) (first | exact z1 | exact KC.out _ (by repeat (first | exact BN.out | exact BM.out | exact BO.out | exact Below.refl _ _ | refine below_allocS ?_ _ | refine Below.drew ?_)))
              (first
                | (refine step_append_rd rfl (.tmp 47) (.tmp 50) 66 rfl wy.heap.size 9 (.string ⟨#[]⟩) 1 16 Tryd.underlying66 info9 rfl (by decide) _ _ _ rfl A1.out.l _ (m + 1) _ rfl (TK.out _ (by repeat (first | exact BN.out | exact BM.out | exact BO.out | exact Below.refl _ _ | refine below_allocS ?_ _ | refine Below.drew ?_))) (strs_one _) (by simp [maxLen] <;> omega) (by simp <;> omega) A1.out.z ?_; intro vN wN hownN hgrN; have G := hideIt ((A1.out.below (by repeat (first | exact Below.refl _ _ | refine Below.drew ?_))).grow (ss.take (m + 1)) tl.out hownN hgrN); have BN := hideIt G.out.b; have G1 := hideIt (G.out.below ((Below.refl _ _).alloc (Nat.le_refl _) (.cells #[.string nm] 9))); have N1 := hideIt (rd_str wN nm); clear hownN hgrN)
                | (refine step_append_rd rfl (.tmp 47) (.tmp 50) 66 rfl wy.heap.size 9 (.string ⟨#[]⟩) 1 16 Tryd.underlying66 info9 rfl (by decide) _ _ _ rfl A2.out.l _ (m + 1) _ rfl (TK.out _ (by repeat (first | exact BN.out | exact BM.out | exact BO.out | exact Below.refl _ _ | refine below_allocS ?_ _ | refine Below.drew ?_))) (strs_one _) (by simp [maxLen] <;> omega) (by simp <;> omega) A2.out.z ?_; intro vN wN hownN hgrN; have G := hideIt ((A2.out.below (by repeat (first | exact Below.refl _ _ | refine Below.drew ?_))).grow (ss.take (m + 1)) tl.out hownN hgrN); have BN := hideIt G.out.b; have G1 := hideIt G.out; have N1 := hideIt (Rd.same N2.out hgrN.size (fun b hb he => hgrN.block b hb (fun e => by have h1 : wy.heap.size + 1 = b := Option.some.inj he; have h2 : b = wy.heap.size := Option.some.inj e; omega))); clear hownN hgrN)
                | (refine step_append_rd rfl (.tmp 47) (.tmp 50) 66 rfl wy.heap.size 9 (.string ⟨#[]⟩) 1 16 Tryd.underlying66 info9 rfl (by decide) _ _ _ rfl A3.out.l _ (m + 1) _ rfl (TK.out _ (by repeat (first | exact BN.out | exact BM.out | exact BO.out | exact Below.refl _ _ | refine below_allocS ?_ _ | refine Below.drew ?_))) (strs_one _) (by simp [maxLen] <;> omega) (by simp <;> omega) A3.out.z ?_; intro vN wN hownN hgrN; have G := hideIt ((A3.out.below (by repeat (first | exact Below.refl _ _ | refine Below.drew ?_))).grow (ss.take (m + 1)) tl.out hownN hgrN); have BN := hideIt G.out.b; have G1 := hideIt G.out; have N1 := hideIt (Rd.same N3.out hgrN.size (fun b hb he => hgrN.block b hb (fun e => by have h1 : wy.heap.size = b := Option.some.inj he; have h2 : b = wy.heap.size + 1 := Option.some.inj e; omega))); clear hownN hgrN)
                | (refine step_append_rd rfl (.tmp 51) (.tmp 54) 66 rfl wy.heap.size 9 (.string ⟨#[]⟩) 1 16 Tryd.underlying66 info9 rfl (by decide) _ _ _ rfl G1.out.l _ 1 _ rfl N1.out (strs_one _) (by simp [maxLen] <;> omega) (by simp <;> omega) G1.out.z ?_; intro vM wM hownM hgrM; have G5 := hideIt ((G1.out.below (by repeat (first | exact Below.refl _ _ | refine Below.drew ?_))).grow [nm] rfl hownM hgrM); have BM := hideIt G5.out.b; clear hownM hgrM)
                | (refine step_append_rd rfl (.tmp 55) (.tmp 58) 66 rfl wy.heap.size 9 (.string ⟨#[]⟩) 1 16 Tryd.underlying66 info9 rfl (by decide) _ _ _ rfl G5.out.l _ (ss.length - (m + 1)) _ rfl (DR.out _ (below_trans G5.out.b (by repeat (first | exact Below.refl _ _ | refine Below.drew ?_)) G5.out.z)) (strs_one _) (by simp [maxLen] <;> omega) (by simp <;> omega) G5.out.z ?_; intro vO wO hownO hgrO; have G6 := hideIt ((G5.out.below (by repeat (first | exact Below.refl _ _ | refine Below.drew ?_))).grow (ss.drop (m + 1)) dl.out hownO hgrO); have BO := hideIt G6.out.b; clear hownO hgrO))
            all_goals
              go_wp2
              go_roundw
              case rel => exact ⟨k + 1, by omega, by go_num, ss.take (m + 1) ++ [nm] ++ ss.drop (m + 1), (by have := G6.out.some_ (by simp <;> omega); exact this), OL.out, ⟨(own_block G6.out.l).wide hzq (Nat.le_refl _) |>.1, below_trans WY.out G6.out.b WY.out.size⟩, OI.out, OP.out⟩
              case measure => simp [intOf]; omega
    · obtain rfl : k = ps.length := by omega
      have E : Hid (ss = sorted (namesD ps d)) := by
        have := I.out.2.2
        rw [List.take_length] at this
        exact ord_sorted I.out.2.1 this
      have F := hideIt I.out.1
      clear I
      have k1 : ¬ ((ps.length : Nat) : Int) < ((ps.length : Nat) : Int) := by omega
      go_wp2
      go_ret
      refine ⟨_, rfl, ?_, below_trans BW.out F.out.b hz⟩
      rw [← E.out]
      exact (own_block F.out.l).wide hz (Nat.le_refl _)
end Go.Proofs.YtjfjfokinchhoaaDoor

namespace Go.Proofs.YtjfjfokinchhoaaDoor
open Go.RowKit

theorem RdT_marks {w : World} {lo hi : Nat} {v : Value} {k : Int} {n : Nat} (h : Row w 9 1 lo hi v n (strs (marksT k n))) : RdT w v (marksT k n) := by
  have := h.rd
  unfold RdT
  rw [marksT_len]
  exact this
def eoC (ws : List Ino) (ps : List Den) (d : Int) : Int := if imgB ws ps = true then (if 0 ≤ d ∧ d ≤ 15 then (if kindAt ws d = 2 then 0 else 10) else 4) else 1
def eoL (ws : List Ino) (ps : List Den) (d : Int) : List ByteArray := if eoC ws ps d = 0 then sorted (namesD ps d) else []
theorem img_ents {ws : List Ino} {ps : List Den} (h : imgB ws ps = true) : okDs ps = true := by
  unfold imgB at h
  simp only [Bool.and_eq_true] at h
  exact ents_ok h.2.2.2.2.1
/-- The names of entries that are taken. -/
def dirN (ts : List Den) (d : Int) : List ByteArray := (ts.filter fun x => x.dir == d).map Den.name
theorem dirN_succ {ts : List Den} {d : Int} {k : Nat} (h : k < ts.length) : dirN (ts.take (k + 1)) d = if ts[k].dir = d then dirN (ts.take k) d ++ [ts[k].name] else dirN (ts.take k) d := by
  unfold dirN
  rw [List.take_succ_eq_append_getElem h, List.filter_append, List.map_append]
  by_cases c : ts[k].dir = d
  · rw [if_pos c]; simp [c]
  · rw [if_neg c]; simp [c]
theorem dirN_len (ts : List Den) (d : Int) : (dirN ts d).length ≤ ts.length := by unfold dirN; rw [List.length_map]; exact List.length_filter_le _ _
theorem dirN_names {ps : List Den} (h : okDs ps = true) (d : Int) : dirN (takenD ps) d = namesD ps d := by
  unfold dirN takenD namesD
  rw [List.filter_filter]
  congr 1
  apply List.filter_congr
  intro x hx
  obtain ⟨i, hi, rfl⟩ := List.getElem_of_mem hx
  unfold okDs at h
  have ho := of_decide_eq_true h i hi
  have hf := ok_free ho
  have hc : ps[i].child < 0 ↔ ps[i].child = -1 := by
    unfold Den.okB at ho
    rw [Bool.or_eq_true] at ho
    rcases ho with ho | ho
    · have := hf.1 ho; omega
    · simp only [Bool.and_eq_true, decide_eq_true_eq] at ho; omega
  by_cases a : ps[i].freeB = true
  · rw [a]
    have := hf.1 a
    rw [decide_eq_false (fun q => q.1 (by omega))]
    simp
  · have b : ¬ ps[i].child = -1 := fun q => a (hf.2 q)
    rw [Bool.not_eq_true] at a
    rw [a]
    by_cases c : ps[i].dir = d
    · rw [decide_eq_true ⟨fun q => b (hc.1 q), c⟩, c]; simp
    · rw [decide_eq_false (fun q => c q.2)]; simp [c]
theorem row_none9 (w : World) : Row (w.alloc (.cells #[] 9)) 9 1 w.heap.size (w.alloc (.cells #[] 9)).heap.size (.slice (some ⟨w.heap.size, 0, none⟩) 0 0) 0 [] :=
  own_block (World.ownsRow_lit w #[] 0 (Nat.le_refl _) (by simp [maxLen]) (by simp))

set_option maxRecDepth 100000 in
set_option maxHeartbeats 4000000 in
theorem specEntriesOf_any (v : Value) (ws : List Ino) (ps : List Den) (d : Int) (w : World) (h : RdIm w v ws ps) (hw : ws.length ≤ 1048576) (hp : ps.length ≤ 1048576) (hr : ∀ k (h : k < ws.length), ws[k].R) (hs : ∀ k (h : k < ps.length), ps[k].name.size ≤ maxLen) :
    Calls Tryd.prog 42 #[v, .int .i64 d] w fun e w' => ∃ v', e = .returned (.tuple #[v', .int .i64 (eoC ws ps d)]) ∧ Row w' 9 1 w.heap.size w'.heap.size v' (eoL ws ps d).length (strs (eoL ws ps d)) ∧ Below w.heap.size w w' := by
  have HRD := hideIt h
  have LI := hideIt (fun w1 h => specImageOK_any v ws ps w1 h hw hp hr hs)
  have LU := hideIt (fun w1 h (o : imgB ws ps = true) => l05Names_any v ws ps d w1 h (by have := (img_parts o).2.1; omega))
  have RE := hideIt (fun w1 : World => And.intro (row_none9 w1) ((Below.refl w1.heap.size w1).alloc (Nat.le_refl _) (.cells #[] 9)))
  obtain ⟨vW, vP, rfl, h1, h2⟩ := h
  obtain ⟨aW, cW, rfl, _, hcW⟩ := h1.shape
  have HW := hideIt hcW
  obtain ⟨aP, cP, rfl, _, _⟩ := h2.shape
  clear h1 h2 hr hs hcW
  have CA : Hid (∀ w', Below (w.alloc (.cells #[.slice aW ws.length cW, .slice aP ps.length cP] 30)).heap.size (w.alloc (.cells #[.slice aW ws.length cW, .slice aP ps.length cP] 30)) w' → w'.cell? ⟨w.heap.size, 0, none⟩ = some (.slice aW ws.length cW) ∧ w'.cell? ⟨w.heap.size, 1, none⟩ = some (.slice aP ps.length cP)) := fun w' hb => by
    have : w'.heap[w.heap.size]? = some (.cells #[.slice aW ws.length cW, .slice aP ps.length cP] 30 (0, 0)) := (hb.block _ (by simp)).trans (at_new rfl)
    exact ⟨(two_cells this).1, (two_cells this).2.1⟩
  have BW : Hid (Below w.heap.size w (w.alloc (.cells #[.slice aW ws.length cW, .slice aP ps.length cP] 30))) := (Below.refl _ _).alloc (Nat.le_refl _) _
  obtain ⟨x0, x1⟩ := CA.out _ (Below.refl _ _)
  cases c1 : imgB ws ps with
  | false =>
    rw [c1] at LI
    have E1 : eoC ws ps d = 1 := by unfold eoC; rw [c1]; rfl
    rw [show eoL ws ps d = [] by unfold eoL; rw [E1]; rfl, E1]
    clear c1 E1
    go_enter Tryd.func42, Tryd.ntmps42
    go_wp2_with fail
    refine (LI.out _ (HRD.out.below BW.out)).mono ?_
    rintro e w1 ⟨rfl, hb1⟩
    have B1 := hideIt (below_trans BW.out hb1 BW.out.size)
    clear hb1 x0 x1
    go_wp2
    go_ret2
    exact ⟨_, rfl, (RE.out _).1.wide B1.out.size (Nat.le_refl _), below_trans B1.out (RE.out _).2 B1.out.size⟩
  | true =>
  rw [c1] at LI
  have O := hideIt c1
  by_cases c2 : 0 ≤ d ∧ d ≤ 15
  case neg =>
    have E1 : eoC ws ps d = 4 := by unfold eoC; rw [if_pos c1, if_neg c2]
    rw [show eoL ws ps d = [] by unfold eoL; rw [E1]; rfl, E1]
    have C2 := hideIt c2
    clear c1 c2 E1
    go_enter Tryd.func42, Tryd.ntmps42
    go_wp2_with fail
    refine (LI.out _ (HRD.out.below BW.out)).mono ?_
    rintro e w1 ⟨rfl, hb1⟩
    have B1 := hideIt (below_trans BW.out hb1 BW.out.size)
    clear hb1 x0 x1
    go_wp2_with fail
    refine (l01In_no _ _ _ _ C2.out).mono ?_
    rintro e w2 ⟨rfl, hw2⟩
    subst w2
    go_wp2
    go_ret2
    exact ⟨_, rfl, (RE.out _).1.wide B1.out.size (Nat.le_refl _), below_trans B1.out (RE.out _).2 B1.out.size⟩
  obtain ⟨dn, hdn⟩ : ∃ n : Nat, d = (n : Int) := ⟨d.toNat, by omega⟩
  have L16 := hideIt (img_parts c1).1
  have d1 : dn < ws.length := by have := (img_parts c1).1; omega
  obtain ⟨bW, oW, rfl, hblW, hcellW⟩ := HW.out (by omega)
  have HK : Hid (∀ w', Below w.heap.size w w' → w'.cell? ⟨bW, oW + dn * 11, none⟩ = some (.int .i64 (kindAt ws d))) := fun w' hb => by
    rw [hdn, kindAt_of d1]
    exact (hb.cell (p := ⟨bW, oW + dn * 11, none⟩) hblW).trans (hcellW dn d1).1
  clear hcellW HW
  have C2 := hideIt c2
  have d2 : (0 : Int) ≤ (dn : Int) := by omega
  have d3 : (dn : Int) < (ws.length : Int) := by omega
  have ENC : Hid (eoC ws ps d = if kindAt ws d = 2 then 0 else 10) := by unfold Hid eoC; rw [if_pos c1, if_pos c2]
  have ENL : Hid (eoC ws ps d = 0 → eoL ws ps d = sorted (namesD ps d)) := fun h => by unfold eoL; rw [if_pos h]
  have ENN : Hid (eoC ws ps d = 10 → eoL ws ps d = []) := fun h => by unfold eoL; rw [h]; rfl
  generalize eoC ws ps d = EC at *
  generalize eoL ws ps d = EL at *
  generalize kindAt ws d = kd at *
  clear c1 c2
  subst hdn
  by_cases c3 : kd = 2
  case neg =>
    have e1 : EC = 10 := by rw [ENC.out, if_neg c3]
    rw [ENN.out e1, e1]
    have q : (kd != 2) = true := by rw [bne_iff_ne]; exact c3
    clear c3 e1 ENC ENL ENN
    go_enter Tryd.func42, Tryd.ntmps42
    go_wp2_with fail
    refine (LI.out _ (HRD.out.below BW.out)).mono ?_
    rintro e w1 ⟨rfl, hb1⟩
    have B1 := hideIt (below_trans BW.out hb1 BW.out.size)
    clear x0 x1
    obtain ⟨x0, x1⟩ := CA.out _ hb1
    clear hb1
    have k1 := HK.out w1 B1.out
    go_wp2_with fail
    refine (l01In_yes _ _ _ _ C2.out).mono ?_
    rintro e w2 ⟨rfl, hw2⟩
    subst w2
    go_wp2
    go_ret2
    exact ⟨_, rfl, (RE.out _).1.wide B1.out.size (Nat.le_refl _), below_trans B1.out (RE.out _).2 B1.out.size⟩
  have e1 : EC = 0 := by rw [ENC.out, if_pos c3]
  rw [ENL.out e1, e1]
  have q : (kd != 2) = false := by rw [c3]; rfl
  clear c3 e1 ENC ENL ENN
  go_enter Tryd.func42, Tryd.ntmps42
  go_wp2_with fail
  refine (LI.out _ (HRD.out.below BW.out)).mono ?_
  rintro e w1 ⟨rfl, hb1⟩
  have B1 := hideIt (below_trans BW.out hb1 BW.out.size)
  clear x0 x1
  obtain ⟨x0, x1⟩ := CA.out _ hb1
  clear hb1
  have k1 := HK.out w1 B1.out
  go_wp2_with fail
  refine (l01In_yes _ _ _ _ C2.out).mono ?_
  rintro e w2 ⟨rfl, hw2⟩
  subst w2
  go_wp2_with fail
  refine (LU.out _ (HRD.out.below B1.out) O.out).mono ?_
  rintro e w2 ⟨v2, rfl, hr2, hb2⟩
  obtain ⟨-, aL, cL, hvL, -⟩ := hr2.rd
  subst hvL
  have R2 := hideIt (hr2.wide B1.out.size (Nat.le_refl _))
  have B2 := hideIt (below_trans B1.out hb2 B1.out.size)
  clear hr2 hb2 x0 x1
  go_wp2
  go_ret2
  exact ⟨_, rfl, R2.out, B2.out⟩

set_option maxRecDepth 100000 in
set_option maxHeartbeats 4000000 in
theorem implEntriesOf_any (v : Value) (ws : List Ino) (ps : List Den) (d : Int) (w : World) (h : RdIm w v ws ps) (hw : ws.length ≤ 1048576) (hp : ps.length ≤ 1048576) (hT : TS w) (hE : ED w) (hF : FD w) (hr : ∀ k (h : k < ws.length), ws[k].R) (hs : ∀ k (h : k < ps.length), ps[k].name.size ≤ maxLen) :
    Calls Tryd.prog 43 #[v, .int .i64 d] w fun e w' => ∃ v', e = .returned (.tuple #[v', .int .i64 (eoC ws ps d)]) ∧ Row w' 9 1 w.heap.size w'.heap.size v' (eoL ws ps d).length (strs (eoL ws ps d)) ∧ Below w.heap.size w w' := by
  have LI := hideIt (fun w1 (hb : Below w.heap.size w w1) => implImageOK_any v ws ps w1 (h.below hb) hw hp (hT.below hb) (hE.below hb) (hF.below hb) hr hs)
  have FD_ := hideIt hF
  obtain ⟨vW, vP, rfl, h1, h2⟩ := h
  have RP := hideIt h2
  obtain ⟨aW, cW, rfl, _, hcW⟩ := h1.shape
  have HW := hideIt hcW
  obtain ⟨aP, cP, rfl, _, _⟩ := h2.shape
  have LM := hideIt (fun w1 (hb : Below w.heap.size w w1) (hl : ps.length ≤ 4096) => takenDirents_any (.slice aP ps.length cP) ps w1 (Rd.below RP.out hb) hl (FD_.out.below hb))
  clear h1 h2 hr hs hT hE hF hcW
  have CA : Hid (∀ w', Below (w.alloc (.cells #[.slice aW ws.length cW, .slice aP ps.length cP] 30)).heap.size (w.alloc (.cells #[.slice aW ws.length cW, .slice aP ps.length cP] 30)) w' → w'.cell? ⟨w.heap.size, 0, none⟩ = some (.slice aW ws.length cW) ∧ w'.cell? ⟨w.heap.size, 1, none⟩ = some (.slice aP ps.length cP)) := fun w' hb => by
    have : w'.heap[w.heap.size]? = some (.cells #[.slice aW ws.length cW, .slice aP ps.length cP] 30 (0, 0)) := (hb.block _ (by simp)).trans (at_new rfl)
    exact ⟨(two_cells this).1, (two_cells this).2.1⟩
  have BW : Hid (Below w.heap.size w (w.alloc (.cells #[.slice aW ws.length cW, .slice aP ps.length cP] 30))) := (Below.refl _ _).alloc (Nat.le_refl _) _
  obtain ⟨x0, x1⟩ := CA.out _ (Below.refl _ _)
  cases c1 : imgB ws ps with
  | false =>
    rw [c1] at LI
    have E1 : eoC ws ps d = 1 := by unfold eoC; rw [c1]; rfl
    rw [show eoL ws ps d = [] by unfold eoL; rw [E1]; rfl, E1]
    clear c1 E1
    go_enter Tryd.func43, Tryd.ntmps43
    go_wp2_with fail
    refine (LI.out _ BW.out).mono ?_
    rintro e w1 ⟨rfl, hb1⟩
    have B1 := hideIt (below_trans BW.out hb1 BW.out.size)
    clear hb1 x0 x1
    go_wp2
    go_ret2
    exact ⟨_, rfl, Row.nil _ _ _ _ _, B1.out⟩
  | true =>
  rw [c1] at LI
  by_cases c2 : 0 ≤ d ∧ d ≤ 15
  case neg =>
    have E1 : eoC ws ps d = 4 := by unfold eoC; rw [if_pos c1, if_neg c2]
    rw [show eoL ws ps d = [] by unfold eoL; rw [E1]; rfl, E1]
    have C2 : Hid (¬ (0 ≤ d ∧ d < 16)) := fun h => c2 (by omega)
    clear c1 c2 E1
    go_enter Tryd.func43, Tryd.ntmps43
    go_wp2_with fail
    refine (LI.out _ BW.out).mono ?_
    rintro e w1 ⟨rfl, hb1⟩
    have B1 := hideIt (below_trans BW.out hb1 BW.out.size)
    clear hb1 x0 x1
    go_wp2_with fail
    refine (isIndex_no _ _ _ C2.out).mono ?_
    rintro e w2 ⟨rfl, hw2⟩
    subst w2
    go_wp2
    go_ret2
    exact ⟨_, rfl, Row.nil _ _ _ _ _, B1.out⟩
  obtain ⟨dn, hdn⟩ : ∃ n : Nat, d = (n : Int) := ⟨d.toNat, by omega⟩
  have L24 := hideIt (show ps.length ≤ 4096 by have := (img_parts c1).2.1; omega)
  have d1 : dn < ws.length := by have := (img_parts c1).1; omega
  obtain ⟨bW, oW, rfl, hblW, hcellW⟩ := HW.out (by omega)
  have HK : Hid (∀ w', Below w.heap.size w w' → w'.cell? ⟨bW, oW + dn * 11, none⟩ = some (.int .i64 (kindAt ws d))) := fun w' hb => by
    rw [hdn, kindAt_of d1]
    exact (hb.cell (p := ⟨bW, oW + dn * 11, none⟩) hblW).trans (hcellW dn d1).1
  clear hcellW HW
  have C2 : Hid (0 ≤ d ∧ d < 16) := by unfold Hid; omega
  have d2 : (0 : Int) ≤ (dn : Int) := by omega
  have d3 : (dn : Int) < (ws.length : Int) := by omega
  have ENC : Hid (eoC ws ps d = if kindAt ws d = 2 then 0 else 10) := by unfold Hid eoC; rw [if_pos c1, if_pos c2]
  have ENL : Hid (eoC ws ps d = 0 → eoL ws ps d = sorted (dirN (takenD ps) d)) := fun h => by unfold eoL; rw [if_pos h, dirN_names (img_ents c1)]
  have ENN : Hid (eoC ws ps d = 10 → eoL ws ps d = []) := fun h => by unfold eoL; rw [h]; rfl
  have tl : (takenD ps).length ≤ 24 := by have := taken_len ps; have := (img_parts c1).2.1; omega
  generalize eoC ws ps d = EC at *
  generalize eoL ws ps d = EL at *
  generalize kindAt ws d = kd at *
  clear c1 c2
  subst hdn
  by_cases c3 : kd = 2
  case neg =>
    have e1 : EC = 10 := by rw [ENC.out, if_neg c3]
    rw [ENN.out e1, e1]
    have q : (kd != 2) = true := by rw [bne_iff_ne]; exact c3
    clear c3 e1 ENC ENL ENN
    go_enter Tryd.func43, Tryd.ntmps43
    go_wp2_with fail
    refine (LI.out _ BW.out).mono ?_
    rintro e w1 ⟨rfl, hb1⟩
    have B1 := hideIt (below_trans BW.out hb1 BW.out.size)
    clear x0 x1
    obtain ⟨x0, x1⟩ := CA.out _ hb1
    clear hb1
    have k1 := HK.out w1 B1.out
    go_wp2_with fail
    refine (isIndex_yes _ _ _ C2.out).mono ?_
    rintro e w2 ⟨rfl, hw2⟩
    subst w2
    go_wp2
    go_ret2
    exact ⟨_, rfl, Row.nil _ _ _ _ _, B1.out⟩
  have e1 : EC = 0 := by rw [ENC.out, if_pos c3]
  rw [ENL.out e1, e1]
  have q : (kd != 2) = false := by rw [c3]; rfl
  clear c3 e1 ENC ENL ENN
  generalize takenD ps = ts at *
  go_enter Tryd.func43, Tryd.ntmps43
  go_wp2_with fail
  refine (LI.out _ BW.out).mono ?_
  rintro e w1 ⟨rfl, hb1⟩
  have B1 := hideIt (below_trans BW.out hb1 BW.out.size)
  clear x0 x1
  obtain ⟨x0, x1⟩ := CA.out _ hb1
  clear hb1
  have k1 := HK.out w1 B1.out
  go_wp2_with fail
  refine (isIndex_yes _ _ _ C2.out).mono ?_
  rintro e w2 ⟨rfl, hw2⟩
  subst w2
  go_wp2_with fail
  refine (LM.out _ B1.out L24.out).mono ?_
  rintro e w2 ⟨v2, rfl, hr2, hb2⟩
  obtain ⟨-, aM, cM, hvM, -⟩ := hr2.rd
  subst hvM
  have R2 : Hid (RdD w2 (.slice aM ts.length cM) ts) := hr2.rd
  have B2 := hideIt (below_trans B1.out hb2 B1.out.size)
  have hz2 : w.heap.size ≤ w2.heap.size := B2.out.size
  obtain ⟨aZ, cZ, eZ, _, hcZ⟩ := R2.out.shape
  have HZ := hideIt hcZ
  obtain ⟨rfl, rfl⟩ : aZ = aM ∧ cZ = cM := by cases eZ; exact ⟨rfl, rfl⟩
  clear eZ hcZ hr2 hb2 x0 x1 k1 LI LM HK CA
  go_wp2
  go_loopw [6, 8, 26] (fun vL _ i wr => ∃ k : Nat, k ≤ ts.length ∧ i = .int .i64 k ∧ Hid (SnI w2 wr vL (dirN (ts.take k) (dn : Int))) ∧ w2.heap.size ≤ wr.heap.size) (fun _ _ i _ => ts.length - (intOf i).toNat)
  case atStart => exact ⟨0, by omega, rfl, ⟨World.ownsRow_nil _ _ _ _, Below.refl _ _⟩, Nat.le_refl _⟩
  case round =>
    obtain ⟨k, hk, rfl, I, hz⟩ := hrel
    by_cases hlt : k < ts.length
    · obtain ⟨b, o, rfl, hbl, hcell⟩ := HZ.out (by omega)
      obtain ⟨a0, a1, a2⟩ := hcell k hlt
      have f0 := (I.out.b.cell (p := ⟨b, o + k * 3, none⟩) hbl).trans a0
      have f1 := (I.out.b.cell (p := ⟨b, o + k * 3 + 1, none⟩) hbl).trans a1
      have f2 := (I.out.b.cell (p := ⟨b, o + k * 3 + 2, none⟩) hbl).trans a2
      have k0 : (0 : Int) ≤ (k : Int) := by omega
      have k1 : (k : Int) < (ts.length : Int) := by omega
      have US := hideIt (dirN_succ (d := (dn : Int)) hlt)
      have UL := dirN_len (ts.take k) (dn : Int)
      rw [List.length_take] at UL
      clear hcell a0 a1 a2
      generalize ts[k] = x at *
      obtain ⟨wx, hwx⟩ : ∃ wx, wx = wr.alloc (.cells #[.int .i64 x.dir, .string x.name, .int .i64 x.child] 86) := ⟨_, rfl⟩
      have BX : Hid (Below wr.heap.size wr wx) := by rw [hwx]; exact (Below.refl _ _).alloc (Nat.le_refl _) _
      have IX := hideIt (I.out.below BX.out)
      have hzx := IX.out.z
      by_cases r : x.dir = (dn : Int)
      · have r' : (x.dir == (dn : Int)) = true := by rw [beq_iff_eq]; exact r
        have JB : Hid (SnI w2 (wx.alloc (.cells #[.string x.name] 9)) u6 (dirN (ts.take k) (dn : Int))) := IX.out.below ((Below.refl _ _).alloc (Nat.le_refl _) _)
        have RB := hideIt (rd_str wx x.name)
        have hzb := JB.out.z
        have MN : Hid (dirN (ts.take (k + 1)) (dn : Int) = dirN (ts.take k) (dn : Int) ++ [x.name]) := by unfold Hid; rw [US.out, if_pos r]
        rw [hwx] at JB RB hzb
        simp only [World.size_alloc] at RB hzb
        clear r I US IX BX
        go_wp2_with (at_builtin; refine wpList_append_rd _ rfl (.tmp 34) (.tmp 37) 66 rfl w2.heap.size 9 (.string ⟨#[]⟩) 1 16 Tryd.underlying66 info9 rfl (by decide) _ _ _ rfl JB.out.l _ 1 _ rfl RB.out (strs_one _) (by simp [maxLen]; omega) (by omega) JB.out.z ?_)
        intro vN wN hownN hgrN
        have G := hideIt (JB.out.grow [x.name] rfl hownN hgrN)
        rw [← MN.out] at G
        have hzN := G.out.z
        clear hownN hgrN JB RB
        go_wp2
        go_roundw
        case rel => exact ⟨k + 1, by omega, by go_num, G, hzN⟩
        case measure => simp [intOf]; omega
      · have r' : (x.dir == (dn : Int)) = false := by rw [beq_eq_false_iff_ne]; exact r
        have G : Hid (SnI w2 wx u6 (dirN (ts.take (k + 1)) (dn : Int))) := by unfold Hid; rw [US.out, if_neg r]; exact IX.out
        clear r I US IX BX
        go_wp2
        rw [← hwx]
        go_roundw
        case rel => exact ⟨k + 1, by omega, by go_num, G, hzx⟩
        case measure => simp [intOf]; omega
    · obtain rfl : k = ts.length := by omega
      have E := hideIt (show dirN (ts.take ts.length) (dn : Int) = dirN ts (dn : Int) by rw [List.take_length])
      rw [E.out] at I
      have SL := dirN_len ts (dn : Int)
      have SRT := hideIt (sort_any u6 (dirN ts (dn : Int)) w2.heap.size wr.heap.size wr (own_block I.out.l) (by omega))
      have SLN := hideIt (sorted_len (dirN ts (dn : Int)))
      go_wp2_with fail
      refine SRT.out.mono ?_
      rintro e w3 ⟨rfl, hr3, hg3⟩
      have B3 : Hid (Below w2.heap.size w2 w3) := I.out.b.grown hg3 hz (fun q hq => (I.out.l.lt q hq).1)
      have R3 := hideIt (hr3.wide hz2 hg3.size)
      obtain ⟨-, aL, cL, hvL, -⟩ := hr3.rd
      subst hvL
      clear hr3 hg3 I SRT
      go_wp2
      go_ret2
      exact ⟨_, rfl, by rw [SLN.out]; exact R3.out, below_trans B2.out B3.out hz2⟩
end Go.Proofs.YtjfjfokinchhoaaDoor
