/- The entries of a directory: by the model and by the program. -/
import Derived.Test.YtmeiionabonhnaaGreatDoorZAF
import Derived.Test.YtmeiionabonhnaaGreatDoorImX
import Derived.Test.YtmeiionabonhnaaGreatDoorZAW
import Derived.BigQuiet
import Derived.Sort.Walk0
import Derived.Laws.Cover1
namespace Go.Proofs.YtmeiionabonhnaaGreatDoor
open Go.RowKit
theorem below_allocN {a w : World} (h : Below a.heap.size a w) (o : Obj) : Below a.heap.size a (w.alloc o) := h.alloc h.size o
theorem text_cases (a x : ByteArray) : (Op.bytesLess a.toList x.toList = false ∧ (a.toList == x.toList) = false ∧ x.toList < a.toList) ∨ (Op.bytesLess a.toList x.toList = true ∧ (a.toList == x.toList) = false ∧ a.toList ≤ x.toList) ∨ (Op.bytesLess a.toList x.toList = false ∧ (a.toList == x.toList) = true ∧ a.toList ≤ x.toList) := by
  generalize a.toList = a
  generalize x.toList = x
  rw [bytesLess_eq]
  by_cases h : a < x
  · refine .inr (.inl ⟨decide_eq_true h, ?_, List.le_of_lt h⟩)
    rw [beq_eq_false_iff_ne]
    rintro rfl
    exact List.lt_irrefl a h
  · by_cases e : a = x
    · subst e
      exact .inr (.inr ⟨decide_eq_false h, by simp, List.le_refl _⟩)
    · refine .inl ⟨decide_eq_false h, by rw [beq_eq_false_iff_ne]; exact e, ?_⟩
      exact Classical.byContradiction fun q => e (List.le_antisymm (show a ≤ x from q) (show x ≤ a from h))
set_option maxRecDepth 100000 in
set_option maxHeartbeats 8000000 in
theorem l05Names_any (v : Value) (ws : List Ino) (ps : List Den) (d : Int) (w : World) (h : RdIm w v ws ps) (hn : ps.length ≤ 4096) :
    Calls Tryz.prog 130 #[v, .int .i64 d] w fun e w' => ∃ v', e = .returned v' ∧ Row w' 9 1 w.heap.size w'.heap.size v' (sorted (namesD ps d)).length (strs (sorted (namesD ps d))) ∧ Below w.heap.size w w' := by
  obtain ⟨vW, vP, rfl, h1, h2⟩ := h
  obtain ⟨aW, cW, rfl, _, _⟩ := h1.shape
  obtain ⟨aP, cP, rfl, _, hcP⟩ := h2.shape
  have HZ := hideIt hcP
  clear h1 h2 hcP
  obtain ⟨W, hW⟩ : ∃ W, W = w.alloc (.cells #[.slice aW ws.length cW, .slice aP ps.length cP] 98) := ⟨_, rfl⟩
  have CA : Hid (∀ w', Below W.heap.size W w' → w'.cell? ⟨w.heap.size, 1, none⟩ = some (.slice aP ps.length cP)) := fun w' hb => by
    have : w'.heap[w.heap.size]? = some (.cells #[.slice aW ws.length cW, .slice aP ps.length cP] 98 (0, 0)) := (hb.block _ (by rw [hW]; simp)).trans (by rw [hW]; exact at_new rfl)
    exact (two_cells this).2.1
  have BW : Hid (Below w.heap.size w W) := by rw [hW]; exact (Below.refl _ _).alloc (Nat.le_refl _) _
  have hz : w.heap.size ≤ W.heap.size := BW.out.size
  have START : Hid (SnI W (W.alloc (.cells #[] 9)) (.slice (some ⟨W.heap.size, 0, none⟩) 0 0) []) := ⟨World.ownsRow_lit W #[] 0 (Nat.le_refl _) (by simp [maxLen]) (by simp), (Below.refl _ _).alloc (Nat.le_refl _) _⟩
  go_enter Tryz.func130, Tryz.ntmps130
  go_wp2
  rw [hW] at START
  simp only [World.size_alloc] at START
  go_loopw [5, 6] (fun vL i wr => ∃ k : Nat, k ≤ ps.length ∧ i = .int .i64 k ∧ ∃ ss : List ByteArray, vL ≠ .slice none 0 0 ∧ ss.length ≤ k ∧ Hid (SnI W wr vL ss ∧ Ord ss ∧ ss.Perm (namesD (ps.take k) d))) (fun _ i _ => ps.length - (intOf i).toNat)
  case atStart => exact ⟨0, by omega, rfl, [], (fun e => by cases e), Nat.le_refl _, by rw [hW]; exact START.out, List.Pairwise.nil, List.Perm.refl _⟩
  case round =>
    obtain ⟨k, hk, rfl, ss, hv, hl, I⟩ := hrel
    clear START hW
    have x1 := CA.out wr I.out.1.b
    have hzr : W.heap.size ≤ wr.heap.size := I.out.1.z
    have k0 : (0 : Int) ≤ (k : Int) := by omega
    obtain ⟨bL, cL, rfl, hcL, hbL, hbL'⟩ := I.out.1.form hv
    clear hv
    by_cases hlt : k < ps.length
    · obtain ⟨b, o, rfl, hbl, hcell⟩ := HZ.out (by omega)
      obtain ⟨a0, a1, a2⟩ := hcell k hlt
      have JW := hideIt (below_trans BW.out I.out.1.b hz)
      have d0 := (JW.out.cell (p := ⟨b, o + k * 3, none⟩) hbl).trans a0
      have d1 := (JW.out.cell (p := ⟨b, o + k * 3 + 1, none⟩) hbl).trans a1
      have d2 := (JW.out.cell (p := ⟨b, o + k * 3 + 2, none⟩) hbl).trans a2
      have k1 : (k : Int) < (ps.length : Int) := by omega
      have NS := hideIt (names_succ (d := d) hlt)
      clear a0 a1 a2 hcell
      generalize ps[k] = x at *
      obtain ⟨wx, hwx⟩ : ∃ wx, wx = wr.alloc (.cells #[.int .i64 x.dir, .string x.name, .int .i64 x.child] 140) := ⟨_, rfl⟩
      have BX : Hid (Below wr.heap.size wr wx) := by rw [hwx]; exact (Below.refl _ _).alloc (Nat.le_refl _) _
      have IX := hideIt (I.out.1.below BX.out)
      have hzx : wr.heap.size < wx.heap.size := by rw [hwx]; simp
      have CX : Hid (∀ w', Below wx.heap.size wx w' → w'.cell? ⟨wr.heap.size, 1, none⟩ = some (.string x.name)) := fun w' hb => by
        have : w'.heap[wr.heap.size]? = some (.cells #[.int .i64 x.dir, .string x.name, .int .i64 x.child] 140 (0, 0)) := (hb.block _ hzx).trans (by rw [hwx]; exact at_new rfl)
        exact (three_cells this).2.1
      by_cases c1 : x.child < 0
      · have q1 : decide (x.child < 0) = true := decide_eq_true c1
        have E : Hid (namesD (ps.take (k + 1)) d = namesD (ps.take k) d) := by unfold Hid; rw [NS.out, if_neg (fun h => h.1 c1)]
        go_wp2
        rw [← hwx]
        go_roundw
        case rel => exact ⟨k + 1, by omega, by go_num, ss, (fun e => by cases e), by omega, IX.out, I.out.2.1, by rw [E.out]; exact I.out.2.2⟩
        case measure => simp [intOf]; omega
      have q1 : decide (x.child < 0) = false := decide_eq_false c1
      by_cases c2 : x.dir = d
      case neg =>
        have q2 : (x.dir != d) = true := by rw [bne_iff_ne]; exact c2
        have E : Hid (namesD (ps.take (k + 1)) d = namesD (ps.take k) d) := by unfold Hid; rw [NS.out, if_neg (fun h => c2 h.2)]
        clear c1 c2
        go_wp2
        rw [← hwx]
        go_roundw
        case rel => exact ⟨k + 1, by omega, by go_num, ss, (fun e => by cases e), by omega, IX.out, I.out.2.1, by rw [E.out]; exact I.out.2.2⟩
        case measure => simp [intOf]; omega
      have q2 : (x.dir != d) = false := by rw [c2]; simp
      have E : Hid (namesD (ps.take (k + 1)) d = namesD (ps.take k) d ++ [x.name]) := by unfold Hid; rw [NS.out, if_pos ⟨c1, c2⟩]
      clear c1 c2 NS
      go_wp2
      rw [← hwx]
      clear x1 d0 d1 d2 q1 q2
      have OR := hideIt I.out.2
      clear I
      generalize x.name = nm at *
      clear BX JW
      generalize wr.heap.size = X at *
      go_loopw [8] (fun i wq => ∃ j : Nat, j ≤ ss.length ∧ i = .int .i64 j ∧ Hid (Below wx.heap.size wx wq ∧ ∀ i (h : i < ss.length), j ≤ i → nm.toList < ss[i].toList)) (fun i _ => (intOf i).toNat)
      case atStart => exact ⟨ss.length, Nat.le_refl _, rfl, Below.refl _ _, fun i h1 h2 => absurd h1 (by omega)⟩
      case round =>
        obtain ⟨j, hj, rfl, J⟩ := hrel
        have JI := hideIt (IX.out.below J.out.1)
        have hzy : wx.heap.size ≤ wr.heap.size := J.out.1.size
        have y1 := CX.out wr J.out.1
        rcases Nat.eq_zero_or_pos j with rfl | hjp
        · have g0 : decide (((0 : Nat) : Int) > 0) = false := rfl
          go_wp2_with fail
          go_quiet (fail)
          go_wp2_with fail
          obtain ⟨wy, hwy⟩ : ∃ wy, wy = wr.drewN nq := ⟨_, rfl⟩
          rw [← hwy]
          have BY : Hid (Below wx.heap.size wx wy) := by rw [hwy]; exact below_drewS J.out.1 _
          have OI : Hid (Ord (ss.take 0 ++ [nm] ++ ss.drop 0)) := ord_ins hj OR.out.1 J.out.2 (fun i h1 h2 => absurd h2 (by omega))
          have OP : Hid ((ss.take 0 ++ [nm] ++ ss.drop 0).Perm (namesD (ps.take (k + 1)) d)) := by unfold Hid; rw [E.out]; exact (perm_ins ss nm 0).trans (List.Perm.append_right _ OR.out.2)
          have OL : Hid ((ss.take 0 ++ [nm] ++ ss.drop 0).length ≤ k + 1) := by unfold Hid; simp <;> omega
          have ON : Hid (0 < (ss.take 0 ++ [nm] ++ ss.drop 0).length) := by unfold Hid; simp <;> omega
          have SY := hideIt (IX.out.below BY.out)
          have tl : Hid (0 = (ss.take 0).length) := by unfold Hid; rw [List.length_take]; omega
          have dl : Hid (ss.length - 0 = (ss.drop 0).length) := by unfold Hid; rw [List.length_drop]
          have TK : Hid (∀ w', Below wy.heap.size wy w' → Rd w' 1 (.slice (some ⟨bL, 0, none⟩) 0 cL) 0 (strs (ss.take 0))) := fun w' hb => rdt_take (SY.out.below hb).rd hj
          have DR0 : Hid (∀ w', Below wy.heap.size wy w' → Rd w' 1 (.slice (some ⟨bL, 0 + 0, none⟩) (ss.length - 0) (cL - 0)) (ss.length - 0) (strs (ss.drop 0))) := fun w' hb => rdt_drop (SY.out.below hb).rd hj
          have DR1 : Hid (∀ w', cL = 0 → Rd w' 1 (.slice (some ⟨bL, 0, none⟩) 0 0) 0 (strs (ss.drop 0))) := fun w' e => rdt_none (by omega)
          have KC : Hid (∀ w', Below wy.heap.size wy w' → w'.cell? ⟨X, 1, none⟩ = some (.string nm)) := fun w' hb => CX.out w' (below_trans BY.out hb BY.out.size)
          have z1 := KC.out wy (Below.refl _ _)
          have A1 : Hid (SnI wy (wy.alloc (.cells #[] 9)) (.slice (some ⟨wy.heap.size, 0, none⟩) 0 0) []) := ⟨World.ownsRow_lit wy #[] 0 (Nat.le_refl _) (by simp [maxLen]) (by simp), (Below.refl _ _).alloc (Nat.le_refl _) _⟩
          have A2 := hideIt (A1.out.below ((Below.refl _ _).alloc (Nat.le_refl _) (.cells #[.string nm] 9)))
          have A3 : Hid (SnI wy ((wy.alloc (.cells #[.string nm] 9)).alloc (.cells #[] 9)) (.slice (some ⟨wy.heap.size + 1, 0, none⟩) 0 0) []) := by
            have := World.ownsRow_lit (e := 9) (size := 1) (base := wy.heap.size) (wy.alloc (.cells #[.string nm] 9)) #[] 0 (by simp) (by simp [maxLen]) (by simp)
            rw [World.size_alloc] at this
            exact ⟨this, below_allocN (below_allocN (Below.refl _ _) _) _⟩
          have N2 : Hid (Rd ((wy.alloc (.cells #[] 9)).alloc (.cells #[.string nm] 9)) 1 (.slice (some ⟨wy.heap.size + 1, 0, none⟩) 1 1) 1 (strs [nm])) := by
            have := rd_str (wy.alloc (.cells #[] 9)) nm
            rw [World.size_alloc] at this
            exact this
          have N3 : Hid (Rd ((wy.alloc (.cells #[.string nm] 9)).alloc (.cells #[] 9)) 1 (.slice (some ⟨wy.heap.size, 0, none⟩) 1 1) 1 (strs [nm])) := Rd.alloc (rd_str wy nm) (.cells #[] 9)
          clear hwy J JI
          have WY : Hid (Below W.heap.size W wy) := SY.out.b
          have hzq : W.heap.size ≤ wy.heap.size := WY.out.size
          have jl : (((0 : Nat) : Int) : Int) ≤ (ss.length : Int) := by omega
          have jc : (((0 : Nat) : Int) : Int) ≤ (cL : Int) := by omega
          have j0 : (0 : Int) ≤ (((0 : Nat) : Int) : Int) := by omega
          by_cases cc : cL = 0
          · subst cc
            have DR : Hid (∀ w', Below wy.heap.size wy w' → Rd w' 1 (.slice (some ⟨bL, 0, none⟩) 0 0) 0 (strs (ss.drop 0))) := fun w' _ => DR1.out w' rfl
            have dl0 : Hid (0 = (ss.drop 0).length) := by unfold Hid; rw [List.length_drop]; omega
            go_region_held3 (fun w' => w'.cell? ⟨X, 1, none⟩ = some (.string nm)) (first | exact z1 | exact KC.out _ (by repeat (first | exact BN.out | exact BM.out | exact BO.out | exact Below.refl _ _ | refine below_allocN ?_ _ | refine Below.drew ?_)))
              (first
                | (refine step_append_rd rfl (.tmp 47) (.tmp 50) 27 rfl wy.heap.size 9 (.string ⟨#[]⟩) 1 16 Tryz.underlying27 info9 rfl (by decide) _ _ _ rfl A1.out.l _ 0 _ rfl (TK.out _ (by repeat (first | exact BN.out | exact BM.out | exact BO.out | exact Below.refl _ _ | refine below_allocN ?_ _ | refine Below.drew ?_))) (strs_one _) (by simp [maxLen] <;> omega) (by simp <;> omega) A1.out.z ?_; intro vN wN hownN hgrN; have G := hideIt ((A1.out.below (by repeat (first | exact Below.refl _ _ | refine Below.drew ?_))).grow (ss.take 0) tl.out hownN hgrN); have BN := hideIt G.out.b; have G1 := hideIt (G.out.below ((Below.refl _ _).alloc (Nat.le_refl _) (.cells #[.string nm] 9))); have N1 := hideIt (rd_str wN nm); clear hownN hgrN)
                | (refine step_append_rd rfl (.tmp 47) (.tmp 50) 27 rfl wy.heap.size 9 (.string ⟨#[]⟩) 1 16 Tryz.underlying27 info9 rfl (by decide) _ _ _ rfl A2.out.l _ 0 _ rfl (TK.out _ (by repeat (first | exact BN.out | exact BM.out | exact BO.out | exact Below.refl _ _ | refine below_allocN ?_ _ | refine Below.drew ?_))) (strs_one _) (by simp [maxLen] <;> omega) (by simp <;> omega) A2.out.z ?_; intro vN wN hownN hgrN; have G := hideIt ((A2.out.below (by repeat (first | exact Below.refl _ _ | refine Below.drew ?_))).grow (ss.take 0) tl.out hownN hgrN); have BN := hideIt G.out.b; have G1 := hideIt G.out; have N1 := hideIt (Rd.same N2.out hgrN.size (fun b hb he => hgrN.block b hb (fun e => by have h1 : wy.heap.size + 1 = b := Option.some.inj he; have h2 : b = wy.heap.size := Option.some.inj e; omega))); clear hownN hgrN)
                | (refine step_append_rd rfl (.tmp 47) (.tmp 50) 27 rfl wy.heap.size 9 (.string ⟨#[]⟩) 1 16 Tryz.underlying27 info9 rfl (by decide) _ _ _ rfl A3.out.l _ 0 _ rfl (TK.out _ (by repeat (first | exact BN.out | exact BM.out | exact BO.out | exact Below.refl _ _ | refine below_allocN ?_ _ | refine Below.drew ?_))) (strs_one _) (by simp [maxLen] <;> omega) (by simp <;> omega) A3.out.z ?_; intro vN wN hownN hgrN; have G := hideIt ((A3.out.below (by repeat (first | exact Below.refl _ _ | refine Below.drew ?_))).grow (ss.take 0) tl.out hownN hgrN); have BN := hideIt G.out.b; have G1 := hideIt G.out; have N1 := hideIt (Rd.same N3.out hgrN.size (fun b hb he => hgrN.block b hb (fun e => by have h1 : wy.heap.size = b := Option.some.inj he; have h2 : b = wy.heap.size + 1 := Option.some.inj e; omega))); clear hownN hgrN)
                | (refine step_append_rd rfl (.tmp 51) (.tmp 54) 27 rfl wy.heap.size 9 (.string ⟨#[]⟩) 1 16 Tryz.underlying27 info9 rfl (by decide) _ _ _ rfl G1.out.l _ 1 _ rfl N1.out (strs_one _) (by simp [maxLen] <;> omega) (by simp <;> omega) G1.out.z ?_; intro vM wM hownM hgrM; have G5 := hideIt ((G1.out.below (by repeat (first | exact Below.refl _ _ | refine Below.drew ?_))).grow [nm] rfl hownM hgrM); have BM := hideIt G5.out.b; clear hownM hgrM)
                | (refine step_append_rd rfl (.tmp 55) (.tmp 58) 27 rfl wy.heap.size 9 (.string ⟨#[]⟩) 1 16 Tryz.underlying27 info9 rfl (by decide) _ _ _ rfl G5.out.l _ 0 _ rfl (DR.out _ (below_trans G5.out.b (by repeat (first | exact Below.refl _ _ | refine Below.drew ?_)) G5.out.z)) (strs_one _) (by simp [maxLen] <;> omega) (by simp <;> omega) G5.out.z ?_; intro vO wO hownO hgrO; have G6 := hideIt ((G5.out.below (by repeat (first | exact Below.refl _ _ | refine Below.drew ?_))).grow (ss.drop 0) dl0.out hownO hgrO); have BO := hideIt G6.out.b; clear hownO hgrO))
            all_goals
              go_wp2
              go_roundw
              case rel => exact ⟨k + 1, by omega, by go_num, ss.take 0 ++ [nm] ++ ss.drop 0, (by have := G6.out.some_ (by simp <;> omega); exact this), OL.out, ⟨(own_block G6.out.l).wide hzq (Nat.le_refl _) |>.1, below_trans WY.out G6.out.b WY.out.size⟩, OI.out, OP.out⟩
              case measure => simp [intOf]; omega
          · have DR : Hid (∀ w', Below wy.heap.size wy w' → Rd w' 1 (.slice (some ⟨bL, 0, none⟩) (ss.length - 0) (cL - 0)) (ss.length - 0) (strs (ss.drop 0))) := fun w' hb => by have := DR0.out w' hb; rw [Nat.zero_add] at this; exact this
            go_region_held3 (fun w' => w'.cell? ⟨X, 1, none⟩ = some (.string nm)) (first | exact z1 | exact KC.out _ (by repeat (first | exact BN.out | exact BM.out | exact BO.out | exact Below.refl _ _ | refine below_allocN ?_ _ | refine Below.drew ?_)))
              (first
                | (refine step_append_rd rfl (.tmp 47) (.tmp 50) 27 rfl wy.heap.size 9 (.string ⟨#[]⟩) 1 16 Tryz.underlying27 info9 rfl (by decide) _ _ _ rfl A1.out.l _ 0 _ rfl (TK.out _ (by repeat (first | exact BN.out | exact BM.out | exact BO.out | exact Below.refl _ _ | refine below_allocN ?_ _ | refine Below.drew ?_))) (strs_one _) (by simp [maxLen] <;> omega) (by simp <;> omega) A1.out.z ?_; intro vN wN hownN hgrN; have G := hideIt ((A1.out.below (by repeat (first | exact Below.refl _ _ | refine Below.drew ?_))).grow (ss.take 0) tl.out hownN hgrN); have BN := hideIt G.out.b; have G1 := hideIt (G.out.below ((Below.refl _ _).alloc (Nat.le_refl _) (.cells #[.string nm] 9))); have N1 := hideIt (rd_str wN nm); clear hownN hgrN)
                | (refine step_append_rd rfl (.tmp 47) (.tmp 50) 27 rfl wy.heap.size 9 (.string ⟨#[]⟩) 1 16 Tryz.underlying27 info9 rfl (by decide) _ _ _ rfl A2.out.l _ 0 _ rfl (TK.out _ (by repeat (first | exact BN.out | exact BM.out | exact BO.out | exact Below.refl _ _ | refine below_allocN ?_ _ | refine Below.drew ?_))) (strs_one _) (by simp [maxLen] <;> omega) (by simp <;> omega) A2.out.z ?_; intro vN wN hownN hgrN; have G := hideIt ((A2.out.below (by repeat (first | exact Below.refl _ _ | refine Below.drew ?_))).grow (ss.take 0) tl.out hownN hgrN); have BN := hideIt G.out.b; have G1 := hideIt G.out; have N1 := hideIt (Rd.same N2.out hgrN.size (fun b hb he => hgrN.block b hb (fun e => by have h1 : wy.heap.size + 1 = b := Option.some.inj he; have h2 : b = wy.heap.size := Option.some.inj e; omega))); clear hownN hgrN)
                | (refine step_append_rd rfl (.tmp 47) (.tmp 50) 27 rfl wy.heap.size 9 (.string ⟨#[]⟩) 1 16 Tryz.underlying27 info9 rfl (by decide) _ _ _ rfl A3.out.l _ 0 _ rfl (TK.out _ (by repeat (first | exact BN.out | exact BM.out | exact BO.out | exact Below.refl _ _ | refine below_allocN ?_ _ | refine Below.drew ?_))) (strs_one _) (by simp [maxLen] <;> omega) (by simp <;> omega) A3.out.z ?_; intro vN wN hownN hgrN; have G := hideIt ((A3.out.below (by repeat (first | exact Below.refl _ _ | refine Below.drew ?_))).grow (ss.take 0) tl.out hownN hgrN); have BN := hideIt G.out.b; have G1 := hideIt G.out; have N1 := hideIt (Rd.same N3.out hgrN.size (fun b hb he => hgrN.block b hb (fun e => by have h1 : wy.heap.size = b := Option.some.inj he; have h2 : b = wy.heap.size + 1 := Option.some.inj e; omega))); clear hownN hgrN)
                | (refine step_append_rd rfl (.tmp 51) (.tmp 54) 27 rfl wy.heap.size 9 (.string ⟨#[]⟩) 1 16 Tryz.underlying27 info9 rfl (by decide) _ _ _ rfl G1.out.l _ 1 _ rfl N1.out (strs_one _) (by simp [maxLen] <;> omega) (by simp <;> omega) G1.out.z ?_; intro vM wM hownM hgrM; have G5 := hideIt ((G1.out.below (by repeat (first | exact Below.refl _ _ | refine Below.drew ?_))).grow [nm] rfl hownM hgrM); have BM := hideIt G5.out.b; clear hownM hgrM)
                | (refine step_append_rd rfl (.tmp 55) (.tmp 58) 27 rfl wy.heap.size 9 (.string ⟨#[]⟩) 1 16 Tryz.underlying27 info9 rfl (by decide) _ _ _ rfl G5.out.l _ (ss.length - 0) _ rfl (DR.out _ (below_trans G5.out.b (by repeat (first | exact Below.refl _ _ | refine Below.drew ?_)) G5.out.z)) (strs_one _) (by simp [maxLen] <;> omega) (by simp <;> omega) G5.out.z ?_; intro vO wO hownO hgrO; have G6 := hideIt ((G5.out.below (by repeat (first | exact Below.refl _ _ | refine Below.drew ?_))).grow (ss.drop 0) dl.out hownO hgrO); have BO := hideIt G6.out.b; clear hownO hgrO))
            all_goals
              go_wp2
              go_roundw
              case rel => exact ⟨k + 1, by omega, by go_num, ss.take 0 ++ [nm] ++ ss.drop 0, (by have := G6.out.some_ (by simp <;> omega); exact this), OL.out, ⟨(own_block G6.out.l).wide hzq (Nat.le_refl _) |>.1, below_trans WY.out G6.out.b WY.out.size⟩, OI.out, OP.out⟩
              case measure => simp [intOf]; omega
        obtain ⟨m, rfl⟩ : ∃ m, j = m + 1 := ⟨j - 1, by omega⟩
        obtain ⟨aT, cT, eT, _, hcS⟩ := JI.out.rd.shape
        cases eT
        obtain ⟨b', o', e', _, hcT⟩ := hcS (by omega)
        cases e'
        clear hcS
        have t1 := hcT m (by omega)
        rw [Nat.zero_add] at t1
        have m0 : (0 : Int) ≤ (m : Int) := by omega
        have m1 : (m : Int) < (ss.length : Int) := by omega
        have JN : Hid (nm.toList < ss[m].toList → ∀ i (h : i < ss.length), m ≤ i → nm.toList < ss[i].toList) := fun q i h1 h2 => by
          by_cases e : i = m
          · subst e; exact q
          · exact J.out.2 i h1 (by omega)
        have TC := text_cases ss[m] nm
        clear hcT
        have g0 : decide (((m + 1 : Nat) : Int) > 0) = true := decide_eq_true (by omega)
        have g1 : IntKind.i64.wrap (m : Int) = (m : Int) := by rw [IntKind.wrap_i64]; omega
        have SM : Hid (∀ (q : ss[m].toList ≤ nm.toList) i (h : i < ss.length), i + 1 = m + 1 → ss[i].toList ≤ nm.toList) := fun q i h1 h2 => by
          obtain rfl : i = m := by omega
          exact q
        generalize ss[m] = y at *
        rcases TC with ⟨t2, t3, t4⟩ | TC
        · go_wp2_with fail
          go_quiet (fail)
          go_wp2
          go_roundw
          case rel => exact ⟨m, by omega, by go_num, below_drewS J.out.1 _, JN.out t4⟩
          case measure => simp [intOf]
        rcases TC with ⟨t2, t3, t4⟩ | ⟨t2, t3, t4⟩
        all_goals
          go_wp2_with fail
          go_quiet (fail)
          go_wp2_with fail
          obtain ⟨wy, hwy⟩ : ∃ wy, wy = wr.drewN nq := ⟨_, rfl⟩
          rw [← hwy]
          have BY : Hid (Below wx.heap.size wx wy) := by rw [hwy]; exact below_drewS J.out.1 _
          have OI : Hid (Ord (ss.take (m + 1) ++ [nm] ++ ss.drop (m + 1))) := ord_ins hj OR.out.1 J.out.2 (SM.out t4)
          have OP : Hid ((ss.take (m + 1) ++ [nm] ++ ss.drop (m + 1)).Perm (namesD (ps.take (k + 1)) d)) := by unfold Hid; rw [E.out]; exact (perm_ins ss nm (m + 1)).trans (List.Perm.append_right _ OR.out.2)
          have OL : Hid ((ss.take (m + 1) ++ [nm] ++ ss.drop (m + 1)).length ≤ k + 1) := by unfold Hid; simp <;> omega
          have ON : Hid (0 < (ss.take (m + 1) ++ [nm] ++ ss.drop (m + 1)).length) := by unfold Hid; simp <;> omega
          have SY := hideIt (IX.out.below BY.out)
          have tl : Hid ((m + 1) = (ss.take (m + 1)).length) := by unfold Hid; rw [List.length_take]; omega
          have dl : Hid (ss.length - (m + 1) = (ss.drop (m + 1)).length) := by unfold Hid; rw [List.length_drop]
          have TK : Hid (∀ w', Below wy.heap.size wy w' → Rd w' 1 (.slice (some ⟨bL, 0, none⟩) (m + 1) cL) (m + 1) (strs (ss.take (m + 1)))) := fun w' hb => rdt_take (SY.out.below hb).rd hj
          have DR0 : Hid (∀ w', Below wy.heap.size wy w' → Rd w' 1 (.slice (some ⟨bL, 0 + (m + 1), none⟩) (ss.length - (m + 1)) (cL - (m + 1))) (ss.length - (m + 1)) (strs (ss.drop (m + 1)))) := fun w' hb => rdt_drop (SY.out.below hb).rd hj
          have DR1 : Hid (∀ w', cL = (m + 1) → Rd w' 1 (.slice (some ⟨bL, 0, none⟩) 0 0) 0 (strs (ss.drop (m + 1)))) := fun w' e => rdt_none (by omega)
          have KC : Hid (∀ w', Below wy.heap.size wy w' → w'.cell? ⟨X, 1, none⟩ = some (.string nm)) := fun w' hb => CX.out w' (below_trans BY.out hb BY.out.size)
          have z1 := KC.out wy (Below.refl _ _)
          have A1 : Hid (SnI wy (wy.alloc (.cells #[] 9)) (.slice (some ⟨wy.heap.size, 0, none⟩) 0 0) []) := ⟨World.ownsRow_lit wy #[] 0 (Nat.le_refl _) (by simp [maxLen]) (by simp), (Below.refl _ _).alloc (Nat.le_refl _) _⟩
          have A2 := hideIt (A1.out.below ((Below.refl _ _).alloc (Nat.le_refl _) (.cells #[.string nm] 9)))
          have A3 : Hid (SnI wy ((wy.alloc (.cells #[.string nm] 9)).alloc (.cells #[] 9)) (.slice (some ⟨wy.heap.size + 1, 0, none⟩) 0 0) []) := by
            have := World.ownsRow_lit (e := 9) (size := 1) (base := wy.heap.size) (wy.alloc (.cells #[.string nm] 9)) #[] 0 (by simp) (by simp [maxLen]) (by simp)
            rw [World.size_alloc] at this
            exact ⟨this, below_allocN (below_allocN (Below.refl _ _) _) _⟩
          have N2 : Hid (Rd ((wy.alloc (.cells #[] 9)).alloc (.cells #[.string nm] 9)) 1 (.slice (some ⟨wy.heap.size + 1, 0, none⟩) 1 1) 1 (strs [nm])) := by
            have := rd_str (wy.alloc (.cells #[] 9)) nm
            rw [World.size_alloc] at this
            exact this
          have N3 : Hid (Rd ((wy.alloc (.cells #[.string nm] 9)).alloc (.cells #[] 9)) 1 (.slice (some ⟨wy.heap.size, 0, none⟩) 1 1) 1 (strs [nm])) := Rd.alloc (rd_str wy nm) (.cells #[] 9)
          clear hwy J JI
          have WY : Hid (Below W.heap.size W wy) := SY.out.b
          have hzq : W.heap.size ≤ wy.heap.size := WY.out.size
          have jl : ((m : Int) + 1 : Int) ≤ (ss.length : Int) := by omega
          have jc : ((m : Int) + 1 : Int) ≤ (cL : Int) := by omega
          have j0 : (0 : Int) ≤ ((m : Int) + 1 : Int) := by omega
          by_cases cc : cL = (m + 1)
          · subst cc
            have DR : Hid (∀ w', Below wy.heap.size wy w' → Rd w' 1 (.slice (some ⟨bL, 0, none⟩) 0 0) 0 (strs (ss.drop (m + 1)))) := fun w' _ => DR1.out w' rfl
            have dl0 : Hid (0 = (ss.drop (m + 1)).length) := by unfold Hid; rw [List.length_drop]; omega
            go_region_held3 (fun w' => w'.cell? ⟨X, 1, none⟩ = some (.string nm)) (first | exact z1 | exact KC.out _ (by repeat (first | exact BN.out | exact BM.out | exact BO.out | exact Below.refl _ _ | refine below_allocN ?_ _ | refine Below.drew ?_)))
              (first
                | (refine step_append_rd rfl (.tmp 47) (.tmp 50) 27 rfl wy.heap.size 9 (.string ⟨#[]⟩) 1 16 Tryz.underlying27 info9 rfl (by decide) _ _ _ rfl A1.out.l _ (m + 1) _ rfl (TK.out _ (by repeat (first | exact BN.out | exact BM.out | exact BO.out | exact Below.refl _ _ | refine below_allocN ?_ _ | refine Below.drew ?_))) (strs_one _) (by simp [maxLen] <;> omega) (by simp <;> omega) A1.out.z ?_; intro vN wN hownN hgrN; have G := hideIt ((A1.out.below (by repeat (first | exact Below.refl _ _ | refine Below.drew ?_))).grow (ss.take (m + 1)) tl.out hownN hgrN); have BN := hideIt G.out.b; have G1 := hideIt (G.out.below ((Below.refl _ _).alloc (Nat.le_refl _) (.cells #[.string nm] 9))); have N1 := hideIt (rd_str wN nm); clear hownN hgrN)
                | (refine step_append_rd rfl (.tmp 47) (.tmp 50) 27 rfl wy.heap.size 9 (.string ⟨#[]⟩) 1 16 Tryz.underlying27 info9 rfl (by decide) _ _ _ rfl A2.out.l _ (m + 1) _ rfl (TK.out _ (by repeat (first | exact BN.out | exact BM.out | exact BO.out | exact Below.refl _ _ | refine below_allocN ?_ _ | refine Below.drew ?_))) (strs_one _) (by simp [maxLen] <;> omega) (by simp <;> omega) A2.out.z ?_; intro vN wN hownN hgrN; have G := hideIt ((A2.out.below (by repeat (first | exact Below.refl _ _ | refine Below.drew ?_))).grow (ss.take (m + 1)) tl.out hownN hgrN); have BN := hideIt G.out.b; have G1 := hideIt G.out; have N1 := hideIt (Rd.same N2.out hgrN.size (fun b hb he => hgrN.block b hb (fun e => by have h1 : wy.heap.size + 1 = b := Option.some.inj he; have h2 : b = wy.heap.size := Option.some.inj e; omega))); clear hownN hgrN)
                | (refine step_append_rd rfl (.tmp 47) (.tmp 50) 27 rfl wy.heap.size 9 (.string ⟨#[]⟩) 1 16 Tryz.underlying27 info9 rfl (by decide) _ _ _ rfl A3.out.l _ (m + 1) _ rfl (TK.out _ (by repeat (first | exact BN.out | exact BM.out | exact BO.out | exact Below.refl _ _ | refine below_allocN ?_ _ | refine Below.drew ?_))) (strs_one _) (by simp [maxLen] <;> omega) (by simp <;> omega) A3.out.z ?_; intro vN wN hownN hgrN; have G := hideIt ((A3.out.below (by repeat (first | exact Below.refl _ _ | refine Below.drew ?_))).grow (ss.take (m + 1)) tl.out hownN hgrN); have BN := hideIt G.out.b; have G1 := hideIt G.out; have N1 := hideIt (Rd.same N3.out hgrN.size (fun b hb he => hgrN.block b hb (fun e => by have h1 : wy.heap.size = b := Option.some.inj he; have h2 : b = wy.heap.size + 1 := Option.some.inj e; omega))); clear hownN hgrN)
                | (refine step_append_rd rfl (.tmp 51) (.tmp 54) 27 rfl wy.heap.size 9 (.string ⟨#[]⟩) 1 16 Tryz.underlying27 info9 rfl (by decide) _ _ _ rfl G1.out.l _ 1 _ rfl N1.out (strs_one _) (by simp [maxLen] <;> omega) (by simp <;> omega) G1.out.z ?_; intro vM wM hownM hgrM; have G5 := hideIt ((G1.out.below (by repeat (first | exact Below.refl _ _ | refine Below.drew ?_))).grow [nm] rfl hownM hgrM); have BM := hideIt G5.out.b; clear hownM hgrM)
                | (refine step_append_rd rfl (.tmp 55) (.tmp 58) 27 rfl wy.heap.size 9 (.string ⟨#[]⟩) 1 16 Tryz.underlying27 info9 rfl (by decide) _ _ _ rfl G5.out.l _ 0 _ rfl (DR.out _ (below_trans G5.out.b (by repeat (first | exact Below.refl _ _ | refine Below.drew ?_)) G5.out.z)) (strs_one _) (by simp [maxLen] <;> omega) (by simp <;> omega) G5.out.z ?_; intro vO wO hownO hgrO; have G6 := hideIt ((G5.out.below (by repeat (first | exact Below.refl _ _ | refine Below.drew ?_))).grow (ss.drop (m + 1)) dl0.out hownO hgrO); have BO := hideIt G6.out.b; clear hownO hgrO))
            all_goals
              go_wp2
              go_roundw
              case rel => exact ⟨k + 1, by omega, by go_num, ss.take (m + 1) ++ [nm] ++ ss.drop (m + 1), (by have := G6.out.some_ (by simp <;> omega); exact this), OL.out, ⟨(own_block G6.out.l).wide hzq (Nat.le_refl _) |>.1, below_trans WY.out G6.out.b WY.out.size⟩, OI.out, OP.out⟩
              case measure => simp [intOf]; omega
          · have DR : Hid (∀ w', Below wy.heap.size wy w' → Rd w' 1 (.slice (some ⟨bL, (m + 1), none⟩) (ss.length - (m + 1)) (cL - (m + 1))) (ss.length - (m + 1)) (strs (ss.drop (m + 1)))) := fun w' hb => by have := DR0.out w' hb; rw [Nat.zero_add] at this; exact this
            go_region_held3 (fun w' => w'.cell? ⟨X, 1, none⟩ = some (.string nm)) (first | exact z1 | exact KC.out _ (by repeat (first | exact BN.out | exact BM.out | exact BO.out | exact Below.refl _ _ | refine below_allocN ?_ _ | refine Below.drew ?_)))
              (first
                | (refine step_append_rd rfl (.tmp 47) (.tmp 50) 27 rfl wy.heap.size 9 (.string ⟨#[]⟩) 1 16 Tryz.underlying27 info9 rfl (by decide) _ _ _ rfl A1.out.l _ (m + 1) _ rfl (TK.out _ (by repeat (first | exact BN.out | exact BM.out | exact BO.out | exact Below.refl _ _ | refine below_allocN ?_ _ | refine Below.drew ?_))) (strs_one _) (by simp [maxLen] <;> omega) (by simp <;> omega) A1.out.z ?_; intro vN wN hownN hgrN; have G := hideIt ((A1.out.below (by repeat (first | exact Below.refl _ _ | refine Below.drew ?_))).grow (ss.take (m + 1)) tl.out hownN hgrN); have BN := hideIt G.out.b; have G1 := hideIt (G.out.below ((Below.refl _ _).alloc (Nat.le_refl _) (.cells #[.string nm] 9))); have N1 := hideIt (rd_str wN nm); clear hownN hgrN)
                | (refine step_append_rd rfl (.tmp 47) (.tmp 50) 27 rfl wy.heap.size 9 (.string ⟨#[]⟩) 1 16 Tryz.underlying27 info9 rfl (by decide) _ _ _ rfl A2.out.l _ (m + 1) _ rfl (TK.out _ (by repeat (first | exact BN.out | exact BM.out | exact BO.out | exact Below.refl _ _ | refine below_allocN ?_ _ | refine Below.drew ?_))) (strs_one _) (by simp [maxLen] <;> omega) (by simp <;> omega) A2.out.z ?_; intro vN wN hownN hgrN; have G := hideIt ((A2.out.below (by repeat (first | exact Below.refl _ _ | refine Below.drew ?_))).grow (ss.take (m + 1)) tl.out hownN hgrN); have BN := hideIt G.out.b; have G1 := hideIt G.out; have N1 := hideIt (Rd.same N2.out hgrN.size (fun b hb he => hgrN.block b hb (fun e => by have h1 : wy.heap.size + 1 = b := Option.some.inj he; have h2 : b = wy.heap.size := Option.some.inj e; omega))); clear hownN hgrN)
                | (refine step_append_rd rfl (.tmp 47) (.tmp 50) 27 rfl wy.heap.size 9 (.string ⟨#[]⟩) 1 16 Tryz.underlying27 info9 rfl (by decide) _ _ _ rfl A3.out.l _ (m + 1) _ rfl (TK.out _ (by repeat (first | exact BN.out | exact BM.out | exact BO.out | exact Below.refl _ _ | refine below_allocN ?_ _ | refine Below.drew ?_))) (strs_one _) (by simp [maxLen] <;> omega) (by simp <;> omega) A3.out.z ?_; intro vN wN hownN hgrN; have G := hideIt ((A3.out.below (by repeat (first | exact Below.refl _ _ | refine Below.drew ?_))).grow (ss.take (m + 1)) tl.out hownN hgrN); have BN := hideIt G.out.b; have G1 := hideIt G.out; have N1 := hideIt (Rd.same N3.out hgrN.size (fun b hb he => hgrN.block b hb (fun e => by have h1 : wy.heap.size = b := Option.some.inj he; have h2 : b = wy.heap.size + 1 := Option.some.inj e; omega))); clear hownN hgrN)
                | (refine step_append_rd rfl (.tmp 51) (.tmp 54) 27 rfl wy.heap.size 9 (.string ⟨#[]⟩) 1 16 Tryz.underlying27 info9 rfl (by decide) _ _ _ rfl G1.out.l _ 1 _ rfl N1.out (strs_one _) (by simp [maxLen] <;> omega) (by simp <;> omega) G1.out.z ?_; intro vM wM hownM hgrM; have G5 := hideIt ((G1.out.below (by repeat (first | exact Below.refl _ _ | refine Below.drew ?_))).grow [nm] rfl hownM hgrM); have BM := hideIt G5.out.b; clear hownM hgrM)
                | (refine step_append_rd rfl (.tmp 55) (.tmp 58) 27 rfl wy.heap.size 9 (.string ⟨#[]⟩) 1 16 Tryz.underlying27 info9 rfl (by decide) _ _ _ rfl G5.out.l _ (ss.length - (m + 1)) _ rfl (DR.out _ (below_trans G5.out.b (by repeat (first | exact Below.refl _ _ | refine Below.drew ?_)) G5.out.z)) (strs_one _) (by simp [maxLen] <;> omega) (by simp <;> omega) G5.out.z ?_; intro vO wO hownO hgrO; have G6 := hideIt ((G5.out.below (by repeat (first | exact Below.refl _ _ | refine Below.drew ?_))).grow (ss.drop (m + 1)) dl.out hownO hgrO); have BO := hideIt G6.out.b; clear hownO hgrO))
            all_goals
              go_wp2
              go_roundw
              case rel => exact ⟨k + 1, by omega, by go_num, ss.take (m + 1) ++ [nm] ++ ss.drop (m + 1), (by have := G6.out.some_ (by simp <;> omega); exact this), OL.out, ⟨(own_block G6.out.l).wide hzq (Nat.le_refl _) |>.1, below_trans WY.out G6.out.b WY.out.size⟩, OI.out, OP.out⟩
              case measure => simp [intOf]; omega
    · obtain rfl : k = ps.length := by omega
      have E : Hid (ss = sorted (namesD ps d)) := by
        have := I.out.2.2
        rw [List.take_length] at this
        exact ord_sorted I.out.2.1 this
      have F := hideIt I.out.1
      clear I
      have k1 : ¬ ((ps.length : Nat) : Int) < ((ps.length : Nat) : Int) := by omega
      go_wp2
      go_ret
      refine ⟨_, rfl, ?_, below_trans BW.out F.out.b hz⟩
      rw [← E.out]
      exact (own_block F.out.l).wide hz (Nat.le_refl _)
end Go.Proofs.YtmeiionabonhnaaGreatDoor
namespace Go.Proofs.YtmeiionabonhnaaGreatDoor
open Go.RowKit
theorem img_ents {ws : List Ino} {ps : List Den} (h : imgB ws ps = true) : okDs ps = true := by
  unfold imgB at h
  simp only [Bool.and_eq_true] at h
  exact ents_ok h.2.2.2.2.1
def dirN (ts : List Den) (d : Int) : List ByteArray := (ts.filter fun x => x.dir == d).map Den.name
theorem dirN_names {ps : List Den} (h : okDs ps = true) (d : Int) : dirN (takenD ps) d = namesD ps d := by
  unfold dirN takenD namesD
  rw [List.filter_filter]
  congr 1
  apply List.filter_congr
  intro x hx
  obtain ⟨i, hi, rfl⟩ := List.getElem_of_mem hx
  unfold okDs at h
  have ho := of_decide_eq_true h i hi
  have hf := ok_free ho
  have hc : ps[i].child < 0 ↔ ps[i].child = -1 := by
    unfold Den.okB at ho
    rw [Bool.or_eq_true] at ho
    rcases ho with ho | ho
    · have := hf.1 ho; omega
    · simp only [Bool.and_eq_true, decide_eq_true_eq] at ho; omega
  by_cases a : ps[i].freeB = true
  · rw [a]
    have := hf.1 a
    rw [decide_eq_false (fun q => q.1 (by omega))]
    simp
  · have b : ¬ ps[i].child = -1 := fun q => a (hf.2 q)
    rw [Bool.not_eq_true] at a
    rw [a]
    by_cases c : ps[i].dir = d
    · rw [decide_eq_true ⟨fun q => b (hc.1 q), c⟩, c]; simp
    · rw [decide_eq_false (fun q => c q.2)]; simp [c]
theorem row_none9 (w : World) : Row (w.alloc (.cells #[] 9)) 9 1 w.heap.size (w.alloc (.cells #[] 9)).heap.size (.slice (some ⟨w.heap.size, 0, none⟩) 0 0) 0 [] :=
  own_block (World.ownsRow_lit w #[] 0 (Nat.le_refl _) (by simp [maxLen]) (by simp))
end Go.Proofs.YtmeiionabonhnaaGreatDoor
