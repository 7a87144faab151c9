/- Several texts laid together: RdF, StS, StO, NdB, DevI, SameI, FreeM. -/
import Derived.Test.YtlgghookekokaaaGreatDoorYB
namespace Go.Proofs.YtlgghookekokaaaGreatDoor
open Go.RowKit

theorem own_form {w : World} {base : Nat} {e : TypeId} {size : Nat} {v : Value} {n : Nat} {xs : List Value} (h : w.ownsRow base e size v n xs) (hn : 0 < n) : ∃ b c, v = .slice (some ⟨b, 0, none⟩) n c ∧ n ≤ c := by
  rcases (own_block h).shape with ⟨_, e, _⟩ | ⟨b, c, rfl, hc, _⟩
  · omega
  · exact ⟨b, c, rfl, hc⟩
theorem denZ_of (ls : List Int) (k : Nat) : denZ (wdI ls (240 + 3 * (k : Int))) (wdI ls (240 + 3 * (k : Int) + 1)) (wdI ls (240 + 3 * (k : Int) + 2)) = denOf ls k ∧ denZok (wdI ls (240 + 3 * (k : Int))) (wdI ls (240 + 3 * (k : Int) + 1)) (wdI ls (240 + 3 * (k : Int) + 2)) = denGood ls k := ⟨rfl, rfl⟩
theorem wd_at (ls : List Int) (n j : Nat) (h : n + j < ls.length) : ls[n + j] = wdI ls ((n : Int) + (j : Int)) := by
  have := wdI_of h
  rw [← this]
  congr 1
theorem ino_at (ls : List Int) (i : Nat) (hi : i < 16) (hl : ls.length = 336) (j : Nat) (hj : j < 11) : (ints ls)[48 + 12 * i + j]? = (inoOf ls i).cs[j]? := by
  rw [ints_at ls (48 + 12 * i + j) (by omega), wd_at ls (48 + 12 * i) j (by omega), show (((48 + 12 * i : Nat) : Int) + (j : Int)) = 48 + 12 * (i : Int) + (j : Int) by omega]
  rcases (show j = 0 ∨ j = 1 ∨ j = 2 ∨ j = 3 ∨ j = 4 ∨ j = 5 ∨ j = 6 ∨ j = 7 ∨ j = 8 ∨ j = 9 ∨ j = 10 by omega) with rfl | rfl | rfl | rfl | rfl | rfl | rfl | rfl | rfl | rfl | rfl
  · simp [inoOf, Ino.cs]
  all_goals rfl

set_option maxRecDepth 100000 in
set_option maxHeartbeats 4000000 in
theorem implReadImage_any (v : Value) (ws : List Int) (ps : List St) (w : World) (h : RdPm w v ws ps) (hw : ws.length ≤ 1048576) (hp : ps.length ≤ 1048576) (hT : TS w) (hE : ED w) (hF : FD w) :
    Calls Tryz.prog 16 #[v] w fun e w' => ∃ v', e = .returned (.tuple #[v', .int .i64 (riC ws ps)]) ∧ RowIm w' w.heap.size w'.heap.size v' (riN ws ps) (riD ws ps) ∧ Below w.heap.size w w' := by
  have HR := hideIt h
  have LS := hideIt (fun w1 h => implPmSeen_any v ws ps w1 h hw hp)
  have T := hideIt hT
  have E := hideIt hE
  have F := hideIt hF
  obtain ⟨vW, vP, rfl, h1, h2⟩ := h
  obtain ⟨aW, cW, rfl, _, _⟩ := h1.shape
  obtain ⟨aP, cP, rfl, _, _⟩ := h2.shape
  clear h1 h2 hT hE hF
  obtain ⟨W1, hW1⟩ : ∃ W1, W1 = (w.alloc (.cells #[.slice aW ws.length cW, .slice aP ps.length cP] 31)).alloc (.cells #[.slice none 0 0, .slice none 0 0] 26) := ⟨_, rfl⟩
  have hz1 : W1.heap.size = w.heap.size + 1 + 1 := by rw [hW1]; simp
  have CA : Hid (∀ w', Below W1.heap.size W1 w' → w'.cell? ⟨w.heap.size, 0, none⟩ = some (.slice aW ws.length cW) ∧ w'.cell? ⟨w.heap.size, 1, none⟩ = some (.slice aP ps.length cP)) := fun w' hb => by
    have : w'.heap[w.heap.size]? = some (.cells #[.slice aW ws.length cW, .slice aP ps.length cP] 31 (0, 0)) := (hb.block _ (by omega)).trans (by rw [hW1]; exact at_old (at_new rfl))
    exact ⟨(two_cells this).1, (two_cells this).2.1⟩
  have CR : Hid (∀ w', Below W1.heap.size W1 w' → w'.heap[w.heap.size + 1]? = some (.cells #[.slice none 0 0, .slice none 0 0] 26 (0, 0))) := fun w' hb => (hb.block _ (by omega)).trans (by
    rw [hW1]
    have := at_new (w := w.alloc (.cells #[.slice aW ws.length cW, .slice aP ps.length cP] 31)) (o := .cells #[.slice none 0 0, .slice none 0 0] 26) rfl
    rw [World.size_alloc] at this
    exact this)
  have BW : Hid (Below w.heap.size w W1) := by rw [hW1]; exact ((Below.refl _ _).alloc (Nat.le_refl _) _).alloc (by simp) _
  have hz0 : w.heap.size + 1 < W1.heap.size := by omega
  clear hz1
  obtain ⟨x0, x1⟩ := CA.out W1 (Below.refl _ _)
  cases c1 : pmB ws ps with
  | false =>
    obtain ⟨E1, E2, E3⟩ := ri_not c1
    obtain ⟨S1, S2⟩ := seen_not c1
    rw [S1, S2] at LS
    rw [E1, E2, E3]
    clear c1 E1 E2 E3 S1 S2
    go_enter Tryz.func16, Tryz.ntmps16
    go_wp2_with fail
    rw [← hW1]
    clear hW1
    refine (LS.out _ (HR.out.below BW.out)).mono ?_
    rintro e w1 ⟨v1, rfl, _, hb1⟩
    have B1 := hideIt hb1
    clear x0 x1 hb1
    have CB := hideIt (CR.out _ B1.out)
    obtain ⟨p0, p1, p2, p3⟩ := two_cells CB.out
    have BR : Hid (Below w.heap.size w ((w1.setCell ⟨w.heap.size + 1, 0, none⟩ (.slice none 0 0)).setCell ⟨w.heap.size + 1, 1, none⟩ (.slice none 0 0))) := ((below_trans BW.out B1.out BW.out.size).setCell (by simp only; omega) _).setCell (by simp only; omega) _
    go_wp2
    refine bodyPost_ret (v := .tuple #[.agg #[.slice none 0 0, .slice none 0 0], .int .i64 1]) (by simp [results, Tryz.results16, go_sem, p0, p1]) rfl ?_
    exact ⟨_, rfl, rowim_nil _ _ _, BR.out⟩
  | true =>
  have C1 := hideIt c1
  obtain ⟨S1, S2⟩ := seen_ok c1
  rw [S1, S2] at LS
  have L336 := hideIt (show (layW ws ps).length = 336 by rw [layW_len]; exact (pmB_len c1).1)
  have WR := hideIt (fun z => wdI_range c1 z)
  have NO := hideIt (fun q => ri_form C1.out q)
  have YES := hideIt (fun q => ri_ok C1.out q)
  have RB := hideIt (show riB (layW ws ps) = (wdI (layW ws ps) 0 == 7 && (allGood (layW ws ps) 24 && imgB (inosOf (layW ws ps) 16) (densOf (layW ws ps) 24))) from rfl)
  have LI := hideIt (fun v w1 h hT hE hF => implImageOK_any v (inosOf (layW ws ps) 16) (densOf (layW ws ps) 24) w1 h (by rw [inosOf_len]; omega) (by rw [densOf_len]; omega) hT hE hF (inosOf_R C1.out 16) (densOf_name _ 24))
  clear c1 S1 S2
  generalize riC ws ps = rc at *
  generalize riN ws ps = rn at *
  generalize riD ws ps = rd at *
  generalize layW ws ps = ls at *
  go_enter Tryz.func16, Tryz.ntmps16
  go_wp2_with fail
  rw [← hW1]
  clear hW1
  refine (LS.out _ (HR.out.below BW.out)).mono ?_
  rintro e w1 ⟨v1, rfl, hr1, hb1⟩
  have B1 := hideIt hb1
  have hzz : W1.heap.size ≤ w1.heap.size := hb1.size
  obtain ⟨b, c, rfl, hcap⟩ := own_form hr1.1 (by have := L336.out; omega)
  obtain ⟨_, _, _, hbl, _, hcl⟩ := hr1.at
  have HC : Hid (∀ w', Below w1.heap.size w1 w' → ∀ j, j < 336 → w'.cell? ⟨b, j, none⟩ = (ints ls)[j]?) := fun w' hb j hj => (hb.cell (p := ⟨b, j, none⟩) hbl).trans (hcl j (by have := L336.out; omega))
  have c336 : 336 ≤ c := by have := L336.out; omega
  simp only [L336.out]
  clear hr1 hb1 hcl hcap x0 x1 LS
  have START : Hid (RimI w1 (w1.alloc (.cells #[.slice none 0 0, .slice none 0 0] 26)) w1.heap.size (.slice none 0 0) (.slice none 0 0) (inosOf ls 0) []) := ⟨at_new rfl, World.ownsRow_nil _ _ _ _, World.ownsRow_nil _ _ _ _, (Below.refl _ _).alloc (Nat.le_refl _) _, Nat.le_refl _⟩
  go_wp2_with fail
  go_loopg [20] 16 (fun g i wr => ∃ k : Nat, k + g = 16 ∧ i = .int .i64 k ∧ Hid (∃ vI vD, RimI w1 wr w1.heap.size vI vD (inosOf ls k) []))
  case atStart => exact ⟨0, rfl, rfl, _, _, START.out⟩
  case round =>
    obtain ⟨k, hk, rfl, J⟩ := hrel
    obtain ⟨vI, vD, I⟩ := J.out
    have I := hideIt I
    have k0 : (0 : Int) ≤ (k : Int) := by omega
    clear J START
    by_cases hlt : k < 16
    · have k1 : (k : Int) < 16 := by omega
      obtain ⟨n, hn⟩ : ∃ n : Nat, n = 48 + 12 * k := ⟨_, rfl⟩
      have wm : IntKind.i64.wrap (12 * (k : Int)) = 12 * (k : Int) := by rw [IntKind.wrap_i64]; omega
      have wa : IntKind.i64.wrap (48 + 12 * (k : Int)) = (n : Int) := by rw [IntKind.wrap_i64]; omega
      have a0 : (0 : Int) ≤ (n : Int) := by omega
      have a1 : (n : Int) ≤ 336 := by omega
      have a2 : (n : Int) ≤ (c : Int) := by omega
      have a3 : ¬ c = n := by omega
      have LRI := hideIt (fun w2 (hb : Below wr.heap.size wr w2) => readInode_any b n (336 - n) (c - n) (inoOf ls k) w2 (by omega) (by omega) (Nat.lt_of_lt_of_le hbl (below_trans I.out.b hb I.out.z).size) (fun j hj => by
        have := HC.out w2 (below_trans I.out.b hb I.out.z) (n + j) (by omega)
        rw [this, hn]
        exact ino_at ls k hlt L336.out j hj))
      have MN := hideIt (inosOf_succ ls k)
      have ML := inosOf_len ls k
      unfold Ino.v at LRI
      clear hn
      generalize inoOf ls k = x at *
      obtain ⟨m0, m1, _, _⟩ := two_cells I.out.m
      have hzI := I.out.z
      go_wp2_with fail
      go_region_law (first
          | (go_simp; go_at_call 64; refine (LRI.out _ (by repeat (first | with_reducible exact BF.out | with_reducible exact Below.refl _ _ | with_reducible refine Below.drew ?_))).mono ?_; rintro e w2 ⟨rfl, hb2⟩; have BF : Hid (Below wr.heap.size wr w2) := bel2 (by repeat (first | with_reducible exact BF.out | with_reducible exact Below.refl _ _ | with_reducible refine Below.drew ?_)) hb2; clear hb2; have IA := hideIt ((I.out.below BF.out).below ((Below.refl _ _).alloc (Nat.le_refl _) (.cells #[.int .i64 x.kind, .int .i64 x.size, .int .i64 x.links, .int .i64 x.m0, .int .i64 x.m1, .int .i64 x.m2, .int .i64 x.m3, .int .i64 x.m4, .int .i64 x.m5, .int .i64 x.m6, .int .i64 x.m7] 44))); have RX := hideIt (rd_ino w2 x); obtain ⟨e0, e1, _, _⟩ := two_cells (I.out.below BF.out).m; obtain ⟨f0, f1, _, _⟩ := two_cells IA.out.m)
          | (refine step_append_rd rfl (.tmp 24) (.tmp 31) 23 rfl w1.heap.size 44 (.agg #[.int .i64 0, .int .i64 0, .int .i64 0, .int .i64 0, .int .i64 0, .int .i64 0, .int .i64 0, .int .i64 0, .int .i64 0, .int .i64 0, .int .i64 0]) 11 88 Tryz.underlying23 infoIno rfl (by decide) _ _ _ rfl IA.out.i _ 1 _ rfl RX.out (inos_ones _) (by simp [maxLen]; omega) (by omega) IA.out.z ?_; intro vN wN hownN hgrN; obtain ⟨bN, cN, rfl, _⟩ := own_form hownN (by omega); have GG := hideIt (IA.out.growI x hownN hgrN); obtain ⟨g0, g1, g2, g3⟩ := two_cells GG.out.1; clear hownN hgrN))
      all_goals
        have G := hideIt GG.out.2
        rw [← MN.out] at G
        simp only [inosOf_len] at G
        go_wp2
        go_roundg (16 - (k + 1))
        case measure => omega
        case rel => exact ⟨k + 1, by omega, by go_num, _, _, G.out⟩
    · obtain rfl : k = 16 := by omega
      have SE : Hid (∃ vI vD, RimI w1 wr w1.heap.size vI vD (inosOf ls 16) (densOf ls 0)) := ⟨vI, vD, I.out⟩
      have AG0 : Hid (∀ j, j < 0 → denGood ls j = true) := fun j h => absurd h (by omega)
      have BB := hideIt (below_trans BW.out B1.out BW.out.size)
      clear I
      go_wp2_with fail
      go_loopg [35] 24 (fun g i wq => ∃ k : Nat, k + g = 24 ∧ i = .int .i64 k ∧ Hid ((∃ vI vD, RimI w1 wq w1.heap.size vI vD (inosOf ls 16) (densOf ls k)) ∧ ∀ j, j < k → denGood ls j = true))
      case atStart => exact ⟨0, rfl, rfl, SE.out, AG0.out⟩
      case round =>
        obtain ⟨k, hk, rfl, J⟩ := hrel
        obtain ⟨vI, vD, I⟩ := J.out.1
        have I := hideIt I
        have AG := hideIt J.out.2
        have k0 : (0 : Int) ≤ (k : Int) := by omega
        clear J SE AG0
        by_cases hlt : k < 24
        · have k1 : (k : Int) < 24 := by omega
          obtain ⟨n, hn⟩ : ∃ n : Nat, n = 240 + 3 * k := ⟨_, rfl⟩
          have wm : IntKind.i64.wrap (3 * (k : Int)) = 3 * (k : Int) := by rw [IntKind.wrap_i64]; omega
          have wa : IntKind.i64.wrap (240 + 3 * (k : Int)) = (n : Int) := by rw [IntKind.wrap_i64]; omega
          have a0 : (0 : Int) ≤ (n : Int) := by omega
          have a1 : (n : Int) ≤ 336 := by omega
          have a2 : (n : Int) ≤ (c : Int) := by omega
          have a3 : ¬ c = n := by omega
          have r1 := WR.out (240 + 3 * (k : Int) + 1)
          have r2 := WR.out (240 + 3 * (k : Int) + 2)
          have HX : Hid (∀ w2, Below wr.heap.size wr w2 → ∀ j : Nat, j < 3 → w2.cell? ⟨b, n + j, none⟩ = some (.int .i64 (wdI ls (240 + 3 * (k : Int) + (j : Int))))) := fun w2 hb j hj => by
            rw [HC.out w2 (below_trans I.out.b hb I.out.z) (n + j) (by omega), ints_at ls (n + j) (by have := L336.out; omega), wd_at ls n j (by have := L336.out; omega), show ((n : Int) + (j : Int)) = 240 + 3 * (k : Int) + (j : Int) by omega]
          have LRD := hideIt (fun w2 (hb : Below wr.heap.size wr w2) => readDirent_any b n (336 - n) (c - n) (wdI ls (240 + 3 * (k : Int))) (wdI ls (240 + 3 * (k : Int) + 1)) (wdI ls (240 + 3 * (k : Int) + 2)) w2 (by omega) (by omega) (Nat.lt_of_lt_of_le hbl (below_trans I.out.b hb I.out.z).size) (by have := HX.out w2 hb 0 (by omega); simpa using this) (by have := HX.out w2 hb 1 (by omega); simpa using this) (by have := HX.out w2 hb 2 (by omega); simpa using this) (F.out.below (below_trans BB.out (below_trans I.out.b hb I.out.z) BB.out.size)) (by omega) (by omega))
          simp only [(denZ_of ls k).1, (denZ_of ls k).2] at LRD
          have AGN : Hid (denGood ls k = true → ∀ j, j < k + 1 → denGood ls j = true) := fun q j h => by
            by_cases e : j = k
            · subst e; exact q
            · exact AG.out j (by omega)
          have MN := hideIt (densOf_succ ls k)
          have ML := densOf_len ls k
          have GF : Hid (denGood ls k = false → allGood ls 24 = false) := fun q => allGood_no (n := 24) hlt q
          clear hn HX r1 r2
          generalize denOf ls k = x at *
          generalize denGood ls k = gd at *
          go_wp2_with fail
          refine (LRD.out _ (Below.refl _ _)).mono ?_
          rintro e w2 ⟨⟨s, rfl, hs⟩, hb2⟩
          have B2 := hideIt hb2
          clear LRD hb2
          have B3 := hideIt (below_allocB B2.out (.cells #[.int .i64 x.dir, .string s, .int .i64 x.child] 50))
          have hz2 : wr.heap.size ≤ w2.heap.size := B2.out.size
          have hz3 : w1.heap.size ≤ wr.heap.size := I.out.z
          cases gd with
          | false =>
            clear hs AGN MN ML
            have CB := hideIt (CR.out _ (bel2 B1.out (below_trans I.out.b B3.out I.out.z)))
            obtain ⟨p0, p1, p2, p3⟩ := two_cells CB.out
            have EE := hideIt (NO.out (by rw [RB.out, GF.out rfl]; simp))
            have BR : Hid (Below w.heap.size w (((w2.alloc (.cells #[.int .i64 x.dir, .string s, .int .i64 x.child] 50)).setCell ⟨w.heap.size + 1, 0, none⟩ (.slice none 0 0)).setCell ⟨w.heap.size + 1, 1, none⟩ (.slice none 0 0))) := ((below_trans BB.out (below_trans I.out.b B3.out I.out.z) BB.out.size).setCell (by simp only; omega) _).setCell (by simp only; omega) _
            go_wp2
            refine bodyPost_ret (v := .tuple #[.agg #[.slice none 0 0, .slice none 0 0], .int .i64 3]) (by simp [results, Tryz.results16, go_sem, p0, p1]) rfl ?_
            obtain ⟨E1, E2, E3⟩ := EE.out
            rw [E1, E2, E3]
            exact ⟨_, rfl, rowim_nil _ _ _, BR.out⟩
          | true =>
            obtain rfl := hs rfl
            have AG2 := hideIt (AGN.out rfl)
            clear hs GF AGN
            have XB : Hid (BoxZ 50 wr (w2.alloc (.cells #[.int .i64 x.dir, .string x.name, .int .i64 x.child] 50)) w2.heap.size [.int .i64 x.dir, .string x.name, .int .i64 x.child]) := BoxZ.new B2.out
            have e0 := (XB.out.cell 0).1
            have e1 := (XB.out.cell 1).1
            have e2 := (XB.out.cell 2).1
            simp only [List.getElem?_cons_zero, List.getElem?_cons_succ] at e0 e1 e2
            have IR := hideIt (I.out.below B3.out)
            obtain ⟨n0, n1, _, _⟩ := two_cells IR.out.m
            have IA := hideIt (IR.out.below ((Below.refl _ _).alloc (Nat.le_refl _) (.cells #[.int .i64 x.dir, .string x.name, .int .i64 x.child] 50)))
            have RX := hideIt (rd_den (w2.alloc (.cells #[.int .i64 x.dir, .string x.name, .int .i64 x.child] 50)) x)
            simp only [World.size_alloc] at RX
            have hzA := IA.out.z
            simp only [World.size_alloc] at hzA
            go_wp2_with (at_builtin; refine wpList_append_rd _ rfl (.tmp 51) (.tmp 53) 24 rfl w1.heap.size 50 (.agg #[.int .i64 0, .string ⟨#[]⟩, .int .i64 0]) 3 32 Tryz.underlying24 infoDen rfl (by decide) _ _ _ rfl IA.out.d _ 1 _ rfl RX.out (dens_ones _) (by simp [maxLen]; omega) (by omega) IA.out.z ?_)
            intro vN wN hownN hgrN
            obtain ⟨bN, cN, rfl, _⟩ := own_form hownN (by omega)
            obtain ⟨g1, g2⟩ := IA.out.growD x (by rw [densOf_len]; exact hownN) hgrN
            have G := hideIt g2
            rw [← MN.out] at G
            clear n0 n1 g2 IA RX hownN hgrN ML MN
            obtain ⟨n0, n1, n2, n3⟩ := two_cells g1
            clear g1
            go_wp2
            go_roundg (24 - (k + 1))
            case measure => omega
            case rel => exact ⟨k + 1, by omega, by go_num, ⟨_, _, G.out⟩, AG2.out⟩
        · obtain rfl : k = 24 := by omega
          have EB := hideIt (allGood_yes (ls := ls) (n := 24) AG.out)
          rw [EB.out, Bool.true_and] at RB
          rcases (own_block I.out.i).shape with ⟨_, e, _⟩ | ⟨b1, c1, rfl, _, _⟩
          · rw [inosOf_len] at e; omega
          rcases (own_block I.out.d).shape with ⟨_, e, _⟩ | ⟨b2, c2, rfl, _, _⟩
          · rw [densOf_len] at e; omega
          simp only [inosOf_len, densOf_len] at I
          have R0 : Hid (RowIm wr w1.heap.size wr.heap.size (.agg #[.slice (some ⟨b1, 0, none⟩) 16 c1, .slice (some ⟨b2, 0, none⟩) 24 c2]) (inosOf ls 16) (densOf ls 24)) := ⟨_, _, rfl, own_block I.out.i, own_block I.out.d⟩
          obtain ⟨n0, n1, _, _⟩ := two_cells I.out.m
          have hzr : w1.heap.size ≤ wr.heap.size := I.out.z
          have BWr := hideIt (below_trans BB.out I.out.b BB.out.size)
          have CB := hideIt (CR.out _ (bel2 B1.out I.out.b))
          have IM := hideIt I.out.m
          have IL := I.out.lt
          have h0 : wr.cell? ⟨b, 0, none⟩ = some (.int .i64 (wdI ls 0)) := by
            rw [HC.out wr I.out.b 0 (by omega), ints_at ls 0 (by have := L336.out; omega), wd_at ls 0 0 (by have := L336.out; omega)]
            rfl
          clear AG EB I HC WR
          by_cases z : wdI ls 0 = 7
          case neg =>
            have q : (wdI ls 0 != 7) = true := by rw [bne_iff_ne]; exact z
            have EE := hideIt (NO.out (by rw [RB.out, show (wdI ls 0 == 7) = false by rw [beq_eq_false_iff_ne]; exact z]; simp))
            obtain ⟨p0, p1, p2, p3⟩ := two_cells CB.out
            have BR : Hid (Below w.heap.size w ((wr.setCell ⟨w.heap.size + 1, 0, none⟩ (.slice none 0 0)).setCell ⟨w.heap.size + 1, 1, none⟩ (.slice none 0 0))) := (BWr.out.setCell (by simp only; omega) _).setCell (by simp only; omega) _
            clear z
            go_wp2
            refine bodyPost_ret (v := .tuple #[.agg #[.slice none 0 0, .slice none 0 0], .int .i64 3]) (by simp [results, Tryz.results16, go_sem, p0, p1]) rfl ?_
            obtain ⟨E1, E2, E3⟩ := EE.out
            rw [E1, E2, E3]
            exact ⟨_, rfl, rowim_nil _ _ _, BR.out⟩
          have q : (wdI ls 0 != 7) = false := by rw [z]; rfl
          rw [z] at RB
          have LI2 := hideIt (LI.out _ wr R0.out.rd (T.out.below BWr.out) (E.out.below BWr.out) (F.out.below BWr.out))
          clear LI
          generalize imgB (inosOf ls 16) (densOf ls 24) = ib at *
          rw [z] at h0
          clear z q
          go_wp2_with fail
          refine LI2.out.mono ?_
          rintro e w5 ⟨rfl, hb5⟩
          have hz5 : wr.heap.size ≤ w5.heap.size := hb5.size
          have B5 := hideIt (below_trans BWr.out hb5 BWr.out.size)
          have R5 := hideIt (R0.out.below hb5 (Nat.le_refl _))
          have CB5 := hideIt ((hb5.block _ (by omega)).trans CB.out)
          have IM5 := hideIt ((hb5.block _ IL).trans IM.out)
          clear n0 n1 h0 hb5 R0 CB IM LI2
          obtain ⟨n0, n1, _, _⟩ := two_cells IM5.out
          obtain ⟨p0, p1, p2, p3⟩ := two_cells CB5.out
          cases ib with
          | false =>
            have EE := hideIt (NO.out (by rw [RB.out]; rfl))
            have BR : Hid (Below w.heap.size w ((w5.setCell ⟨w.heap.size + 1, 0, none⟩ (.slice none 0 0)).setCell ⟨w.heap.size + 1, 1, none⟩ (.slice none 0 0))) := (B5.out.setCell (by simp only; omega) _).setCell (by simp only; omega) _
            go_wp2
            refine bodyPost_ret (v := .tuple #[.agg #[.slice none 0 0, .slice none 0 0], .int .i64 3]) (by simp [results, Tryz.results16, go_sem, p0, p1]) rfl ?_
            obtain ⟨E1, E2, E3⟩ := EE.out
            rw [E1, E2, E3]
            exact ⟨_, rfl, rowim_nil _ _ _, BR.out⟩
          | true =>
            have EE := hideIt (YES.out (by rw [RB.out]; rfl))
            have BR : Hid (Below w.heap.size w ((w5.setCell ⟨w.heap.size + 1, 0, none⟩ (.slice (some ⟨b1, 0, none⟩) 16 c1)).setCell ⟨w.heap.size + 1, 1, none⟩ (.slice (some ⟨b2, 0, none⟩) 24 c2))) := (B5.out.setCell (by simp only; omega) _).setCell (by simp only; omega) _
            have RF := hideIt (rowim_wide (ino_image R5.out CB5.out (.slice (some ⟨b1, 0, none⟩) 16 c1) (.slice (some ⟨b2, 0, none⟩) 24 c2)) (lo' := w.heap.size) (hi' := ((w5.setCell ⟨w.heap.size + 1, 0, none⟩ (.slice (some ⟨b1, 0, none⟩) 16 c1)).setCell ⟨w.heap.size + 1, 1, none⟩ (.slice (some ⟨b2, 0, none⟩) 24 c2)).heap.size) (by have := BB.out.size; omega) (by simp; omega))
            clear CB5 R5 IM5
            go_wp2
            refine bodyPost_ret (v := .tuple #[.agg #[.slice (some ⟨b1, 0, none⟩) 16 c1, .slice (some ⟨b2, 0, none⟩) 24 c2], .int .i64 0]) (by simp [results, Tryz.results16, go_sem, p0, p1]) rfl ?_
            obtain ⟨E1, E2, E3⟩ := EE.out
            rw [E1, E2, E3]
            exact ⟨_, rfl, RF.out, BR.out⟩
end Go.Proofs.YtlgghookekokaaaGreatDoor

namespace Go.Proofs.YtlgghookekokaaaGreatDoor
open Go.Shelf Go.RowKit

def laysSort_ren : Go.Shelf.Ren := ⟨fun | 190 => 72 | 125 => 114 | 258 => 113 | 128 => 167 | 129 => 168 | 302 => 158 | 303 => 159 | 304 => 160 | 305 => 161 | 306 => 162 | 307 => 163 | 308 => 164 | 309 => 165 | 310 => 166 | 333 => 199 | 329 => 200 | 330 => 201 | 334 => 202 | 335 => 203 | 336 => 204 | 344 => 223 | n => n, fun | 31 => 60 | 9 => 9 | 3 => 3 | 46 => 148 | 0 => 0 | 51 => 199 | 53 => 201 | 4 => 4 | 183 => 191 | 182 => 190 | 131 => 196 | 5 => 5 | 218 => 218 | 222 => 222 | 228 => 241 | 229 => 57 | n => n, fun | n => n⟩
theorem laysSort : Go.Proofs.Lays.n190 Tryz.prog laysSort_ren := {
  mixed := by kernel_rfl
  f125 := Tryz.func114.trans (congrArg some (by kernel_rfl))
  f128 := Tryz.func167.trans (congrArg some (by kernel_rfl))
  f129 := Tryz.func168.trans (congrArg some (by kernel_rfl))
  f190 := Tryz.func72.trans (congrArg some (by kernel_rfl))
  f258 := Tryz.func113.trans (congrArg some (by kernel_rfl))
  f302 := Tryz.func158.trans (congrArg some (by kernel_rfl))
  f303 := Tryz.func159.trans (congrArg some (by kernel_rfl))
  f304 := Tryz.func160.trans (congrArg some (by kernel_rfl))
  f305 := Tryz.func161.trans (congrArg some (by kernel_rfl))
  f306 := Tryz.func162.trans (congrArg some (by kernel_rfl))
  f307 := Tryz.func163.trans (congrArg some (by kernel_rfl))
  f308 := Tryz.func164.trans (congrArg some (by kernel_rfl))
  f309 := Tryz.func165.trans (congrArg some (by kernel_rfl))
  f310 := Tryz.func166.trans (congrArg some (by kernel_rfl))
  f329 := Tryz.func200.trans (congrArg some (by kernel_rfl))
  f330 := Tryz.func201.trans (congrArg some (by kernel_rfl))
  f333 := Tryz.func199.trans (congrArg some (by kernel_rfl))
  f334 := Tryz.func202.trans (congrArg some (by kernel_rfl))
  f335 := Tryz.func203.trans (congrArg some (by kernel_rfl))
  f336 := Tryz.func204.trans (congrArg some (by kernel_rfl))
  f344 := Tryz.func223.trans (congrArg some (by kernel_rfl))
  t0 := Tryz.underlying0
  a0 := Tryz.isAgg0
  z0 := Tryz.sizeOf0
  v0 := Tryz.zeroValue0
  t3 := Tryz.underlying3
  a3 := Tryz.isAgg3
  z3 := Tryz.sizeOf3
  v3 := Tryz.zeroValue3
  t4 := Tryz.underlying4
  a4 := Tryz.isAgg4
  z4 := Tryz.sizeOf4
  v4 := Tryz.zeroValue4
  t5 := Tryz.underlying5
  a5 := Tryz.isAgg5
  z5 := Tryz.sizeOf5
  v5 := Tryz.zeroValue5
  t9 := Tryz.underlying9
  a9 := Tryz.isAgg9
  z9 := Tryz.sizeOf9
  v9 := Tryz.zeroValue9
  t31 := Tryz.underlying60
  a31 := Tryz.isAgg60
  z31 := Tryz.sizeOf60
  v31 := Tryz.zeroValue60
  t46 := Tryz.underlying148
  a46 := Tryz.isAgg148
  z46 := Tryz.sizeOf148
  v46 := Tryz.zeroValue148
  t51 := Tryz.underlying199
  a51 := Tryz.isAgg199
  z51 := Tryz.sizeOf199
  v51 := Tryz.zeroValue199
  t53 := Tryz.underlying201
  a53 := Tryz.isAgg201
  z53 := Tryz.sizeOf201
  v53 := Tryz.zeroValue201
  t131 := Tryz.underlying196
  a131 := Tryz.isAgg196
  z131 := Tryz.sizeOf196
  v131 := Tryz.zeroValue196
  t182 := Tryz.underlying190
  a182 := Tryz.isAgg190
  z182 := Tryz.sizeOf190
  v182 := Tryz.zeroValue190
  t183 := Tryz.underlying191
  a183 := Tryz.isAgg191
  z183 := Tryz.sizeOf191
  v183 := Tryz.zeroValue191
  t218 := Tryz.underlying218
  a218 := Tryz.isAgg218
  z218 := Tryz.sizeOf218
  v218 := Tryz.zeroValue218
  t222 := Tryz.underlying222
  a222 := Tryz.isAgg222
  z222 := Tryz.sizeOf222
  v222 := Tryz.zeroValue222
  t228 := Tryz.underlying241
  a228 := Tryz.isAgg241
  z228 := Tryz.sizeOf241
  v228 := Tryz.zeroValue241
  t229 := Tryz.underlying57
  a229 := Tryz.isAgg57
  z229 := Tryz.sizeOf57
  v229 := Tryz.zeroValue57 }
open Go.Sort in
theorem sort_texts (blk off cap : Nat) (ss : List (List UInt8)) (w : World) (hH : Holds encStr w blk off ss.toArray) (hblk : blk < w.heap.size) (hsz : ss.length < 4611686018427387904) :
    Calls Tryz.prog 72 #[.slice (some ⟨blk, off, none⟩) ss.length cap] w fun e w' =>
      e = .returned (.tuple #[]) ∧ ∃ n os, w' = grow (putRow encStr (Sort.ahead w n) blk off (ss.mergeSort fun x y => decide (x ≤ y)).toArray) os := Any.slices_Sort_string laysSort blk off cap ss w hH hblk hsz
theorem sort_none (p : Option Addr) (cap : Nat) (w : World) :
    Calls Tryz.prog 72 #[.slice p 0 cap] w fun e w' => e = .returned (.tuple #[]) ∧ w' = w := Any.slices_Sort_string_none laysSort p cap w
end Go.Proofs.YtlgghookekokaaaGreatDoor

namespace Go.Proofs.YtlgghookekokaaaGreatDoor
open Go.RowKit Go.Sort

theorem strs_sorted (ss : List ByteArray) : strs (sorted ss) = ((ss.map fun s => s.data.toList).mergeSort fun x y => decide (x ≤ y)).map encStr := by
  unfold strs sorted
  rw [List.map_map]
  rfl
theorem texts_hold {w : World} {lo hi b n c : Nat} {ss : List ByteArray} (h : Row w 9 1 lo hi (.slice (some ⟨b, 0, none⟩) n c) n (strs ss)) : Holds encStr w b 0 (ss.map fun s => s.data.toList).toArray := by
  obtain ⟨_, _, _, _, hf, hc⟩ := h.at
  have hl := h.len
  rw [strs_len] at hl
  intro j hj
  have hj' : j < ss.length := by simpa using hj
  rw [Nat.zero_add]
  refine ⟨?_, hf j⟩
  rw [hc j (by omega), strs_at ss j hj', getElem!_pos _ j hj]
  simp [encStr]
theorem sort_row {w : World} {lo hi b n c : Nat} {ss : List ByteArray} (h : Row w 9 1 lo hi (.slice (some ⟨b, 0, none⟩) n c) n (strs ss)) (m : Nat) (os : Array Obj) (w' : World)
    (e : w' = grow (putRow encStr (Sort.ahead w m) b 0 ((ss.map fun s => s.data.toList).mergeSort fun x y => decide (x ≤ y)).toArray) os) :
    Row w' 9 1 lo hi (.slice (some ⟨b, 0, none⟩) n c) n (strs (sorted ss)) ∧ w.grownBy w' (some b) := by
  have hl := h.len
  rw [strs_len, Nat.mul_one] at hl
  obtain ⟨h1, h2⟩ := h
  obtain ⟨hx, h1 | ⟨g, cap, cur, e1, hb, hg, hnc, hcm, hcs, htake⟩⟩ := h1
  · cases h1.1
  cases e1
  have SD := strs_sorted ss
  have DL : ((ss.map fun s => s.data.toList).mergeSort fun x y => decide (x ≤ y)).length = ss.length := by rw [List.length_mergeSort, List.length_map]
  generalize (ss.map fun s => s.data.toList).mergeSort (fun x y => decide (x ≤ y)) = D at *
  have hbl : b < w.heap.size := (Array.getElem?_eq_some_iff.1 hg).1
  have hg' : w'.heap[b]? = some (.cells (putCells encStr 0 D.toArray cur) 9 (0, 0)) := by
    rw [e, heap_grow_old _ _ (by rw [size_putRow]; exact hbl)]
    unfold putRow mapBlock
    show (w.heap.modify b _)[b]? = _
    rw [Array.getElem?_modify, if_pos rfl, hg]
    rfl
  refine ⟨⟨⟨by rw [strs_len, sorted_len]; omega, .inr ⟨b, c, putCells encStr 0 D.toArray cur, rfl, hb, hg', hnc, hcm, by unfold putCells; rw [Array.size_mapIdx]; exact hcs, ?_⟩⟩, h2⟩, ?_⟩
  · rw [SD]
    apply List.ext_getElem?
    intro i
    rw [Nat.mul_one, List.getElem?_take, List.getElem?_map, Array.getElem?_toList]
    unfold putCells
    rw [Array.getElem?_mapIdx]
    by_cases hi : i < n
    · rw [if_pos hi, Array.getElem?_eq_getElem (show i < cur.size by omega), List.getElem?_eq_getElem (show i < D.length by omega)]
      simp only [Option.map_some]
      rw [if_pos ⟨Nat.zero_le _, by simp; omega⟩, Nat.sub_zero, getElem!_pos _ i (by simp; omega)]
      simp
    · rw [if_neg hi, List.getElem?_eq_none (by omega)]
      rfl
  · refine ⟨by rw [e]; rfl, by rw [e]; rfl, by rw [e]; rfl, by rw [e, size_grow, size_putRow]; exact Nat.le_add_right _ _, fun k hk hne => ?_⟩
    rw [e, heap_grow_old _ _ (by rw [size_putRow]; exact hk)]
    unfold putRow mapBlock
    show (w.heap.modify b _)[k]? = _
    rw [Array.getElem?_modify, if_neg (fun x => hne (by rw [x]))]
/-- The sort of a row of texts, nil too. -/
theorem sort_any (v : Value) (ss : List ByteArray) (lo hi : Nat) (w : World) (h : Row w 9 1 lo hi v ss.length (strs ss)) (hn : ss.length ≤ 1048576) :
    Calls Tryz.prog 72 #[v] w fun e w' => e = .returned (.tuple #[]) ∧ Row w' 9 1 lo hi v ss.length (strs (sorted ss)) ∧ w.grownBy w' v.ownBlock := by
  rcases h.shape with ⟨rfl, e0, _⟩ | ⟨b, c, rfl, hc, _⟩
  · refine (sort_none none 0 w).mono ?_
    rintro e w' ⟨rfl, rfl⟩
    have hs : ss = [] := List.eq_nil_of_length_eq_zero e0
    subst hs
    exact ⟨rfl, by rw [show sorted [] = [] by simp [sorted]]; exact h, World.grownBy.refl _ _⟩
  · have hh := texts_hold h
    have := sort_texts b 0 c (ss.map fun s => s.data.toList) w hh h.at.2.2.2.1 (by rw [List.length_map]; omega)
    rw [List.length_map] at this
    refine this.mono ?_
    rintro e w' ⟨rfl, m, os, hw'⟩
    exact ⟨rfl, sort_row h m os w' hw'⟩
end Go.Proofs.YtlgghookekokaaaGreatDoor

namespace Go.Proofs.YtlgghookekokaaaGreatDoor
open Go.RowKit

set_option maxRecDepth 100000 in
set_option maxHeartbeats 4000000 in
theorem implEntriesOf_any (v : Value) (ws : List Ino) (ps : List Den) (d : Int) (w : World) (h : RdIm w v ws ps) (hw : ws.length ≤ 1048576) (hp : ps.length ≤ 1048576) (hT : TS w) (hE : ED w) (hF : FD w) (hr : ∀ k (h : k < ws.length), ws[k].R) (hs : ∀ k (h : k < ps.length), ps[k].name.size ≤ maxLen) :
    Calls Tryz.prog 24 #[v, .int .i64 d] w fun e w' => ∃ v', e = .returned (.tuple #[v', .int .i64 (eoC ws ps d)]) ∧ Row w' 9 1 w.heap.size w'.heap.size v' (eoL ws ps d).length (strs (eoL ws ps d)) ∧ Below w.heap.size w w' := by
  have LI := hideIt (fun w1 (hb : Below w.heap.size w w1) => implImageOK_any v ws ps w1 (h.below hb) hw hp (hT.below hb) (hE.below hb) (hF.below hb) hr hs)
  have FD_ := hideIt hF
  obtain ⟨vW, vP, rfl, h1, h2⟩ := h
  have RP := hideIt h2
  obtain ⟨aW, cW, rfl, _, hcW⟩ := h1.shape
  have HW := hideIt hcW
  obtain ⟨aP, cP, rfl, _, _⟩ := h2.shape
  have LM := hideIt (fun w1 (hb : Below w.heap.size w w1) (hl : ps.length ≤ 4096) => takenDirents_any (.slice aP ps.length cP) ps w1 (Rd.below RP.out hb) hl (FD_.out.below hb))
  clear h1 h2 hr hs hT hE hF hcW
  have CA : Hid (∀ w', Below (w.alloc (.cells #[.slice aW ws.length cW, .slice aP ps.length cP] 26)).heap.size (w.alloc (.cells #[.slice aW ws.length cW, .slice aP ps.length cP] 26)) w' → w'.cell? ⟨w.heap.size, 0, none⟩ = some (.slice aW ws.length cW) ∧ w'.cell? ⟨w.heap.size, 1, none⟩ = some (.slice aP ps.length cP)) := fun w' hb => by
    have : w'.heap[w.heap.size]? = some (.cells #[.slice aW ws.length cW, .slice aP ps.length cP] 26 (0, 0)) := (hb.block _ (by simp)).trans (at_new rfl)
    exact ⟨(two_cells this).1, (two_cells this).2.1⟩
  have BW : Hid (Below w.heap.size w (w.alloc (.cells #[.slice aW ws.length cW, .slice aP ps.length cP] 26))) := (Below.refl _ _).alloc (Nat.le_refl _) _
  obtain ⟨x0, x1⟩ := CA.out _ (Below.refl _ _)
  cases c1 : imgB ws ps with
  | false =>
    rw [c1] at LI
    have E1 : eoC ws ps d = 1 := by unfold eoC; rw [c1]; rfl
    rw [show eoL ws ps d = [] by unfold eoL; rw [E1]; rfl, E1]
    clear c1 E1
    go_enter Tryz.func24, Tryz.ntmps24
    go_wp2_with fail
    refine (LI.out _ BW.out).mono ?_
    rintro e w1 ⟨rfl, hb1⟩
    have B1 := hideIt (below_trans BW.out hb1 BW.out.size)
    clear hb1 x0 x1
    go_wp2
    go_ret2
    exact ⟨_, rfl, Row.nil _ _ _ _ _, B1.out⟩
  | true =>
  rw [c1] at LI
  by_cases c2 : 0 ≤ d ∧ d ≤ 15
  case neg =>
    have E1 : eoC ws ps d = 4 := by unfold eoC; rw [if_pos c1, if_neg c2]
    rw [show eoL ws ps d = [] by unfold eoL; rw [E1]; rfl, E1]
    have C2 : Hid (¬ (0 ≤ d ∧ d < 16)) := fun h => c2 (by omega)
    clear c1 c2 E1
    go_enter Tryz.func24, Tryz.ntmps24
    go_wp2_with fail
    refine (LI.out _ BW.out).mono ?_
    rintro e w1 ⟨rfl, hb1⟩
    have B1 := hideIt (below_trans BW.out hb1 BW.out.size)
    clear hb1 x0 x1
    go_wp2_with fail
    refine (isIndex_no _ _ _ C2.out).mono ?_
    rintro e w2 ⟨rfl, hw2⟩
    subst w2
    go_wp2
    go_ret2
    exact ⟨_, rfl, Row.nil _ _ _ _ _, B1.out⟩
  obtain ⟨dn, hdn⟩ : ∃ n : Nat, d = (n : Int) := ⟨d.toNat, by omega⟩
  have L24 := hideIt (show ps.length ≤ 4096 by have := (img_parts c1).2.1; omega)
  have d1 : dn < ws.length := by have := (img_parts c1).1; omega
  obtain ⟨bW, oW, rfl, hblW, hcellW⟩ := HW.out (by omega)
  have HK : Hid (∀ w', Below w.heap.size w w' → w'.cell? ⟨bW, oW + dn * 11, none⟩ = some (.int .i64 (kindAt ws d))) := fun w' hb => by
    rw [hdn, kindAt_of d1]
    exact (hb.cell (p := ⟨bW, oW + dn * 11, none⟩) hblW).trans (hcellW dn d1).1
  clear hcellW HW
  have C2 : Hid (0 ≤ d ∧ d < 16) := by unfold Hid; omega
  have d2 : (0 : Int) ≤ (dn : Int) := by omega
  have d3 : (dn : Int) < (ws.length : Int) := by omega
  have ENC : Hid (eoC ws ps d = if kindAt ws d = 2 then 0 else 10) := by unfold Hid eoC; rw [if_pos c1, if_pos c2]
  have ENL : Hid (eoC ws ps d = 0 → eoL ws ps d = sorted (dirN (takenD ps) d)) := fun h => by unfold eoL; rw [if_pos h, dirN_names (img_ents c1)]
  have ENN : Hid (eoC ws ps d = 10 → eoL ws ps d = []) := fun h => by unfold eoL; rw [h]; rfl
  have tl : (takenD ps).length ≤ 24 := by have := taken_len ps; have := (img_parts c1).2.1; omega
  generalize eoC ws ps d = EC at *
  generalize eoL ws ps d = EL at *
  generalize kindAt ws d = kd at *
  clear c1 c2
  subst hdn
  by_cases c3 : kd = 2
  case neg =>
    have e1 : EC = 10 := by rw [ENC.out, if_neg c3]
    rw [ENN.out e1, e1]
    have q : (kd != 2) = true := by rw [bne_iff_ne]; exact c3
    clear c3 e1 ENC ENL ENN
    go_enter Tryz.func24, Tryz.ntmps24
    go_wp2_with fail
    refine (LI.out _ BW.out).mono ?_
    rintro e w1 ⟨rfl, hb1⟩
    have B1 := hideIt (below_trans BW.out hb1 BW.out.size)
    clear x0 x1
    obtain ⟨x0, x1⟩ := CA.out _ hb1
    clear hb1
    have k1 := HK.out w1 B1.out
    go_wp2_with fail
    refine (isIndex_yes _ _ _ C2.out).mono ?_
    rintro e w2 ⟨rfl, hw2⟩
    subst w2
    go_wp2
    go_ret2
    exact ⟨_, rfl, Row.nil _ _ _ _ _, B1.out⟩
  have e1 : EC = 0 := by rw [ENC.out, if_pos c3]
  rw [ENL.out e1, e1]
  have q : (kd != 2) = false := by rw [c3]; rfl
  clear c3 e1 ENC ENL ENN
  generalize takenD ps = ts at *
  go_enter Tryz.func24, Tryz.ntmps24
  go_wp2_with fail
  refine (LI.out _ BW.out).mono ?_
  rintro e w1 ⟨rfl, hb1⟩
  have B1 := hideIt (below_trans BW.out hb1 BW.out.size)
  clear x0 x1
  obtain ⟨x0, x1⟩ := CA.out _ hb1
  clear hb1
  have k1 := HK.out w1 B1.out
  go_wp2_with fail
  refine (isIndex_yes _ _ _ C2.out).mono ?_
  rintro e w2 ⟨rfl, hw2⟩
  subst w2
  go_wp2_with fail
  refine (LM.out _ B1.out L24.out).mono ?_
  rintro e w2 ⟨v2, rfl, hr2, hb2⟩
  obtain ⟨-, aM, cM, hvM, -⟩ := hr2.rd
  subst hvM
  have R2 : Hid (RdD w2 (.slice aM ts.length cM) ts) := hr2.rd
  have B2 := hideIt (below_trans B1.out hb2 B1.out.size)
  have hz2 : w.heap.size ≤ w2.heap.size := B2.out.size
  obtain ⟨aZ, cZ, eZ, _, hcZ⟩ := R2.out.shape
  have HZ := hideIt hcZ
  obtain ⟨rfl, rfl⟩ : aZ = aM ∧ cZ = cM := by cases eZ; exact ⟨rfl, rfl⟩
  clear eZ hcZ hr2 hb2 x0 x1 k1 LI LM HK CA
  go_wp2
  go_loopw [6, 8, 26] (fun vL _ i wr => ∃ k : Nat, k ≤ ts.length ∧ i = .int .i64 k ∧ Hid (SnI w2 wr vL (dirN (ts.take k) (dn : Int))) ∧ w2.heap.size ≤ wr.heap.size) (fun _ _ i _ => ts.length - (intOf i).toNat)
  case atStart => exact ⟨0, by omega, rfl, ⟨World.ownsRow_nil _ _ _ _, Below.refl _ _⟩, Nat.le_refl _⟩
  case round =>
    obtain ⟨k, hk, rfl, I, hz⟩ := hrel
    by_cases hlt : k < ts.length
    · obtain ⟨b, o, rfl, hbl, hcell⟩ := HZ.out (by omega)
      obtain ⟨a0, a1, a2⟩ := hcell k hlt
      have f0 := (I.out.b.cell (p := ⟨b, o + k * 3, none⟩) hbl).trans a0
      have f1 := (I.out.b.cell (p := ⟨b, o + k * 3 + 1, none⟩) hbl).trans a1
      have f2 := (I.out.b.cell (p := ⟨b, o + k * 3 + 2, none⟩) hbl).trans a2
      have k0 : (0 : Int) ≤ (k : Int) := by omega
      have k1 : (k : Int) < (ts.length : Int) := by omega
      have US := hideIt (dirN_succ (d := (dn : Int)) hlt)
      have UL := dirN_len (ts.take k) (dn : Int)
      rw [List.length_take] at UL
      clear hcell a0 a1 a2
      generalize ts[k] = x at *
      obtain ⟨wx, hwx⟩ : ∃ wx, wx = wr.alloc (.cells #[.int .i64 x.dir, .string x.name, .int .i64 x.child] 50) := ⟨_, rfl⟩
      have BX : Hid (Below wr.heap.size wr wx) := by rw [hwx]; exact (Below.refl _ _).alloc (Nat.le_refl _) _
      have IX := hideIt (I.out.below BX.out)
      have hzx := IX.out.z
      by_cases r : x.dir = (dn : Int)
      · have r' : (x.dir == (dn : Int)) = true := by rw [beq_iff_eq]; exact r
        have JB : Hid (SnI w2 (wx.alloc (.cells #[.string x.name] 9)) u6 (dirN (ts.take k) (dn : Int))) := IX.out.below ((Below.refl _ _).alloc (Nat.le_refl _) _)
        have RB := hideIt (rd_str wx x.name)
        have hzb := JB.out.z
        have MN : Hid (dirN (ts.take (k + 1)) (dn : Int) = dirN (ts.take k) (dn : Int) ++ [x.name]) := by unfold Hid; rw [US.out, if_pos r]
        rw [hwx] at JB RB hzb
        simp only [World.size_alloc] at RB hzb
        clear r I US IX BX
        go_wp2_with (at_builtin; refine wpList_append_rd _ rfl (.tmp 34) (.tmp 37) 60 rfl w2.heap.size 9 (.string ⟨#[]⟩) 1 16 Tryz.underlying60 info9 rfl (by decide) _ _ _ rfl JB.out.l _ 1 _ rfl RB.out (strs_one _) (by simp [maxLen]; omega) (by omega) JB.out.z ?_)
        intro vN wN hownN hgrN
        have G := hideIt (JB.out.grow [x.name] rfl hownN hgrN)
        rw [← MN.out] at G
        have hzN := G.out.z
        clear hownN hgrN JB RB
        go_wp2
        go_roundw
        case rel => exact ⟨k + 1, by omega, by go_num, G, hzN⟩
        case measure => simp [intOf]; omega
      · have r' : (x.dir == (dn : Int)) = false := by rw [beq_eq_false_iff_ne]; exact r
        have G : Hid (SnI w2 wx u6 (dirN (ts.take (k + 1)) (dn : Int))) := by unfold Hid; rw [US.out, if_neg r]; exact IX.out
        clear r I US IX BX
        go_wp2
        rw [← hwx]
        go_roundw
        case rel => exact ⟨k + 1, by omega, by go_num, G, hzx⟩
        case measure => simp [intOf]; omega
    · obtain rfl : k = ts.length := by omega
      have E := hideIt (show dirN (ts.take ts.length) (dn : Int) = dirN ts (dn : Int) by rw [List.take_length])
      rw [E.out] at I
      have SL := dirN_len ts (dn : Int)
      have SRT := hideIt (sort_any u6 (dirN ts (dn : Int)) w2.heap.size wr.heap.size wr (own_block I.out.l) (by omega))
      have SLN := hideIt (sorted_len (dirN ts (dn : Int)))
      go_wp2_with fail
      refine SRT.out.mono ?_
      rintro e w3 ⟨rfl, hr3, hg3⟩
      have B3 : Hid (Below w2.heap.size w2 w3) := I.out.b.grown hg3 hz (fun q hq => (I.out.l.lt q hq).1)
      have R3 := hideIt (hr3.wide hz2 hg3.size)
      obtain ⟨-, aL, cL, hvL, -⟩ := hr3.rd
      subst hvL
      clear hr3 hg3 I SRT
      go_wp2
      go_ret2
      exact ⟨_, rfl, by rw [SLN.out]; exact R3.out, below_trans B2.out B3.out hz2⟩
end Go.Proofs.YtlgghookekokaaaGreatDoor

namespace Go.Proofs.YtlgghookekokaaaGreatDoor
open Go.RowKit

/-- An empty directory. -/
def rootI : Ino := ⟨2, 0, 1, 0, 0, 0, 0, 0, 0, 0, 0⟩
theorem rootI_R : rootI.R := fun z hz => by
  simp [rootI, Ino.map] at hz
  omega
theorem dir_iu : iuC 0 rootI = 0 ∧ iuL 0 rootI = wrL 0 rootI 8 := ⟨by decide, by decide⟩
/-- The root's words. -/
def rootU : List Se := wrL 0 rootI 8
theorem rootU_len : rootU.length = 11 := rfl
/-- The words behind the first updates. -/
def upTo (us : List Se) (W : List Int) : Nat → List Int
  | 0 => W
  | k + 1 => (upTo us W k).set ((us.getD k ⟨0, 0⟩).at_.toNat) ((us.getD k ⟨0, 0⟩).val)
theorem upTo_len (us : List Se) (W : List Int) : ∀ k, (upTo us W k).length = W.length
  | 0 => rfl
  | k + 1 => by unfold upTo; rw [List.length_set]; exact upTo_len us W k
theorem root_all : upTo rootU (zs336.set 0 7) 11 = ndW := by kernel_rfl
theorem rootU_at (k : Nat) (hk : k < rootU.length) : rootU[k].at_ = 48 + (k : Int) := by
  have hk' : k < 11 := hk
  rcases (show k = 0 ∨ k = 1 ∨ k = 2 ∨ k = 3 ∨ k = 4 ∨ k = 5 ∨ k = 6 ∨ k = 7 ∨ k = 8 ∨ k = 9 ∨ k = 10 by omega) with rfl | rfl | rfl | rfl | rfl | rfl | rfl | rfl | rfl | rfl | rfl <;> rfl

set_option maxRecDepth 100000 in
set_option maxHeartbeats 4000000 in
theorem implNewDevices_any (w : World) (hT : TS w) (hE : ED w) :
    Calls Tryz.prog 9 #[] w fun e w' => ∃ v', e = .returned v' ∧ RowDev w' w.heap.size w'.heap.size v' ndW [] zs32 [] ∧ Below w.heap.size w w' := by
  have k1 := run_make336N
  have k2 := run_make32
  go_enter Tryz.func9, Tryz.ntmps9
  go_upto_region 1 with fail
  obtain ⟨w0, hw0⟩ : ∃ w0 : World, w0 = w.alloc (.cells #[.slice none 0 0, .slice none 0 0, .slice none 0 0, .slice none 0 0] 36) := ⟨_, rfl⟩
  have V0 : Hid (w0.heap[w.heap.size]? = some (.cells #[.slice none 0 0, .slice none 0 0, .slice none 0 0, .slice none 0 0] 36 (0, 0))) := by rw [hw0]; exact at_new rfl
  have B0 : Hid (Below w.heap.size w w0) := by rw [hw0]; exact (Below.refl _ _).alloc (Nat.le_refl _) _
  have hz0 : w.heap.size < w0.heap.size := by rw [hw0]; simp
  rw [← hw0]
  have T := hideIt hT
  have E0 := hideIt hE
  clear hw0 hT hE
  go_cut [1] (fun s wx => ∃ (bw bs bx : Nat), s = .pointer (some ⟨bx, 0, none⟩) ∧ Hid (NDc w0 wx bw bs bx (.slice none 0 0) (.slice none 0 0) zs336))
  case first =>
    clear T E0 B0 V0
    go_region
    all_goals
      go_wp2_with fail
      go_meet
      apply Exists.intro
      apply Exists.intro
      apply Exists.intro
      apply And.intro
      · rfl
      · apply NDc.drew
        apply NDc.mk0
        · first | exact at_new (by simp) | exact at_old (at_new (by simp)) | exact at_old (at_old (at_new (by simp)))
        · first | exact at_new (by simp) | exact at_old (at_new (by simp)) | exact at_old (at_old (at_new (by simp)))
        · first | exact at_new (by simp) | exact at_old (at_new (by simp)) | exact at_old (at_old (at_new (by simp)))
        · omega
        · omega
        · omega
        · omega
        · omega
        · omega
        · repeat (first | exact Below.refl _ _ | refine Below.alloc ?_ (by simp <;> omega) _)
  case rest =>
  obtain ⟨bw, bs, bx, rfl, N1⟩ := hcut
  rename World => w1
  clear k1 k2
  have l1 := N1.out.l1
  have l3 := N1.out.l3
  obtain ⟨c0, f0⟩ := N1.out.at 0 (by rw [zs336_len]; omega)
  obtain ⟨x0, x1, x2, x3, _, _, _, _⟩ := four_cells N1.out.hx
  have N2 := hideIt (N1.out.store 0 7)
  have B2 := hideIt (B0.out.trans (N2.out.b.mono (by omega)))
  have LI := hideIt (fun w1 (hb : Below w.heap.size w w1) => implInodeUpdates_any 0 rootI w1 (T.out.below hb) (E0.out.below hb) rootI_R)
  rw [dir_iu.1, dir_iu.2, show wrL 0 rootI 8 = rootU from rfl] at LI
  obtain ⟨g0, g1, g2, g3, g4, g5, g6, g7, g8, g9, g10⟩ := ED.cells (E0.out.below B2.out)
  generalize zs336[0]'(by rw [zs336_len]; omega) = z0 at c0
  obtain ⟨w2s, hw2s⟩ : ∃ n, n = (w1.setCell ⟨bw, 0, none⟩ (.int .i64 7)).heap.size := ⟨_, rfl⟩
  have hz2s : w2s ≤ w1.heap.size := by rw [hw2s]; simp
  go_wp2_with fail
  refine (LI.out _ B2.out).mono ?_
  rintro e w3 ⟨v3, rfl, hr3, hb3⟩
  obtain ⟨-, aU, cU, hvU, -⟩ := hr3.rd
  subst hvU
  have N3 := hideIt (N2.out.below hb3)
  have hz31 : w1.heap.size ≤ w3.heap.size := by have := hb3.size; simpa using this
  have B3 := hideIt (below_trans B2.out hb3 B2.out.size)
  have hbw : bw < w2s := by rw [hw2s]; simpa using (Array.getElem?_eq_some_iff.1 N1.out.hw).1
  have R3 : Hid (Row w3 47 2 w2s w3.heap.size (.slice aU rootU.length cU) rootU.length (ses rootU)) := by rw [hw2s]; exact hr3
  clear hr3 hb3 g0 g1 g2 g3 g4 g5 g6 g7 g8 g9 g10 c0 f0 x0 x1 x2 x3 N1 N2 B2 LI hw2s
  have RA := hideIt rootU_at
  have FIN := hideIt root_all
  have UL := hideIt (fun k => (upTo_len rootU (zs336.set 0 7) k).trans ((List.length_set ..).trans zs336_len))
  have US := hideIt (fun k (hk : k < rootU.length) => show upTo rootU (zs336.set 0 7) (k + 1) = (upTo rootU (zs336.set 0 7) k).set (rootU[k].at_.toNat) rootU[k].val by
    show (upTo rootU (zs336.set 0 7) k).set ((rootU.getD k ⟨0, 0⟩).at_.toNat) ((rootU.getD k ⟨0, 0⟩).val) = _
    rw [List.getD_eq_getElem?_getD, List.getElem?_eq_getElem hk]; rfl)
  have UZ : Hid (NDc w0 w3 bw bs bx (.slice none 0 0) (.slice none 0 0) (upTo rootU (zs336.set 0 7) 0)) := N3
  generalize upTo rootU (zs336.set 0 7) = uf at *
  have HLL := hideIt rootU_len
  have hl11 : rootU.length ≤ 11 := Nat.le_of_eq HLL.out
  rw [← HLL.out] at FIN
  generalize rootU = us at *
  have hz3 : w2s ≤ w3.heap.size := by omega
  clear N3
  go_wp2
  go_loopw [5, 22] (fun _ i wr => ∃ k : Nat, k ≤ us.length ∧ i = .int .i64 k ∧ Hid (NDc w0 wr bw bs bx (.slice none 0 0) (.slice none 0 0) (uf k) ∧ Row wr 47 2 w2s w3.heap.size (.slice aU us.length cU) us.length (ses us)) ∧ w3.heap.size ≤ wr.heap.size) (fun _ i _ => us.length - (intOf i).toNat)
  case atStart => exact ⟨0, by omega, rfl, ⟨UZ.out, R3.out⟩, Nat.le_refl _⟩
  case round =>
    obtain ⟨k, hk, rfl, I, hzr⟩ := hrel
    clear UZ R3
    by_cases hlt : k < us.length
    · obtain ⟨aE, cE, eE, _, hcE⟩ := RdE.shape (show RdE wr (.slice aU us.length cU) us from I.out.2.rd)
      obtain ⟨rfl, rfl⟩ : aE = aU ∧ cE = cU := by cases eE; exact ⟨rfl, rfl⟩
      obtain ⟨b, o, rfl, hbl, hcell⟩ := hcE (by omega)
      obtain ⟨d0, d1⟩ := hcell k hlt
      have ea := RA.out k hlt
      have NX := hideIt (US.out k hlt)
      have ul := UL.out k
      have k0 : (0 : Int) ≤ (k : Int) := by omega
      have k1 : (k : Int) < (us.length : Int) := by omega
      rw [ea] at d0
      rw [ea, show (48 + (k : Int)).toNat = 48 + k by omega] at NX
      have OB : Hid (∀ q, (Value.slice (some ⟨b, o, none⟩) us.length cE).ownBlock = some q → w2s ≤ q) := fun q hq => (I.out.2.1.lt q hq).1
      generalize us[k].val = y at *
      have ND : Hid (NDc w0 (wr.alloc (.cells #[.int .i64 (48 + (k : Int)), .int .i64 y] 47)) bw bs bx (.slice none 0 0) (.slice none 0 0) (uf k)) := I.out.1.below ((Below.refl _ _).alloc (Nat.le_refl _) _)
      obtain ⟨x0, x1, x2, x3, _, _, _, _⟩ := four_cells ND.out.hx
      obtain ⟨c0, f0⟩ := ND.out.at (48 + k) (by omega)
      have G : Hid (NDc w0 ((wr.alloc (.cells #[.int .i64 (48 + (k : Int)), .int .i64 y] 47)).setCell ⟨bw, 48 + k, none⟩ (.int .i64 y)) bw bs bx (.slice none 0 0) (.slice none 0 0) (uf (k + 1)) ∧ Row ((wr.alloc (.cells #[.int .i64 (48 + (k : Int)), .int .i64 y] 47)).setCell ⟨bw, 48 + k, none⟩ (.int .i64 y)) 47 2 w2s w3.heap.size (.slice (some ⟨b, o, none⟩) us.length cE) us.length (ses us)) := by
        refine ⟨?_, ?_⟩
        · rw [NX.out]
          exact ND.out.store (48 + k) y
        · refine Row.setOther (Row.alloc I.out.2 hzr _) (fun e => ?_) _
          have := OB.out _ e
          simp only at this
          omega
      have w48 : 48 + (k : Int) < 336 := by omega
      have w49 : (0 : Int) ≤ 48 + (k : Int) := by omega
      have w50 : (48 + (k : Int)).toNat = 48 + k := by omega
      generalize (uf k)[48 + k]'(by omega) = z at c0
      clear I ND hcell eE hcE OB ea NX
      go_wp2
      go_roundw
      case rel => exact ⟨k + 1, by omega, by go_num, G, by simp; omega⟩
      case measure => simp [intOf]; omega
    · obtain rfl : k = us.length := by omega
      rw [FIN.out] at I
      have N := hideIt I.out.1
      clear I
      obtain ⟨x0, x1, x2, x3, _, _, _, _⟩ := four_cells N.out.hx
      have VR := hideIt ((N.out.b.block _ hz0).trans V0.out)
      obtain ⟨y0, y1, y2, y3, y4, y5, y6, y7⟩ := four_cells VR.out
      have F := hideIt (eight_set (eight_set (eight_set (eight_set (xs := [.slice none 0 0, .slice none 0 0, .slice none 0 0, .slice none 0 0]) VR.out 0 (.slice (some ⟨bw, 0, none⟩) 336 336)) 1 (.slice none 0 0)) 2 (.slice (some ⟨bs, 0, none⟩) 32 32)) 3 (.slice none 0 0))
      have l2 := N.out.l2
      have RF : Hid (RowDev ((((wr.setCell ⟨w.heap.size, 0, none⟩ (.slice (some ⟨bw, 0, none⟩) 336 336)).setCell ⟨w.heap.size, 1, none⟩ (.slice none 0 0)).setCell ⟨w.heap.size, 2, none⟩ (.slice (some ⟨bs, 0, none⟩) 32 32)).setCell ⟨w.heap.size, 3, none⟩ (.slice none 0 0)) w.heap.size ((((wr.setCell ⟨w.heap.size, 0, none⟩ (.slice (some ⟨bw, 0, none⟩) 336 336)).setCell ⟨w.heap.size, 1, none⟩ (.slice none 0 0)).setCell ⟨w.heap.size, 2, none⟩ (.slice (some ⟨bs, 0, none⟩) 32 32)).setCell ⟨w.heap.size, 3, none⟩ (.slice none 0 0)).heap.size (.agg #[.slice (some ⟨bw, 0, none⟩) 336 336, .slice none 0 0, .slice (some ⟨bs, 0, none⟩) 32 32, .slice none 0 0]) ndW [] zs32 []) := by
        have r := N.out.rowDev (lo := w0.heap.size) (Nat.le_refl _)
        have o : Outside w.heap.size (w.heap.size + 1) wr ((((wr.setCell ⟨w.heap.size, 0, none⟩ (.slice (some ⟨bw, 0, none⟩) 336 336)).setCell ⟨w.heap.size, 1, none⟩ (.slice none 0 0)).setCell ⟨w.heap.size, 2, none⟩ (.slice (some ⟨bs, 0, none⟩) 32 32)).setCell ⟨w.heap.size, 3, none⟩ (.slice none 0 0)) := by
          repeat (refine Outside.setCell ?_ (by simp only; omega) (by simp only; omega) _)
          exact Outside.refl _ _ _
        exact (r.outside o (by omega) (Nat.le_refl _)).wide (by omega) o.size
      have BF : Hid (Below w.heap.size w ((((wr.setCell ⟨w.heap.size, 0, none⟩ (.slice (some ⟨bw, 0, none⟩) 336 336)).setCell ⟨w.heap.size, 1, none⟩ (.slice none 0 0)).setCell ⟨w.heap.size, 2, none⟩ (.slice (some ⟨bs, 0, none⟩) 32 32)).setCell ⟨w.heap.size, 3, none⟩ (.slice none 0 0))) := by
        show Below _ _ _
        repeat (refine Below.setCell ?_ (by simp only; omega) _)
        exact B0.out.trans (N.out.b.mono (by omega))
      go_wp2
      generalize ((((wr.setCell ⟨w.heap.size, 0, none⟩ (.slice (some ⟨bw, 0, none⟩) 336 336)).setCell ⟨w.heap.size, 1, none⟩ (.slice none 0 0)).setCell ⟨w.heap.size, 2, none⟩ (.slice (some ⟨bs, 0, none⟩) 32 32)).setCell ⟨w.heap.size, 3, none⟩ (.slice none 0 0)) = wz at F RF BF ⊢
      obtain ⟨t0, t1, t2, t3, -, -, -, -⟩ := four_cells F.out
      refine bodyPost_ret (v := .agg #[.slice (some ⟨bw, 0, none⟩) 336 336, .slice none 0 0, .slice (some ⟨bs, 0, none⟩) 32 32, .slice none 0 0]) (by simp [results, Tryz.results9, go_sem, t0, t1, t2, t3]) rfl ?_
      exact ⟨_, rfl, RF.out, BF.out⟩
end Go.Proofs.YtlgghookekokaaaGreatDoor

namespace Go.Proofs.YtlgghookekokaaaGreatDoor
open Go.RowKit

set_option maxHeartbeats 2000000 in
theorem implDevicesOK_any (v : Value) (ws : List Int) (ps : List St) (es : List Int) (qs : List Se) (w : World) (h : RdDev w v ws ps es qs) (hw : ws.length ≤ 1048576) (hp : ps.length ≤ 1048576) (he : es.length ≤ 1048576) (hq : qs.length ≤ 1048576) :
    Calls Tryz.prog 25 #[v] w fun e w' => e = .returned (.bool (pmB ws ps && blkB es qs)) ∧ Below w.heap.size w w' := by
  obtain ⟨aW, cW, aP, cP, aS, cS, aQ, cQ, rfl, h1, h2⟩ := h.form
  have H1 := hideIt h1
  have H2 := hideIt h2
  clear h h1 h2
  have hb0 : Below w.heap.size w (w.alloc (.cells #[.slice aW ws.length cW, .slice aP ps.length cP, .slice aS es.length cS, .slice aQ qs.length cQ] 36)) := (Below.refl _ _).alloc (Nat.le_refl _) _
  by_cases c : pmB ws ps = true
  · have C := hideIt c
    rw [c]
    clear c
    go_enter Tryz.func25, Tryz.ntmps25
    go_wp2_with fail
    refine (implPmOK_any _ ws ps _ (H1.out.below hb0) hw hp).mono ?_
    rw [C.out]
    rintro e w1 ⟨rfl, hb1⟩
    obtain ⟨x0, x1, x2, x3, -, -, -, -⟩ := four_cells ((hb1.block w.heap.size (by simp)).trans (at_new rfl))
    have B1 := hideIt (below_trans hb0 hb1 (by simp))
    clear hb0 hb1
    go_wp2_with fail
    refine (implBlkOK_any _ es qs _ (H2.out.below B1.out) he hq).mono ?_
    rintro e w2 ⟨rfl, hb2⟩
    have B2 := hideIt (below_trans B1.out hb2 B1.out.size)
    clear hb2
    go_wp2
    go_ret
    exact ⟨rfl, B2.out⟩
  · have c' : pmB ws ps = false := by simpa using c
    have C := hideIt c'
    rw [c']
    clear c c'
    go_enter Tryz.func25, Tryz.ntmps25
    go_wp2_with fail
    refine (implPmOK_any _ ws ps _ (H1.out.below hb0) hw hp).mono ?_
    rw [C.out]
    rintro e w1 ⟨rfl, hb1⟩
    have B1 := hideIt (below_trans hb0 hb1 (by simp))
    clear hb0 hb1
    go_wp2
    go_ret
    exact ⟨rfl, B1.out⟩

end Go.Proofs.YtlgghookekokaaaGreatDoor

namespace Go.Proofs.YtlgghookekokaaaGreatDoor
open Go.RowKit

set_option maxHeartbeats 1000000 in
/-- Two slices that read alike are found alike. -/
theorem sameIntsE_same (va vb : Value) (zs : List Int) (w : World) (ha : RdI w va zs) (hb : RdI w vb zs) (hn : zs.length ≤ 2147483648) :
    Calls Tryz.prog 22 #[va, vb] w fun e w' => e = .returned (.bool true) ∧ Below w.heap.size w w' := by
  obtain ⟨ao, cap, rfl, hcap, hc⟩ := ha.shape
  obtain ⟨ao2, cap2, rfl, hcap2, hc2⟩ := hb.shape
  clear ha hb
  go_enter Tryz.func22, Tryz.ntmps22
  go_wp2
  go_loopw [5] (fun i wr => ∃ k : Nat, k ≤ zs.length ∧ i = .int .i64 k ∧ Below w.heap.size w wr) (fun i _ => zs.length - (intOf i).toNat)
  case atStart => exact ⟨0, by omega, rfl, Below.refl _ _⟩
  case round =>
    obtain ⟨k, hk, rfl, hbw⟩ := hrel
    by_cases hlt : k < zs.length
    · obtain ⟨b, o, rfl, hbl, hcell⟩ := hc (by omega)
      obtain ⟨b2, o2, rfl, hbl2, hcell2⟩ := hc2 (by omega)
      have hck : wr.cell? ⟨b, o + k, none⟩ = some (.int .i64 zs[k]) := (hbw.cell (p := ⟨b, o + k, none⟩) hbl).trans (hcell k hlt)
      have hck2 : wr.cell? ⟨b2, o2 + k, none⟩ = some (.int .i64 zs[k]) := (hbw.cell (p := ⟨b2, o2 + k, none⟩) hbl2).trans (hcell2 k hlt)
      have hlt' : (k : Int) < (zs.length : Int) := by omega
      have hge : (0 : Int) ≤ (k : Int) := by omega
      clear hcell hcell2 hc hc2
      go_wp2
      go_quiet (fail)
      go_wp2
      go_roundw
      case rel => exact ⟨k + 1, by omega, by go_num, Below.drewN'' hbw _⟩
      case measure => simp [intOf]; omega
    · go_wp2
      go_ret
      exact ⟨rfl, hbw⟩

end Go.Proofs.YtlgghookekokaaaGreatDoor

namespace Go.Proofs.YtlgghookekokaaaGreatDoor
open Go.RowKit

theorem idle_RF {ws es : List Int} {ns : List Ino} {ds : List Den} (h : Idle ws es ns ds) : (∀ k (h : k < ns.length), ns[k].R) ∧ ∀ k (h : k < ds.length), ds[k].name.size ≤ maxLen := by
  have q := inosOf_R h.pm 16
  have r := densOf_name (layW ws []) 24
  rw [show inosOf (layW ws []) 16 = ns from h.wi.inos] at q
  rw [show densOf (layW ws []) 24 = ds from h.wi.dens] at r
  exact ⟨q, r⟩
theorem first_told (p : Nat → Bool) (n : Nat) : (firstIx p n = -1) ∨ ∃ k : Nat, firstIx p n = (k : Int) ∧ k < n ∧ p k = true ∧ ∀ j, j < k → p j = false := by
  unfold firstIx
  cases h : (List.range n).find? p with
  | none => exact .inl rfl
  | some k =>
    obtain ⟨a, b, c⟩ := List.find?_range_eq_some.1 h
    exact .inr ⟨k, rfl, List.mem_range.1 b, a, fun j hj => by have := c j hj; simpa using this⟩
/-- How often a number stands in a list. -/
def cntU (U : List Int) (i : Int) : Nat := U.count i
theorem cntU_take {U : List Int} {i : Int} {m : Nat} (h : m < U.length) : cntU (U.take (m + 1)) i = cntU (U.take m) i + if U[m] = i then 1 else 0 := by
  unfold cntU
  rw [List.take_add_one, List.getElem?_eq_getElem h, List.count_append]
  simp [List.count_cons]
theorem cntU_le (U : List Int) (i : Int) (m : Nat) : cntU (U.take m) i ≤ m := by
  unfold cntU
  have := List.count_le_length (a := i) (l := U.take m)
  rw [List.length_take] at this
  omega
theorem cnt_pair : ∀ (U : List Int), U.Pairwise (fun x y => x ≠ y) → ∀ i, i ∈ U → U.count i = 1
  | [], _, i, m => by cases m
  | x :: xs, h, i, m => by
    rw [List.pairwise_cons] at h
    rw [List.count_cons]
    by_cases e : x = i
    · subst e
      have q : ¬ x ∈ xs := fun q => h.1 x q rfl
      rw [List.count_eq_zero_of_not_mem q]
      simp
    · have q : i ∈ xs := by
        rcases List.mem_cons.1 m with r | r
        · exact absurd r.symm e
        · exact r
      rw [cnt_pair xs h.2 i q]
      simp [e]
theorem cntU_one {U : List Int} (h : onceB U = true) {i : Int} (m : hasB U i = true) : cntU U i = 1 := by
  unfold cntU
  have mem : i ∈ U := by unfold hasB at m; simpa using m
  exact cnt_pair U ((once_nodup U).1 h) i mem
theorem cntU_none {U : List Int} {i : Int} (m : hasB U i = false) : cntU U i = 0 := by
  unfold cntU
  have mem : ¬ i ∈ U := by unfold hasB at m; simpa using m
  exact List.count_eq_zero_of_not_mem mem
/-- What is told of a tier's places: all are used, or the first that is not. -/
theorem free_told {U : List Int} (h : onceB U = true) (n : Nat) : (fpV true (firstIx (fun i => !hasB U (i : Int)) n) = 0 ∧ fpC true (firstIx (fun i => !hasB U (i : Int)) n) = 7) ∨ ∃ k : Nat, k < n ∧ fpV true (firstIx (fun i => !hasB U (i : Int)) n) = (k : Int) ∧ fpC true (firstIx (fun i => !hasB U (i : Int)) n) = 0 ∧ cntU U (k : Int) = 0 ∧ ∀ j : Nat, j < k → cntU U (j : Int) = 1 := by
  rcases first_told (fun i => !hasB U (i : Int)) n with e | ⟨k, e, a, b, c⟩
  · rw [e]
    exact .inl ⟨rfl, rfl⟩
  · rw [e]
    refine .inr ⟨k, a, ?_, ?_, cntU_none (by simpa using b), fun j hj => cntU_one h (by simpa using c j hj)⟩
    · unfold fpV tellV; rw [if_pos rfl, if_neg (by omega)]
    · unfold fpC tellC; rw [if_pos rfl, if_neg (by omega)]
theorem inode_told (ns : List Ino) (l16 : ns.length = 16) : (fpV true (firstIx (fun i => decide (1 ≤ i) && kindAt ns (i : Int) == 0) ns.length) = 0 ∧ fpC true (firstIx (fun i => decide (1 ≤ i) && kindAt ns (i : Int) == 0) ns.length) = 7) ∨ ∃ k : Nat, 1 ≤ k ∧ k < 16 ∧ fpV true (firstIx (fun i => decide (1 ≤ i) && kindAt ns (i : Int) == 0) ns.length) = (k : Int) ∧ fpC true (firstIx (fun i => decide (1 ≤ i) && kindAt ns (i : Int) == 0) ns.length) = 0 ∧ (inoAt ns k).kind = 0 := by
  rcases first_told (fun i => decide (1 ≤ i) && kindAt ns (i : Int) == 0) ns.length with e | ⟨k, e, a, b, -⟩
  · rw [e]
    exact .inl ⟨rfl, rfl⟩
  · rw [e]
    simp only [Bool.and_eq_true, decide_eq_true_eq, beq_iff_eq] at b
    refine .inr ⟨k, b.1, by omega, ?_, ?_, ?_⟩
    · unfold fpV tellV; rw [if_pos rfl, if_neg (by omega)]
    · unfold fpC tellC; rw [if_pos rfl, if_neg (by omega)]
    · have := b.2
      unfold kindAt at this
      rw [inoAt_of a]
      rw [Int.toNat_natCast, List.getD_eq_getElem?_getD, List.getElem?_eq_getElem a] at this
      exact this
theorem nd_fresh : ndW = (((List.replicate 336 (0 : Int)).set 0 7).set 48 2).set 50 1 := by unfold ndW zs336; rfl
theorem nd_code : riC ndW [] = 0 := by rw [nd_fresh]; kernel_rfl
theorem nd_len : (riN ndW []).length = 16 ∧ (riD ndW []).length = 24 := by rw [nd_fresh]; exact ⟨by kernel_rfl, by kernel_rfl⟩
theorem nd_ent : eoC (riN ndW []) (riD ndW []) 0 = 0 ∧ eoL (riN ndW []) (riD ndW []) 0 = [] := by rw [nd_fresh]; exact ⟨by kernel_rfl, by kernel_rfl⟩
theorem nd_ok : (pmB ndW [] && blkB zs32 []) = true := by rw [nd_fresh]; kernel_rfl
theorem nd_pm : pmB ndW [] = true := by rw [nd_fresh]; kernel_rfl
theorem nd_R : (∀ k (h : k < (riN ndW []).length), (riN ndW [])[k].R) ∧ ∀ k (h : k < (riD ndW []).length), (riD ndW [])[k].name.size ≤ maxLen := by
  have e1 : riN ndW [] = inosOf (layW ndW []) 16 := by unfold riN; rw [if_pos nd_code]
  have e2 : riD ndW [] = densOf (layW ndW []) 24 := by unfold riD; rw [if_pos nd_code]
  rw [e1, e2]
  exact ⟨inosOf_R nd_pm 16, densOf_name _ 24⟩
end Go.Proofs.YtlgghookekokaaaGreatDoor

