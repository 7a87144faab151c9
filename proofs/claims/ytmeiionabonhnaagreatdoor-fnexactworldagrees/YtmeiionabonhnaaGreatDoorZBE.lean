/- Several texts laid together: RdF, DuA. -/
import Derived.Test.YtmeiionabonhnaaGreatDoorZBC
import Derived.Test.YtmeiionabonhnaaGreatDoorZBD
import Derived.Test.YtmeiionabonhnaaGreatDoorZAZ
import Derived.Deep.RegionLaw
import Derived.Test.YtmeiionabonhnaaGreatDoorZAJ
namespace Go.Proofs.YtmeiionabonhnaaGreatDoor
open Go.RowKit
theorem own_form {w : World} {base : Nat} {e : TypeId} {size : Nat} {v : Value} {n : Nat} {xs : List Value} (h : w.ownsRow base e size v n xs) (hn : 0 < n) : ∃ b c, v = .slice (some ⟨b, 0, none⟩) n c ∧ n ≤ c := by
  rcases (own_block h).shape with ⟨_, e, _⟩ | ⟨b, c, rfl, hc, _⟩
  · omega
  · exact ⟨b, c, rfl, hc⟩
theorem denZ_of (ls : List Int) (k : Nat) : denZ (wdI ls (240 + 3 * (k : Int))) (wdI ls (240 + 3 * (k : Int) + 1)) (wdI ls (240 + 3 * (k : Int) + 2)) = denOf ls k ∧ denZok (wdI ls (240 + 3 * (k : Int))) (wdI ls (240 + 3 * (k : Int) + 1)) (wdI ls (240 + 3 * (k : Int) + 2)) = denGood ls k := ⟨rfl, rfl⟩
theorem wd_at (ls : List Int) (n j : Nat) (h : n + j < ls.length) : ls[n + j] = wdI ls ((n : Int) + (j : Int)) := by
  have := wdI_of h
  rw [← this]
  congr 1
theorem ino_at (ls : List Int) (i : Nat) (hi : i < 16) (hl : ls.length = 336) (j : Nat) (hj : j < 11) : (ints ls)[48 + 12 * i + j]? = (inoOf ls i).cs[j]? := by
  rw [ints_at ls (48 + 12 * i + j) (by omega), wd_at ls (48 + 12 * i) j (by omega), show (((48 + 12 * i : Nat) : Int) + (j : Int)) = 48 + 12 * (i : Int) + (j : Int) by omega]
  rcases (show j = 0 ∨ j = 1 ∨ j = 2 ∨ j = 3 ∨ j = 4 ∨ j = 5 ∨ j = 6 ∨ j = 7 ∨ j = 8 ∨ j = 9 ∨ j = 10 by omega) with rfl | rfl | rfl | rfl | rfl | rfl | rfl | rfl | rfl | rfl | rfl
  · simp [inoOf, Ino.cs]
  all_goals rfl
set_option maxRecDepth 100000 in
set_option maxHeartbeats 4000000 in
theorem implReadImage_any (v : Value) (ws : List Int) (ps : List St) (w : World) (h : RdPm w v ws ps) (hw : ws.length ≤ 1048576) (hp : ps.length ≤ 1048576) (hT : TS w) (hE : ED w) (hF : FD w) :
    Calls Tryz.prog 172 #[v] w fun e w' => ∃ v', e = .returned (.tuple #[v', .int .i64 (riC ws ps)]) ∧ RowIm w' w.heap.size w'.heap.size v' (riN ws ps) (riD ws ps) ∧ Below w.heap.size w w' := by
  have HR := hideIt h
  have LS := hideIt (fun w1 h => implPmSeen_any v ws ps w1 h hw hp)
  have T := hideIt hT
  have E := hideIt hE
  have F := hideIt hF
  obtain ⟨vW, vP, rfl, h1, h2⟩ := h
  obtain ⟨aW, cW, rfl, _, _⟩ := h1.shape
  obtain ⟨aP, cP, rfl, _, _⟩ := h2.shape
  clear h1 h2 hT hE hF
  obtain ⟨W1, hW1⟩ : ∃ W1, W1 = (w.alloc (.cells #[.slice aW ws.length cW, .slice aP ps.length cP] 66)).alloc (.cells #[.slice none 0 0, .slice none 0 0] 98) := ⟨_, rfl⟩
  have hz1 : W1.heap.size = w.heap.size + 1 + 1 := by rw [hW1]; simp
  have CA : Hid (∀ w', Below W1.heap.size W1 w' → w'.cell? ⟨w.heap.size, 0, none⟩ = some (.slice aW ws.length cW) ∧ w'.cell? ⟨w.heap.size, 1, none⟩ = some (.slice aP ps.length cP)) := fun w' hb => by
    have : w'.heap[w.heap.size]? = some (.cells #[.slice aW ws.length cW, .slice aP ps.length cP] 66 (0, 0)) := (hb.block _ (by omega)).trans (by rw [hW1]; exact at_old (at_new rfl))
    exact ⟨(two_cells this).1, (two_cells this).2.1⟩
  have CR : Hid (∀ w', Below W1.heap.size W1 w' → w'.heap[w.heap.size + 1]? = some (.cells #[.slice none 0 0, .slice none 0 0] 98 (0, 0))) := fun w' hb => (hb.block _ (by omega)).trans (by
    rw [hW1]
    have := at_new (w := w.alloc (.cells #[.slice aW ws.length cW, .slice aP ps.length cP] 66)) (o := .cells #[.slice none 0 0, .slice none 0 0] 98) rfl
    rw [World.size_alloc] at this
    exact this)
  have BW : Hid (Below w.heap.size w W1) := by rw [hW1]; exact ((Below.refl _ _).alloc (Nat.le_refl _) _).alloc (by simp) _
  have hz0 : w.heap.size + 1 < W1.heap.size := by omega
  clear hz1
  obtain ⟨x0, x1⟩ := CA.out W1 (Below.refl _ _)
  cases c1 : pmB ws ps with
  | false =>
    obtain ⟨E1, E2, E3⟩ := ri_not c1
    obtain ⟨S1, S2⟩ := seen_not c1
    rw [S1, S2] at LS
    rw [E1, E2, E3]
    clear c1 E1 E2 E3 S1 S2
    go_enter Tryz.func172, Tryz.ntmps172
    go_wp2_with fail
    rw [← hW1]
    clear hW1
    refine (LS.out _ (HR.out.below BW.out)).mono ?_
    rintro e w1 ⟨v1, rfl, _, hb1⟩
    have B1 := hideIt hb1
    clear x0 x1 hb1
    have CB := hideIt (CR.out _ B1.out)
    obtain ⟨p0, p1, p2, p3⟩ := two_cells CB.out
    have BR : Hid (Below w.heap.size w ((w1.setCell ⟨w.heap.size + 1, 0, none⟩ (.slice none 0 0)).setCell ⟨w.heap.size + 1, 1, none⟩ (.slice none 0 0))) := ((below_trans BW.out B1.out BW.out.size).setCell (by simp only; omega) _).setCell (by simp only; omega) _
    go_wp2
    refine bodyPost_ret (v := .tuple #[.agg #[.slice none 0 0, .slice none 0 0], .int .i64 1]) (by simp [results, Tryz.results172, go_sem, p0, p1]) rfl ?_
    exact ⟨_, rfl, rowim_nil _ _ _, BR.out⟩
  | true =>
  have C1 := hideIt c1
  obtain ⟨S1, S2⟩ := seen_ok c1
  rw [S1, S2] at LS
  have L336 := hideIt (show (layW ws ps).length = 336 by rw [layW_len]; exact (pmB_len c1).1)
  have WR := hideIt (fun z => wdI_range c1 z)
  have NO := hideIt (fun q => ri_form C1.out q)
  have YES := hideIt (fun q => ri_ok C1.out q)
  have RB := hideIt (show riB (layW ws ps) = (wdI (layW ws ps) 0 == 7 && (allGood (layW ws ps) 24 && imgB (inosOf (layW ws ps) 16) (densOf (layW ws ps) 24))) from rfl)
  have LI := hideIt (fun v w1 h hT hE hF => implImageOK_any v (inosOf (layW ws ps) 16) (densOf (layW ws ps) 24) w1 h (by rw [inosOf_len]; omega) (by rw [densOf_len]; omega) hT hE hF (inosOf_R C1.out 16) (densOf_name _ 24))
  clear c1 S1 S2
  generalize riC ws ps = rc at *
  generalize riN ws ps = rn at *
  generalize riD ws ps = rd at *
  generalize layW ws ps = ls at *
  go_enter Tryz.func172, Tryz.ntmps172
  go_wp2_with fail
  rw [← hW1]
  clear hW1
  refine (LS.out _ (HR.out.below BW.out)).mono ?_
  rintro e w1 ⟨v1, rfl, hr1, hb1⟩
  have B1 := hideIt hb1
  have hzz : W1.heap.size ≤ w1.heap.size := hb1.size
  obtain ⟨b, c, rfl, hcap⟩ := own_form hr1.1 (by have := L336.out; omega)
  obtain ⟨_, _, _, hbl, _, hcl⟩ := hr1.at
  have HC : Hid (∀ w', Below w1.heap.size w1 w' → ∀ j, j < 336 → w'.cell? ⟨b, j, none⟩ = (ints ls)[j]?) := fun w' hb j hj => (hb.cell (p := ⟨b, j, none⟩) hbl).trans (hcl j (by have := L336.out; omega))
  have c336 : 336 ≤ c := by have := L336.out; omega
  simp only [L336.out]
  clear hr1 hb1 hcl hcap x0 x1 LS
  have START : Hid (RimI w1 (w1.alloc (.cells #[.slice none 0 0, .slice none 0 0] 98)) w1.heap.size (.slice none 0 0) (.slice none 0 0) (inosOf ls 0) []) := ⟨at_new rfl, World.ownsRow_nil _ _ _ _, World.ownsRow_nil _ _ _ _, (Below.refl _ _).alloc (Nat.le_refl _) _, Nat.le_refl _⟩
  go_wp2_with fail
  go_loopg [20] 16 (fun g i wr => ∃ k : Nat, k + g = 16 ∧ i = .int .i64 k ∧ Hid (∃ vI vD, RimI w1 wr w1.heap.size vI vD (inosOf ls k) []))
  case atStart => exact ⟨0, rfl, rfl, _, _, START.out⟩
  case round =>
    obtain ⟨k, hk, rfl, J⟩ := hrel
    obtain ⟨vI, vD, I⟩ := J.out
    have I := hideIt I
    have k0 : (0 : Int) ≤ (k : Int) := by omega
    clear J START
    by_cases hlt : k < 16
    · have k1 : (k : Int) < 16 := by omega
      obtain ⟨n, hn⟩ : ∃ n : Nat, n = 48 + 12 * k := ⟨_, rfl⟩
      have wm : IntKind.i64.wrap (12 * (k : Int)) = 12 * (k : Int) := by rw [IntKind.wrap_i64]; omega
      have wa : IntKind.i64.wrap (48 + 12 * (k : Int)) = (n : Int) := by rw [IntKind.wrap_i64]; omega
      have a0 : (0 : Int) ≤ (n : Int) := by omega
      have a1 : (n : Int) ≤ 336 := by omega
      have a2 : (n : Int) ≤ (c : Int) := by omega
      have a3 : ¬ c = n := by omega
      have LRI := hideIt (fun w2 (hb : Below wr.heap.size wr w2) => readInode_any b n (336 - n) (c - n) (inoOf ls k) w2 (by omega) (by omega) (Nat.lt_of_lt_of_le hbl (below_trans I.out.b hb I.out.z).size) (fun j hj => by
        have := HC.out w2 (below_trans I.out.b hb I.out.z) (n + j) (by omega)
        rw [this, hn]
        exact ino_at ls k hlt L336.out j hj))
      have MN := hideIt (inosOf_succ ls k)
      have ML := inosOf_len ls k
      unfold Ino.v at LRI
      clear hn
      generalize inoOf ls k = x at *
      obtain ⟨m0, m1, _, _⟩ := two_cells I.out.m
      have hzI := I.out.z
      go_wp2_with fail
      go_region_law (first
          | (go_simp; go_at_call 230; refine (LRI.out _ (by repeat (first | with_reducible exact BF.out | with_reducible exact Below.refl _ _ | with_reducible refine Below.drew ?_))).mono ?_; rintro e w2 ⟨rfl, hb2⟩; have BF : Hid (Below wr.heap.size wr w2) := bel2 (by repeat (first | with_reducible exact BF.out | with_reducible exact Below.refl _ _ | with_reducible refine Below.drew ?_)) hb2; clear hb2; have IA := hideIt ((I.out.below BF.out).below ((Below.refl _ _).alloc (Nat.le_refl _) (.cells #[.int .i64 x.kind, .int .i64 x.size, .int .i64 x.links, .int .i64 x.m0, .int .i64 x.m1, .int .i64 x.m2, .int .i64 x.m3, .int .i64 x.m4, .int .i64 x.m5, .int .i64 x.m6, .int .i64 x.m7] 150))); have RX := hideIt (rd_ino w2 x); obtain ⟨e0, e1, _, _⟩ := two_cells (I.out.below BF.out).m; obtain ⟨f0, f1, _, _⟩ := two_cells IA.out.m)
          | (refine step_append_rd rfl (.tmp 24) (.tmp 31) 96 rfl w1.heap.size 150 (.agg #[.int .i64 0, .int .i64 0, .int .i64 0, .int .i64 0, .int .i64 0, .int .i64 0, .int .i64 0, .int .i64 0, .int .i64 0, .int .i64 0, .int .i64 0]) 11 88 Tryz.underlying96 infoIno rfl (by decide) _ _ _ rfl IA.out.i _ 1 _ rfl RX.out (inos_ones _) (by simp [maxLen]; omega) (by omega) IA.out.z ?_; intro vN wN hownN hgrN; obtain ⟨bN, cN, rfl, _⟩ := own_form hownN (by omega); have GG := hideIt (IA.out.growI x hownN hgrN); obtain ⟨g0, g1, g2, g3⟩ := two_cells GG.out.1; clear hownN hgrN))
      all_goals
        have G := hideIt GG.out.2
        rw [← MN.out] at G
        simp only [inosOf_len] at G
        go_wp2
        go_roundg (16 - (k + 1))
        case measure => omega
        case rel => exact ⟨k + 1, by omega, by go_num, _, _, G.out⟩
    · obtain rfl : k = 16 := by omega
      have SE : Hid (∃ vI vD, RimI w1 wr w1.heap.size vI vD (inosOf ls 16) (densOf ls 0)) := ⟨vI, vD, I.out⟩
      have AG0 : Hid (∀ j, j < 0 → denGood ls j = true) := fun j h => absurd h (by omega)
      have BB := hideIt (below_trans BW.out B1.out BW.out.size)
      clear I
      go_wp2_with fail
      go_loopg [35] 24 (fun g i wq => ∃ k : Nat, k + g = 24 ∧ i = .int .i64 k ∧ Hid ((∃ vI vD, RimI w1 wq w1.heap.size vI vD (inosOf ls 16) (densOf ls k)) ∧ ∀ j, j < k → denGood ls j = true))
      case atStart => exact ⟨0, rfl, rfl, SE.out, AG0.out⟩
      case round =>
        obtain ⟨k, hk, rfl, J⟩ := hrel
        obtain ⟨vI, vD, I⟩ := J.out.1
        have I := hideIt I
        have AG := hideIt J.out.2
        have k0 : (0 : Int) ≤ (k : Int) := by omega
        clear J SE AG0
        by_cases hlt : k < 24
        · have k1 : (k : Int) < 24 := by omega
          obtain ⟨n, hn⟩ : ∃ n : Nat, n = 240 + 3 * k := ⟨_, rfl⟩
          have wm : IntKind.i64.wrap (3 * (k : Int)) = 3 * (k : Int) := by rw [IntKind.wrap_i64]; omega
          have wa : IntKind.i64.wrap (240 + 3 * (k : Int)) = (n : Int) := by rw [IntKind.wrap_i64]; omega
          have a0 : (0 : Int) ≤ (n : Int) := by omega
          have a1 : (n : Int) ≤ 336 := by omega
          have a2 : (n : Int) ≤ (c : Int) := by omega
          have a3 : ¬ c = n := by omega
          have r1 := WR.out (240 + 3 * (k : Int) + 1)
          have r2 := WR.out (240 + 3 * (k : Int) + 2)
          have HX : Hid (∀ w2, Below wr.heap.size wr w2 → ∀ j : Nat, j < 3 → w2.cell? ⟨b, n + j, none⟩ = some (.int .i64 (wdI ls (240 + 3 * (k : Int) + (j : Int))))) := fun w2 hb j hj => by
            rw [HC.out w2 (below_trans I.out.b hb I.out.z) (n + j) (by omega), ints_at ls (n + j) (by have := L336.out; omega), wd_at ls n j (by have := L336.out; omega), show ((n : Int) + (j : Int)) = 240 + 3 * (k : Int) + (j : Int) by omega]
          have LRD := hideIt (fun w2 (hb : Below wr.heap.size wr w2) => readDirent_any b n (336 - n) (c - n) (wdI ls (240 + 3 * (k : Int))) (wdI ls (240 + 3 * (k : Int) + 1)) (wdI ls (240 + 3 * (k : Int) + 2)) w2 (by omega) (by omega) (Nat.lt_of_lt_of_le hbl (below_trans I.out.b hb I.out.z).size) (by have := HX.out w2 hb 0 (by omega); simpa using this) (by have := HX.out w2 hb 1 (by omega); simpa using this) (by have := HX.out w2 hb 2 (by omega); simpa using this) (F.out.below (below_trans BB.out (below_trans I.out.b hb I.out.z) BB.out.size)) (by omega) (by omega))
          simp only [(denZ_of ls k).1, (denZ_of ls k).2] at LRD
          have AGN : Hid (denGood ls k = true → ∀ j, j < k + 1 → denGood ls j = true) := fun q j h => by
            by_cases e : j = k
            · subst e; exact q
            · exact AG.out j (by omega)
          have MN := hideIt (densOf_succ ls k)
          have ML := densOf_len ls k
          have GF : Hid (denGood ls k = false → allGood ls 24 = false) := fun q => allGood_no (n := 24) hlt q
          clear hn HX r1 r2
          generalize denOf ls k = x at *
          generalize denGood ls k = gd at *
          go_wp2_with fail
          refine (LRD.out _ (Below.refl _ _)).mono ?_
          rintro e w2 ⟨⟨s, rfl, hs⟩, hb2⟩
          have B2 := hideIt hb2
          clear LRD hb2
          have B3 := hideIt (below_allocB B2.out (.cells #[.int .i64 x.dir, .string s, .int .i64 x.child] 140))
          have hz2 : wr.heap.size ≤ w2.heap.size := B2.out.size
          have hz3 : w1.heap.size ≤ wr.heap.size := I.out.z
          cases gd with
          | false =>
            clear hs AGN MN ML
            have CB := hideIt (CR.out _ (bel2 B1.out (below_trans I.out.b B3.out I.out.z)))
            obtain ⟨p0, p1, p2, p3⟩ := two_cells CB.out
            have EE := hideIt (NO.out (by rw [RB.out, GF.out rfl]; simp))
            have BR : Hid (Below w.heap.size w (((w2.alloc (.cells #[.int .i64 x.dir, .string s, .int .i64 x.child] 140)).setCell ⟨w.heap.size + 1, 0, none⟩ (.slice none 0 0)).setCell ⟨w.heap.size + 1, 1, none⟩ (.slice none 0 0))) := ((below_trans BB.out (below_trans I.out.b B3.out I.out.z) BB.out.size).setCell (by simp only; omega) _).setCell (by simp only; omega) _
            go_wp2
            refine bodyPost_ret (v := .tuple #[.agg #[.slice none 0 0, .slice none 0 0], .int .i64 3]) (by simp [results, Tryz.results172, go_sem, p0, p1]) rfl ?_
            obtain ⟨E1, E2, E3⟩ := EE.out
            rw [E1, E2, E3]
            exact ⟨_, rfl, rowim_nil _ _ _, BR.out⟩
          | true =>
            obtain rfl := hs rfl
            have AG2 := hideIt (AGN.out rfl)
            clear hs GF AGN
            have XB : Hid (BoxZ 140 wr (w2.alloc (.cells #[.int .i64 x.dir, .string x.name, .int .i64 x.child] 140)) w2.heap.size [.int .i64 x.dir, .string x.name, .int .i64 x.child]) := BoxZ.new B2.out
            have e0 := (XB.out.cell 0).1
            have e1 := (XB.out.cell 1).1
            have e2 := (XB.out.cell 2).1
            simp only [List.getElem?_cons_zero, List.getElem?_cons_succ] at e0 e1 e2
            have IR := hideIt (I.out.below B3.out)
            obtain ⟨n0, n1, _, _⟩ := two_cells IR.out.m
            have IA := hideIt (IR.out.below ((Below.refl _ _).alloc (Nat.le_refl _) (.cells #[.int .i64 x.dir, .string x.name, .int .i64 x.child] 140)))
            have RX := hideIt (rd_den (w2.alloc (.cells #[.int .i64 x.dir, .string x.name, .int .i64 x.child] 140)) x)
            simp only [World.size_alloc] at RX
            have hzA := IA.out.z
            simp only [World.size_alloc] at hzA
            go_wp2_with (at_builtin; refine wpList_append_rd _ rfl (.tmp 51) (.tmp 53) 31 rfl w1.heap.size 140 (.agg #[.int .i64 0, .string ⟨#[]⟩, .int .i64 0]) 3 32 Tryz.underlying31 infoDen rfl (by decide) _ _ _ rfl IA.out.d _ 1 _ rfl RX.out (dens_ones _) (by simp [maxLen]; omega) (by omega) IA.out.z ?_)
            intro vN wN hownN hgrN
            obtain ⟨bN, cN, rfl, _⟩ := own_form hownN (by omega)
            obtain ⟨g1, g2⟩ := IA.out.growD x (by rw [densOf_len]; exact hownN) hgrN
            have G := hideIt g2
            rw [← MN.out] at G
            clear n0 n1 g2 IA RX hownN hgrN ML MN
            obtain ⟨n0, n1, n2, n3⟩ := two_cells g1
            clear g1
            go_wp2
            go_roundg (24 - (k + 1))
            case measure => omega
            case rel => exact ⟨k + 1, by omega, by go_num, ⟨_, _, G.out⟩, AG2.out⟩
        · obtain rfl : k = 24 := by omega
          have EB := hideIt (allGood_yes (ls := ls) (n := 24) AG.out)
          rw [EB.out, Bool.true_and] at RB
          rcases (own_block I.out.i).shape with ⟨_, e, _⟩ | ⟨b1, c1, rfl, _, _⟩
          · rw [inosOf_len] at e; omega
          rcases (own_block I.out.d).shape with ⟨_, e, _⟩ | ⟨b2, c2, rfl, _, _⟩
          · rw [densOf_len] at e; omega
          simp only [inosOf_len, densOf_len] at I
          have R0 : Hid (RowIm wr w1.heap.size wr.heap.size (.agg #[.slice (some ⟨b1, 0, none⟩) 16 c1, .slice (some ⟨b2, 0, none⟩) 24 c2]) (inosOf ls 16) (densOf ls 24)) := ⟨_, _, rfl, own_block I.out.i, own_block I.out.d⟩
          obtain ⟨n0, n1, _, _⟩ := two_cells I.out.m
          have hzr : w1.heap.size ≤ wr.heap.size := I.out.z
          have BWr := hideIt (below_trans BB.out I.out.b BB.out.size)
          have CB := hideIt (CR.out _ (bel2 B1.out I.out.b))
          have IM := hideIt I.out.m
          have IL := I.out.lt
          have h0 : wr.cell? ⟨b, 0, none⟩ = some (.int .i64 (wdI ls 0)) := by
            rw [HC.out wr I.out.b 0 (by omega), ints_at ls 0 (by have := L336.out; omega), wd_at ls 0 0 (by have := L336.out; omega)]
            rfl
          clear AG EB I HC WR
          by_cases z : wdI ls 0 = 7
          case neg =>
            have q : (wdI ls 0 != 7) = true := by rw [bne_iff_ne]; exact z
            have EE := hideIt (NO.out (by rw [RB.out, show (wdI ls 0 == 7) = false by rw [beq_eq_false_iff_ne]; exact z]; simp))
            obtain ⟨p0, p1, p2, p3⟩ := two_cells CB.out
            have BR : Hid (Below w.heap.size w ((wr.setCell ⟨w.heap.size + 1, 0, none⟩ (.slice none 0 0)).setCell ⟨w.heap.size + 1, 1, none⟩ (.slice none 0 0))) := (BWr.out.setCell (by simp only; omega) _).setCell (by simp only; omega) _
            clear z
            go_wp2
            refine bodyPost_ret (v := .tuple #[.agg #[.slice none 0 0, .slice none 0 0], .int .i64 3]) (by simp [results, Tryz.results172, go_sem, p0, p1]) rfl ?_
            obtain ⟨E1, E2, E3⟩ := EE.out
            rw [E1, E2, E3]
            exact ⟨_, rfl, rowim_nil _ _ _, BR.out⟩
          have q : (wdI ls 0 != 7) = false := by rw [z]; rfl
          rw [z] at RB
          have LI2 := hideIt (LI.out _ wr R0.out.rd (T.out.below BWr.out) (E.out.below BWr.out) (F.out.below BWr.out))
          clear LI
          generalize imgB (inosOf ls 16) (densOf ls 24) = ib at *
          rw [z] at h0
          clear z q
          go_wp2_with fail
          refine LI2.out.mono ?_
          rintro e w5 ⟨rfl, hb5⟩
          have hz5 : wr.heap.size ≤ w5.heap.size := hb5.size
          have B5 := hideIt (below_trans BWr.out hb5 BWr.out.size)
          have R5 := hideIt (R0.out.below hb5 (Nat.le_refl _))
          have CB5 := hideIt ((hb5.block _ (by omega)).trans CB.out)
          have IM5 := hideIt ((hb5.block _ IL).trans IM.out)
          clear n0 n1 h0 hb5 R0 CB IM LI2
          obtain ⟨n0, n1, _, _⟩ := two_cells IM5.out
          obtain ⟨p0, p1, p2, p3⟩ := two_cells CB5.out
          cases ib with
          | false =>
            have EE := hideIt (NO.out (by rw [RB.out]; rfl))
            have BR : Hid (Below w.heap.size w ((w5.setCell ⟨w.heap.size + 1, 0, none⟩ (.slice none 0 0)).setCell ⟨w.heap.size + 1, 1, none⟩ (.slice none 0 0))) := (B5.out.setCell (by simp only; omega) _).setCell (by simp only; omega) _
            go_wp2
            refine bodyPost_ret (v := .tuple #[.agg #[.slice none 0 0, .slice none 0 0], .int .i64 3]) (by simp [results, Tryz.results172, go_sem, p0, p1]) rfl ?_
            obtain ⟨E1, E2, E3⟩ := EE.out
            rw [E1, E2, E3]
            exact ⟨_, rfl, rowim_nil _ _ _, BR.out⟩
          | true =>
            have EE := hideIt (YES.out (by rw [RB.out]; rfl))
            have BR : Hid (Below w.heap.size w ((w5.setCell ⟨w.heap.size + 1, 0, none⟩ (.slice (some ⟨b1, 0, none⟩) 16 c1)).setCell ⟨w.heap.size + 1, 1, none⟩ (.slice (some ⟨b2, 0, none⟩) 24 c2))) := (B5.out.setCell (by simp only; omega) _).setCell (by simp only; omega) _
            have RF := hideIt (rowim_wide (ino_image R5.out CB5.out (.slice (some ⟨b1, 0, none⟩) 16 c1) (.slice (some ⟨b2, 0, none⟩) 24 c2)) (lo' := w.heap.size) (hi' := ((w5.setCell ⟨w.heap.size + 1, 0, none⟩ (.slice (some ⟨b1, 0, none⟩) 16 c1)).setCell ⟨w.heap.size + 1, 1, none⟩ (.slice (some ⟨b2, 0, none⟩) 24 c2)).heap.size) (by have := BB.out.size; omega) (by simp; omega))
            clear CB5 R5 IM5
            go_wp2
            refine bodyPost_ret (v := .tuple #[.agg #[.slice (some ⟨b1, 0, none⟩) 16 c1, .slice (some ⟨b2, 0, none⟩) 24 c2], .int .i64 0]) (by simp [results, Tryz.results172, go_sem, p0, p1]) rfl ?_
            obtain ⟨E1, E2, E3⟩ := EE.out
            rw [E1, E2, E3]
            exact ⟨_, rfl, RF.out, BR.out⟩
end Go.Proofs.YtmeiionabonhnaaGreatDoor

namespace Go.Proofs.YtmeiionabonhnaaGreatDoor
open Go.RowKit
theorem dv_blk {ws : List Int} {ps : List St} {es : List Int} {qs : List Se} (h : blkB es qs = false) : dvN ws ps es qs = [] ∧ dvD ws ps es qs = [] := (dv_not (by rw [h, Bool.and_false])).2
theorem dv_ri {ws : List Int} {ps : List St} {es : List Int} {qs : List Se} (h : blkB es qs = true) : dvN ws ps es qs = riN ws ps ∧ dvD ws ps es qs = riD ws ps := by
  cases p : pmB ws ps with
  | true => exact (dv_form (by rw [p, h]; rfl)).2
  | false =>
    obtain ⟨-, a, b⟩ := ri_not p
    obtain ⟨-, c, d⟩ := dv_not (ws := ws) (ps := ps) (es := es) (qs := qs) (by rw [p]; rfl)
    exact ⟨by rw [a, c], by rw [b, d]⟩
theorem dv_none {ws : List Int} {ps : List St} {es : List Int} {qs : List Se} (h : ¬ dvB ws ps es qs = true) : dvN ws ps es qs = [] ∧ dvD ws ps es qs = [] := ⟨by unfold dvN; rw [if_neg h], by unfold dvD; rw [if_neg h]⟩
theorem dv_R {ws : List Int} {ps : List St} {es : List Int} {qs : List Se} : ∀ k (h : k < (dvN ws ps es qs).length), (dvN ws ps es qs)[k].R := by
  by_cases c : dvB ws ps es qs = true
  · obtain ⟨p, -, e, -, -⟩ := dv_yes c
    rw [e]
    exact inosOf_R p 16
  · rw [(dv_none c).1]
    intro k h
    cases h
theorem dv_name {ws : List Int} {ps : List St} {es : List Int} {qs : List Se} : ∀ k (h : k < (dvD ws ps es qs).length), (dvD ws ps es qs)[k].name.size ≤ maxLen := by
  by_cases c : dvB ws ps es qs = true
  · obtain ⟨p, -, -, e, -⟩ := dv_yes c
    rw [e]
    exact densOf_name _ 24
  · rw [(dv_none c).2]
    intro k h
    cases h
theorem dv_len (ws : List Int) (ps : List St) (es : List Int) (qs : List Se) : (dvN ws ps es qs).length ≤ 1048576 ∧ (dvD ws ps es qs).length ≤ 1048576 := by
  by_cases c : dvB ws ps es qs = true
  · obtain ⟨-, -, e1, e2, -⟩ := dv_yes c
    rw [e1, e2, inosOf_len, densOf_len]
    omega
  · rw [(dv_none c).1, (dv_none c).2]
    exact ⟨by simp, by simp⟩
theorem img_none : imgB [] [] = false := by decide
theorem dv_img (ws : List Int) (ps : List St) (es : List Int) (qs : List Se) : imgB (dvN ws ps es qs) (dvD ws ps es qs) = dvB ws ps es qs := by
  by_cases c : dvB ws ps es qs = true
  · obtain ⟨-, -, e1, e2, h⟩ := dv_yes c
    rw [e1, e2, h, c]
  · rw [(dv_none c).1, (dv_none c).2, img_none]
    exact ((Bool.not_eq_true _).mp c).symm
set_option maxRecDepth 100000 in
set_option maxHeartbeats 4000000 in
theorem seenImage_any (v : Value) (ws : List Int) (ps : List St) (es : List Int) (qs : List Se) (w : World) (h : RdDev w v ws ps es qs) (hw : ws.length ≤ 1048576) (hp : ps.length ≤ 1048576) (he : es.length ≤ 1048576) (hq : qs.length ≤ 1048576) (hT : TS w) (hE : ED w) (hF : FD w) :
    Calls Tryz.prog 111 #[v] w fun e w' => ∃ v', e = .returned v' ∧ RowIm w' w.heap.size w'.heap.size v' (dvN ws ps es qs) (dvD ws ps es qs) ∧ Below w.heap.size w w' := by
  obtain ⟨aW, cW, aP, cP, aS, cS, aQ, cQ, rfl, h1, h2⟩ := h.form
  have LO := hideIt (fun w1 (hb : Below w.heap.size w w1) => implBlkOK_any _ es qs w1 (h2.below hb) he hq)
  have LR := hideIt (fun w1 (hb : Below w.heap.size w w1) => implReadImage_any _ ws ps w1 (h1.below hb) hw hp (hT.below hb) (hE.below hb) (hF.below hb))
  have NO := hideIt (fun q => dv_blk (ws := ws) (ps := ps) (es := es) (qs := qs) q)
  have YES := hideIt (fun q => dv_ri (ws := ws) (ps := ps) (es := es) (qs := qs) q)
  clear h h1 h2 hT hE hF
  obtain ⟨W1, hW1⟩ : ∃ W1, W1 = (w.alloc (.cells #[.slice aW ws.length cW, .slice aP ps.length cP, .slice aS es.length cS, .slice aQ qs.length cQ] 71)).alloc (.cells #[.slice none 0 0, .slice none 0 0] 98) := ⟨_, rfl⟩
  have hz1 : W1.heap.size = w.heap.size + 1 + 1 := by rw [hW1]; simp
  have CA : Hid (∀ w', Below W1.heap.size W1 w' → w'.cell? ⟨w.heap.size, 0, none⟩ = some (.slice aW ws.length cW) ∧ w'.cell? ⟨w.heap.size, 1, none⟩ = some (.slice aP ps.length cP) ∧ w'.cell? ⟨w.heap.size, 2, none⟩ = some (.slice aS es.length cS) ∧ w'.cell? ⟨w.heap.size, 3, none⟩ = some (.slice aQ qs.length cQ)) := fun w' hb => by
    have : w'.heap[w.heap.size]? = some (.cells #[.slice aW ws.length cW, .slice aP ps.length cP, .slice aS es.length cS, .slice aQ qs.length cQ] 71 (0, 0)) := (hb.block _ (by omega)).trans (by rw [hW1]; exact at_old (at_new rfl))
    obtain ⟨x0, x1, x2, x3, -, -, -, -⟩ := four_cells this
    exact ⟨x0, x1, x2, x3⟩
  have CR : Hid (∀ w', Below W1.heap.size W1 w' → w'.heap[w.heap.size + 1]? = some (.cells #[.slice none 0 0, .slice none 0 0] 98 (0, 0))) := fun w' hb => (hb.block _ (by omega)).trans (by
    rw [hW1]
    have := at_new (w := w.alloc (.cells #[.slice aW ws.length cW, .slice aP ps.length cP, .slice aS es.length cS, .slice aQ qs.length cQ] 71)) (o := .cells #[.slice none 0 0, .slice none 0 0] 98) rfl
    rw [World.size_alloc] at this
    exact this)
  have BW : Hid (Below w.heap.size w W1) := by rw [hW1]; exact ((Below.refl _ _).alloc (Nat.le_refl _) _).alloc (by simp) _
  have hz0 : w.heap.size + 1 < W1.heap.size := by omega
  clear hz1
  obtain ⟨x0, x1, x2, x3⟩ := CA.out W1 (Below.refl _ _)
  generalize riC ws ps = rc at *
  generalize riN ws ps = rn at *
  generalize riD ws ps = rd at *
  generalize dvN ws ps es qs = dn at *
  generalize dvD ws ps es qs = dd at *
  generalize blkB es qs = ok at *
  go_enter Tryz.func111, Tryz.ntmps111
  go_wp2_with fail
  rw [← hW1]
  clear hW1
  refine (LO.out _ BW.out).mono ?_
  rintro e w1 ⟨rfl, hb1⟩
  have B1 := hideIt hb1
  have B1w := hideIt (below_trans BW.out B1.out BW.out.size)
  clear x0 x1 x2 x3 hb1
  obtain ⟨x0, x1, x2, x3⟩ := CA.out w1 B1.out
  cases ok with
  | false =>
    obtain ⟨rfl, rfl⟩ := NO.out rfl
    have CB := hideIt (CR.out _ B1.out)
    obtain ⟨p0, p1, p2, p3⟩ := two_cells CB.out
    have BR : Hid (Below w.heap.size w ((w1.setCell ⟨w.heap.size + 1, 0, none⟩ (.slice none 0 0)).setCell ⟨w.heap.size + 1, 1, none⟩ (.slice none 0 0))) := (B1w.out.setCell (by simp only; omega) _).setCell (by simp only; omega) _
    clear NO YES
    go_wp2
    refine bodyPost_ret (v := .agg #[.slice none 0 0, .slice none 0 0]) (by simp [results, Tryz.results111, go_sem, p0, p1]) rfl ?_
    exact ⟨_, rfl, rowim_nil _ _ _, BR.out⟩
  | true =>
    obtain ⟨rfl, rfl⟩ := YES.out rfl
    clear NO YES
    go_wp2_with fail
    refine (LR.out _ B1w.out).mono ?_
    rintro e w2 ⟨v2, rfl, ⟨vI, vD, rfl, hI, hD⟩, hb2⟩
    obtain ⟨-, a1, c1, hv1, -⟩ := hI.rd
    obtain ⟨-, a2, c2, hv2, -⟩ := hD.rd
    subst hv1
    subst hv2
    have HI := hideIt hI
    have HD := hideIt hD
    have B2 := hideIt (bel2 B1.out hb2)
    have B3 : Hid (Below W1.heap.size W1 (w2.alloc (.cells #[.slice a1 dn.length c1, .slice a2 dd.length c2] 98))) := below_allocB B2.out _
    have hz12 : W1.heap.size ≤ w1.heap.size := B1.out.size
    have hz2 : w1.heap.size ≤ w2.heap.size := hb2.size
    have hzw : w.heap.size ≤ w1.heap.size := B1w.out.size
    clear x0 x1 x2 x3 hb2 hI hD
    obtain ⟨y0, y1, _, _⟩ := two_cells (at_new (w := w2) (o := .cells #[.slice a1 dn.length c1, .slice a2 dd.length c2] 98) rfl)
    obtain ⟨w3, hw3⟩ : ∃ w3, w3 = w2.alloc (.cells #[.slice a1 dn.length c1, .slice a2 dd.length c2] 98) := ⟨_, rfl⟩
    have BC : Hid (Below w2.heap.size w2 w3) := by rw [hw3]; exact (Below.refl _ _).alloc (Nat.le_refl _) _
    rw [← hw3] at B3 y0 y1
    have HI3 := hideIt (HI.out.below BC.out (Nat.le_refl _))
    have HD3 := hideIt (HD.out.below BC.out (Nat.le_refl _))
    have hz3 : w2.heap.size ≤ w3.heap.size := BC.out.size
    have CB := hideIt (CR.out _ B3.out)
    obtain ⟨p0, p1, p2, p3⟩ := two_cells CB.out
    have BR : Hid (Below w.heap.size w ((w3.setCell ⟨w.heap.size + 1, 0, none⟩ (.slice a1 dn.length c1)).setCell ⟨w.heap.size + 1, 1, none⟩ (.slice a2 dd.length c2))) := ((below_trans BW.out B3.out BW.out.size).setCell (by simp only; omega) _).setCell (by simp only; omega) _
    have RF := hideIt (rowim_wide (rowim_set HI3.out HD3.out CB.out (.slice a1 dn.length c1) (.slice a2 dd.length c2)) (lo' := w.heap.size) (hi' := ((w3.setCell ⟨w.heap.size + 1, 0, none⟩ (.slice a1 dn.length c1)).setCell ⟨w.heap.size + 1, 1, none⟩ (.slice a2 dd.length c2)).heap.size) (by omega) (by simp; omega))
    clear CB HI HD HI3 HD3 BC B3 B2 LR LO CA CR
    subst hw3
    go_wp2
    refine bodyPost_ret (v := .agg #[.slice a1 dn.length c1, .slice a2 dd.length c2]) (by simp [results, Tryz.results111, go_sem, p0, p1]) rfl ?_
    exact ⟨_, rfl, RF.out, BR.out⟩
end Go.Proofs.YtmeiionabonhnaaGreatDoor
