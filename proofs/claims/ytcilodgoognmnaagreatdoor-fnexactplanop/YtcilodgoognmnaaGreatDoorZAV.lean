/- Several texts laid together: RdF, DuA, PaC. -/
import Derived.Test.YtcilodgoognmnaaGreatDoorZAU
import Derived.Test.YtcilodgoognmnaaGreatDoorZAN
import Derived.Deep.RegionLaw
import Derived.Test.YtcilodgoognmnaaGreatDoorZAP
import Derived.Test.YtcilodgoognmnaaGreatDoorZAK
import Derived.Deep.LoopGhost
import Derived.WalkMore
namespace Go.Proofs.YtcilodgoognmnaaGreatDoor
open Go.RowKit
theorem ztp {w : World} {base : Nat} {e : TypeId} {size : Nat} {v : Value} {n : Nat} {xs : List Value} (h : w.ownsRow base e size v n xs) (hn : 0 < n) : ∃ b c, v = .slice (some ⟨b, 0, none⟩) n c ∧ n ≤ c := by
 rcases (zad h).shape with ⟨_, e, _⟩ | ⟨b, c, rfl, hc, _⟩
 ·omega
 ·exact ⟨b, c, rfl, hc⟩
theorem denZ_of (ls : List Int) (k : Nat) : denZ (wdI ls (240 + 3 * (k : Int))) (wdI ls (240 + 3 * (k : Int) + 1)) (wdI ls (240 + 3 * (k : Int) + 2)) = zqu ls k ∧ zpc (wdI ls (240 + 3 * (k : Int))) (wdI ls (240 + 3 * (k : Int) + 1)) (wdI ls (240 + 3 * (k : Int) + 2)) = zcl ls k := ⟨rfl, rfl⟩
theorem wd_at (ls : List Int) (n j : Nat) (h : n + j < ls.length) : ls[n + j] = wdI ls ((n : Int) + (j : Int)) := by
 have := wdI_of h
 rw [← this]
 congr 1
theorem ino_at (ls : List Int) (i : Nat) (hi : i < 16) (hl : ls.length = 336) (j : Nat) (hj : j < 11) : (zec ls)[48 + 12 * i + j]? = (zlf ls i).cs[j]? := by
 rw [zfl ls (48 + 12 * i + j) (by omega), wd_at ls (48 + 12 * i) j (by omega), show (((48 + 12 * i : Nat) : Int) + (j : Int)) = 48 + 12 * (i : Int) + (j : Int) by omega]
 rcases (show j = 0 ∨ j = 1 ∨ j = 2 ∨ j = 3 ∨ j = 4 ∨ j = 5 ∨ j = 6 ∨ j = 7 ∨ j = 8 ∨ j = 9 ∨ j = 10 by omega) with rfl | rfl | rfl | rfl | rfl | rfl | rfl | rfl | rfl | rfl | rfl
 ·simp [zlf, Ino.cs]
 all_goals rfl
set_option maxRecDepth 100000 in
set_option maxHeartbeats 4000000 in
theorem zld (v : Value) (ws : List Int) (ps : List St) (w : World) (h : RdPm w v ws ps) (hw : ws.length ≤ 1048576) (hp : ps.length ≤ 1048576) (hT : TS w) (hE : ED w) (hF : FD w) :
  Calls Tryz.prog 99 #[v] w fun e w' => ∃ v', e = .returned (.tuple #[v', .int .i64 (riC ws ps)]) ∧ RowIm w' w.heap.size w'.heap.size v' (riN ws ps) (riD ws ps) ∧ Below w.heap.size w w' := by
 have HR := zaa h
 have LS := zaa (fun w1 h => zqw v ws ps w1 h hw hp)
 have T := zaa hT
 have E := zaa hE
 have F := zaa hF
 obtain ⟨vW, vP, rfl, h1, h2⟩ := h
 obtain ⟨aW, cW, rfl, _, _⟩ := h1.shape
 obtain ⟨aP, cP, rfl, _, _⟩ := h2.shape
 clear h1 h2 hT hE hF
 obtain ⟨W1, hW1⟩ : ∃ W1, W1 = (w.alloc (.cells #[.slice aW ws.length cW, .slice aP ps.length cP] 36)).alloc (.cells #[.slice none 0 0, .slice none 0 0] 63) := ⟨_, rfl⟩
 have hz1 : W1.heap.size = w.heap.size + 1 + 1 := by rw [hW1]; simp
 have CA : Hid (∀ w', Below W1.heap.size W1 w' → w'.cell? ⟨w.heap.size, 0, none⟩ = some (.slice aW ws.length cW) ∧ w'.cell? ⟨w.heap.size, 1, none⟩ = some (.slice aP ps.length cP)) := fun w' hb => by
  have : w'.heap[w.heap.size]? = some (.cells #[.slice aW ws.length cW, .slice aP ps.length cP] 36 (0, 0)) := (hb.block _ (by omega)).trans (by rw [hW1]; exact zau (zah rfl))
  exact ⟨(zac this).1, (zac this).2.1⟩
 have CR : Hid (∀ w', Below W1.heap.size W1 w' → w'.heap[w.heap.size + 1]? = some (.cells #[.slice none 0 0, .slice none 0 0] 63 (0, 0))) := fun w' hb => (hb.block _ (by omega)).trans (by
  rw [hW1]
  have := zah (w := w.alloc (.cells #[.slice aW ws.length cW, .slice aP ps.length cP] 36)) (o := .cells #[.slice none 0 0, .slice none 0 0] 63) rfl
  rw [World.size_alloc] at this
  exact this)
 have BW : Hid (Below w.heap.size w W1) := by rw [hW1]; exact ((Below.refl _ _).alloc (Nat.le_refl _) _).alloc (by simp) _
 have hz0 : w.heap.size + 1 < W1.heap.size := by omega
 clear hz1
 obtain ⟨x0, x1⟩ := CA.out W1 (Below.refl _ _)
 cases c1 : pmB ws ps with
 | false =>
  obtain ⟨E1, E2, E3⟩ := ri_not c1
  obtain ⟨S1, S2⟩ := seen_not c1
  rw [S1, S2] at LS
  rw [E1, E2, E3]
  clear c1 E1 E2 E3 S1 S2
  go_enter Tryz.func99, Tryz.ntmps99
  go_wp2_with fail
  rw [← hW1]
  clear hW1
  refine (LS.out _ (HR.out.below BW.out)).mono ?_
  rintro e w1 ⟨v1, rfl, _, hb1⟩
  have B1 := zaa hb1
  clear x0 x1 hb1
  have CB := zaa (CR.out _ B1.out)
  obtain ⟨p0, p1, p2, p3⟩ := zac CB.out
  have BR : Hid (Below w.heap.size w ((w1.setCell ⟨w.heap.size + 1, 0, none⟩ (.slice none 0 0)).setCell ⟨w.heap.size + 1, 1, none⟩ (.slice none 0 0))) := ((zab BW.out B1.out BW.out.size).setCell (by simp only; omega) _).setCell (by simp only; omega) _
  go_wp2
  refine bodyPost_ret (v := .tuple #[.agg #[.slice none 0 0, .slice none 0 0], .int .i64 1]) (by simp [results, Tryz.results99, go_sem, p0, p1]) rfl ?_
  exact ⟨_, rfl, zcq _ _ _, BR.out⟩
 | true =>
 have C1 := zaa c1
 obtain ⟨S1, S2⟩ := seen_ok c1
 rw [S1, S2] at LS
 have L336 := zaa (show (zcj ws ps).length = 336 by rw [znl]; exact (zly c1).1)
 have WR := zaa (fun z => znp c1 z)
 have NO := zaa (fun q => ri_form C1.out q)
 have YES := zaa (fun q => ri_ok C1.out q)
 have RB := zaa (show riB (zcj ws ps) = (wdI (zcj ws ps) 0 == 7 && (zeb (zcj ws ps) 24 && zax (zbk (zcj ws ps) 16) (zbs (zcj ws ps) 24))) from rfl)
 have LI := zaa (fun v w1 h hT hE hF => zbo v (zbk (zcj ws ps) 16) (zbs (zcj ws ps) 24) w1 h (by rw [zbq]; omega) (by rw [zbi]; omega) hT hE hF (zto C1.out 16) (zjn _ 24))
 clear c1 S1 S2
 generalize riC ws ps = rc at *
 generalize riN ws ps = rn at *
 generalize riD ws ps = rd at *
 generalize zcj ws ps = ls at *
 go_enter Tryz.func99, Tryz.ntmps99
 go_wp2_with fail
 rw [← hW1]
 clear hW1
 refine (LS.out _ (HR.out.below BW.out)).mono ?_
 rintro e w1 ⟨v1, rfl, hr1, hb1⟩
 have B1 := zaa hb1
 have hzz : W1.heap.size ≤ w1.heap.size := hb1.size
 obtain ⟨b, c, rfl, hcap⟩ := ztp hr1.1 (by have := L336.out; omega)
 obtain ⟨_, _, _, hbl, _, hcl⟩ := hr1.at
 have HC : Hid (∀ w', Below w1.heap.size w1 w' → ∀ j, j < 336 → w'.cell? ⟨b, j, none⟩ = (zec ls)[j]?) := fun w' hb j hj => (hb.cell (p := ⟨b, j, none⟩) hbl).trans (hcl j (by have := L336.out; omega))
 have c336 : 336 ≤ c := by have := L336.out; omega
 simp only [L336.out]
 clear hr1 hb1 hcl hcap x0 x1 LS
 have START : Hid (RimI w1 (w1.alloc (.cells #[.slice none 0 0, .slice none 0 0] 63)) w1.heap.size (.slice none 0 0) (.slice none 0 0) (zbk ls 0) []) := ⟨zah rfl, World.ownsRow_nil _ _ _ _, World.ownsRow_nil _ _ _ _, (Below.refl _ _).alloc (Nat.le_refl _) _, Nat.le_refl _⟩
 go_wp2_with fail
 go_loopg [20] 16 (fun g i wr => ∃ k : Nat, k + g = 16 ∧ i = .int .i64 k ∧ Hid (∃ vI vD, RimI w1 wr w1.heap.size vI vD (zbk ls k) []))
 case atStart => exact ⟨0, rfl, rfl, _, _, START.out⟩
 case round =>
  obtain ⟨k, hk, rfl, J⟩ := hrel
  obtain ⟨vI, vD, I⟩ := J.out
  have I := zaa I
  have k0 : (0 : Int) ≤ (k : Int) := by omega
  clear J START
  by_cases hlt : k < 16
  ·have k1 : (k : Int) < 16 := by omega
   obtain ⟨n, hn⟩ : ∃ n : Nat, n = 48 + 12 * k := ⟨_, rfl⟩
   have wm : IntKind.i64.wrap (12 * (k : Int)) = 12 * (k : Int) := by rw [IntKind.wrap_i64]; omega
   have wa : IntKind.i64.wrap (48 + 12 * (k : Int)) = (n : Int) := by rw [IntKind.wrap_i64]; omega
   have a0 : (0 : Int) ≤ (n : Int) := by omega
   have a1 : (n : Int) ≤ 336 := by omega
   have a2 : (n : Int) ≤ (c : Int) := by omega
   have a3 : ¬ c = n := by omega
   have LRI := zaa (fun w2 (hb : Below wr.heap.size wr w2) => ztg b n (336 - n) (c - n) (zlf ls k) w2 (by omega) (by omega) (Nat.lt_of_lt_of_le hbl (zab I.out.b hb I.out.z).size) (fun j hj => by
    have := HC.out w2 (zab I.out.b hb I.out.z) (n + j) (by omega)
    rw [this, hn]
    exact ino_at ls k hlt L336.out j hj))
   have MN := zaa (zny ls k)
   have ML := zbq ls k
   unfold Ino.v at LRI
   clear hn
   generalize zlf ls k = x at *
   obtain ⟨m0, m1, _, _⟩ := zac I.out.m
   have hzI := I.out.z
   go_wp2_with fail
   go_region_law (first
     | (go_simp; go_at_call 162; refine (LRI.out _ (by repeat (first | with_reducible exact BF.out | with_reducible exact Below.refl _ _ | with_reducible refine Below.drew ?_))).mono ?_; rintro e w2 ⟨rfl, hb2⟩; have BF : Hid (Below wr.heap.size wr w2) := zfm (by repeat (first | with_reducible exact BF.out | with_reducible exact Below.refl _ _ | with_reducible refine Below.drew ?_)) hb2; clear hb2; have IA := zaa ((I.out.below BF.out).below ((Below.refl _ _).alloc (Nat.le_refl _) (.cells #[.int .i64 x.kind, .int .i64 x.size, .int .i64 x.links, .int .i64 x.m0, .int .i64 x.m1, .int .i64 x.m2, .int .i64 x.m3, .int .i64 x.m4, .int .i64 x.m5, .int .i64 x.m6, .int .i64 x.m7] 97))); have RX := zaa (rd_ino w2 x); obtain ⟨e0, e1, _, _⟩ := zac (I.out.below BF.out).m; obtain ⟨f0, f1, _, _⟩ := zac IA.out.m)
     | (refine zal rfl (.tmp 24) (.tmp 31) 60 rfl w1.heap.size 97 (.agg #[.int .i64 0, .int .i64 0, .int .i64 0, .int .i64 0, .int .i64 0, .int .i64 0, .int .i64 0, .int .i64 0, .int .i64 0, .int .i64 0, .int .i64 0]) 11 88 Tryz.underlying60 infoIno rfl (by decide) _ _ _ rfl IA.out.i _ 1 _ rfl RX.out (zvw _) (by simp [maxLen]; omega) (by omega) IA.out.z ?_; intro vN wN hownN hgrN; obtain ⟨bN, cN, rfl, _⟩ := ztp hownN (by omega); have GG := zaa (IA.out.growI x hownN hgrN); obtain ⟨g0, g1, g2, g3⟩ := zac GG.out.1; clear hownN hgrN))
   all_goals
    have G := zaa GG.out.2
    rw [← MN.out] at G
    simp only [zbq] at G
    go_wp2
    go_roundg (16 - (k + 1))
    case measure => omega
    case rel => exact ⟨k + 1, by omega, by go_num, _, _, G.out⟩
  ·obtain rfl : k = 16 := by omega
   have SE : Hid (∃ vI vD, RimI w1 wr w1.heap.size vI vD (zbk ls 16) (zbs ls 0)) := ⟨vI, vD, I.out⟩
   have AG0 : Hid (∀ j, j < 0 → zcl ls j = true) := fun j h => absurd h (by omega)
   have BB := zaa (zab BW.out B1.out BW.out.size)
   clear I
   go_wp2_with fail
   go_loopg [35] 24 (fun g i wq => ∃ k : Nat, k + g = 24 ∧ i = .int .i64 k ∧ Hid ((∃ vI vD, RimI w1 wq w1.heap.size vI vD (zbk ls 16) (zbs ls k)) ∧ ∀ j, j < k → zcl ls j = true))
   case atStart => exact ⟨0, rfl, rfl, SE.out, AG0.out⟩
   case round =>
    obtain ⟨k, hk, rfl, J⟩ := hrel
    obtain ⟨vI, vD, I⟩ := J.out.1
    have I := zaa I
    have AG := zaa J.out.2
    have k0 : (0 : Int) ≤ (k : Int) := by omega
    clear J SE AG0
    by_cases hlt : k < 24
    ·have k1 : (k : Int) < 24 := by omega
     obtain ⟨n, hn⟩ : ∃ n : Nat, n = 240 + 3 * k := ⟨_, rfl⟩
     have wm : IntKind.i64.wrap (3 * (k : Int)) = 3 * (k : Int) := by rw [IntKind.wrap_i64]; omega
     have wa : IntKind.i64.wrap (240 + 3 * (k : Int)) = (n : Int) := by rw [IntKind.wrap_i64]; omega
     have a0 : (0 : Int) ≤ (n : Int) := by omega
     have a1 : (n : Int) ≤ 336 := by omega
     have a2 : (n : Int) ≤ (c : Int) := by omega
     have a3 : ¬ c = n := by omega
     have r1 := WR.out (240 + 3 * (k : Int) + 1)
     have r2 := WR.out (240 + 3 * (k : Int) + 2)
     have HX : Hid (∀ w2, Below wr.heap.size wr w2 → ∀ j : Nat, j < 3 → w2.cell? ⟨b, n + j, none⟩ = some (.int .i64 (wdI ls (240 + 3 * (k : Int) + (j : Int))))) := fun w2 hb j hj => by
      rw [HC.out w2 (zab I.out.b hb I.out.z) (n + j) (by omega), zfl ls (n + j) (by have := L336.out; omega), wd_at ls n j (by have := L336.out; omega), show ((n : Int) + (j : Int)) = 240 + 3 * (k : Int) + (j : Int) by omega]
     have LRD := zaa (fun w2 (hb : Below wr.heap.size wr w2) => zqh b n (336 - n) (c - n) (wdI ls (240 + 3 * (k : Int))) (wdI ls (240 + 3 * (k : Int) + 1)) (wdI ls (240 + 3 * (k : Int) + 2)) w2 (by omega) (by omega) (Nat.lt_of_lt_of_le hbl (zab I.out.b hb I.out.z).size) (by have := HX.out w2 hb 0 (by omega); simpa using this) (by have := HX.out w2 hb 1 (by omega); simpa using this) (by have := HX.out w2 hb 2 (by omega); simpa using this) (F.out.below (zab BB.out (zab I.out.b hb I.out.z) BB.out.size)) (by omega) (by omega))
     simp only [(denZ_of ls k).1, (denZ_of ls k).2] at LRD
     have AGN : Hid (zcl ls k = true → ∀ j, j < k + 1 → zcl ls j = true) := fun q j h => by
      by_cases e : j = k
      ·subst e; exact q
      ·exact AG.out j (by omega)
     have MN := zaa (zji ls k)
     have ML := zbi ls k
     have GF : Hid (zcl ls k = false → zeb ls 24 = false) := fun q => zii (n := 24) hlt q
     clear hn HX r1 r2
     generalize zqu ls k = x at *
     generalize zcl ls k = gd at *
     go_wp2_with fail
     refine (LRD.out _ (Below.refl _ _)).mono ?_
     rintro e w2 ⟨⟨s, rfl, hs⟩, hb2⟩
     have B2 := zaa hb2
     clear LRD hb2
     have B3 := zaa (zan B2.out (.cells #[.int .i64 x.dir, .string s, .int .i64 x.child] 180))
     have hz2 : wr.heap.size ≤ w2.heap.size := B2.out.size
     have hz3 : w1.heap.size ≤ wr.heap.size := I.out.z
     cases gd with
     | false =>
      clear hs AGN MN ML
      have CB := zaa (CR.out _ (zfm B1.out (zab I.out.b B3.out I.out.z)))
      obtain ⟨p0, p1, p2, p3⟩ := zac CB.out
      have EE := zaa (NO.out (by rw [RB.out, GF.out rfl]; simp))
      have BR : Hid (Below w.heap.size w (((w2.alloc (.cells #[.int .i64 x.dir, .string s, .int .i64 x.child] 180)).setCell ⟨w.heap.size + 1, 0, none⟩ (.slice none 0 0)).setCell ⟨w.heap.size + 1, 1, none⟩ (.slice none 0 0))) := ((zab BB.out (zab I.out.b B3.out I.out.z) BB.out.size).setCell (by simp only; omega) _).setCell (by simp only; omega) _
      go_wp2
      refine bodyPost_ret (v := .tuple #[.agg #[.slice none 0 0, .slice none 0 0], .int .i64 3]) (by simp [results, Tryz.results99, go_sem, p0, p1]) rfl ?_
      obtain ⟨E1, E2, E3⟩ := EE.out
      rw [E1, E2, E3]
      exact ⟨_, rfl, zcq _ _ _, BR.out⟩
     | true =>
      obtain rfl := hs rfl
      have AG2 := zaa (AGN.out rfl)
      clear hs GF AGN
      have XB : Hid (BoxZ 180 wr (w2.alloc (.cells #[.int .i64 x.dir, .string x.name, .int .i64 x.child] 180)) w2.heap.size [.int .i64 x.dir, .string x.name, .int .i64 x.child]) := BoxZ.new B2.out
      have e0 := (XB.out.cell 0).1
      have e1 := (XB.out.cell 1).1
      have e2 := (XB.out.cell 2).1
      simp only [List.getElem?_cons_zero, List.getElem?_cons_succ] at e0 e1 e2
      have IR := zaa (I.out.below B3.out)
      obtain ⟨n0, n1, _, _⟩ := zac IR.out.m
      have IA := zaa (IR.out.below ((Below.refl _ _).alloc (Nat.le_refl _) (.cells #[.int .i64 x.dir, .string x.name, .int .i64 x.child] 180)))
      have RX := zaa (rd_den (w2.alloc (.cells #[.int .i64 x.dir, .string x.name, .int .i64 x.child] 180)) x)
      simp only [World.size_alloc] at RX
      have hzA := IA.out.z
      simp only [World.size_alloc] at hzA
      go_wp2_with (at_builtin; refine zag _ rfl (.tmp 51) (.tmp 53) 61 rfl w1.heap.size 180 (.agg #[.int .i64 0, .string ⟨#[]⟩, .int .i64 0]) 3 32 Tryz.underlying61 zot rfl (by decide) _ _ _ rfl IA.out.d _ 1 _ rfl RX.out (zhp _) (by simp [maxLen]; omega) (by omega) IA.out.z ?_)
      intro vN wN hownN hgrN
      obtain ⟨bN, cN, rfl, _⟩ := ztp hownN (by omega)
      obtain ⟨g1, g2⟩ := IA.out.growD x (by rw [zbi]; exact hownN) hgrN
      have G := zaa g2
      rw [← MN.out] at G
      clear n0 n1 g2 IA RX hownN hgrN ML MN
      obtain ⟨n0, n1, n2, n3⟩ := zac g1
      clear g1
      go_wp2
      go_roundg (24 - (k + 1))
      case measure => omega
      case rel => exact ⟨k + 1, by omega, by go_num, ⟨_, _, G.out⟩, AG2.out⟩
    ·obtain rfl : k = 24 := by omega
     have EB := zaa (zno (ls := ls) (n := 24) AG.out)
     rw [EB.out, Bool.true_and] at RB
     rcases (zad I.out.i).shape with ⟨_, e, _⟩ | ⟨b1, c1, rfl, _, _⟩
     ·rw [zbq] at e; omega
     rcases (zad I.out.d).shape with ⟨_, e, _⟩ | ⟨b2, c2, rfl, _, _⟩
     ·rw [zbi] at e; omega
     simp only [zbq, zbi] at I
     have R0 : Hid (RowIm wr w1.heap.size wr.heap.size (.agg #[.slice (some ⟨b1, 0, none⟩) 16 c1, .slice (some ⟨b2, 0, none⟩) 24 c2]) (zbk ls 16) (zbs ls 24)) := ⟨_, _, rfl, zad I.out.i, zad I.out.d⟩
     obtain ⟨n0, n1, _, _⟩ := zac I.out.m
     have hzr : w1.heap.size ≤ wr.heap.size := I.out.z
     have BWr := zaa (zab BB.out I.out.b BB.out.size)
     have CB := zaa (CR.out _ (zfm B1.out I.out.b))
     have IM := zaa I.out.m
     have IL := I.out.lt
     have h0 : wr.cell? ⟨b, 0, none⟩ = some (.int .i64 (wdI ls 0)) := by
      rw [HC.out wr I.out.b 0 (by omega), zfl ls 0 (by have := L336.out; omega), wd_at ls 0 0 (by have := L336.out; omega)]
      rfl
     clear AG EB I HC WR
     by_cases z : wdI ls 0 = 7
     case neg =>
      have q : (wdI ls 0 != 7) = true := by rw [bne_iff_ne]; exact z
      have EE := zaa (NO.out (by rw [RB.out, show (wdI ls 0 == 7) = false by rw [beq_eq_false_iff_ne]; exact z]; simp))
      obtain ⟨p0, p1, p2, p3⟩ := zac CB.out
      have BR : Hid (Below w.heap.size w ((wr.setCell ⟨w.heap.size + 1, 0, none⟩ (.slice none 0 0)).setCell ⟨w.heap.size + 1, 1, none⟩ (.slice none 0 0))) := (BWr.out.setCell (by simp only; omega) _).setCell (by simp only; omega) _
      clear z
      go_wp2
      refine bodyPost_ret (v := .tuple #[.agg #[.slice none 0 0, .slice none 0 0], .int .i64 3]) (by simp [results, Tryz.results99, go_sem, p0, p1]) rfl ?_
      obtain ⟨E1, E2, E3⟩ := EE.out
      rw [E1, E2, E3]
      exact ⟨_, rfl, zcq _ _ _, BR.out⟩
     have q : (wdI ls 0 != 7) = false := by rw [z]; rfl
     rw [z] at RB
     have LI2 := zaa (LI.out _ wr R0.out.rd (T.out.below BWr.out) (E.out.below BWr.out) (F.out.below BWr.out))
     clear LI
     generalize zax (zbk ls 16) (zbs ls 24) = ib at *
     rw [z] at h0
     clear z q
     go_wp2_with fail
     refine LI2.out.mono ?_
     rintro e w5 ⟨rfl, hb5⟩
     have hz5 : wr.heap.size ≤ w5.heap.size := hb5.size
     have B5 := zaa (zab BWr.out hb5 BWr.out.size)
     have R5 := zaa (R0.out.below hb5 (Nat.le_refl _))
     have CB5 := zaa ((hb5.block _ (by omega)).trans CB.out)
     have IM5 := zaa ((hb5.block _ IL).trans IM.out)
     clear n0 n1 h0 hb5 R0 CB IM LI2
     obtain ⟨n0, n1, _, _⟩ := zac IM5.out
     obtain ⟨p0, p1, p2, p3⟩ := zac CB5.out
     cases ib with
     | false =>
      have EE := zaa (NO.out (by rw [RB.out]; rfl))
      have BR : Hid (Below w.heap.size w ((w5.setCell ⟨w.heap.size + 1, 0, none⟩ (.slice none 0 0)).setCell ⟨w.heap.size + 1, 1, none⟩ (.slice none 0 0))) := (B5.out.setCell (by simp only; omega) _).setCell (by simp only; omega) _
      go_wp2
      refine bodyPost_ret (v := .tuple #[.agg #[.slice none 0 0, .slice none 0 0], .int .i64 3]) (by simp [results, Tryz.results99, go_sem, p0, p1]) rfl ?_
      obtain ⟨E1, E2, E3⟩ := EE.out
      rw [E1, E2, E3]
      exact ⟨_, rfl, zcq _ _ _, BR.out⟩
     | true =>
      have EE := zaa (YES.out (by rw [RB.out]; rfl))
      have BR : Hid (Below w.heap.size w ((w5.setCell ⟨w.heap.size + 1, 0, none⟩ (.slice (some ⟨b1, 0, none⟩) 16 c1)).setCell ⟨w.heap.size + 1, 1, none⟩ (.slice (some ⟨b2, 0, none⟩) 24 c2))) := (B5.out.setCell (by simp only; omega) _).setCell (by simp only; omega) _
      have RF := zaa (zik (zwg R5.out CB5.out (.slice (some ⟨b1, 0, none⟩) 16 c1) (.slice (some ⟨b2, 0, none⟩) 24 c2)) (lo' := w.heap.size) (hi' := ((w5.setCell ⟨w.heap.size + 1, 0, none⟩ (.slice (some ⟨b1, 0, none⟩) 16 c1)).setCell ⟨w.heap.size + 1, 1, none⟩ (.slice (some ⟨b2, 0, none⟩) 24 c2)).heap.size) (by have := BB.out.size; omega) (by simp; omega))
      clear CB5 R5 IM5
      go_wp2
      refine bodyPost_ret (v := .tuple #[.agg #[.slice (some ⟨b1, 0, none⟩) 16 c1, .slice (some ⟨b2, 0, none⟩) 24 c2], .int .i64 0]) (by simp [results, Tryz.results99, go_sem, p0, p1]) rfl ?_
      obtain ⟨E1, E2, E3⟩ := EE.out
      rw [E1, E2, E3]
      exact ⟨_, rfl, RF.out, BR.out⟩
end Go.Proofs.YtcilodgoognmnaaGreatDoor

namespace Go.Proofs.YtcilodgoognmnaaGreatDoor
open Go.RowKit
theorem dv_blk {ws : List Int} {ps : List St} {es : List Int} {qs : List Se} (h : zin es qs = false) : dvN ws ps es qs = [] ∧ dvD ws ps es qs = [] := (dv_not (by rw [h, Bool.and_false])).2
theorem dv_ri {ws : List Int} {ps : List St} {es : List Int} {qs : List Se} (h : zin es qs = true) : dvN ws ps es qs = riN ws ps ∧ dvD ws ps es qs = riD ws ps := by
 cases p : pmB ws ps with
 | true => exact (dv_form (by rw [p, h]; rfl)).2
 | false =>
  obtain ⟨-, a, b⟩ := ri_not p
  obtain ⟨-, c, d⟩ := dv_not (ws := ws) (ps := ps) (es := es) (qs := qs) (by rw [p]; rfl)
  exact ⟨by rw [a, c], by rw [b, d]⟩
theorem zkz {ws : List Int} {ps : List St} {es : List Int} {qs : List Se} (h : ¬ dvB ws ps es qs = true) : dvN ws ps es qs = [] ∧ dvD ws ps es qs = [] := ⟨by unfold dvN; rw [if_neg h], by unfold dvD; rw [if_neg h]⟩
theorem dv_R {ws : List Int} {ps : List St} {es : List Int} {qs : List Se} : ∀ k (h : k < (dvN ws ps es qs).length), (dvN ws ps es qs)[k].R := by
 by_cases c : dvB ws ps es qs = true
 ·obtain ⟨p, -, e, -, -⟩ := zdi c
  rw [e]
  exact zto p 16
 ·rw [(zkz c).1]
  intro k h
  cases h
theorem zjk {ws : List Int} {ps : List St} {es : List Int} {qs : List Se} : ∀ k (h : k < (dvD ws ps es qs).length), (dvD ws ps es qs)[k].name.size ≤ maxLen := by
 by_cases c : dvB ws ps es qs = true
 ·obtain ⟨p, -, -, e, -⟩ := zdi c
  rw [e]
  exact zjn _ 24
 ·rw [(zkz c).2]
  intro k h
  cases h
theorem zet (ws : List Int) (ps : List St) (es : List Int) (qs : List Se) : (dvN ws ps es qs).length ≤ 1048576 ∧ (dvD ws ps es qs).length ≤ 1048576 := by
 by_cases c : dvB ws ps es qs = true
 ·obtain ⟨-, -, e1, e2, -⟩ := zdi c
  rw [e1, e2, zbq, zbi]
  omega
 ·rw [(zkz c).1, (zkz c).2]
  exact ⟨by simp, by simp⟩
theorem img_none : zax [] [] = false := by decide
theorem zmd (ws : List Int) (ps : List St) (es : List Int) (qs : List Se) : zax (dvN ws ps es qs) (dvD ws ps es qs) = dvB ws ps es qs := by
 by_cases c : dvB ws ps es qs = true
 ·obtain ⟨-, -, e1, e2, h⟩ := zdi c
  rw [e1, e2, h, c]
 ·rw [(zkz c).1, (zkz c).2, img_none]
  exact ((Bool.not_eq_true _).mp c).symm
set_option maxRecDepth 100000 in
set_option maxHeartbeats 4000000 in
theorem zgr (v : Value) (ws : List Int) (ps : List St) (es : List Int) (qs : List Se) (w : World) (h : RdDev w v ws ps es qs) (hw : ws.length ≤ 1048576) (hp : ps.length ≤ 1048576) (he : es.length ≤ 1048576) (hq : qs.length ≤ 1048576) (hT : TS w) (hE : ED w) (hF : FD w) :
  Calls Tryz.prog 47 #[v] w fun e w' => ∃ v', e = .returned v' ∧ RowIm w' w.heap.size w'.heap.size v' (dvN ws ps es qs) (dvD ws ps es qs) ∧ Below w.heap.size w w' := by
 obtain ⟨aW, cW, aP, cP, aS, cS, aQ, cQ, rfl, h1, h2⟩ := h.form
 have LO := zaa (fun w1 (hb : Below w.heap.size w w1) => zej _ es qs w1 (h2.below hb) he hq)
 have LR := zaa (fun w1 (hb : Below w.heap.size w w1) => zld _ ws ps w1 (h1.below hb) hw hp (hT.below hb) (hE.below hb) (hF.below hb))
 have NO := zaa (fun q => dv_blk (ws := ws) (ps := ps) (es := es) (qs := qs) q)
 have YES := zaa (fun q => dv_ri (ws := ws) (ps := ps) (es := es) (qs := qs) q)
 clear h h1 h2 hT hE hF
 obtain ⟨W1, hW1⟩ : ∃ W1, W1 = (w.alloc (.cells #[.slice aW ws.length cW, .slice aP ps.length cP, .slice aS es.length cS, .slice aQ qs.length cQ] 41)).alloc (.cells #[.slice none 0 0, .slice none 0 0] 63) := ⟨_, rfl⟩
 have hz1 : W1.heap.size = w.heap.size + 1 + 1 := by rw [hW1]; simp
 have CA : Hid (∀ w', Below W1.heap.size W1 w' → w'.cell? ⟨w.heap.size, 0, none⟩ = some (.slice aW ws.length cW) ∧ w'.cell? ⟨w.heap.size, 1, none⟩ = some (.slice aP ps.length cP) ∧ w'.cell? ⟨w.heap.size, 2, none⟩ = some (.slice aS es.length cS) ∧ w'.cell? ⟨w.heap.size, 3, none⟩ = some (.slice aQ qs.length cQ)) := fun w' hb => by
  have : w'.heap[w.heap.size]? = some (.cells #[.slice aW ws.length cW, .slice aP ps.length cP, .slice aS es.length cS, .slice aQ qs.length cQ] 41 (0, 0)) := (hb.block _ (by omega)).trans (by rw [hW1]; exact zau (zah rfl))
  obtain ⟨x0, x1, x2, x3, -, -, -, -⟩ := zaw this
  exact ⟨x0, x1, x2, x3⟩
 have CR : Hid (∀ w', Below W1.heap.size W1 w' → w'.heap[w.heap.size + 1]? = some (.cells #[.slice none 0 0, .slice none 0 0] 63 (0, 0))) := fun w' hb => (hb.block _ (by omega)).trans (by
  rw [hW1]
  have := zah (w := w.alloc (.cells #[.slice aW ws.length cW, .slice aP ps.length cP, .slice aS es.length cS, .slice aQ qs.length cQ] 41)) (o := .cells #[.slice none 0 0, .slice none 0 0] 63) rfl
  rw [World.size_alloc] at this
  exact this)
 have BW : Hid (Below w.heap.size w W1) := by rw [hW1]; exact ((Below.refl _ _).alloc (Nat.le_refl _) _).alloc (by simp) _
 have hz0 : w.heap.size + 1 < W1.heap.size := by omega
 clear hz1
 obtain ⟨x0, x1, x2, x3⟩ := CA.out W1 (Below.refl _ _)
 generalize riC ws ps = rc at *
 generalize riN ws ps = rn at *
 generalize riD ws ps = rd at *
 generalize dvN ws ps es qs = dn at *
 generalize dvD ws ps es qs = dd at *
 generalize zin es qs = ok at *
 go_enter Tryz.func47, Tryz.ntmps47
 go_wp2_with fail
 rw [← hW1]
 clear hW1
 refine (LO.out _ BW.out).mono ?_
 rintro e w1 ⟨rfl, hb1⟩
 have B1 := zaa hb1
 have B1w := zaa (zab BW.out B1.out BW.out.size)
 clear x0 x1 x2 x3 hb1
 obtain ⟨x0, x1, x2, x3⟩ := CA.out w1 B1.out
 cases ok with
 | false =>
  obtain ⟨rfl, rfl⟩ := NO.out rfl
  have CB := zaa (CR.out _ B1.out)
  obtain ⟨p0, p1, p2, p3⟩ := zac CB.out
  have BR : Hid (Below w.heap.size w ((w1.setCell ⟨w.heap.size + 1, 0, none⟩ (.slice none 0 0)).setCell ⟨w.heap.size + 1, 1, none⟩ (.slice none 0 0))) := (B1w.out.setCell (by simp only; omega) _).setCell (by simp only; omega) _
  clear NO YES
  go_wp2
  refine bodyPost_ret (v := .agg #[.slice none 0 0, .slice none 0 0]) (by simp [results, Tryz.results47, go_sem, p0, p1]) rfl ?_
  exact ⟨_, rfl, zcq _ _ _, BR.out⟩
 | true =>
  obtain ⟨rfl, rfl⟩ := YES.out rfl
  clear NO YES
  go_wp2_with fail
  refine (LR.out _ B1w.out).mono ?_
  rintro e w2 ⟨v2, rfl, ⟨vI, vD, rfl, hI, hD⟩, hb2⟩
  obtain ⟨-, a1, c1, hv1, -⟩ := hI.rd
  obtain ⟨-, a2, c2, hv2, -⟩ := hD.rd
  subst hv1
  subst hv2
  have HI := zaa hI
  have HD := zaa hD
  have B2 := zaa (zfm B1.out hb2)
  have B3 : Hid (Below W1.heap.size W1 (w2.alloc (.cells #[.slice a1 dn.length c1, .slice a2 dd.length c2] 63))) := zan B2.out _
  have hz12 : W1.heap.size ≤ w1.heap.size := B1.out.size
  have hz2 : w1.heap.size ≤ w2.heap.size := hb2.size
  have hzw : w.heap.size ≤ w1.heap.size := B1w.out.size
  clear x0 x1 x2 x3 hb2 hI hD
  obtain ⟨y0, y1, _, _⟩ := zac (zah (w := w2) (o := .cells #[.slice a1 dn.length c1, .slice a2 dd.length c2] 63) rfl)
  obtain ⟨w3, hw3⟩ : ∃ w3, w3 = w2.alloc (.cells #[.slice a1 dn.length c1, .slice a2 dd.length c2] 63) := ⟨_, rfl⟩
  have BC : Hid (Below w2.heap.size w2 w3) := by rw [hw3]; exact (Below.refl _ _).alloc (Nat.le_refl _) _
  rw [← hw3] at B3 y0 y1
  have HI3 := zaa (HI.out.below BC.out (Nat.le_refl _))
  have HD3 := zaa (HD.out.below BC.out (Nat.le_refl _))
  have hz3 : w2.heap.size ≤ w3.heap.size := BC.out.size
  have CB := zaa (CR.out _ B3.out)
  obtain ⟨p0, p1, p2, p3⟩ := zac CB.out
  have BR : Hid (Below w.heap.size w ((w3.setCell ⟨w.heap.size + 1, 0, none⟩ (.slice a1 dn.length c1)).setCell ⟨w.heap.size + 1, 1, none⟩ (.slice a2 dd.length c2))) := ((zab BW.out B3.out BW.out.size).setCell (by simp only; omega) _).setCell (by simp only; omega) _
  have RF := zaa (zik (zut HI3.out HD3.out CB.out (.slice a1 dn.length c1) (.slice a2 dd.length c2)) (lo' := w.heap.size) (hi' := ((w3.setCell ⟨w.heap.size + 1, 0, none⟩ (.slice a1 dn.length c1)).setCell ⟨w.heap.size + 1, 1, none⟩ (.slice a2 dd.length c2)).heap.size) (by omega) (by simp; omega))
  clear CB HI HD HI3 HD3 BC B3 B2 LR LO CA CR
  subst hw3
  go_wp2
  refine bodyPost_ret (v := .agg #[.slice a1 dn.length c1, .slice a2 dd.length c2]) (by simp [results, Tryz.results47, go_sem, p0, p1]) rfl ?_
  exact ⟨_, rfl, RF.out, BR.out⟩
end Go.Proofs.YtcilodgoognmnaaGreatDoor

namespace Go.Proofs.YtcilodgoognmnaaGreatDoor
open Go.RowKit
set_option maxRecDepth 100000 in
set_option maxHeartbeats 2000000 in
theorem zhu (v : Value) (ws : List Ino) (ps : List Den) (i : Int) (w : World) (h : RdIm w v ws ps) (hl : ws.length = 16) (h0 : 0 ≤ i ∧ i ≤ 15) :
  Calls Tryz.prog 97 #[v, .int .i64 i] w fun e w' => e = .returned (.bool (zai ws i == 2)) ∧ Below w.heap.size w w' := by
 obtain ⟨vW, vP, rfl, h1, h2⟩ := h
 obtain ⟨aW, cW, rfl, _, hcW⟩ := h1.shape
 obtain ⟨aP, cP, rfl, _, _⟩ := h2.shape
 obtain ⟨n, rfl⟩ : ∃ n : Nat, i = (n : Int) := ⟨i.toNat, by omega⟩
 have hn : n < ws.length := by omega
 obtain ⟨bW, oW, rfl, hblW, hcellW⟩ := hcW (by omega)
 have BW : Hid (Below w.heap.size w (w.alloc (.cells #[.slice (some ⟨bW, oW, none⟩) ws.length cW, .slice aP ps.length cP] 63))) := (Below.refl _ _).alloc (Nat.le_refl _) _
 have k0 := (BW.out.cell (p := ⟨bW, oW + n * 11, none⟩) hblW).trans (hcellW n hn).1
 rw [← zaz hn] at k0
 have n0 : (0 : Int) ≤ (n : Int) := by omega
 have n1 : (n : Int) < (ws.length : Int) := by omega
 clear h1 h2 hcW hcellW hl h0 hn
 generalize zai ws (n : Int) = kk at *
 go_enter Tryz.func97, Tryz.ntmps97
 go_wp2
 go_ret
 exact ⟨rfl, BW.out⟩
theorem ben_step {ps : List Den} (u0 : upD ps 0 = -1) {x b : Int} (h : zct ps 16 x = true) (hx : 0 ≤ x) (q : ¬ x = b) : (x = 0 → zjg ps 16 x b = false) ∧ (¬ x = 0 → 0 ≤ upD ps x ∧ zct ps 16 (upD ps x) = true ∧ zjg ps 16 x b = zjg ps 16 (upD ps x) b) := by
 have n0 : ¬ x < 0 := by omega
 have e : zjg ps 16 x b = zjg ps 15 (upD ps x) b := by rw [show (16 : Nat) = 15 + 1 from rfl, zhh, if_neg n0, if_neg q]
 refine ⟨fun z => ?_, fun z => ?_⟩
 ·rw [e, z, u0, zsk ps 15 (-1) b (by omega)]
 ·obtain ⟨h1, h2⟩ := zpt (k := 15) h z
  refine ⟨h1, zrb 15 _ h2, ?_⟩
  rw [e, zsd u0 15 16 _ b h2 h1 (by omega)]
def deep (ps : List Den) : Nat → Int → Nat
 | 0, _ => 0
 | n + 1, x => if x = 0 then 0 else 1 + deep ps n (upD ps x)
theorem zvf {ps : List Den} : ∀ (k n : Nat) (a : Int), zct ps k a = true → k ≤ n → deep ps n a = deep ps k a
 | 0, _, _, h, _ => by rw [zlu] at h; cases h
 | k + 1, 0, _, _, hn => absurd hn (by omega)
 | k + 1, n + 1, a, h, hn => by
  show (if a = 0 then 0 else 1 + deep ps n (upD ps a)) = (if a = 0 then 0 else 1 + deep ps k (upD ps a))
  by_cases r : a = 0
  ·rw [if_pos r, if_pos r]
  ·rw [if_neg r, if_neg r, zvf k n _ (zpt h r).2 (by omega)]
theorem deep_step {ps : List Den} {x : Int} (h : zct ps 16 x = true) (q : ¬ x = 0) : deep ps 16 (upD ps x) < deep ps 16 x := by
 have e : deep ps 16 x = 1 + deep ps 15 (upD ps x) := by
  show (if x = 0 then 0 else 1 + deep ps 15 (upD ps x)) = _
  rw [if_neg q]
 rw [e, zvf 15 16 _ (zpt (k := 15) h q).2 (by omega)]
 omega
set_option maxRecDepth 100000 in
set_option maxHeartbeats 4000000 in
theorem znw (v : Value) (ws : List Ino) (ps : List Den) (a b : Int) (w : World) (h : RdIm w v ws ps) (hw : ws.length ≤ 1048576) (hp : ps.length ≤ 1048576) (hT : TS w) (hE : ED w) (hF : FD w) (hr : ∀ k (h : k < ws.length), ws[k].R) (hs : ∀ k (h : k < ps.length), ps[k].name.size ≤ maxLen) :
  Calls Tryz.prog 237 #[v, .int .i64 a, .int .i64 b] w fun e w' => e = .returned (.tuple #[.bool (beV ws ps a b), .int .i64 (beC ws ps a b)]) ∧ Below w.heap.size w w' := by
 have HRD := zaa h
 have LI := zaa (fun w1 (hb : Below w.heap.size w w1) => zbo v ws ps w1 (h.below hb) hw hp (hT.below hb) (hE.below hb) (hF.below hb) hr hs)
 have LD := zaa (fun i w1 h (hl : ws.length = 16) (h0 : 0 ≤ i ∧ i ≤ 15) => zhu v ws ps i w1 h hl h0)
 obtain ⟨vW, vP, rfl, h1, h2⟩ := h
 obtain ⟨aW, cW, rfl, _, _⟩ := h1.shape
 obtain ⟨aP, cP, rfl, _, hcP⟩ := h2.shape
 have HP := zaa hcP
 clear h1 h2 hr hs hcP hT hE hF
 obtain ⟨W, hW⟩ : ∃ W, W = w.alloc (.cells #[.slice aW ws.length cW, .slice aP ps.length cP] 63) := ⟨_, rfl⟩
 have CA : Hid (∀ w', Below W.heap.size W w' → w'.cell? ⟨w.heap.size, 0, none⟩ = some (.slice aW ws.length cW) ∧ w'.cell? ⟨w.heap.size, 1, none⟩ = some (.slice aP ps.length cP)) := fun w' hb => by
  have : w'.heap[w.heap.size]? = some (.cells #[.slice aW ws.length cW, .slice aP ps.length cP] 63 (0, 0)) := (hb.block _ (by rw [hW]; simp)).trans (by rw [hW]; exact zah rfl)
  exact ⟨(zac this).1, (zac this).2.1⟩
 have BW : Hid (Below w.heap.size w W) := by rw [hW]; exact (Below.refl _ _).alloc (Nat.le_refl _) _
 have hzW : w.heap.size ≤ W.heap.size := BW.out.size
 cases c1 : zax ws ps with
 | false =>
  obtain ⟨E1, E2⟩ := be_not (a := a) (b := b) c1
  rw [c1] at LI
  rw [E1, E2]
  clear c1 E1 E2
  go_enter Tryz.func237, Tryz.ntmps237
  go_wp2_with fail
  go_step3
  go_wp2_with fail
  rw [← hW]
  clear hW
  refine (LI.out _ BW.out).mono ?_
  rintro e w1 ⟨rfl, hb1⟩
  have B1 := zaa (zab BW.out hb1 BW.out.size)
  have BA1 := zaa hb1
  obtain ⟨x0, x1⟩ := CA.out _ hb1
  clear hb1
  go_wp2
  try rw [Exit.noGoto_ret]
  go_ret2
  exact ⟨rfl, B1.out⟩
 | true =>
 have C1 := zaa c1
 rw [c1] at LI
 by_cases c2 : 0 ≤ a ∧ a ≤ 15
 case neg =>
  obtain ⟨E1, E2⟩ := be_range (a := a) (b := b) c1 (fun q => c2 q.1)
  rw [E1, E2]
  have C2 : Hid (¬ (0 ≤ a ∧ a < 16)) := fun q => c2 (by omega)
  clear c1 E1 E2 c2
  go_enter Tryz.func237, Tryz.ntmps237
  go_wp2_with fail
  go_step3
  go_wp2_with fail
  rw [← hW]
  clear hW
  refine (LI.out _ BW.out).mono ?_
  rintro e w1 ⟨rfl, hb1⟩
  have B1 := zaa (zab BW.out hb1 BW.out.size)
  have BA1 := zaa hb1
  obtain ⟨x0, x1⟩ := CA.out _ hb1
  clear hb1
  go_wp2_with fail
  refine (zbj _ _ _ C2.out).mono ?_
  rintro e w2 ⟨rfl, hw2⟩
  subst w2
  go_wp2
  try rw [Exit.noGoto_ret]
  go_ret2
  exact ⟨rfl, B1.out⟩
 by_cases c3 : 0 ≤ b ∧ b ≤ 15
 case neg =>
  obtain ⟨E1, E2⟩ := be_range (a := a) (b := b) c1 (fun q => c3 q.2)
  rw [E1, E2]
  have C2 : Hid (0 ≤ a ∧ a < 16) := by unfold Hid; omega
  have C3 : Hid (¬ (0 ≤ b ∧ b < 16)) := fun q => c3 (by omega)
  clear c1 E1 E2 c2 c3
  go_enter Tryz.func237, Tryz.ntmps237
  go_wp2_with fail
  go_step3
  go_wp2_with fail
  rw [← hW]
  clear hW
  refine (LI.out _ BW.out).mono ?_
  rintro e w1 ⟨rfl, hb1⟩
  have B1 := zaa (zab BW.out hb1 BW.out.size)
  have BA1 := zaa hb1
  obtain ⟨x0, x1⟩ := CA.out _ hb1
  clear hb1
  go_wp2_with fail
  refine (zaq _ _ _ C2.out).mono ?_
  rintro e w2 ⟨rfl, hw2⟩
  subst w2
  go_wp2_with fail
  refine (zbj _ _ _ C3.out).mono ?_
  rintro e w2 ⟨rfl, hw2⟩
  subst w2
  go_wp2
  try rw [Exit.noGoto_ret]
  go_ret2
  exact ⟨rfl, B1.out⟩
 have L16 := zaa (zao c1).1
 have L24 := zaa (zao c1).2.1
 have U0 := zaa (pimg_root c1)
 have C2 : Hid (0 ≤ a ∧ a < 16) := by unfold Hid; omega
 have C3 : Hid (0 ≤ b ∧ b < 16) := by unfold Hid; omega
 have D2 := zaa c2
 have D3 := zaa c3
 have NO := zaa (fun r => be_nodir C1.out ⟨D2.out, D3.out⟩ r)
 have YES := zaa (fun r => be_ok C1.out ⟨D2.out, D3.out⟩ r)
 have HG := zaa (fun hk => pimg_hangs C1.out D2.out hk)
 have HD : Hid (∀ k (h : k < ps.length), ps[k].child = 0 → False) := fun k h e => by
  rcases zfb C1.out k h with q | q <;> omega
 have LA := zaa (fun w1 (hb : Below w.heap.size w w1) => LD.out a w1 (HRD.out.below hb) L16.out D2.out)
 have LB := zaa (fun w1 (hb : Below w.heap.size w w1) => LD.out b w1 (HRD.out.below hb) L16.out D3.out)
 clear c1 c2 c3 LD
 generalize zai ws a = ka at *
 generalize zai ws b = kb at *
 generalize beC ws ps a b = ec at *
 generalize beV ws ps a b = ev at *
 by_cases c4 : ka = 2
 case neg =>
  obtain ⟨E1, E2⟩ := NO.out (fun q => c4 q.1)
  have Q1 : Hid ((ka == 2) = false) := by unfold Hid; rw [beq_eq_false_iff_ne]; exact c4
  subst E1 E2
  clear c4 NO YES HG
  go_enter Tryz.func237, Tryz.ntmps237
  go_wp2_with fail
  go_step3
  go_wp2_with fail
  rw [← hW]
  clear hW
  refine (LI.out _ BW.out).mono ?_
  rintro e w1 ⟨rfl, hb1⟩
  have B1 := zaa (zab BW.out hb1 BW.out.size)
  have BA1 := zaa hb1
  obtain ⟨x0, x1⟩ := CA.out _ hb1
  clear hb1
  go_wp2_with fail
  refine (zaq _ _ _ C2.out).mono ?_
  rintro e w2 ⟨rfl, hw2⟩
  subst w2
  go_wp2_with fail
  refine (zaq _ _ _ C3.out).mono ?_
  rintro e w2 ⟨rfl, hw2⟩
  subst w2
  go_wp2_with fail
  refine (LA.out _ B1.out).mono ?_
  rw [Q1.out]
  rintro e w3 ⟨rfl, hb⟩
  have B3 := zaa (zab B1.out hb B1.out.size)
  have BA3 := zaa (zab BA1.out hb BA1.out.size)
  clear hb x0 x1
  obtain ⟨x0, x1⟩ := CA.out _ BA3.out
  go_wp2
  try rw [Exit.noGoto_ret]
  go_ret2
  exact ⟨rfl, B3.out⟩
 by_cases c5 : kb = 2
 case neg =>
  obtain ⟨E1, E2⟩ := NO.out (fun q => c5 q.2)
  have Q1 : Hid ((ka == 2) = true) := by unfold Hid; rw [c4]; rfl
  have Q2 : Hid ((kb == 2) = false) := by unfold Hid; rw [beq_eq_false_iff_ne]; exact c5
  subst E1 E2
  clear c4 c5 NO YES HG
  go_enter Tryz.func237, Tryz.ntmps237
  go_wp2_with fail
  go_step3
  go_wp2_with fail
  rw [← hW]
  clear hW
  refine (LI.out _ BW.out).mono ?_
  rintro e w1 ⟨rfl, hb1⟩
  have B1 := zaa (zab BW.out hb1 BW.out.size)
  have BA1 := zaa hb1
  obtain ⟨x0, x1⟩ := CA.out _ hb1
  clear hb1
  go_wp2_with fail
  refine (zaq _ _ _ C2.out).mono ?_
  rintro e w2 ⟨rfl, hw2⟩
  subst w2
  go_wp2_with fail
  refine (zaq _ _ _ C3.out).mono ?_
  rintro e w2 ⟨rfl, hw2⟩
  subst w2
  go_wp2_with fail
  refine (LA.out _ B1.out).mono ?_
  rw [Q1.out]
  rintro e w3 ⟨rfl, hb⟩
  have B3 := zaa (zab B1.out hb B1.out.size)
  have BA3 := zaa (zab BA1.out hb BA1.out.size)
  clear hb x0 x1
  obtain ⟨x0, x1⟩ := CA.out _ BA3.out
  go_wp2_with fail
  refine (LB.out _ B3.out).mono ?_
  rw [Q2.out]
  rintro e w4 ⟨rfl, hb⟩
  have B4 := zaa (zab B3.out hb B3.out.size)
  have BA4 := zaa (zab BA3.out hb BA3.out.size)
  clear hb x0 x1
  obtain ⟨x0, x1⟩ := CA.out _ BA4.out
  go_wp2
  try rw [Exit.noGoto_ret]
  go_ret2
  exact ⟨rfl, B4.out⟩
 obtain ⟨E1, E2⟩ := YES.out ⟨c4, c5⟩
 have Q1 : Hid ((ka == 2) = true) := by unfold Hid; rw [c4]; rfl
 have Q2 : Hid ((kb == 2) = true) := by unfold Hid; rw [c5]; rfl
 have G := zaa (HG.out c4)
 have ST := zaa (fun x h hx q => ben_step U0.out (x := x) (b := b) h hx q)
 have EV : Hid (ev = zjg ps 16 a b) := E2.trans (zsd U0.out 16 17 a b G.out D2.out.1 (by omega))
 subst E1
 clear c4 c5 NO YES HG E2
 go_enter Tryz.func237, Tryz.ntmps237
 go_wp2_with fail
 go_step3
 go_wp2_with fail
 rw [← hW]
 clear hW
 refine (LI.out _ BW.out).mono ?_
 rintro e w1 ⟨rfl, hb1⟩
 have B1 := zaa (zab BW.out hb1 BW.out.size)
 have BA1 := zaa hb1
 obtain ⟨x0, x1⟩ := CA.out _ hb1
 clear hb1
 go_wp2_with fail
 refine (zaq _ _ _ C2.out).mono ?_
 rintro e w2 ⟨rfl, hw2⟩
 subst w2
 go_wp2_with fail
 refine (zaq _ _ _ C3.out).mono ?_
 rintro e w2 ⟨rfl, hw2⟩
 subst w2
 go_wp2_with fail
 refine (LA.out _ B1.out).mono ?_
 rw [Q1.out]
 rintro e w3 ⟨rfl, hb⟩
 have B3 := zaa (zab B1.out hb B1.out.size)
 have BA3 := zaa (zab BA1.out hb BA1.out.size)
 clear hb x0 x1
 obtain ⟨x0, x1⟩ := CA.out _ BA3.out
 go_wp2_with fail
 refine (LB.out _ B3.out).mono ?_
 rw [Q2.out]
 rintro e w4 ⟨rfl, hb⟩
 have B4 := zaa (zab B3.out hb B3.out.size)
 have BA4 := zaa (zab BA3.out hb BA3.out.size)
 clear hb x0 x1
 obtain ⟨x0, x1⟩ := CA.out _ BA4.out
 clear B3 BA3 B1 BA1 LA LB LI Q1 Q2 x0 x1
 have hz4 : W.heap.size ≤ w4.heap.size := BA4.out.size
 go_wp2_with fail
 go_step3
 go_wp2_with fail
 go_loopg [1] (deep ps 16 a) (fun g d wr => ∃ z : Int, d = .int .i64 z ∧ Hid ((0 ≤ z ∧ zct ps 16 z = true) ∧ zjg ps 16 a b = zjg ps 16 z b ∧ Below w4.heap.size w4 wr ∧ deep ps 16 z ≤ g))
 case atStart => exact ⟨a, rfl, ⟨D2.out.1, G.out⟩, rfl, Below.refl _ _, Nat.le_refl _⟩
 case round =>
  obtain ⟨z, rfl, J⟩ := hrel
  have JW := zaa (zab B4.out J.out.2.2.1 B4.out.size)
  have JA := zaa (zab BA4.out J.out.2.2.1 hz4)
  obtain ⟨x0, x1⟩ := CA.out _ JA.out
  by_cases q : z = b
  ·have q1 : (z != b) = false := by rw [q]; simp
   have E : Hid (ev = true) := by
    unfold Hid
    rw [EV.out, J.out.2.1, q, show (16 : Nat) = 15 + 1 from rfl, zhh, if_neg (by have := J.out.1.1; omega), if_pos rfl]
   clear J q
   obtain rfl := E.out
   go_wp2
   try rw [Exit.noGoto_ret]
   go_ret2
   exact ⟨rfl, JW.out⟩
  ·have q1 : (z != b) = true := by rw [bne_iff_ne]; exact q
   obtain ⟨S0, S1⟩ := ST.out z J.out.1.2 J.out.1.1 q
   have S0 := zaa S0
   have S1 := zaa S1
   have J3 := zaa J.out.2.2.1
   have DS := zaa (fun q => deep_step (ps := ps) (x := z) J.out.1.2 q)
   clear q
   go_wp2_with fail
   generalize gk = G0 at *
   generalize hV : wr = V at *
   clear hV
   have hzV : w4.heap.size ≤ V.heap.size := J3.out.size
   have JD := zaa J.out
   clear J
   go_loopg [1, 37] ps.length (fun g2 d i wq => ∃ k : Nat, k + g2 = ps.length ∧ d = .int .i64 z ∧ i = .int .i64 k ∧ Hid (Below V.heap.size V wq ∧ ∀ j (h : j < ps.length), j < k → ¬ ps[j].child = z))
   case atStart => exact ⟨0, by omega, rfl, rfl, Below.refl _ _, fun j h a => absurd a (by omega)⟩
   case round =>
    obtain ⟨k, hk, rfl, rfl, K⟩ := hrel
    have KW := zaa (zab JW.out K.out.1 JW.out.size)
    have K4 := zaa (zab J3.out K.out.1 hzV)
    have k0 : (0 : Int) ≤ (k : Int) := by omega
    by_cases hlt : k < ps.length
    ·obtain ⟨b0, o0, rfl, hbl, hcell⟩ := HP.out (by omega)
     obtain ⟨a0, a1, a2⟩ := hcell k hlt
     have d0 := (KW.out.cell (p := ⟨b0, o0 + k * 3, none⟩) hbl).trans a0
     have d1 := (KW.out.cell (p := ⟨b0, o0 + k * 3 + 1, none⟩) hbl).trans a1
     have d2 := (KW.out.cell (p := ⟨b0, o0 + k * 3 + 2, none⟩) hbl).trans a2
     have k1 : (k : Int) < (ps.length : Int) := by omega
     have HY := zaa (fun e : ps[k].child = z => upD_yes hlt K.out.2 e)
     have HX := zaa (fun (e : ¬ ps[k].child = z) j (h : j < ps.length) (a : j < k + 1) => show ¬ ps[j].child = z by
      by_cases q : j = k
      ·subst q; exact e
      ·exact K.out.2 j h (by omega))
     have HZ := zaa (fun e : ps[k].child = z => fun z0 : z = 0 => HD.out k hlt (e.trans z0))
     have K1 := zaa K.out.1
     clear hcell a0 a1 a2 K
     generalize ps[k].child = y at *
     generalize ps[k].dir = yd at *
     generalize ps[k].name = yn at *
     have BX := zaa ((Below.refl wr.heap.size wr).alloc (Nat.le_refl _) (.cells #[.int .i64 yd, .string yn, .int .i64 y] 180))
     by_cases q : y = z
     ·have q1 : (y == z) = true := beq_iff_eq.2 q
      have E := zaa (HY.out q)
      have z0 := HZ.out q
      have S2 := zaa (S1.out z0)
      have D2' := zaa (DS.out z0)
      have B5 := zaa (zab K4.out BX.out K4.out.size)
      rw [E.out] at S2 D2'
      clear q HX HY HZ
      go_wp2
      go_roundg (deep ps 16 yd)
      case measure => have := JD.out.2.2.2; have := D2'.out; omega
      case rel => exact ⟨yd, rfl, ⟨S2.out.1, S2.out.2.1⟩, by rw [JD.out.2.1, S2.out.2.2], B5.out, Nat.le_refl _⟩
     ·have q1 : (y == z) = false := beq_eq_false_iff_ne.2 q
      have E := zaa (HX.out q)
      have B5 := zaa (zab K1.out BX.out K1.out.size)
      clear q HX HY HZ
      go_wp2
      go_roundg (ps.length - (k + 1))
      case measure => omega
      case rel => exact ⟨k + 1, by omega, rfl, by go_num, B5.out, E.out⟩
    ·obtain rfl : k = ps.length := by omega
     have E : Hid (ev = false) := by
      unfold Hid
      have un := upD_no (fun j h => K.out.2 j h h)
      have z0 : z = 0 := Classical.byContradiction fun n => by have := (S1.out n).1; omega
      rw [EV.out, JD.out.2.1]
      exact S0.out z0
     clear K
     obtain rfl := E.out
     go_wp2
     try rw [Exit.noGoto_ret]
     go_ret2
     exact ⟨rfl, KW.out⟩
end Go.Proofs.YtcilodgoognmnaaGreatDoor
