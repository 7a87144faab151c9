/- Several texts laid together: RdE, RdF. -/
import Derived.Test.YtbbmljakfbhnpaaGreatDoorRdB
import Derived.Test.YtbbmljakfbhnpaaGreatDoorZAR
import Derived.Test.YtbbmljakfbhnpaaGreatDoorZAG
import Derived.Deep.RegionWith
import Derived.Test.YtbbmljakfbhnpaaGreatDoorZBF
import Derived.Deep.RegionLaw
namespace Go.Proofs.YtbbmljakfbhnpaaGreatDoor
open Go.RowKit

theorem zud (a : Option Addr) (n cap : Nat) (hn : 8 ≤ n) (w : World) : (Instr.arrayAt 42 (.slice a n cap)).run Tryz.prog w = .ok (.pointer a) w := by
 have h : ¬ n < 8 := by omega
 simp [Instr.arrayAt, run_underlying Tryz.underlying42, h, go_sem]

set_option maxRecDepth 100000 in
set_option maxHeartbeats 2000000 in
theorem zpy (b o n c : Nat) (x : Ino) (w : World) (hn : 11 ≤ n) (hc : n ≤ c) (hb : b < w.heap.size) (h : ∀ j, j < 11 → w.cell? ⟨b, o + j, none⟩ = x.cs[j]?) :
  Calls Tryz.prog 54 #[.slice (some ⟨b, o, none⟩) n c] w fun e w' => e = .returned x.v ∧ Below w.heap.size w w' := by
 have BW := zaa ((Below.refl w.heap.size w).alloc (Nat.le_refl _) (.cells #[.int .i64 0, .int .i64 0, .int .i64 0, .int .i64 0, .int .i64 0, .int .i64 0, .int .i64 0, .int .i64 0, .int .i64 0, .int .i64 0, .int .i64 0] 44))
 have S : Hid (∀ w', Below w.heap.size w w' → w'.cell? ⟨b, o, none⟩ = some (.int .i64 x.kind) ∧ w'.cell? ⟨b, o + 1, none⟩ = some (.int .i64 x.size) ∧ w'.cell? ⟨b, o + 2, none⟩ = some (.int .i64 x.links) ∧ w'.cell? ⟨b, o + 3, none⟩ = some (.int .i64 x.m0) ∧ w'.cell? ⟨b, o + 3 + 1, none⟩ = some (.int .i64 x.m1) ∧ w'.cell? ⟨b, o + 3 + 2, none⟩ = some (.int .i64 x.m2) ∧ w'.cell? ⟨b, o + 3 + 3, none⟩ = some (.int .i64 x.m3) ∧ w'.cell? ⟨b, o + 3 + 4, none⟩ = some (.int .i64 x.m4) ∧ w'.cell? ⟨b, o + 3 + 5, none⟩ = some (.int .i64 x.m5) ∧ w'.cell? ⟨b, o + 3 + 6, none⟩ = some (.int .i64 x.m6) ∧ w'.cell? ⟨b, o + 3 + 7, none⟩ = some (.int .i64 x.m7)) := fun w' hw' =>
  have g := fun j (hj : j < 11) => (hw'.cell (p := ⟨b, o + j, none⟩) hb).trans (h j hj)
  ⟨g 0 (by omega), g 1 (by omega), g 2 (by omega), g 3 (by omega), g 4 (by omega), g 5 (by omega), g 6 (by omega), g 7 (by omega), g 8 (by omega), g 9 (by omega), g 10 (by omega)⟩
 obtain ⟨s0, s1, s2, s3, s4, s5, s6, s7, s8, s9, s10⟩ := S.out _ BW.out
 have i0 : (0 : Int) < (n : Int) := by omega
 have i00 : 0 < n := by omega
 have i1 : (1 : Int) < (n : Int) := by omega
 have i2 : (2 : Int) < (n : Int) := by omega
 have i3 : (11 : Int) ≤ (c : Int) := by omega
 have i4 : ¬ c = 3 := by omega
 have i5 : (3 : Int) ≤ 11 := by omega
 have har := zud (some ⟨b, o + 3, none⟩) 8 (c - 3) (Nat.le_refl _)
 unfold Ino.v
 clear h hn hc
 go_enter Tryz.func54, Tryz.ntmps54
 go_wp2_with fail
 go_region_held3 (fun w' => w'.cell? ⟨b, o, none⟩ = some (.int .i64 x.kind) ∧ w'.cell? ⟨b, o + 1, none⟩ = some (.int .i64 x.size) ∧ w'.cell? ⟨b, o + 2, none⟩ = some (.int .i64 x.links) ∧ w'.cell? ⟨b, o + 3, none⟩ = some (.int .i64 x.m0) ∧ w'.cell? ⟨b, o + 3 + 1, none⟩ = some (.int .i64 x.m1) ∧ w'.cell? ⟨b, o + 3 + 2, none⟩ = some (.int .i64 x.m2) ∧ w'.cell? ⟨b, o + 3 + 3, none⟩ = some (.int .i64 x.m3) ∧ w'.cell? ⟨b, o + 3 + 4, none⟩ = some (.int .i64 x.m4) ∧ w'.cell? ⟨b, o + 3 + 5, none⟩ = some (.int .i64 x.m5) ∧ w'.cell? ⟨b, o + 3 + 6, none⟩ = some (.int .i64 x.m6) ∧ w'.cell? ⟨b, o + 3 + 7, none⟩ = some (.int .i64 x.m7))
  (exact S.out _ (by repeat (first | with_reducible exact BW.out | with_reducible refine zaw ?_ _ | with_reducible exact Below.refl _ _ | with_reducible refine Below.drew ?_)))
  (fail)
 all_goals
  go_wp2
  refine bodyPost_ret (v := .agg #[.int .i64 x.kind, .int .i64 x.size, .int .i64 x.links, .int .i64 x.m0, .int .i64 x.m1, .int .i64 x.m2, .int .i64 x.m3, .int .i64 x.m4, .int .i64 x.m5, .int .i64 x.m6, .int .i64 x.m7]) (by simp [results, Tryz.results54, go_sem]) rfl ⟨rfl, ?_⟩
  repeat (first | with_reducible exact Below.refl _ _ | with_reducible refine zaw ?_ _ | with_reducible refine Below.drew ?_)

/-- An entry off three words. -/
def denZ (z0 z1 z2 : Int) : Den := if z2 = 0 then ⟨0, ⟨#[]⟩, -1⟩ else ⟨z0, zrt z1, z2 - 1⟩
def zmj (z0 z1 z2 : Int) : Bool := if z2 = 0 then z0 == 0 && z1 == 0 else zfb z1

set_option maxRecDepth 100000 in
set_option maxHeartbeats 2000000 in
theorem zon (b o n c : Nat) (z0 z1 z2 : Int) (w : World) (hn : 3 ≤ n) (_hc : n ≤ c) (hb : b < w.heap.size) (h0 : w.cell? ⟨b, o, none⟩ = some (.int .i64 z0)) (h1 : w.cell? ⟨b, o + 1, none⟩ = some (.int .i64 z1)) (h2 : w.cell? ⟨b, o + 2, none⟩ = some (.int .i64 z2)) (hF : FD w) (r1 : z1 ≤ 9223372036854775807) (r2 : 0 ≤ z2 ∧ z2 ≤ 9223372036854775807) :
  Calls Tryz.prog 55 #[.slice (some ⟨b, o, none⟩) n c] w fun e w' => (∃ s, e = .returned (.tuple #[.agg #[.int .i64 (denZ z0 z1 z2).dir, .string s, .int .i64 (denZ z0 z1 z2).child], .bool (zmj z0 z1 z2)]) ∧ (zmj z0 z1 z2 = true → s = (denZ z0 z1 z2).name)) ∧ Below w.heap.size w w' := by
 have BW := zaa ((Below.refl w.heap.size w).alloc (Nat.le_refl _) (.cells #[.int .i64 0, .string ⟨#[]⟩, .int .i64 0] 50))
 have S : Hid (∀ w', Below w.heap.size w w' → w'.cell? ⟨b, o, none⟩ = some (.int .i64 z0) ∧ w'.cell? ⟨b, o + 1, none⟩ = some (.int .i64 z1) ∧ w'.cell? ⟨b, o + 2, none⟩ = some (.int .i64 z2)) := fun w' hw' => ⟨(hw'.cell (p := ⟨b, o, none⟩) hb).trans h0, (hw'.cell (p := ⟨b, o + 1, none⟩) hb).trans h1, (hw'.cell (p := ⟨b, o + 2, none⟩) hb).trans h2⟩
 obtain ⟨s0, s1, s2⟩ := S.out _ BW.out
 have F := zaa hF
 have i0 : (0 : Int) < (n : Int) := by omega
 have i00 : 0 < n := by omega
 have i1 : (1 : Int) < (n : Int) := by omega
 have i2 : (2 : Int) < (n : Int) := by omega
 clear h0 h1 h2 hF
 by_cases c2 : z2 = 0
 ·subst c2
  have E1 : denZ z0 z1 0 = ⟨0, ⟨#[]⟩, -1⟩ := by unfold denZ; rw [if_pos rfl]
  have E2 : zmj z0 z1 0 = (z0 == 0 && z1 == 0) := by unfold zmj; rw [if_pos rfl]
  rw [E1, E2]
  clear E1 E2
  obtain ⟨f0, f1, f2⟩ := FD.cells (F.out.below BW.out)
  by_cases c0 : z0 = 0
  ·have q0 : (z0 == 0) = true := by rw [c0]; rfl
   have EQ : Hid ((z0 == 0 && z1 == 0) = (z1 == 0)) := by unfold Hid; rw [q0]; rfl
   rw [EQ.out]
   clear c0 EQ
   go_enter Tryz.func55, Tryz.ntmps55
   go_wp2_with fail
   go_region_held3 (fun w' => (w'.cell? ⟨b, o, none⟩ = some (.int .i64 z0) ∧ w'.cell? ⟨b, o + 1, none⟩ = some (.int .i64 z1) ∧ w'.cell? ⟨b, o + 2, none⟩ = some (.int .i64 0)) ∧ w'.cell? ⟨1, 0, none⟩ = some (.int .i64 0) ∧ w'.cell? ⟨1, 1, none⟩ = some (.string ⟨#[]⟩) ∧ w'.cell? ⟨1, 2, none⟩ = some (.int .i64 (-1)))
    (exact ⟨S.out _ (by repeat (first | with_reducible exact BW.out | with_reducible refine zaw ?_ _ | with_reducible exact Below.refl _ _ | with_reducible refine Below.drew ?_)), FD.cells (F.out.below (by repeat (first | with_reducible exact BW.out | with_reducible refine zaw ?_ _ | with_reducible exact Below.refl _ _ | with_reducible refine Below.drew ?_)))⟩)
    (fail)
   all_goals
    go_wp2
    refine bodyPost_ret (v := .tuple #[.agg #[.int .i64 0, .string ⟨#[]⟩, .int .i64 (-1)], .bool (z1 == 0)]) (by simp [results, Tryz.results55, go_sem]) rfl ?_
    exact ⟨⟨_, rfl, fun _ => rfl⟩, (by repeat (first | with_reducible exact BW.out | with_reducible exact Below.refl _ _ | with_reducible refine zaw ?_ _ | with_reducible refine Below.drew ?_ | refine Below.setCell ?_ (by exact Nat.le_refl _) _))⟩
  ·have q0 : (z0 == 0) = false := by rw [beq_eq_false_iff_ne]; exact c0
   have EQ : Hid ((z0 == 0 && z1 == 0) = false) := by unfold Hid; rw [q0]; rfl
   rw [EQ.out]
   clear c0 EQ
   go_enter Tryz.func55, Tryz.ntmps55
   go_wp2_with fail
   go_region
   all_goals
    go_wp2
    refine bodyPost_ret (v := .tuple #[.agg #[.int .i64 0, .string ⟨#[]⟩, .int .i64 (-1)], .bool false]) (by simp [results, Tryz.results55, go_sem]) rfl ?_
    exact ⟨⟨_, rfl, fun _ => rfl⟩, (by repeat (first | with_reducible exact BW.out | with_reducible exact Below.refl _ _ | with_reducible refine zaw ?_ _ | with_reducible refine Below.drew ?_ | refine Below.setCell ?_ (by exact Nat.le_refl _) _))⟩
 ·have q : (z2 == 0) = false := by rw [beq_eq_false_iff_ne]; exact c2
  have E1 : denZ z0 z1 z2 = ⟨z0, zrt z1, z2 - 1⟩ := by unfold denZ; rw [if_neg c2]
  have E2 : zmj z0 z1 z2 = zfb z1 := by unfold zmj; rw [if_neg c2]
  rw [E1, E2]
  have LU := zaa (fun w1 => zim z1 w1 r1)
  have EU : Hid ((unpC z1 == 0) = zfb z1) := by
   unfold Hid unpC
   cases zfb z1 <;> rfl
  have wp1 : IntKind.i64.wrap (z2 - 1) = z2 - 1 := by rw [IntKind.wrap_i64]; omega
  rw [← EU.out]
  clear E1 E2 c2 EU
  generalize unpC z1 = uc at *
  generalize zrt z1 = us at *
  go_enter Tryz.func55, Tryz.ntmps55
  go_wp2_with fail
  refine (LU.out _).mono ?_
  rintro e w1 ⟨rfl, hb1⟩
  have B1 := zaa (zab BW.out hb1 BW.out.size)
  have VB : Hid (w1.heap[w.heap.size]? = some (.cells #[.int .i64 0, .string ⟨#[]⟩, .int .i64 0] 50 (0, 0))) := (hb1.block _ (by simp)).trans (zag rfl)
  clear hb1 s0 s1 s2
  obtain ⟨s0, s1, s2⟩ := S.out _ B1.out
  obtain ⟨t0, t1, t2⟩ := zba VB.out
  have u0 := (zao (xs := [.int .i64 0, .string ⟨#[]⟩, .int .i64 0]) VB.out 0).2
  have u1 := (zao (xs := [.int .i64 0, .string ⟨#[]⟩, .int .i64 0]) VB.out 1).2
  have u2 := (zao (xs := [.int .i64 0, .string ⟨#[]⟩, .int .i64 0]) VB.out 2).2
  go_wp2_with fail
  go_region_held3 (fun w' => w'.cell? ⟨b, o, none⟩ = some (.int .i64 z0) ∧ w'.cell? ⟨b, o + 1, none⟩ = some (.int .i64 z1) ∧ w'.cell? ⟨b, o + 2, none⟩ = some (.int .i64 z2))
   (exact S.out _ (by repeat (first | with_reducible exact B1.out | with_reducible refine Below.drew ?_ | refine Below.setCell ?_ (by exact Nat.le_refl _) _)))
   (fail)
  all_goals
   go_wp2
   refine bodyPost_ret (v := .tuple #[.agg #[.int .i64 z0, .string us, .int .i64 (z2 - 1)], .bool (uc == 0)]) (by simp [results, Tryz.results55, go_sem, t0, t1, t2]) rfl ?_
   exact ⟨⟨_, rfl, fun _ => rfl⟩, (by repeat (first | with_reducible exact B1.out | with_reducible refine Below.drew ?_ | refine Below.setCell ?_ (by exact Nat.le_refl _) _))⟩
end Go.Proofs.YtbbmljakfbhnpaaGreatDoor

namespace Go.Proofs.YtbbmljakfbhnpaaGreatDoor
open Go.RowKit

theorem zqo {w : World} {base : Nat} {e : TypeId} {size : Nat} {v : Value} {n : Nat} {xs : List Value} (h : w.ownsRow base e size v n xs) (hn : 0 < n) : ∃ b c, v = .slice (some ⟨b, 0, none⟩) n c ∧ n ≤ c := by
 rcases (zac h).shape with ⟨_, e, _⟩ | ⟨b, c, rfl, hc, _⟩
 ·omega
 ·exact ⟨b, c, rfl, hc⟩
theorem denZ_of (ls : List Int) (k : Nat) : denZ (wdI ls (240 + 3 * (k : Int))) (wdI ls (240 + 3 * (k : Int) + 1)) (wdI ls (240 + 3 * (k : Int) + 2)) = zem ls k ∧ zmj (wdI ls (240 + 3 * (k : Int))) (wdI ls (240 + 3 * (k : Int) + 1)) (wdI ls (240 + 3 * (k : Int) + 2)) = zbm ls k := ⟨rfl, rfl⟩
theorem wd_at (ls : List Int) (n j : Nat) (h : n + j < ls.length) : ls[n + j] = wdI ls ((n : Int) + (j : Int)) := by
 have := wdI_of h
 rw [← this]
 congr 1
theorem ino_at (ls : List Int) (i : Nat) (hi : i < 16) (hl : ls.length = 336) (j : Nat) (hj : j < 11) : (zco ls)[48 + 12 * i + j]? = (zdc ls i).cs[j]? := by
 rw [zcq ls (48 + 12 * i + j) (by omega), wd_at ls (48 + 12 * i) j (by omega), show (((48 + 12 * i : Nat) : Int) + (j : Int)) = 48 + 12 * (i : Int) + (j : Int) by omega]
 rcases (show j = 0 ∨ j = 1 ∨ j = 2 ∨ j = 3 ∨ j = 4 ∨ j = 5 ∨ j = 6 ∨ j = 7 ∨ j = 8 ∨ j = 9 ∨ j = 10 by omega) with rfl | rfl | rfl | rfl | rfl | rfl | rfl | rfl | rfl | rfl | rfl
 ·simp [zdc, Ino.cs]
 all_goals rfl

set_option maxRecDepth 100000 in
set_option maxHeartbeats 4000000 in
theorem zjr (v : Value) (ws : List Int) (ps : List St) (w : World) (h : RdPm w v ws ps) (hw : ws.length ≤ 1048576) (hp : ps.length ≤ 1048576) (hT : TS w) (hE : ED w) (hF : FD w) :
  Calls Tryz.prog 14 #[v] w fun e w' => ∃ v', e = .returned (.tuple #[v', .int .i64 (riC ws ps)]) ∧ RowIm w' w.heap.size w'.heap.size v' (riN ws ps) (riD ws ps) ∧ Below w.heap.size w w' := by
 have HR := zaa h
 have LS := zaa (fun w1 h => zot v ws ps w1 h hw hp)
 have T := zaa hT
 have E := zaa hE
 have F := zaa hF
 obtain ⟨vW, vP, rfl, h1, h2⟩ := h
 obtain ⟨aW, cW, rfl, _, _⟩ := h1.shape
 obtain ⟨aP, cP, rfl, _, _⟩ := h2.shape
 clear h1 h2 hT hE hF
 obtain ⟨W1, hW1⟩ : ∃ W1, W1 = (w.alloc (.cells #[.slice aW ws.length cW, .slice aP ps.length cP] 31)).alloc (.cells #[.slice none 0 0, .slice none 0 0] 26) := ⟨_, rfl⟩
 have hz1 : W1.heap.size = w.heap.size + 1 + 1 := by rw [hW1]; simp
 have CA : Hid (∀ w', Below W1.heap.size W1 w' → w'.cell? ⟨w.heap.size, 0, none⟩ = some (.slice aW ws.length cW) ∧ w'.cell? ⟨w.heap.size, 1, none⟩ = some (.slice aP ps.length cP)) := fun w' hb => by
  have : w'.heap[w.heap.size]? = some (.cells #[.slice aW ws.length cW, .slice aP ps.length cP] 31 (0, 0)) := (hb.block _ (by omega)).trans (by rw [hW1]; exact zaj (zag rfl))
  exact ⟨(zad this).1, (zad this).2.1⟩
 have CR : Hid (∀ w', Below W1.heap.size W1 w' → w'.heap[w.heap.size + 1]? = some (.cells #[.slice none 0 0, .slice none 0 0] 26 (0, 0))) := fun w' hb => (hb.block _ (by omega)).trans (by
  rw [hW1]
  have := zag (w := w.alloc (.cells #[.slice aW ws.length cW, .slice aP ps.length cP] 31)) (o := .cells #[.slice none 0 0, .slice none 0 0] 26) rfl
  rw [World.size_alloc] at this
  exact this)
 have BW : Hid (Below w.heap.size w W1) := by rw [hW1]; exact ((Below.refl _ _).alloc (Nat.le_refl _) _).alloc (by simp) _
 have hz0 : w.heap.size + 1 < W1.heap.size := by omega
 clear hz1
 obtain ⟨x0, x1⟩ := CA.out W1 (Below.refl _ _)
 cases c1 : pmB ws ps with
 | false =>
  obtain ⟨E1, E2, E3⟩ := ri_not c1
  obtain ⟨S1, S2⟩ := seen_not c1
  rw [S1, S2] at LS
  rw [E1, E2, E3]
  clear c1 E1 E2 E3 S1 S2
  go_enter Tryz.func14, Tryz.ntmps14
  go_wp2_with fail
  rw [← hW1]
  clear hW1
  refine (LS.out _ (HR.out.below BW.out)).mono ?_
  rintro e w1 ⟨v1, rfl, _, hb1⟩
  have B1 := zaa hb1
  clear x0 x1 hb1
  have CB := zaa (CR.out _ B1.out)
  obtain ⟨p0, p1, p2, p3⟩ := zad CB.out
  have BR : Hid (Below w.heap.size w ((w1.setCell ⟨w.heap.size + 1, 0, none⟩ (.slice none 0 0)).setCell ⟨w.heap.size + 1, 1, none⟩ (.slice none 0 0))) := ((zab BW.out B1.out BW.out.size).setCell (by simp only; omega) _).setCell (by simp only; omega) _
  go_wp2
  refine bodyPost_ret (v := .tuple #[.agg #[.slice none 0 0, .slice none 0 0], .int .i64 1]) (by simp [results, Tryz.results14, go_sem, p0, p1]) rfl ?_
  exact ⟨_, rfl, zje _ _ _, BR.out⟩
 | true =>
 have C1 := zaa c1
 obtain ⟨S1, S2⟩ := seen_ok c1
 rw [S1, S2] at LS
 have L336 := zaa (show (zck ws ps).length = 336 by rw [zcf]; exact (zgc c1).1)
 have WR := zaa (fun z => zmn c1 z)
 have NO := zaa (fun q => ri_form C1.out q)
 have YES := zaa (fun q => ri_ok C1.out q)
 have RB := zaa (show riB (zck ws ps) = (wdI (zck ws ps) 0 == 7 && (zbu (zck ws ps) 24 && zfm (zbc (zck ws ps) 16) (zbe (zck ws ps) 24))) from rfl)
 have LI := zaa (fun v w1 h hT hE hF => zgk v (zbc (zck ws ps) 16) (zbe (zck ws ps) 24) w1 h (by rw [zca]; omega) (by rw [zbl]; omega) hT hE hF (inosOf_R C1.out 16) (zmf _ 24))
 clear c1 S1 S2
 generalize riC ws ps = rc at *
 generalize riN ws ps = rn at *
 generalize riD ws ps = rd at *
 generalize zck ws ps = ls at *
 go_enter Tryz.func14, Tryz.ntmps14
 go_wp2_with fail
 rw [← hW1]
 clear hW1
 refine (LS.out _ (HR.out.below BW.out)).mono ?_
 rintro e w1 ⟨v1, rfl, hr1, hb1⟩
 have B1 := zaa hb1
 have hzz : W1.heap.size ≤ w1.heap.size := hb1.size
 obtain ⟨b, c, rfl, hcap⟩ := zqo hr1.1 (by have := L336.out; omega)
 obtain ⟨_, _, _, hbl, _, hcl⟩ := hr1.at
 have HC : Hid (∀ w', Below w1.heap.size w1 w' → ∀ j, j < 336 → w'.cell? ⟨b, j, none⟩ = (zco ls)[j]?) := fun w' hb j hj => (hb.cell (p := ⟨b, j, none⟩) hbl).trans (hcl j (by have := L336.out; omega))
 have c336 : 336 ≤ c := by have := L336.out; omega
 simp only [L336.out]
 clear hr1 hb1 hcl hcap x0 x1 LS
 have START : Hid (RimI w1 (w1.alloc (.cells #[.slice none 0 0, .slice none 0 0] 26)) w1.heap.size (.slice none 0 0) (.slice none 0 0) (zbc ls 0) []) := ⟨zag rfl, World.ownsRow_nil _ _ _ _, World.ownsRow_nil _ _ _ _, (Below.refl _ _).alloc (Nat.le_refl _) _, Nat.le_refl _⟩
 go_wp2_with fail
 go_loopg [20] 16 (fun g i wr => ∃ k : Nat, k + g = 16 ∧ i = .int .i64 k ∧ Hid (∃ vI vD, RimI w1 wr w1.heap.size vI vD (zbc ls k) []))
 case atStart => exact ⟨0, rfl, rfl, _, _, START.out⟩
 case round =>
  obtain ⟨k, hk, rfl, J⟩ := hrel
  obtain ⟨vI, vD, I⟩ := J.out
  have I := zaa I
  have k0 : (0 : Int) ≤ (k : Int) := by omega
  clear J START
  by_cases hlt : k < 16
  ·have k1 : (k : Int) < 16 := by omega
   obtain ⟨n, hn⟩ : ∃ n : Nat, n = 48 + 12 * k := ⟨_, rfl⟩
   have wm : IntKind.i64.wrap (12 * (k : Int)) = 12 * (k : Int) := by rw [IntKind.wrap_i64]; omega
   have wa : IntKind.i64.wrap (48 + 12 * (k : Int)) = (n : Int) := by rw [IntKind.wrap_i64]; omega
   have a0 : (0 : Int) ≤ (n : Int) := by omega
   have a1 : (n : Int) ≤ 336 := by omega
   have a2 : (n : Int) ≤ (c : Int) := by omega
   have a3 : ¬ c = n := by omega
   have LRI := zaa (fun w2 (hb : Below wr.heap.size wr w2) => zpy b n (336 - n) (c - n) (zdc ls k) w2 (by omega) (by omega) (Nat.lt_of_lt_of_le hbl (zab I.out.b hb I.out.z).size) (fun j hj => by
    have := HC.out w2 (zab I.out.b hb I.out.z) (n + j) (by omega)
    rw [this, hn]
    exact ino_at ls k hlt L336.out j hj))
   have MN := zaa (zmk ls k)
   have ML := zca ls k
   unfold Ino.v at LRI
   clear hn
   generalize zdc ls k = x at *
   obtain ⟨m0, m1, _, _⟩ := zad I.out.m
   have hzI := I.out.z
   go_wp2_with fail
   go_region_law (first
     | (go_simp; go_at_call 54; refine (LRI.out _ (by repeat (first | with_reducible exact BF.out | with_reducible exact Below.refl _ _ | with_reducible refine Below.drew ?_))).mono ?_; rintro e w2 ⟨rfl, hb2⟩; have BF : Hid (Below wr.heap.size wr w2) := zum (by repeat (first | with_reducible exact BF.out | with_reducible exact Below.refl _ _ | with_reducible refine Below.drew ?_)) hb2; clear hb2; have IA := zaa ((I.out.below BF.out).below ((Below.refl _ _).alloc (Nat.le_refl _) (.cells #[.int .i64 x.kind, .int .i64 x.size, .int .i64 x.links, .int .i64 x.m0, .int .i64 x.m1, .int .i64 x.m2, .int .i64 x.m3, .int .i64 x.m4, .int .i64 x.m5, .int .i64 x.m6, .int .i64 x.m7] 44))); have RX := zaa (rd_ino w2 x); obtain ⟨e0, e1, _, _⟩ := zad (I.out.below BF.out).m; obtain ⟨f0, f1, _, _⟩ := zad IA.out.m)
     | (refine zam rfl (.tmp 24) (.tmp 31) 23 rfl w1.heap.size 44 (.agg #[.int .i64 0, .int .i64 0, .int .i64 0, .int .i64 0, .int .i64 0, .int .i64 0, .int .i64 0, .int .i64 0, .int .i64 0, .int .i64 0, .int .i64 0]) 11 88 Tryz.underlying23 infoIno rfl (by decide) _ _ _ rfl IA.out.i _ 1 _ rfl RX.out (zrz _) (by simp [maxLen]; omega) (by omega) IA.out.z ?_; intro vN wN hownN hgrN; obtain ⟨bN, cN, rfl, _⟩ := zqo hownN (by omega); have GG := zaa (IA.out.growI x hownN hgrN); obtain ⟨g0, g1, g2, g3⟩ := zad GG.out.1; clear hownN hgrN))
   all_goals
    have G := zaa GG.out.2
    rw [← MN.out] at G
    simp only [zca] at G
    go_wp2
    go_roundg (16 - (k + 1))
    case measure => omega
    case rel => exact ⟨k + 1, by omega, by go_num, _, _, G.out⟩
  ·obtain rfl : k = 16 := by omega
   have SE : Hid (∃ vI vD, RimI w1 wr w1.heap.size vI vD (zbc ls 16) (zbe ls 0)) := ⟨vI, vD, I.out⟩
   have AG0 : Hid (∀ j, j < 0 → zbm ls j = true) := fun j h => absurd h (by omega)
   have BB := zaa (zab BW.out B1.out BW.out.size)
   clear I
   go_wp2_with fail
   go_loopg [35] 24 (fun g i wq => ∃ k : Nat, k + g = 24 ∧ i = .int .i64 k ∧ Hid ((∃ vI vD, RimI w1 wq w1.heap.size vI vD (zbc ls 16) (zbe ls k)) ∧ ∀ j, j < k → zbm ls j = true))
   case atStart => exact ⟨0, rfl, rfl, SE.out, AG0.out⟩
   case round =>
    obtain ⟨k, hk, rfl, J⟩ := hrel
    obtain ⟨vI, vD, I⟩ := J.out.1
    have I := zaa I
    have AG := zaa J.out.2
    have k0 : (0 : Int) ≤ (k : Int) := by omega
    clear J SE AG0
    by_cases hlt : k < 24
    ·have k1 : (k : Int) < 24 := by omega
     obtain ⟨n, hn⟩ : ∃ n : Nat, n = 240 + 3 * k := ⟨_, rfl⟩
     have wm : IntKind.i64.wrap (3 * (k : Int)) = 3 * (k : Int) := by rw [IntKind.wrap_i64]; omega
     have wa : IntKind.i64.wrap (240 + 3 * (k : Int)) = (n : Int) := by rw [IntKind.wrap_i64]; omega
     have a0 : (0 : Int) ≤ (n : Int) := by omega
     have a1 : (n : Int) ≤ 336 := by omega
     have a2 : (n : Int) ≤ (c : Int) := by omega
     have a3 : ¬ c = n := by omega
     have r1 := WR.out (240 + 3 * (k : Int) + 1)
     have r2 := WR.out (240 + 3 * (k : Int) + 2)
     have HX : Hid (∀ w2, Below wr.heap.size wr w2 → ∀ j : Nat, j < 3 → w2.cell? ⟨b, n + j, none⟩ = some (.int .i64 (wdI ls (240 + 3 * (k : Int) + (j : Int))))) := fun w2 hb j hj => by
      rw [HC.out w2 (zab I.out.b hb I.out.z) (n + j) (by omega), zcq ls (n + j) (by have := L336.out; omega), wd_at ls n j (by have := L336.out; omega), show ((n : Int) + (j : Int)) = 240 + 3 * (k : Int) + (j : Int) by omega]
     have LRD := zaa (fun w2 (hb : Below wr.heap.size wr w2) => zon b n (336 - n) (c - n) (wdI ls (240 + 3 * (k : Int))) (wdI ls (240 + 3 * (k : Int) + 1)) (wdI ls (240 + 3 * (k : Int) + 2)) w2 (by omega) (by omega) (Nat.lt_of_lt_of_le hbl (zab I.out.b hb I.out.z).size) (by have := HX.out w2 hb 0 (by omega); simpa using this) (by have := HX.out w2 hb 1 (by omega); simpa using this) (by have := HX.out w2 hb 2 (by omega); simpa using this) (F.out.below (zab BB.out (zab I.out.b hb I.out.z) BB.out.size)) (by omega) (by omega))
     simp only [(denZ_of ls k).1, (denZ_of ls k).2] at LRD
     have AGN : Hid (zbm ls k = true → ∀ j, j < k + 1 → zbm ls j = true) := fun q j h => by
      by_cases e : j = k
      ·subst e; exact q
      ·exact AG.out j (by omega)
     have MN := zaa (zib ls k)
     have ML := zbl ls k
     have GF : Hid (zbm ls k = false → zbu ls 24 = false) := fun q => zha (n := 24) hlt q
     clear hn HX r1 r2
     generalize zem ls k = x at *
     generalize zbm ls k = gd at *
     go_wp2_with fail
     refine (LRD.out _ (Below.refl _ _)).mono ?_
     rintro e w2 ⟨⟨s, rfl, hs⟩, hb2⟩
     have B2 := zaa hb2
     clear LRD hb2
     have B3 := zaa (zaw B2.out (.cells #[.int .i64 x.dir, .string s, .int .i64 x.child] 50))
     have hz2 : wr.heap.size ≤ w2.heap.size := B2.out.size
     have hz3 : w1.heap.size ≤ wr.heap.size := I.out.z
     cases gd with
     | false =>
      clear hs AGN MN ML
      have CB := zaa (CR.out _ (zum B1.out (zab I.out.b B3.out I.out.z)))
      obtain ⟨p0, p1, p2, p3⟩ := zad CB.out
      have EE := zaa (NO.out (by rw [RB.out, GF.out rfl]; simp))
      have BR : Hid (Below w.heap.size w (((w2.alloc (.cells #[.int .i64 x.dir, .string s, .int .i64 x.child] 50)).setCell ⟨w.heap.size + 1, 0, none⟩ (.slice none 0 0)).setCell ⟨w.heap.size + 1, 1, none⟩ (.slice none 0 0))) := ((zab BB.out (zab I.out.b B3.out I.out.z) BB.out.size).setCell (by simp only; omega) _).setCell (by simp only; omega) _
      go_wp2
      refine bodyPost_ret (v := .tuple #[.agg #[.slice none 0 0, .slice none 0 0], .int .i64 3]) (by simp [results, Tryz.results14, go_sem, p0, p1]) rfl ?_
      obtain ⟨E1, E2, E3⟩ := EE.out
      rw [E1, E2, E3]
      exact ⟨_, rfl, zje _ _ _, BR.out⟩
     | true =>
      obtain rfl := hs rfl
      have AG2 := zaa (AGN.out rfl)
      clear hs GF AGN
      have XB : Hid (BoxZ 50 wr (w2.alloc (.cells #[.int .i64 x.dir, .string x.name, .int .i64 x.child] 50)) w2.heap.size [.int .i64 x.dir, .string x.name, .int .i64 x.child]) := BoxZ.new B2.out
      have e0 := (XB.out.cell 0).1
      have e1 := (XB.out.cell 1).1
      have e2 := (XB.out.cell 2).1
      simp only [List.getElem?_cons_zero, List.getElem?_cons_succ] at e0 e1 e2
      have IR := zaa (I.out.below B3.out)
      obtain ⟨n0, n1, _, _⟩ := zad IR.out.m
      have IA := zaa (IR.out.below ((Below.refl _ _).alloc (Nat.le_refl _) (.cells #[.int .i64 x.dir, .string x.name, .int .i64 x.child] 50)))
      have RX := zaa (rd_den (w2.alloc (.cells #[.int .i64 x.dir, .string x.name, .int .i64 x.child] 50)) x)
      simp only [World.size_alloc] at RX
      have hzA := IA.out.z
      simp only [World.size_alloc] at hzA
      go_wp2_with (at_builtin; refine zae _ rfl (.tmp 51) (.tmp 53) 24 rfl w1.heap.size 50 (.agg #[.int .i64 0, .string ⟨#[]⟩, .int .i64 0]) 3 32 Tryz.underlying24 zmt rfl (by decide) _ _ _ rfl IA.out.d _ 1 _ rfl RX.out (zgs _) (by simp [maxLen]; omega) (by omega) IA.out.z ?_)
      intro vN wN hownN hgrN
      obtain ⟨bN, cN, rfl, _⟩ := zqo hownN (by omega)
      obtain ⟨g1, g2⟩ := IA.out.growD x (by rw [zbl]; exact hownN) hgrN
      have G := zaa g2
      rw [← MN.out] at G
      clear n0 n1 g2 IA RX hownN hgrN ML MN
      obtain ⟨n0, n1, n2, n3⟩ := zad g1
      clear g1
      go_wp2
      go_roundg (24 - (k + 1))
      case measure => omega
      case rel => exact ⟨k + 1, by omega, by go_num, ⟨_, _, G.out⟩, AG2.out⟩
    ·obtain rfl : k = 24 := by omega
     have EB := zaa (zfz (ls := ls) (n := 24) AG.out)
     rw [EB.out, Bool.true_and] at RB
     rcases (zac I.out.i).shape with ⟨_, e, _⟩ | ⟨b1, c1, rfl, _, _⟩
     ·rw [zca] at e; omega
     rcases (zac I.out.d).shape with ⟨_, e, _⟩ | ⟨b2, c2, rfl, _, _⟩
     ·rw [zbl] at e; omega
     simp only [zca, zbl] at I
     have R0 : Hid (RowIm wr w1.heap.size wr.heap.size (.agg #[.slice (some ⟨b1, 0, none⟩) 16 c1, .slice (some ⟨b2, 0, none⟩) 24 c2]) (zbc ls 16) (zbe ls 24)) := ⟨_, _, rfl, zac I.out.i, zac I.out.d⟩
     obtain ⟨n0, n1, _, _⟩ := zad I.out.m
     have hzr : w1.heap.size ≤ wr.heap.size := I.out.z
     have BWr := zaa (zab BB.out I.out.b BB.out.size)
     have CB := zaa (CR.out _ (zum B1.out I.out.b))
     have IM := zaa I.out.m
     have IL := I.out.lt
     have h0 : wr.cell? ⟨b, 0, none⟩ = some (.int .i64 (wdI ls 0)) := by
      rw [HC.out wr I.out.b 0 (by omega), zcq ls 0 (by have := L336.out; omega), wd_at ls 0 0 (by have := L336.out; omega)]
      rfl
     clear AG EB I HC WR
     by_cases z : wdI ls 0 = 7
     case neg =>
      have q : (wdI ls 0 != 7) = true := by rw [bne_iff_ne]; exact z
      have EE := zaa (NO.out (by rw [RB.out, show (wdI ls 0 == 7) = false by rw [beq_eq_false_iff_ne]; exact z]; simp))
      obtain ⟨p0, p1, p2, p3⟩ := zad CB.out
      have BR : Hid (Below w.heap.size w ((wr.setCell ⟨w.heap.size + 1, 0, none⟩ (.slice none 0 0)).setCell ⟨w.heap.size + 1, 1, none⟩ (.slice none 0 0))) := (BWr.out.setCell (by simp only; omega) _).setCell (by simp only; omega) _
      clear z
      go_wp2
      refine bodyPost_ret (v := .tuple #[.agg #[.slice none 0 0, .slice none 0 0], .int .i64 3]) (by simp [results, Tryz.results14, go_sem, p0, p1]) rfl ?_
      obtain ⟨E1, E2, E3⟩ := EE.out
      rw [E1, E2, E3]
      exact ⟨_, rfl, zje _ _ _, BR.out⟩
     have q : (wdI ls 0 != 7) = false := by rw [z]; rfl
     rw [z] at RB
     have LI2 := zaa (LI.out _ wr R0.out.rd (T.out.below BWr.out) (E.out.below BWr.out) (F.out.below BWr.out))
     clear LI
     generalize zfm (zbc ls 16) (zbe ls 24) = ib at *
     rw [z] at h0
     clear z q
     go_wp2_with fail
     refine LI2.out.mono ?_
     rintro e w5 ⟨rfl, hb5⟩
     have hz5 : wr.heap.size ≤ w5.heap.size := hb5.size
     have B5 := zaa (zab BWr.out hb5 BWr.out.size)
     have R5 := zaa (R0.out.below hb5 (Nat.le_refl _))
     have CB5 := zaa ((hb5.block _ (by omega)).trans CB.out)
     have IM5 := zaa ((hb5.block _ IL).trans IM.out)
     clear n0 n1 h0 hb5 R0 CB IM LI2
     obtain ⟨n0, n1, _, _⟩ := zad IM5.out
     obtain ⟨p0, p1, p2, p3⟩ := zad CB5.out
     cases ib with
     | false =>
      have EE := zaa (NO.out (by rw [RB.out]; rfl))
      have BR : Hid (Below w.heap.size w ((w5.setCell ⟨w.heap.size + 1, 0, none⟩ (.slice none 0 0)).setCell ⟨w.heap.size + 1, 1, none⟩ (.slice none 0 0))) := (B5.out.setCell (by simp only; omega) _).setCell (by simp only; omega) _
      go_wp2
      refine bodyPost_ret (v := .tuple #[.agg #[.slice none 0 0, .slice none 0 0], .int .i64 3]) (by simp [results, Tryz.results14, go_sem, p0, p1]) rfl ?_
      obtain ⟨E1, E2, E3⟩ := EE.out
      rw [E1, E2, E3]
      exact ⟨_, rfl, zje _ _ _, BR.out⟩
     | true =>
      have EE := zaa (YES.out (by rw [RB.out]; rfl))
      have BR : Hid (Below w.heap.size w ((w5.setCell ⟨w.heap.size + 1, 0, none⟩ (.slice (some ⟨b1, 0, none⟩) 16 c1)).setCell ⟨w.heap.size + 1, 1, none⟩ (.slice (some ⟨b2, 0, none⟩) 24 c2))) := (B5.out.setCell (by simp only; omega) _).setCell (by simp only; omega) _
      have RF := zaa (rowim_wide (ino_image R5.out CB5.out (.slice (some ⟨b1, 0, none⟩) 16 c1) (.slice (some ⟨b2, 0, none⟩) 24 c2)) (lo' := w.heap.size) (hi' := ((w5.setCell ⟨w.heap.size + 1, 0, none⟩ (.slice (some ⟨b1, 0, none⟩) 16 c1)).setCell ⟨w.heap.size + 1, 1, none⟩ (.slice (some ⟨b2, 0, none⟩) 24 c2)).heap.size) (by have := BB.out.size; omega) (by simp; omega))
      clear CB5 R5 IM5
      go_wp2
      refine bodyPost_ret (v := .tuple #[.agg #[.slice (some ⟨b1, 0, none⟩) 16 c1, .slice (some ⟨b2, 0, none⟩) 24 c2], .int .i64 0]) (by simp [results, Tryz.results14, go_sem, p0, p1]) rfl ?_
      obtain ⟨E1, E2, E3⟩ := EE.out
      rw [E1, E2, E3]
      exact ⟨_, rfl, RF.out, BR.out⟩
end Go.Proofs.YtbbmljakfbhnpaaGreatDoor
