/- Several texts laid together: DuE, JrR, JrJ, IgJ. -/
import Derived.Test.YtcilodgoognmnaaGreatDoorZAZ
import Derived.Test.YtcilodgoognmnaaGreatDoorZAQ
import Derived.Test.YtcilodgoognmnaaGreatDoorZAO
import Derived.Test.YtcilodgoognmnaaGreatDoorZAP
namespace Go.Proofs.YtcilodgoognmnaaGreatDoor
open Go.RowKit
set_option maxRecDepth 100000 in
set_option maxHeartbeats 4000000 in
theorem zja (x : Ino) (i : Int) (sz : Int) (w : World) (hi : 0 ≤ i ∧ i < 16) :
  Calls Tryz.prog 120 #[.agg #[.int .i64 x.kind, .int .i64 x.size, .int .i64 x.links, .int .i64 x.m0, .int .i64 x.m1, .int .i64 x.m2, .int .i64 x.m3, .int .i64 x.m4, .int .i64 x.m5, .int .i64 x.m6, .int .i64 x.m7, .int .i64 i], .int .i64 sz] w fun e w' => e = .returned (.agg #[.int .i64 (48 + 12 * i + 1), .int .i64 sz]) ∧ Below w.heap.size w w' := by
 have LU := zaa (fun w1 => zcr i 1 sz w1 hi (by omega))
 obtain ⟨W, hW⟩ : ∃ W, W = (w.alloc (.cells #[.int .i64 x.kind, .int .i64 x.size, .int .i64 x.links, .int .i64 x.m0, .int .i64 x.m1, .int .i64 x.m2, .int .i64 x.m3, .int .i64 x.m4, .int .i64 x.m5, .int .i64 x.m6, .int .i64 x.m7, .int .i64 i] 99)).alloc (.cells #[.int .i64 0, .int .i64 0] 130) := ⟨_, rfl⟩
 have hzW : W.heap.size = w.heap.size + 1 + 1 := by rw [hW]; simp
 have x11 : ((w.alloc (.cells #[.int .i64 x.kind, .int .i64 x.size, .int .i64 x.links, .int .i64 x.m0, .int .i64 x.m1, .int .i64 x.m2, .int .i64 x.m3, .int .i64 x.m4, .int .i64 x.m5, .int .i64 x.m6, .int .i64 x.m7, .int .i64 i] 99)).alloc (.cells #[.int .i64 0, .int .i64 0] 130)).cell? ⟨w.heap.size, 11, none⟩ = some (.int .i64 i) := (zae (xs := x.fa i) (zau (zah rfl)) 11).1
 have CR : Hid (∀ w', Below W.heap.size W w' → w'.heap[w.heap.size + 1]? = some (.cells #[.int .i64 0, .int .i64 0] 130 (0, 0))) := fun w' hb => (hb.block _ (by omega)).trans (by
  rw [hW]
  have := zah (w := w.alloc (.cells #[.int .i64 x.kind, .int .i64 x.size, .int .i64 x.links, .int .i64 x.m0, .int .i64 x.m1, .int .i64 x.m2, .int .i64 x.m3, .int .i64 x.m4, .int .i64 x.m5, .int .i64 x.m6, .int .i64 x.m7, .int .i64 i] 99)) (o := .cells #[.int .i64 0, .int .i64 0] 130) rfl
  rw [World.size_alloc] at this
  exact this)
 have BW : Hid (Below w.heap.size w W) := by rw [hW]; exact ((Below.refl _ _).alloc (Nat.le_refl _) _).alloc (by simp) _
 clear hzW hi
 go_enter Tryz.func120, Tryz.ntmps120
 go_wp2_with fail
 rw [← hW]
 clear hW x11
 refine (LU.out _).mono ?_
 rintro e w1 ⟨rfl, hb1⟩
 obtain ⟨p0, p1, f0, f1⟩ := zac (CR.out _ hb1)
 have B1 := zaa (zab BW.out hb1 BW.out.size)
 clear hb1 CR
 go_wp2
 refine bodyPost_ret (v := .agg #[.int .i64 (48 + 12 * i + 1), .int .i64 sz]) (by simp [results, Tryz.results120, go_sem, p0, p1]) rfl ⟨rfl, ?_⟩
 repeat (first | with_reducible exact B1.out | refine Below.setCell ?_ (by simp only; omega) _)
set_option maxRecDepth 100000 in
set_option maxHeartbeats 4000000 in
theorem zit (x : Ino) (i : Int) (page z : Int) (w : World) (hi : 0 ≤ i ∧ i < 16) (hp : 0 ≤ page ∧ page < 8) :
  Calls Tryz.prog 119 #[.agg #[.int .i64 x.kind, .int .i64 x.size, .int .i64 x.links, .int .i64 x.m0, .int .i64 x.m1, .int .i64 x.m2, .int .i64 x.m3, .int .i64 x.m4, .int .i64 x.m5, .int .i64 x.m6, .int .i64 x.m7, .int .i64 i], .int .i64 page, .int .i64 z] w fun e w' => e = .returned (.agg #[.int .i64 (48 + 12 * i + (3 + page)), .int .i64 z]) ∧ Below w.heap.size w w' := by
 have LU := zaa (fun w1 => zcr i (3 + page) z w1 hi (by omega))
 obtain ⟨W, hW⟩ : ∃ W, W = (w.alloc (.cells #[.int .i64 x.kind, .int .i64 x.size, .int .i64 x.links, .int .i64 x.m0, .int .i64 x.m1, .int .i64 x.m2, .int .i64 x.m3, .int .i64 x.m4, .int .i64 x.m5, .int .i64 x.m6, .int .i64 x.m7, .int .i64 i] 99)).alloc (.cells #[.int .i64 0, .int .i64 0] 130) := ⟨_, rfl⟩
 have hzW : W.heap.size = w.heap.size + 1 + 1 := by rw [hW]; simp
 have x11 : ((w.alloc (.cells #[.int .i64 x.kind, .int .i64 x.size, .int .i64 x.links, .int .i64 x.m0, .int .i64 x.m1, .int .i64 x.m2, .int .i64 x.m3, .int .i64 x.m4, .int .i64 x.m5, .int .i64 x.m6, .int .i64 x.m7, .int .i64 i] 99)).alloc (.cells #[.int .i64 0, .int .i64 0] 130)).cell? ⟨w.heap.size, 11, none⟩ = some (.int .i64 i) := (zae (xs := x.fa i) (zau (zah rfl)) 11).1
 have CR : Hid (∀ w', Below W.heap.size W w' → w'.heap[w.heap.size + 1]? = some (.cells #[.int .i64 0, .int .i64 0] 130 (0, 0))) := fun w' hb => (hb.block _ (by omega)).trans (by
  rw [hW]
  have := zah (w := w.alloc (.cells #[.int .i64 x.kind, .int .i64 x.size, .int .i64 x.links, .int .i64 x.m0, .int .i64 x.m1, .int .i64 x.m2, .int .i64 x.m3, .int .i64 x.m4, .int .i64 x.m5, .int .i64 x.m6, .int .i64 x.m7, .int .i64 i] 99)) (o := .cells #[.int .i64 0, .int .i64 0] 130) rfl
  rw [World.size_alloc] at this
  exact this)
 have BW : Hid (Below w.heap.size w W) := by rw [hW]; exact ((Below.refl _ _).alloc (Nat.le_refl _) _).alloc (by simp) _
 have wp3 : IntKind.i64.wrap (3 + page) = 3 + page := by rw [IntKind.wrap_i64]; omega
 clear hzW hi
 go_enter Tryz.func119, Tryz.ntmps119
 go_wp2_with fail
 rw [← hW]
 clear hW x11
 refine (LU.out _).mono ?_
 rintro e w1 ⟨rfl, hb1⟩
 obtain ⟨p0, p1, f0, f1⟩ := zac (CR.out _ hb1)
 have B1 := zaa (zab BW.out hb1 BW.out.size)
 clear hb1 CR
 go_wp2
 refine bodyPost_ret (v := .agg #[.int .i64 (48 + 12 * i + (3 + page)), .int .i64 z]) (by simp [results, Tryz.results119, go_sem, p0, p1]) rfl ⟨rfl, ?_⟩
 repeat (first | with_reducible exact B1.out | refine Below.setCell ?_ (by simp only; omega) _)
set_option maxRecDepth 100000 in
set_option maxHeartbeats 8000000 in
theorem zmq (x : Ino) (i page e : Int) (w : World) (hi : 0 ≤ i ∧ i < 16) (hp : 0 ≤ page ∧ page < 8) :
  Calls Tryz.prog 57 #[.agg #[.int .i64 x.kind, .int .i64 x.size, .int .i64 x.links, .int .i64 x.m0, .int .i64 x.m1, .int .i64 x.m2, .int .i64 x.m3, .int .i64 x.m4, .int .i64 x.m5, .int .i64 x.m6, .int .i64 x.m7, .int .i64 i, .int .i64 page, .int .i64 e]] w fun r w' => ∃ v', r = .returned v' ∧ Row w' 130 2 w.heap.size w'.heap.size v' (wrU i page x.size e).length (ses (wrU i page x.size e)) ∧ Below w.heap.size w w' := by
 have LP := zaa (fun w1 => zit x i page e w1 hi hp)
 have LS := zaa (fun w1 => zja x i (page + 1) w1 hi)
 have EU := zaa (show wrU i page x.size e = ⟨48 + 12 * i + (3 + page), e⟩ :: (if x.size ≤ page then [⟨48 + 12 * i + 1, page + 1⟩] else []) from rfl)
 have wp1 : IntKind.i64.wrap (page + 1) = page + 1 := by rw [IntKind.wrap_i64]; omega
 obtain ⟨W, hW⟩ : ∃ W, W = w.alloc (.cells #[.int .i64 x.kind, .int .i64 x.size, .int .i64 x.links, .int .i64 x.m0, .int .i64 x.m1, .int .i64 x.m2, .int .i64 x.m3, .int .i64 x.m4, .int .i64 x.m5, .int .i64 x.m6, .int .i64 x.m7, .int .i64 i, .int .i64 page, .int .i64 e] 112) := ⟨_, rfl⟩
 have CA : Hid (∀ w', Below W.heap.size W w' → w'.cell? ⟨w.heap.size, 0, none⟩ = some (.int .i64 x.kind) ∧ w'.cell? ⟨w.heap.size, 1, none⟩ = some (.int .i64 x.size) ∧ w'.cell? ⟨w.heap.size, 2, none⟩ = some (.int .i64 x.links) ∧ w'.cell? ⟨w.heap.size, 3, none⟩ = some (.int .i64 x.m0) ∧ w'.cell? ⟨w.heap.size, 4, none⟩ = some (.int .i64 x.m1) ∧ w'.cell? ⟨w.heap.size, 5, none⟩ = some (.int .i64 x.m2) ∧ w'.cell? ⟨w.heap.size, 6, none⟩ = some (.int .i64 x.m3) ∧ w'.cell? ⟨w.heap.size, 7, none⟩ = some (.int .i64 x.m4) ∧ w'.cell? ⟨w.heap.size, 8, none⟩ = some (.int .i64 x.m5) ∧ w'.cell? ⟨w.heap.size, 9, none⟩ = some (.int .i64 x.m6) ∧ w'.cell? ⟨w.heap.size, 10, none⟩ = some (.int .i64 x.m7) ∧ w'.cell? ⟨w.heap.size, 11, none⟩ = some (.int .i64 i) ∧ w'.cell? ⟨w.heap.size, 12, none⟩ = some (.int .i64 page) ∧ w'.cell? ⟨w.heap.size, 13, none⟩ = some (.int .i64 e)) := fun w' hb => by
  have q : w'.heap[w.heap.size]? = some (.cells ([.int .i64 x.kind, .int .i64 x.size, .int .i64 x.links, .int .i64 x.m0, .int .i64 x.m1, .int .i64 x.m2, .int .i64 x.m3, .int .i64 x.m4, .int .i64 x.m5, .int .i64 x.m6, .int .i64 x.m7, .int .i64 i, .int .i64 page, .int .i64 e] : List Value).toArray 112 (0, 0)) := (hb.block _ (by rw [hW]; simp)).trans (by rw [hW]; exact zah rfl)
  exact ⟨(zae q 0).1, (zae q 1).1, (zae q 2).1, (zae q 3).1, (zae q 4).1, (zae q 5).1, (zae q 6).1, (zae q 7).1, (zae q 8).1, (zae q 9).1, (zae q 10).1, (zae q 11).1, (zae q 12).1, (zae q 13).1⟩
 have BW : Hid (Below w.heap.size w W) := by rw [hW]; exact (Below.refl _ _).alloc (Nat.le_refl _) _
 obtain ⟨k0, k1, k2, k3, k4, k5, k6, k7, k8, k9, k10, k11, k12, k13⟩ := CA.out _ (Below.refl _ _)
 rw [hW] at k0 k1 k2 k3 k4 k5 k6 k7 k8 k9 k10 k11 k12 k13
 generalize wrU i page x.size e = L at *
 clear hi hp
 go_enter Tryz.func57, Tryz.ntmps57
 go_wp2_with fail
 rw [← hW]
 clear hW k0 k1 k2 k3 k4 k5 k6 k7 k8 k9 k10 k11 k12 k13
 refine (LP.out _).mono ?_
 rintro r w1 ⟨rfl, hb1⟩
 have ST : Hid (UpI W (w1.alloc (.cells #[.int .i64 (48 + 12 * i + (3 + page)), .int .i64 e] 130)) (.slice (some ⟨w1.heap.size, 0, none⟩) 1 1) [⟨48 + 12 * i + (3 + page), e⟩]) := ⟨World.ownsRow_lit w1 _ 1 hb1.size (by simp [maxLen]) rfl, hb1.alloc hb1.size _⟩
 have hz1 : W.heap.size ≤ w1.heap.size := hb1.size
 clear hb1 LP
 obtain ⟨k0, k1, k2, k3, k4, k5, k6, k7, k8, k9, k10, k11, k12, k13⟩ := CA.out _ ST.out.b
 by_cases c : x.size ≤ page
 ·rw [if_pos c] at EU
  obtain rfl := EU.out
  clear EU
  go_wp2_with fail
  refine (LS.out _).mono ?_
  rintro r w2 ⟨rfl, hb2⟩
  have JB : Hid (UpI W (w2.alloc (.cells #[.int .i64 (48 + 12 * i + 1), .int .i64 (page + 1)] 130)) (.slice (some ⟨w1.heap.size, 0, none⟩) 1 1) [⟨48 + 12 * i + (3 + page), e⟩]) := (ST.out.below hb2).below ((Below.refl _ _).alloc (Nat.le_refl _) _)
  have RB := zaa (zfv w2 (48 + 12 * i + 1) (page + 1))
  have hzb := JB.out.z
  clear hb2 ST k0 k1 k2 k3 k4 k5 k6 k7 k8 k9 k10 k11 k12 k13 CA LS
  go_wp2_with (at_builtin; refine zag _ rfl (.tmp 19) (.tmp 26) 57 rfl W.heap.size 130 (.agg #[.int .i64 0, .int .i64 0]) 2 16 Tryz.underlying57 zff rfl (by decide) _ _ _ rfl JB.out.l _ 1 _ rfl RB.out (zco _) (by first | omega | (simp [maxLen]; done) | (simp [maxLen]; omega)) (by first | omega | (simp; done) | (simp; omega)) hzb ?_)
  intro vN wN hownN hgrN
  have G := zaa (JB.out.grow [⟨48 + 12 * i + 1, page + 1⟩] hownN hgrN)
  have JW := zaa (zab BW.out G.out.b BW.out.size)
  obtain ⟨-, aN, cN, hvN, -⟩ := (zad G.out.l).rd
  subst hvN
  clear hownN hgrN JB RB
  go_wp2
  go_ret
  exact ⟨_, rfl, (zad G.out.l).wide BW.out.size (Nat.le_refl _), JW.out⟩
 ·rw [if_neg c] at EU
  obtain rfl := EU.out
  have JW := zaa (zab BW.out ST.out.b BW.out.size)
  clear EU
  go_wp2
  go_ret
  exact ⟨_, rfl, (zad ST.out.l).wide BW.out.size (Nat.le_refl _), JW.out⟩
set_option maxRecDepth 100000 in
set_option maxHeartbeats 8000000 in
theorem zqj (x : Ino) (i : Int) (n : Nat) (w : World) (hi : 0 ≤ i ∧ i < 16) (hn : n ≤ 8) :
  Calls Tryz.prog 68 #[.agg #[.int .i64 x.kind, .int .i64 x.size, .int .i64 x.links, .int .i64 x.m0, .int .i64 x.m1, .int .i64 x.m2, .int .i64 x.m3, .int .i64 x.m4, .int .i64 x.m5, .int .i64 x.m6, .int .i64 x.m7, .int .i64 i, .int .i64 (n : Int)]] w fun r w' => ∃ v', r = .returned v' ∧ Row w' 130 2 w.heap.size w'.heap.size v' (cuU x.map i n 8).length (ses (cuU x.map i n 8)) ∧ Below w.heap.size w w' := by
 have LP := zaa (fun (m : Nat) (hm : m < 8) w1 => zit x i (m : Int) 0 w1 hi (by omega))
 have LS := zaa (fun w1 => zja x i (n : Int) w1 hi)
 obtain ⟨W, hW⟩ : ∃ W, W = w.alloc (.cells #[.int .i64 x.kind, .int .i64 x.size, .int .i64 x.links, .int .i64 x.m0, .int .i64 x.m1, .int .i64 x.m2, .int .i64 x.m3, .int .i64 x.m4, .int .i64 x.m5, .int .i64 x.m6, .int .i64 x.m7, .int .i64 i, .int .i64 (n : Int)] 127) := ⟨_, rfl⟩
 have CA : Hid (∀ w', Below W.heap.size W w' → w'.cell? ⟨w.heap.size, 0, none⟩ = some (.int .i64 x.kind) ∧ w'.cell? ⟨w.heap.size, 1, none⟩ = some (.int .i64 x.size) ∧ w'.cell? ⟨w.heap.size, 2, none⟩ = some (.int .i64 x.links) ∧ w'.cell? ⟨w.heap.size, 3, none⟩ = some (.int .i64 x.m0) ∧ w'.cell? ⟨w.heap.size, 4, none⟩ = some (.int .i64 x.m1) ∧ w'.cell? ⟨w.heap.size, 5, none⟩ = some (.int .i64 x.m2) ∧ w'.cell? ⟨w.heap.size, 6, none⟩ = some (.int .i64 x.m3) ∧ w'.cell? ⟨w.heap.size, 7, none⟩ = some (.int .i64 x.m4) ∧ w'.cell? ⟨w.heap.size, 8, none⟩ = some (.int .i64 x.m5) ∧ w'.cell? ⟨w.heap.size, 9, none⟩ = some (.int .i64 x.m6) ∧ w'.cell? ⟨w.heap.size, 10, none⟩ = some (.int .i64 x.m7) ∧ w'.cell? ⟨w.heap.size, 11, none⟩ = some (.int .i64 i) ∧ w'.cell? ⟨w.heap.size, 12, none⟩ = some (.int .i64 (n : Int))) := fun w' hb => by
  have q : w'.heap[w.heap.size]? = some (.cells ([.int .i64 x.kind, .int .i64 x.size, .int .i64 x.links, .int .i64 x.m0, .int .i64 x.m1, .int .i64 x.m2, .int .i64 x.m3, .int .i64 x.m4, .int .i64 x.m5, .int .i64 x.m6, .int .i64 x.m7, .int .i64 i, .int .i64 (n : Int)] : List Value).toArray 127 (0, 0)) := (hb.block _ (by rw [hW]; simp)).trans (by rw [hW]; exact zah rfl)
  exact ⟨(zae q 0).1, (zae q 1).1, (zae q 2).1, (zae q 3).1, (zae q 4).1, (zae q 5).1, (zae q 6).1, (zae q 7).1, (zae q 8).1, (zae q 9).1, (zae q 10).1, (zae q 11).1, (zae q 12).1⟩
 have CM : Hid (∀ w', Below W.heap.size W w' → ∀ m, m < 8 → w'.cell? ⟨w.heap.size, 3 + m, none⟩ = some (.int .i64 (x.map.getD m 0))) := fun w' hb m hm => by
  have q : w'.heap[w.heap.size]? = some (.cells ([.int .i64 x.kind, .int .i64 x.size, .int .i64 x.links, .int .i64 x.m0, .int .i64 x.m1, .int .i64 x.m2, .int .i64 x.m3, .int .i64 x.m4, .int .i64 x.m5, .int .i64 x.m6, .int .i64 x.m7, .int .i64 i, .int .i64 (n : Int)] : List Value).toArray 127 (0, 0)) := (hb.block _ (by rw [hW]; simp)).trans (by rw [hW]; exact zah rfl)
  refine (zae q (3 + m)).1.trans ?_
  rcases (show m = 0 ∨ m = 1 ∨ m = 2 ∨ m = 3 ∨ m = 4 ∨ m = 5 ∨ m = 6 ∨ m = 7 by omega) with rfl | rfl | rfl | rfl | rfl | rfl | rfl | rfl <;> rfl
 have BW : Hid (Below w.heap.size w W) := by rw [hW]; exact (Below.refl _ _).alloc (Nat.le_refl _) _
 obtain ⟨k0, k1, k2, k3, k4, k5, k6, k7, k8, k9, k10, k11, k12⟩ := CA.out _ (Below.refl _ _)
 rw [hW] at k0 k1 k2 k3 k4 k5 k6 k7 k8 k9 k10 k11 k12
 clear hi
 go_enter Tryz.func68, Tryz.ntmps68
 go_wp2_with fail
 rw [← hW]
 clear hW k0 k1 k2 k3 k4 k5 k6 k7 k8 k9 k10 k11 k12
 refine (LS.out _).mono ?_
 rintro r w1 ⟨rfl, hb1⟩
 have ST : Hid (UpI W (w1.alloc (.cells #[.int .i64 (48 + 12 * i + 1), .int .i64 (n : Int)] 130)) (.slice (some ⟨w1.heap.size, 0, none⟩) 1 1) (cuU x.map i n n)) := by
  unfold Hid cuU
  rw [zwy]
  exact ⟨World.ownsRow_lit w1 _ 1 hb1.size (by simp [maxLen]) rfl, hb1.alloc hb1.size _⟩
 clear hb1 LS
 have k12 := (CA.out _ ST.out.b).2.2.2.2.2.2.2.2.2.2.2.2
 go_wp2_with fail
 clear k12
 go_loopw [3, 4] (fun vL k wr => ∃ m : Nat, n ≤ m ∧ m ≤ 8 ∧ k = .int .i64 (m : Int) ∧ Hid (UpI W wr vL (cuU x.map i n m))) (fun _ k _ => 8 - (intOf k).toNat)
 case atStart => exact ⟨n, Nat.le_refl _, hn, rfl, ST⟩
 case round =>
  obtain ⟨m, hm, hm8, rfl, J⟩ := hrel
  clear ST
  have JW := zaa (zab BW.out J.out.b BW.out.size)
  have m0 : (0 : Int) ≤ (m : Int) := by omega
  by_cases hlt : m < 8
  ·have m1 : (m : Int) < 8 := by omega
   have e0 := CM.out wr J.out.b m hlt
   have YES := zaa (fun e => cuT_yes (zs := x.map) (i := i) (n := n) (k := m) hm e)
   have NO := zaa (fun e => cuT_no (zs := x.map) (i := i) (n := n) (k := m) e)
   have LP2 := zaa (LP.out m hlt)
   have hlen : (cuU x.map i n m).length ≤ 9 := by
    have := cuT_len x.map i n m
    show (cuT x.map i n m).length + 1 ≤ 9
    omega
   generalize x.map.getD m 0 = z at e0 YES NO
   by_cases q : z = 0
   ·have q' : (z == 0) = true := by rw [q]; rfl
    have G : Hid (UpI W wr u3 (cuU x.map i n (m + 1))) := by
     unfold Hid cuU
     rw [NO.out q]
     exact J.out
    clear q J YES NO
    go_wp2_with fail
    refine (zeh _ _).mono ?_
    rintro r w' ⟨rfl, hw'⟩
    subst w'
    go_wp2
    go_roundw
    case rel => exact ⟨m + 1, by omega, by omega, by go_num, G⟩
    case measure => simp [intOf]; omega
   ·have q' : (z == 0) = false := by rw [beq_eq_false_iff_ne]; exact q
    obtain ⟨k0, k1, k2, k3, k4, k5, k6, k7, k8, k9, k10, k11, k12⟩ := CA.out _ J.out.b
    have MN : Hid (cuU x.map i n (m + 1) = cuU x.map i n m ++ [⟨48 + 12 * i + (3 + (m : Int)), 0⟩]) := by
     unfold Hid cuU
     rw [YES.out q]
     rfl
    clear q YES NO
    go_wp2_with fail
    refine (zeh _ _).mono ?_
    rintro r w' ⟨rfl, hw'⟩
    subst w'
    go_wp2_with fail
    refine (LP2.out _).mono ?_
    rintro r w2 ⟨rfl, hb2⟩
    have JB : Hid (UpI W (w2.alloc (.cells #[.int .i64 (48 + 12 * i + (3 + (m : Int))), .int .i64 0] 130)) u3 (cuU x.map i n m)) := (J.out.below hb2).below ((Below.refl _ _).alloc (Nat.le_refl _) _)
    have RB := zaa (zfv w2 (48 + 12 * i + (3 + (m : Int))) 0)
    have hzb := JB.out.z
    clear hb2 J k0 k1 k2 k3 k4 k5 k6 k7 k8 k9 k10 k11 k12 e0
    go_wp2_with (at_builtin; refine zag _ rfl (.tmp 25) (.tmp 30) 57 rfl W.heap.size 130 (.agg #[.int .i64 0, .int .i64 0]) 2 16 Tryz.underlying57 zff rfl (by decide) _ _ _ rfl JB.out.l _ 1 _ rfl RB.out (zco _) (by first | omega | (simp [maxLen]; omega)) (by first | omega | (simp; omega)) hzb ?_)
    intro vN wN hownN hgrN
    have G := zaa (JB.out.grow [⟨48 + 12 * i + (3 + (m : Int)), 0⟩] hownN hgrN)
    rw [← MN.out] at G
    clear hownN hgrN JB RB
    go_wp2
    go_roundw
    case rel => exact ⟨m + 1, by omega, by omega, by go_num, G⟩
    case measure => simp [intOf]; omega
  ·obtain rfl : m = 8 := by omega
   obtain ⟨-, aN, cN, hvN, -⟩ := (zad J.out.l).rd
   subst hvN
   go_wp2
   go_ret
   exact ⟨_, rfl, (zad J.out.l).wide BW.out.size (Nat.le_refl _), JW.out⟩
theorem cu_form {ns : List Ino} {ds : List Den} {s : ByteArray} {size : Int} : cuR ns ds s size = if (flR ns ds s).2 = 0 then cuF ns (flR ns ds s).1 size else ([], (flR ns ds s).2) := by
 unfold cuR flR
 by_cases c : 65536 < s.size
 ·rw [if_pos c, if_pos c]
  rfl
 ·rw [if_neg c, if_neg c]
  by_cases d : zax ns ds = true
  ·rw [if_pos d, if_pos d]
   rfl
  ·rw [if_neg d, if_neg d]
   rfl
set_option maxRecDepth 100000 in
set_option maxHeartbeats 8000000 in
theorem zou (v : Value) (ns : List Ino) (ds : List Den) (s : ByteArray) (size : Int) (w : World) (h : RdIm w v ns ds) (hw : ns.length ≤ 1048576) (hp : ds.length ≤ 1048576) (hT : TS w) (hE : ED w) (hF : FD w) (hr : ∀ k (h : k < ns.length), ns[k].R) (hs : ∀ k (h : k < ds.length), ds[k].name.size ≤ maxLen) :
  Calls Tryz.prog 22 #[v, .string s, .int .i64 size] w fun e w' => zer w w' e (cuR ns ds s size) := by
 have LF := zaa (fun w1 (hb : Below w.heap.size w w1) => zhd v ns ds s w1 (h.below hb) hw hp (hT.below hb) (hE.below hb) (hF.below hb) hr hs)
 have EL := zaa (cu_form (ns := ns) (ds := ds) (s := s) (size := size))
 have FL : Hid ((flR ns ds s).2 = 0 → ∃ i : Nat, i < 16 ∧ (flR ns ds s).1 = (i : Int)) := fun c => by
  obtain ⟨hi, -, e⟩ := fl_right c
  rw [e] at c ⊢
  obtain ⟨i, h16, ei, -⟩ := zlg (zca.1 hi) c
  exact ⟨i, h16, ei⟩
 have EF : Hid (∀ i : Nat, ∀ x, x = zcf ns i → cuF ns (i : Int) size = if 0 ≤ size ∧ size ≤ 8 then (cuU x.map (i : Int) size.toNat 8, 0) else ([], 4)) := fun i x e => by rw [e]; rfl
 obtain ⟨vW, vP, rfl, h1, h2⟩ := h
 obtain ⟨aW, cW, rfl, _, _⟩ := h1.shape
 obtain ⟨aP, cP, rfl, _, _⟩ := h2.shape
 clear h1 h2 hr hs hT hE hF
 obtain ⟨W, hW⟩ : ∃ W, W = w.alloc (.cells #[.slice aW ns.length cW, .slice aP ds.length cP] 63) := ⟨_, rfl⟩
 obtain ⟨x0, x1, _, _⟩ := zac (zah (w := w) (o := .cells #[.slice aW ns.length cW, .slice aP ds.length cP] 63) rfl)
 have BW : Hid (Below w.heap.size w W) := by rw [hW]; exact (Below.refl _ _).alloc (Nat.le_refl _) _
 generalize cuR ns ds s size = res at *
 generalize flR ns ds s = lr at *
 obtain ⟨li, lc⟩ := lr
 obtain ⟨x, hx⟩ : ∃ x, x = faI ns (li, lc) := ⟨_, rfl⟩
 have LF2 := zaa (fun w1 hb => LF.out w1 hb x hx)
 have HX := zaa hx
 simp only at EL FL LF2
 clear LF hx
 go_enter Tryz.func22, Tryz.ntmps22
 go_wp2_with fail
 rw [← hW]
 clear hW x0 x1
 refine (LF2.out _ BW.out).mono ?_
 rintro e w2 ⟨rfl, hb2⟩
 have B2 := zaa (zab BW.out hb2 BW.out.size)
 clear hb2 LF2
 have BX := zaa (B2.out.alloc B2.out.size (.cells #[.int .i64 x.kind, .int .i64 x.size, .int .i64 x.links, .int .i64 x.m0, .int .i64 x.m1, .int .i64 x.m2, .int .i64 x.m3, .int .i64 x.m4, .int .i64 x.m5, .int .i64 x.m6, .int .i64 x.m7, .int .i64 li] 99))
 by_cases c : lc = 0
 case neg =>
  rw [if_neg c] at EL
  obtain rfl := EL.out
  have q : (lc != 0) = true := by rw [bne_iff_ne]; exact c
  clear EL c FL EF HX
  go_wp2
  go_ret2
  exact zcb BX.out
 subst c
 rw [if_pos rfl] at EL
 obtain ⟨i, i16, ei⟩ := FL.out rfl
 subst ei
 have hx : x = zcf ns i := HX.out.trans ((if_pos rfl).trans (by simp only [Int.toNat_natCast]))
 rw [EF.out i x hx] at EL
 clear FL EF HX hx
 have VX : Hid ((w2.alloc (.cells #[.int .i64 x.kind, .int .i64 x.size, .int .i64 x.links, .int .i64 x.m0, .int .i64 x.m1, .int .i64 x.m2, .int .i64 x.m3, .int .i64 x.m4, .int .i64 x.m5, .int .i64 x.m6, .int .i64 x.m7, .int .i64 (i : Int)] 99)).heap[w2.heap.size]? = some (.cells (x.fa (i : Int)).toArray 99 (0, 0))) := zah rfl
 obtain ⟨w3, hw3⟩ : ∃ w3, w3 = w2.alloc (.cells #[.int .i64 x.kind, .int .i64 x.size, .int .i64 x.links, .int .i64 x.m0, .int .i64 x.m1, .int .i64 x.m2, .int .i64 x.m3, .int .i64 x.m4, .int .i64 x.m5, .int .i64 x.m6, .int .i64 x.m7, .int .i64 (i : Int)] 99) := ⟨_, rfl⟩
 rw [← hw3] at VX BX
 by_cases c : 0 ≤ size ∧ size ≤ 8
 case neg =>
  rw [if_neg c] at EL
  obtain rfl := EL.out
  clear EL VX
  go_wp2_with fail
  rw [← hw3]
  refine (zbj _ _ _ (by omega)).mono ?_
  rintro e w' ⟨rfl, hw'⟩
  subst w'
  clear hw3
  go_wp2
  go_ret2
  exact zcb BX.out
 rw [if_pos c] at EL
 obtain ⟨n, rfl⟩ : ∃ n : Nat, size = (n : Int) := ⟨size.toNat, by omega⟩
 rw [Int.toNat_natCast] at EL
 have LC := zaa (fun w1 => zqj x (i : Int) n w1 (by omega) (by omega))
 have KE : w3.cell? ⟨w2.heap.size, 0, none⟩ = some (.int .i64 x.kind) ∧ w3.cell? ⟨w2.heap.size, 1, none⟩ = some (.int .i64 x.size) ∧ w3.cell? ⟨w2.heap.size, 2, none⟩ = some (.int .i64 x.links) ∧ w3.cell? ⟨w2.heap.size, 3, none⟩ = some (.int .i64 x.m0) ∧ w3.cell? ⟨w2.heap.size, 4, none⟩ = some (.int .i64 x.m1) ∧ w3.cell? ⟨w2.heap.size, 5, none⟩ = some (.int .i64 x.m2) ∧ w3.cell? ⟨w2.heap.size, 6, none⟩ = some (.int .i64 x.m3) ∧ w3.cell? ⟨w2.heap.size, 7, none⟩ = some (.int .i64 x.m4) ∧ w3.cell? ⟨w2.heap.size, 8, none⟩ = some (.int .i64 x.m5) ∧ w3.cell? ⟨w2.heap.size, 9, none⟩ = some (.int .i64 x.m6) ∧ w3.cell? ⟨w2.heap.size, 10, none⟩ = some (.int .i64 x.m7) ∧ w3.cell? ⟨w2.heap.size, 11, none⟩ = some (.int .i64 (i : Int)) := ⟨(zae VX.out 0).1, (zae VX.out 1).1, (zae VX.out 2).1, (zae VX.out 3).1, (zae VX.out 4).1, (zae VX.out 5).1, (zae VX.out 6).1, (zae VX.out 7).1, (zae VX.out 8).1, (zae VX.out 9).1, (zae VX.out 10).1, (zae VX.out 11).1⟩
 obtain ⟨k0, k1, k2, k3, k4, k5, k6, k7, k8, k9, k10, k11⟩ := KE
 go_wp2_with fail
 rw [← hw3]
 refine (zaq _ _ _ (by omega)).mono ?_
 rintro e w' ⟨rfl, hw'⟩
 subst w'
 clear hw3 c VX
 go_wp2_with fail
 refine (LC.out _).mono ?_
 rintro e w4 ⟨v4, rfl, hr4, hb4⟩
 have B4 := zaa (zab BX.out hb4 BX.out.size)
 have R4 := zaa (hr4.wide (lo' := w.heap.size) (hi' := w4.heap.size) BX.out.size (Nat.le_refl _))
 obtain ⟨-, a4, c4, hv4, -⟩ := hr4.rd
 subst hv4
 clear hr4 hb4 k0 k1 k2 k3 k4 k5 k6 k7 k8 k9 k10 k11
 obtain rfl := EL.out
 go_wp2
 go_ret2
 exact ⟨_, rfl, R4.out, B4.out⟩
end Go.Proofs.YtcilodgoognmnaaGreatDoor

namespace Go.Proofs.YtcilodgoognmnaaGreatDoor
open Go.RowKit
theorem zsu (u : St) : ∀ (l : List St) (i : Nat), jrn i (l ++ [u]) = jrn i l ++ [⟨9 + 2 * ((i + l.length : Nat) : Int), u.at_, false⟩, ⟨9 + 2 * ((i + l.length : Nat) : Int) + 1, u.val, false⟩]
 | [], i => by simp [jrn]
 | x :: l, i => by
  rw [List.cons_append, jrn, zsu u l (i + 1), jrn, show i + 1 + l.length = i + (x :: l).length by simp; omega]
  rfl
theorem zjt : ∀ (l : List St) (i : Nat), (jrn i l).length = 2 * l.length
 | [], i => rfl
 | x :: l, i => by rw [jrn]; simp [zjt l (i + 1)]; omega
def jlM (us : List Se) (m : Nat) : List Mi := (jrn 0 ((zdx us).take m)).map stM
def jlP (us : List Se) (m : Nat) : List Int := (jrn 0 ((zdx us).take m)).map (·.at_)
theorem jlM_len (us : List Se) (m : Nat) : (jlM us m).length ≤ 2 * m := by simp [jlM, zjt]; omega
theorem jlP_len (us : List Se) (m : Nat) : (jlP us m).length ≤ 2 * m := by simp [jlP, zjt]; omega
theorem take_len {us : List Se} {m : Nat} (h : m ≤ us.length) : ((zdx us).take m).length = m := by rw [List.length_take, zbw]; omega
theorem jlM_succ (us : List Se) (m : Nat) (h : m < us.length) : jlM us (m + 1) = jlM us m ++ [⟨1, 9 + 2 * (m : Int), us[m].at_⟩, ⟨1, 9 + 2 * (m : Int) + 1, us[m].val⟩] := by
 unfold jlM; rw [zko _ _ _ (zti us m h), zsu, take_len (by omega), List.map_append, Nat.zero_add]; rfl
theorem jlP_succ (us : List Se) (m : Nat) (h : m < us.length) : jlP us (m + 1) = jlP us m ++ [9 + 2 * (m : Int), 9 + 2 * (m : Int) + 1] := by
 unfold jlP; rw [zko _ _ _ (zti us m h), zsu, take_len (by omega), List.map_append, Nat.zero_add]; rfl
theorem jlM_all (us : List Se) : jlM us us.length = (jrn 0 (zdx us)).map stM := by unfold jlM; rw [List.take_of_length_le (by rw [zbw]; omega)]
theorem jlP_all (us : List Se) : jlP us us.length = (jrn 0 (zdx us)).map (·.at_) := by unfold jlP; rw [List.take_of_length_le (by rw [zbw]; omega)]
theorem znu : ∀ (l : List St) (i : Nat), ∀ s ∈ jrn i l, 9 + 2 * (i : Int) ≤ s.at_ ∧ s.at_ < 9 + 2 * ((i + l.length : Nat) : Int)
 | [], i => by simp [jrn]
 | x :: l, i => by
  intro s hs
  rw [jrn] at hs
  simp only [List.mem_cons] at hs
  rcases hs with rfl | rfl | hs
  ·simp only [List.length_cons]; omega
  ·simp only [List.length_cons]; omega
  ·have := znu l (i + 1) s hs
   simp only [List.length_cons]
   omega
theorem jlP_place (us : List Se) (m : Nat) (hn : us.length ≤ 64) : ∀ k (h : k < (jlP us m).length), 0 ≤ (jlP us m)[k] ∧ (jlP us m)[k] < 336 := by
 intro k h
 have hm : (jlP us m)[k] ∈ jlP us m := List.getElem_mem h
 generalize (jlP us m)[k] = z at *
 simp only [jlP, List.mem_map] at hm
 obtain ⟨s, hs, rfl⟩ := hm
 have := znu _ _ s hs
 have hl : ((zdx us).take m).length ≤ 64 := by rw [List.length_take, zbw]; omega
 omega
theorem six_cells {w : World} {b : Nat} {t : TypeId} {x0 x1 x2 x3 x4 x5 : Value} (h : w.heap[b]? = some (.cells #[x0, x1, x2, x3, x4, x5] t (0, 0))) (j : Nat) : w.cell? ⟨b, j, none⟩ = [x0, x1, x2, x3, x4, x5][j]? := by
 unfold World.cell?
 simp only [h]
 simp
theorem rd_mic2 (w1 : World) (k a x k2 a2 x2 : Int) : Rd (w1.alloc (.cells #[.int .i64 k, .int .i64 a, .int .i64 x, .int .i64 k2, .int .i64 a2, .int .i64 x2] 118)) 3 (.slice (some ⟨w1.heap.size, 0, none⟩) 2 2) 2 (mis [⟨k, a, x⟩, ⟨k2, a2, x2⟩]) := by
 refine ⟨rfl, _, _, rfl, ⟨Nat.le_refl _, fun e => by cases e⟩, fun _ => ⟨w1.heap.size, 0, rfl, by simp, fun j hj => ?_⟩⟩
 rw [Nat.zero_add, six_cells (zah (w := w1) rfl)]
 rfl
theorem rd_two (w1 : World) (x y : Int) : RdI (w1.alloc (.cells #[.int .i64 x, .int .i64 y] 3)) (.slice (some ⟨w1.heap.size, 0, none⟩) 2 2) [x, y] := by
 refine ⟨rfl, _, _, rfl, ⟨Nat.le_refl _, fun e => by cases e⟩, fun _ => ⟨w1.heap.size, 0, rfl, by simp, fun j hj => ?_⟩⟩
 obtain ⟨e0, e1, _, _⟩ := zac (zah (w := w1) (o := .cells #[.int .i64 x, .int .i64 y] 3) rfl)
 rcases (show j = 0 ∨ j = 1 by simp at hj; omega) with rfl | rfl
 ·exact e0
 ·exact e1
theorem zlc (us : List Se) : (zjz (zdx us)).length ≤ 2 * us.length + 4 := by
 have h1 := zbl ((zdx us).map (·.at_))
 have h2 := zbl ((cnt 0).map (·.at_))
 simp only [List.length_map, zbw] at h1 h2
 simp only [zjz, seg, List.length_append, List.length_map, zbw]
 simp only [cnt, List.length_cons, List.length_nil] at h2 ⊢
 omega
set_option maxRecDepth 100000 in
set_option maxHeartbeats 4000000 in
theorem zwf (v : Value) (us : List Se) (w : World) (h : RdE w v us) (hn : us.length ≤ 64) (h0 : 0 < us.length) (hz0 : ∀ k (h : k < us.length), 0 ≤ us[k].at_ ∧ us[k].at_ < 336) :
  Calls Tryz.prog 111 #[v] w fun e w' => ∃ v', e = .returned v' ∧ Row w' 118 3 w.heap.size w'.heap.size v' (zdd (zdx us)).length (mis (zdd (zdx us))) ∧ Below w.heap.size w w' := by
 have HR := zaa h
 obtain ⟨aZ, cZ, rfl, _, hcZ⟩ := h.shape
 have HZ := zaa hcZ
 have Z0 := zaa hz0
 clear h hcZ hz0
 have START : Hid (PlI w ((w.alloc (.cells #[] 118)).alloc (.cells #[] 3)) (.slice (some ⟨w.heap.size, 0, none⟩) 0 0) (.slice (some ⟨w.heap.size + 1, 0, none⟩) 0 0) [] []) := by
  refine ⟨?_, ?_, ((Below.refl w.heap.size w).alloc (Nat.le_refl _) _).alloc (by simp) _, by simp <;> omega⟩
  ·exact ((zph w 118 3).alloc (Nat.le_refl _) _).1
  ·simpa [zec] using World.ownsRow_lit (base := w.heap.size) (e := 3) (size := 1) (w.alloc (.cells #[] 118)) #[] 0 (by simp) (by simp) (by simp)
 have g0 : ((us.length : Int) == 0) = false := by rw [beq_eq_false_iff_ne]; omega
 go_enter Tryz.func111, Tryz.ntmps111
 go_wp2
 go_loopw [3, 4, 5, 6] (fun vL vP i _ wr => ∃ m : Nat, m ≤ us.length ∧ i = .int .i64 m ∧ Hid (PlI w wr vL vP (jlM us m) (jlP us m)) ∧ w.heap.size ≤ wr.heap.size) (fun _ _ i _ _ => us.length - (intOf i).toNat)
 case atStart => exact ⟨0, by omega, rfl, by simpa [jlM, jlP, jrn] using START, by simp <;> omega⟩
 case round =>
  obtain ⟨m, hm, rfl, J, hz⟩ := hrel
  by_cases hlt : m < us.length
  ·obtain ⟨b, o, rfl, hbl, hcell⟩ := HZ.out (by omega)
   have C0 := (J.out.b.cell (p := ⟨b, o + m * 2, none⟩) hbl).trans (hcell m hlt).1
   have C1 := (J.out.b.cell (p := ⟨b, o + m * 2 + 1, none⟩) hbl).trans (hcell m hlt).2
   have EM := zaa (jlM_succ us m hlt)
   have EP := zaa (jlP_succ us m hlt)
   have l1 := jlM_len us m
   have l2 := jlP_len us m
   have hbr : b < wr.heap.size := by omega
   have DW := zaa (hcell m hlt)
   clear hcell
   have m0 : (0 : Int) ≤ (m : Int) := by omega
   have m1 : (m : Int) < (us.length : Int) := by omega
   generalize us[m].at_ = x at *
   generalize us[m].val = y at *
   have wp1 : IntKind.i64.wrap (9 + 2 * (m : Int) + 1) = 9 + 2 * (m : Int) + 1 := by rw [IntKind.wrap_i64]; omega
   go_wp2_with fail
   go_region_held3 (fun w' => w'.cell? ⟨b, o + m * 2, none⟩ = some (.int .i64 x) ∧ w'.cell? ⟨b, o + m * 2 + 1, none⟩ = some (.int .i64 y)) (first | exact ⟨C0, C1⟩ | exact ⟨s0, s1⟩ | exact ⟨r0, r1⟩ | exact ⟨t0, t1⟩ | exact ⟨q0, q1⟩)
    (first
     | (go_at_call 107; refine (zdz _ _ _).mono ?_; rintro e w2 ⟨rfl, hb2⟩; first
       | (have PT := zaa (P0.out.below hb2); have t0 := (PT.out.b.cell (p := ⟨b, o + m * 2, none⟩) hbl).trans DW.out.1; have t1 := (PT.out.b.cell (p := ⟨b, o + m * 2 + 1, none⟩) hbl).trans DW.out.2; have P1 := zaa (PT.out.below ((Below.refl _ _).alloc (Nat.le_refl _) (.cells #[.int .i64 1, .int .i64 (9 + 2 * (m : Int)), .int .i64 x, .int .i64 1, .int .i64 (9 + 2 * (m : Int) + 1), .int .i64 y] 118))); have HRD := zaa (rd_mic2 w2 1 (9 + 2 * (m : Int)) x 1 (9 + 2 * (m : Int) + 1) y); have r0 := (P1.out.b.cell (p := ⟨b, o + m * 2, none⟩) hbl).trans DW.out.1; have r1 := (P1.out.b.cell (p := ⟨b, o + m * 2 + 1, none⟩) hbl).trans DW.out.2; have hz1 := P1.out.z; clear hb2)
       | (have hb1' := zcs hb2; have q0 := (hb1'.cell (p := ⟨b, o + m * 2, none⟩) hbr).trans C0; have q1 := (hb1'.cell (p := ⟨b, o + m * 2 + 1, none⟩) hbr).trans C1; have P0 := zaa (J.out.below hb1'); clear hb2 hb1'))
     | (refine zal rfl (.tmp 22) (.tmp 38) 45 rfl w.heap.size 118 (.agg #[.int .i64 0, .int .i64 0, .int .i64 0]) 3 24 Tryz.underlying45 zbn rfl (by decide) _ _ _ rfl P1.out.l _ 2 _ rfl HRD.out (zck _) (by simp [maxLen]; omega) (by omega) hz1 ?_; intro vN wN hownN hgrN; have G := zaa (P1.out.growL [⟨1, 9 + 2 * (m : Int), x⟩, ⟨1, 9 + 2 * (m : Int) + 1, y⟩] hownN hgrN); have s0 := (G.out.b.cell (p := ⟨b, o + m * 2, none⟩) hbl).trans DW.out.1; have s1 := (G.out.b.cell (p := ⟨b, o + m * 2 + 1, none⟩) hbl).trans DW.out.2; clear hownN hgrN))
   all_goals
    have hzG := G.out.z
    clear C0 C1 q0 q1 r0 r1 t0 t1 P0 PT P1 HRD J
    have P2 := zaa (G.out.below ((Below.refl _ _).alloc (Nat.le_refl _) (.cells #[.int .i64 (9 + 2 * (m : Int)), .int .i64 (9 + 2 * (m : Int) + 1)] 3)))
    have HR2 := zaa (rd_two wN (9 + 2 * (m : Int)) (9 + 2 * (m : Int) + 1))
    have hz2 := P2.out.z
    clear G
    go_wp2_with (at_builtin; refine zag _ rfl (.tmp 40) (.tmp 44) 22 rfl w.heap.size 3 (.int .i64 0) 1 8 Tryz.underlying22 info3 rfl (by decide) _ _ _ rfl P2.out.p _ 2 _ rfl HR2.out (znh _) (by simp [maxLen]; omega) (by omega) hz2 ?_)
    intro vQ wQ hownQ hgrQ
    have G2 := zaa (P2.out.growP [9 + 2 * (m : Int), 9 + 2 * (m : Int) + 1] hownQ hgrQ)
    rw [← EM.out, ← EP.out] at G2
    have hz3 := G2.out.z
    clear hownQ hgrQ P2 HR2
    go_wp2
    go_roundw
    case rel => exact ⟨m + 1, by omega, by go_num, G2, hz3⟩
    case measure => simp [intOf]; omega
  ·obtain rfl : m = us.length := by omega
   have PL := zaa (jlP_place us us.length hn)
   have l1 := jlM_len us us.length
   have l2 := jlP_len us us.length
   have EE := zaa (show zdd (zdx us) = jlM us us.length ++ zbe (jlP us us.length) ++ [⟨1, 8, (us.length : Int)⟩] ++ zbe [8] ++ zjz (zdx us) by
    rw [jlM_all, jlP_all, zdd, zbw, if_neg (by omega)]; simp [seg, cnt, stM])
   have l3 := zbl (jlP us us.length)
   have l4 := zbl [8]
   have l9 := zlc us
   simp only [List.length_cons, List.length_nil] at l4
   generalize jlM us us.length = A at *
   generalize jlP us us.length = B at *
   go_wp2_with fail
   refine (zdv _ B _ (zad J.out.p).rd (by omega) PL.out).mono ?_
   rintro e w1 ⟨v1, rfl, hr1, hb1⟩
   have P1 := zaa (J.out.below hb1)
   have R1 := zaa hr1.rd
   have hz1 := P1.out.z
   clear hr1 hb1 J
   go_wp2_with (at_builtin; refine zag _ rfl (.tmp 46) (.tmp 48) 45 rfl w.heap.size 118 (.agg #[.int .i64 0, .int .i64 0, .int .i64 0]) 3 24 Tryz.underlying45 zbn rfl (by decide) _ _ _ rfl P1.out.l _ _ _ rfl R1.out (zck _) (by simp [maxLen]; omega) (by omega) hz1 ?_)
   intro v2 w2 hown2 hgr2
   have P2 := zaa (P1.out.growL _ hown2 hgr2)
   have hz2 := P2.out.z
   have l5 : (A ++ zbe B).length ≤ 400 := by simp; omega
   generalize A ++ zbe B = C at *
   clear hown2 hgr2 P1 R1
   go_wp2_with fail
   refine (zdz _ _ _).mono ?_
   rintro e w3 ⟨rfl, hb3⟩
   have P3 := zaa ((P2.out.below hb3).below ((Below.refl _ _).alloc (Nat.le_refl _) (.cells #[.int .i64 1, .int .i64 8, .int .i64 (us.length : Int)] 118)))
   have R3 := zaa (zhf w3 1 8 (us.length : Int))
   have hz3 := P3.out.z
   clear hb3 P2
   go_wp2_with (at_builtin; refine zag _ rfl (.tmp 50) (.tmp 54) 45 rfl w.heap.size 118 (.agg #[.int .i64 0, .int .i64 0, .int .i64 0]) 3 24 Tryz.underlying45 zbn rfl (by decide) _ _ _ rfl P3.out.l _ 1 _ rfl R3.out (zgm _) (by simp [maxLen]; omega) (by omega) hz3 ?_)
   intro v4 w4 hown4 hgr4
   have P4 := zaa (P3.out.growL [⟨1, 8, (us.length : Int)⟩] (by rw [zil]; exact hown4) hgr4)
   have l6 : (C ++ [(⟨1, 8, (us.length : Int)⟩ : Mi)]).length ≤ 401 := by simp; omega
   generalize C ++ [(⟨1, 8, (us.length : Int)⟩ : Mi)] = D at *
   have P5 := zaa (P4.out.below ((Below.refl _ _).alloc (Nat.le_refl _) (.cells #[.int .i64 8] 3)))
   have R5 := zaa (zof w4 8)
   clear hown4 hgr4 P3 R3 P4
   go_wp2_with fail
   refine (zdv _ [8] _ R5.out (by simp) (by intro k h; simp at h; subst h; simp)).mono ?_
   rintro e w6 ⟨v6, rfl, hr6, hb6⟩
   have P6 := zaa (P5.out.below hb6)
   have R6 := zaa hr6.rd
   have hz6 := P6.out.z
   clear hr6 hb6 P5 R5
   go_wp2_with (at_builtin; refine zag _ rfl (.tmp 56) (.tmp 58) 45 rfl w.heap.size 118 (.agg #[.int .i64 0, .int .i64 0, .int .i64 0]) 3 24 Tryz.underlying45 zbn rfl (by decide) _ _ _ rfl P6.out.l _ _ _ rfl R6.out (zck _) (by simp [maxLen]; omega) (by omega) hz6 ?_)
   intro v7 w7 hown7 hgr7
   have P7 := zaa (P6.out.growL _ hown7 hgr7)
   have l7 : (D ++ zbe [8]).length ≤ 403 := by simp; omega
   generalize D ++ zbe [8] = F at *
   clear hown7 hgr7 P6 R6
   go_wp2_with fail
   refine (zuf _ us _ (Rd.below HR.out P7.out.b) hn Z0.out).mono ?_
   rintro e w8 ⟨v8, rfl, hr8, hb8⟩
   have P8 := zaa (P7.out.below hb8)
   have R8 := zaa hr8.rd
   have hz8 := P8.out.z
   clear hr8 hb8 P7
   go_wp2_with (at_builtin; refine zag _ rfl (.tmp 60) (.tmp 62) 45 rfl w.heap.size 118 (.agg #[.int .i64 0, .int .i64 0, .int .i64 0]) 3 24 Tryz.underlying45 zbn rfl (by decide) _ _ _ rfl P8.out.l _ _ _ rfl R8.out (zck _) (by simp [maxLen]; omega) (by omega) hz8 ?_)
   intro v9 w9 hown9 hgr9
   have P9 := zaa (P8.out.growL _ hown9 hgr9)
   rw [← EE.out] at P9
   obtain ⟨aL, cL, hvL⟩ := RdM.form (zad P9.out.l).rd rfl
   subst hvL
   clear hown9 hgr9 P8 R8
   go_wp2
   go_ret
   exact ⟨_, rfl, zad P9.out.l, P9.out.b⟩
end Go.Proofs.YtcilodgoognmnaaGreatDoor

namespace Go.Proofs.YtcilodgoognmnaaGreatDoor
open Go.RowKit
theorem zqy (us : List Se) (h : us.length = 0) : zdd (zdx us) = [] := by rw [zdd, zbw, if_pos h]
theorem zkj (us : List Se) : (zdd (zdx us)).length ≤ 6 * us.length + 8 := by
 have h1 := zbl ((jrn 0 (zdx us)).map (·.at_))
 have h2 := zbl ((cnt (us.length : Int)).map (·.at_))
 have h3 := zlc us
 simp only [List.length_map, zbw, zjt] at h1
 simp only [cnt, List.length_map, List.length_cons, List.length_nil] at h2
 rw [zdd]
 split
 ·simp
 ·simp only [seg, cnt, List.length_append, List.length_map, zbw, zjt, List.length_cons, List.length_nil] at *
  omega
set_option maxRecDepth 100000 in
set_option maxHeartbeats 4000000 in
theorem zps (v : Value) (us : List Se) (w : World) (h : RdE w v us) (hn : us.length ≤ 64) (hz0 : ∀ k (h : k < us.length), 0 ≤ us[k].at_ ∧ us[k].at_ < 336) :
  Calls Tryz.prog 111 #[v] w fun e w' => ∃ v', e = .returned v' ∧ Row w' 118 3 w.heap.size w'.heap.size v' (zdd (zdx us)).length (mis (zdd (zdx us))) ∧ Below w.heap.size w w' := by
 by_cases h0 : 0 < us.length
 ·exact zwf v us w h hn h0 hz0
 ·have RE := zaa (And.intro (zph w 118 3) ((Below.refl w.heap.size w).alloc (Nat.le_refl _) (.cells #[] 118)))
  obtain ⟨aZ, cZ, rfl, _, hcZ⟩ := h.shape
  rw [zqy us (by omega)]
  have e0 : us.length = 0 := by omega
  clear h hcZ hz0
  rw [e0] at *
  clear e0
  go_enter Tryz.func111, Tryz.ntmps111
  go_wp2
  go_ret
  exact ⟨_, rfl, RE.out.1, RE.out.2⟩
def jpC (us : List Se) : Int := if 4096 < us.length then 2 else if 16 < us.length then 6 else if upsB us = true then 0 else 1
def jpL (us : List Se) : List Mi := if jpC us = 0 then zdd (zdx us) else []
theorem zne (us : List Se) : (4096 < us.length ∧ jpC us = 2 ∧ jpL us = []) ∨ (¬ 4096 < us.length ∧ 16 < us.length ∧ jpC us = 6 ∧ jpL us = []) ∨ (¬ 4096 < us.length ∧ ¬ 16 < us.length ∧ upsB us = false ∧ jpC us = 1 ∧ jpL us = []) ∨ (¬ 4096 < us.length ∧ ¬ 16 < us.length ∧ upsB us = true ∧ jpC us = 0 ∧ jpL us = zdd (zdx us)) := by
 by_cases c1 : 4096 < us.length
 ·have e : jpC us = 2 := by unfold jpC; rw [if_pos c1]
  exact .inl ⟨c1, e, by unfold jpL; rw [e]; rfl⟩
 ·by_cases c2 : 16 < us.length
  ·have e : jpC us = 6 := by unfold jpC; rw [if_neg c1, if_pos c2]
   exact .inr (.inl ⟨c1, c2, e, by unfold jpL; rw [e]; rfl⟩)
  ·by_cases c3 : upsB us = true
   ·have e : jpC us = 0 := by unfold jpC; rw [if_neg c1, if_neg c2, if_pos c3]
    exact .inr (.inr (.inr ⟨c1, c2, c3, e, by unfold jpL; rw [e]; rfl⟩))
   ·have c3' : upsB us = false := by simpa using c3
    have e : jpC us = 1 := by unfold jpC; rw [if_neg c1, if_neg c2, c3']; rfl
    exact .inr (.inr (.inl ⟨c1, c2, c3', e, by unfold jpL; rw [e]; rfl⟩))
theorem jpL_len (us : List Se) : (jpL us).length ≤ 16777216 := by
 rcases zne us with ⟨_, _, e⟩ | ⟨_, _, _, e⟩ | ⟨_, _, _, _, e⟩ | ⟨_, _, _, _, e⟩
 ·rw [e]; simp
 ·rw [e]; simp
 ·rw [e]; simp
 ·rw [e]; have := zkj us; omega
end Go.Proofs.YtcilodgoognmnaaGreatDoor

namespace Go.Proofs.YtcilodgoognmnaaGreatDoor
open Go.RowKit
theorem zra {p : Nat → Bool} {n : Nat} (h : 0 ≤ zas p n) : ∃ k : Nat, k < n ∧ zas p n = (k : Int) ∧ p k = true := by
 unfold zas at h ⊢
 cases e : (List.range n).find? p with
 | none => rw [e] at h; exact absurd h (by show ¬ (0 : Int) ≤ -1; omega)
 | some k => exact ⟨k, List.mem_range.1 (List.mem_of_find?_eq_some e), rfl, List.find?_some e⟩
end Go.Proofs.YtcilodgoognmnaaGreatDoor
