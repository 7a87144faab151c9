/- The updates of a page and of a size; the plan to cut: by the program. -/
import Derived.Test.YtgnfbiohjdepcaaGreatDoorZBM
import Derived.Test.YtgnfbiohjdepcaaGreatDoorZBC
namespace Go.Proofs.YtgnfbiohjdepcaaGreatDoor
open Go.RowKit
set_option maxRecDepth 100000 in
set_option maxHeartbeats 4000000 in
theorem sizeUpdate_any (x : Ino) (i : Int) (sz : Int) (w : World) (hi : 0 ≤ i ∧ i < 16) :
    Calls Tryz.prog 81 #[.agg #[.int .i64 x.kind, .int .i64 x.size, .int .i64 x.links, .int .i64 x.m0, .int .i64 x.m1, .int .i64 x.m2, .int .i64 x.m3, .int .i64 x.m4, .int .i64 x.m5, .int .i64 x.m6, .int .i64 x.m7, .int .i64 i], .int .i64 sz] w fun e w' => e = .returned (.agg #[.int .i64 (48 + 12 * i + 1), .int .i64 sz]) ∧ Below w.heap.size w w' := by
  have LU := hideIt (fun w1 => inodeUpdate_any i 1 sz w1 hi (by omega))
  obtain ⟨W, hW⟩ : ∃ W, W = (w.alloc (.cells #[.int .i64 x.kind, .int .i64 x.size, .int .i64 x.links, .int .i64 x.m0, .int .i64 x.m1, .int .i64 x.m2, .int .i64 x.m3, .int .i64 x.m4, .int .i64 x.m5, .int .i64 x.m6, .int .i64 x.m7, .int .i64 i] 72)).alloc (.cells #[.int .i64 0, .int .i64 0] 119) := ⟨_, rfl⟩
  have hzW : W.heap.size = w.heap.size + 1 + 1 := by rw [hW]; simp
  have x11 : ((w.alloc (.cells #[.int .i64 x.kind, .int .i64 x.size, .int .i64 x.links, .int .i64 x.m0, .int .i64 x.m1, .int .i64 x.m2, .int .i64 x.m3, .int .i64 x.m4, .int .i64 x.m5, .int .i64 x.m6, .int .i64 x.m7, .int .i64 i] 72)).alloc (.cells #[.int .i64 0, .int .i64 0] 119)).cell? ⟨w.heap.size, 11, none⟩ = some (.int .i64 i) := (eight_at (xs := x.fa i) (at_old (at_new rfl)) 11).1
  have CR : Hid (∀ w', Below W.heap.size W w' → w'.heap[w.heap.size + 1]? = some (.cells #[.int .i64 0, .int .i64 0] 119 (0, 0))) := fun w' hb => (hb.block _ (by omega)).trans (by
    rw [hW]
    have := at_new (w := w.alloc (.cells #[.int .i64 x.kind, .int .i64 x.size, .int .i64 x.links, .int .i64 x.m0, .int .i64 x.m1, .int .i64 x.m2, .int .i64 x.m3, .int .i64 x.m4, .int .i64 x.m5, .int .i64 x.m6, .int .i64 x.m7, .int .i64 i] 72)) (o := .cells #[.int .i64 0, .int .i64 0] 119) rfl
    rw [World.size_alloc] at this
    exact this)
  have BW : Hid (Below w.heap.size w W) := by rw [hW]; exact ((Below.refl _ _).alloc (Nat.le_refl _) _).alloc (by simp) _
  clear hzW hi
  go_enter Tryz.func81, Tryz.ntmps81
  go_wp2_with fail
  rw [← hW]
  clear hW x11
  refine (LU.out _).mono ?_
  rintro e w1 ⟨rfl, hb1⟩
  obtain ⟨p0, p1, f0, f1⟩ := two_cells (CR.out _ hb1)
  have B1 := hideIt (below_trans BW.out hb1 BW.out.size)
  clear hb1 CR
  go_wp2
  refine bodyPost_ret (v := .agg #[.int .i64 (48 + 12 * i + 1), .int .i64 sz]) (by simp [results, Tryz.results81, go_sem, p0, p1]) rfl ⟨rfl, ?_⟩
  repeat (first | with_reducible exact B1.out | refine Below.setCell ?_ (by simp only; omega) _)
set_option maxRecDepth 100000 in
set_option maxHeartbeats 4000000 in
theorem pageUpdate_any (x : Ino) (i : Int) (page z : Int) (w : World) (hi : 0 ≤ i ∧ i < 16) (hp : 0 ≤ page ∧ page < 8) :
    Calls Tryz.prog 80 #[.agg #[.int .i64 x.kind, .int .i64 x.size, .int .i64 x.links, .int .i64 x.m0, .int .i64 x.m1, .int .i64 x.m2, .int .i64 x.m3, .int .i64 x.m4, .int .i64 x.m5, .int .i64 x.m6, .int .i64 x.m7, .int .i64 i], .int .i64 page, .int .i64 z] w fun e w' => e = .returned (.agg #[.int .i64 (48 + 12 * i + (3 + page)), .int .i64 z]) ∧ Below w.heap.size w w' := by
  have LU := hideIt (fun w1 => inodeUpdate_any i (3 + page) z w1 hi (by omega))
  obtain ⟨W, hW⟩ : ∃ W, W = (w.alloc (.cells #[.int .i64 x.kind, .int .i64 x.size, .int .i64 x.links, .int .i64 x.m0, .int .i64 x.m1, .int .i64 x.m2, .int .i64 x.m3, .int .i64 x.m4, .int .i64 x.m5, .int .i64 x.m6, .int .i64 x.m7, .int .i64 i] 72)).alloc (.cells #[.int .i64 0, .int .i64 0] 119) := ⟨_, rfl⟩
  have hzW : W.heap.size = w.heap.size + 1 + 1 := by rw [hW]; simp
  have x11 : ((w.alloc (.cells #[.int .i64 x.kind, .int .i64 x.size, .int .i64 x.links, .int .i64 x.m0, .int .i64 x.m1, .int .i64 x.m2, .int .i64 x.m3, .int .i64 x.m4, .int .i64 x.m5, .int .i64 x.m6, .int .i64 x.m7, .int .i64 i] 72)).alloc (.cells #[.int .i64 0, .int .i64 0] 119)).cell? ⟨w.heap.size, 11, none⟩ = some (.int .i64 i) := (eight_at (xs := x.fa i) (at_old (at_new rfl)) 11).1
  have CR : Hid (∀ w', Below W.heap.size W w' → w'.heap[w.heap.size + 1]? = some (.cells #[.int .i64 0, .int .i64 0] 119 (0, 0))) := fun w' hb => (hb.block _ (by omega)).trans (by
    rw [hW]
    have := at_new (w := w.alloc (.cells #[.int .i64 x.kind, .int .i64 x.size, .int .i64 x.links, .int .i64 x.m0, .int .i64 x.m1, .int .i64 x.m2, .int .i64 x.m3, .int .i64 x.m4, .int .i64 x.m5, .int .i64 x.m6, .int .i64 x.m7, .int .i64 i] 72)) (o := .cells #[.int .i64 0, .int .i64 0] 119) rfl
    rw [World.size_alloc] at this
    exact this)
  have BW : Hid (Below w.heap.size w W) := by rw [hW]; exact ((Below.refl _ _).alloc (Nat.le_refl _) _).alloc (by simp) _
  have wp3 : IntKind.i64.wrap (3 + page) = 3 + page := by rw [IntKind.wrap_i64]; omega
  clear hzW hi
  go_enter Tryz.func80, Tryz.ntmps80
  go_wp2_with fail
  rw [← hW]
  clear hW x11
  refine (LU.out _).mono ?_
  rintro e w1 ⟨rfl, hb1⟩
  obtain ⟨p0, p1, f0, f1⟩ := two_cells (CR.out _ hb1)
  have B1 := hideIt (below_trans BW.out hb1 BW.out.size)
  clear hb1 CR
  go_wp2
  refine bodyPost_ret (v := .agg #[.int .i64 (48 + 12 * i + (3 + page)), .int .i64 z]) (by simp [results, Tryz.results80, go_sem, p0, p1]) rfl ⟨rfl, ?_⟩
  repeat (first | with_reducible exact B1.out | refine Below.setCell ?_ (by simp only; omega) _)
set_option maxRecDepth 100000 in
set_option maxHeartbeats 8000000 in
theorem writeUpdates_any (x : Ino) (i page e : Int) (w : World) (hi : 0 ≤ i ∧ i < 16) (hp : 0 ≤ page ∧ page < 8) :
    Calls Tryz.prog 38 #[.agg #[.int .i64 x.kind, .int .i64 x.size, .int .i64 x.links, .int .i64 x.m0, .int .i64 x.m1, .int .i64 x.m2, .int .i64 x.m3, .int .i64 x.m4, .int .i64 x.m5, .int .i64 x.m6, .int .i64 x.m7, .int .i64 i, .int .i64 page, .int .i64 e]] w fun r w' => ∃ v', r = .returned v' ∧ Row w' 119 2 w.heap.size w'.heap.size v' (wrU i page x.size e).length (ses (wrU i page x.size e)) ∧ Below w.heap.size w w' := by
  have LP := hideIt (fun w1 => pageUpdate_any x i page e w1 hi hp)
  have LS := hideIt (fun w1 => sizeUpdate_any x i (page + 1) w1 hi)
  have EU := hideIt (show wrU i page x.size e = ⟨48 + 12 * i + (3 + page), e⟩ :: (if x.size ≤ page then [⟨48 + 12 * i + 1, page + 1⟩] else []) from rfl)
  have wp1 : IntKind.i64.wrap (page + 1) = page + 1 := by rw [IntKind.wrap_i64]; omega
  obtain ⟨W, hW⟩ : ∃ W, W = w.alloc (.cells #[.int .i64 x.kind, .int .i64 x.size, .int .i64 x.links, .int .i64 x.m0, .int .i64 x.m1, .int .i64 x.m2, .int .i64 x.m3, .int .i64 x.m4, .int .i64 x.m5, .int .i64 x.m6, .int .i64 x.m7, .int .i64 i, .int .i64 page, .int .i64 e] 84) := ⟨_, rfl⟩
  have CA : Hid (∀ w', Below W.heap.size W w' → w'.cell? ⟨w.heap.size, 0, none⟩ = some (.int .i64 x.kind) ∧ w'.cell? ⟨w.heap.size, 1, none⟩ = some (.int .i64 x.size) ∧ w'.cell? ⟨w.heap.size, 2, none⟩ = some (.int .i64 x.links) ∧ w'.cell? ⟨w.heap.size, 3, none⟩ = some (.int .i64 x.m0) ∧ w'.cell? ⟨w.heap.size, 4, none⟩ = some (.int .i64 x.m1) ∧ w'.cell? ⟨w.heap.size, 5, none⟩ = some (.int .i64 x.m2) ∧ w'.cell? ⟨w.heap.size, 6, none⟩ = some (.int .i64 x.m3) ∧ w'.cell? ⟨w.heap.size, 7, none⟩ = some (.int .i64 x.m4) ∧ w'.cell? ⟨w.heap.size, 8, none⟩ = some (.int .i64 x.m5) ∧ w'.cell? ⟨w.heap.size, 9, none⟩ = some (.int .i64 x.m6) ∧ w'.cell? ⟨w.heap.size, 10, none⟩ = some (.int .i64 x.m7) ∧ w'.cell? ⟨w.heap.size, 11, none⟩ = some (.int .i64 i) ∧ w'.cell? ⟨w.heap.size, 12, none⟩ = some (.int .i64 page) ∧ w'.cell? ⟨w.heap.size, 13, none⟩ = some (.int .i64 e)) := fun w' hb => by
    have q : w'.heap[w.heap.size]? = some (.cells ([.int .i64 x.kind, .int .i64 x.size, .int .i64 x.links, .int .i64 x.m0, .int .i64 x.m1, .int .i64 x.m2, .int .i64 x.m3, .int .i64 x.m4, .int .i64 x.m5, .int .i64 x.m6, .int .i64 x.m7, .int .i64 i, .int .i64 page, .int .i64 e] : List Value).toArray 84 (0, 0)) := (hb.block _ (by rw [hW]; simp)).trans (by rw [hW]; exact at_new rfl)
    exact ⟨(eight_at q 0).1, (eight_at q 1).1, (eight_at q 2).1, (eight_at q 3).1, (eight_at q 4).1, (eight_at q 5).1, (eight_at q 6).1, (eight_at q 7).1, (eight_at q 8).1, (eight_at q 9).1, (eight_at q 10).1, (eight_at q 11).1, (eight_at q 12).1, (eight_at q 13).1⟩
  have BW : Hid (Below w.heap.size w W) := by rw [hW]; exact (Below.refl _ _).alloc (Nat.le_refl _) _
  obtain ⟨k0, k1, k2, k3, k4, k5, k6, k7, k8, k9, k10, k11, k12, k13⟩ := CA.out _ (Below.refl _ _)
  rw [hW] at k0 k1 k2 k3 k4 k5 k6 k7 k8 k9 k10 k11 k12 k13
  generalize wrU i page x.size e = L at *
  clear hi hp
  go_enter Tryz.func38, Tryz.ntmps38
  go_wp2_with fail
  rw [← hW]
  clear hW k0 k1 k2 k3 k4 k5 k6 k7 k8 k9 k10 k11 k12 k13
  refine (LP.out _).mono ?_
  rintro r w1 ⟨rfl, hb1⟩
  have ST : Hid (UpI W (w1.alloc (.cells #[.int .i64 (48 + 12 * i + (3 + page)), .int .i64 e] 119)) (.slice (some ⟨w1.heap.size, 0, none⟩) 1 1) [⟨48 + 12 * i + (3 + page), e⟩]) := ⟨World.ownsRow_lit w1 _ 1 hb1.size (by simp [maxLen]) rfl, hb1.alloc hb1.size _⟩
  have hz1 : W.heap.size ≤ w1.heap.size := hb1.size
  clear hb1 LP
  obtain ⟨k0, k1, k2, k3, k4, k5, k6, k7, k8, k9, k10, k11, k12, k13⟩ := CA.out _ ST.out.b
  by_cases c : x.size ≤ page
  · rw [if_pos c] at EU
    obtain rfl := EU.out
    clear EU
    go_wp2_with fail
    refine (LS.out _).mono ?_
    rintro r w2 ⟨rfl, hb2⟩
    have JB : Hid (UpI W (w2.alloc (.cells #[.int .i64 (48 + 12 * i + 1), .int .i64 (page + 1)] 119)) (.slice (some ⟨w1.heap.size, 0, none⟩) 1 1) [⟨48 + 12 * i + (3 + page), e⟩]) := (ST.out.below hb2).below ((Below.refl _ _).alloc (Nat.le_refl _) _)
    have RB := hideIt (rd_upd w2 (48 + 12 * i + 1) (page + 1))
    have hzb := JB.out.z
    clear hb2 ST k0 k1 k2 k3 k4 k5 k6 k7 k8 k9 k10 k11 k12 k13 CA LS
    go_wp2_with (at_builtin; refine wpList_append_rd _ rfl (.tmp 19) (.tmp 26) 86 rfl W.heap.size 119 (.agg #[.int .i64 0, .int .i64 0]) 2 16 Tryz.underlying86 infoUp rfl (by decide) _ _ _ rfl JB.out.l _ 1 _ rfl RB.out (ses_ones _) (by first | omega | (simp [maxLen]; done) | (simp [maxLen]; omega)) (by first | omega | (simp; done) | (simp; omega)) hzb ?_)
    intro vN wN hownN hgrN
    have G := hideIt (JB.out.grow [⟨48 + 12 * i + 1, page + 1⟩] hownN hgrN)
    have JW := hideIt (below_trans BW.out G.out.b BW.out.size)
    obtain ⟨-, aN, cN, hvN, -⟩ := (own_block G.out.l).rd
    subst hvN
    clear hownN hgrN JB RB
    go_wp2
    go_ret
    exact ⟨_, rfl, (own_block G.out.l).wide BW.out.size (Nat.le_refl _), JW.out⟩
  · rw [if_neg c] at EU
    obtain rfl := EU.out
    have JW := hideIt (below_trans BW.out ST.out.b BW.out.size)
    clear EU
    go_wp2
    go_ret
    exact ⟨_, rfl, (own_block ST.out.l).wide BW.out.size (Nat.le_refl _), JW.out⟩
end Go.Proofs.YtgnfbiohjdepcaaGreatDoor
