/- All words of an inode, by the model. -/
import Derived.Test.YtpgdpachomdfhaaGreatDoorImB
import Derived.Test.YtpgdpachomdfhaaGreatDoorUpL
import Derived.Deep.RegionHeld3
import Derived.Laws.OwnMore
namespace Go.Proofs.YtpgdpachomdfhaaGreatDoor
open Go.RowKit

theorem rd_upd (w1 : World) (x y : Int) : Rd (w1.alloc (.cells #[.int .i64 x, .int .i64 y] 61)) 2 (.slice (some ⟨w1.heap.size, 0, none⟩) 1 1) 1 (ses [⟨x, y⟩]) := by
  refine ⟨rfl, _, _, rfl, ⟨Nat.le_refl _, fun e => by cases e⟩, fun _ => ⟨w1.heap.size, 0, rfl, by simp, fun j hj => ?_⟩⟩
  obtain ⟨e0, e1, _, _⟩ := two_cells (at_new (w := w1) (o := .cells #[.int .i64 x, .int .i64 y] 61) rfl)
  rcases (show j = 0 ∨ j = 1 by omega) with rfl | rfl
  · exact e0
  · exact e1
theorem ses_ones (l : List Se) : ∀ u ∈ ses l, u.oneCell' = true := by
  intro u hu
  simp only [ses, List.mem_flatMap] at hu
  obtain ⟨m, _, hm⟩ := hu
  simp [Se.cells] at hm
  rcases hm with rfl | rfl <;> rfl
theorem ses_app (l l' : List Se) : ses (l ++ l') = ses l ++ ses l' := by simp [ses]
/-- A row of updates that grows. -/
structure UpI (W w : World) (vL : Value) (ls : List Se) : Prop where
  l : w.ownsRow W.heap.size 61 2 vL ls.length (ses ls)
  b : Below W.heap.size W w
theorem UpI.z {W w : World} {vL : Value} {ls : List Se} (h : UpI W w vL ls) : W.heap.size ≤ w.heap.size := h.b.size
theorem UpI.below {W w w' : World} {vL : Value} {ls : List Se} (h : UpI W w vL ls) (hb : Below w.heap.size w w') : UpI W w' vL ls :=
  ⟨((own_block h.l).below hb (Nat.le_refl _)).1, below_trans h.b hb h.z⟩
theorem UpI.grow {W w w' : World} {vL v' : Value} {ls : List Se} (h : UpI W w vL ls) (ms : List Se) (ho : w'.ownsRow W.heap.size 61 2 v' (ls.length + ms.length) (ses ls ++ ses ms)) (hg : w.grownBy w' vL.ownBlock) : UpI W w' v' (ls ++ ms) :=
  ⟨by rw [ses_app, List.length_append]; exact ho, h.b.grown hg h.z (fun q hq => (h.l.lt q hq).1)⟩
/-- The first words of an inode: three, and k of its map. -/
def wrL (i : Int) (x : Ino) (k : Nat) : List Se := [⟨48 + 12 * i, x.kind⟩, ⟨48 + 12 * i + 1, x.size⟩, ⟨48 + 12 * i + 2, x.links⟩] ++ (List.range k).map (fun j => ⟨48 + 12 * i + (3 + (j : Int)), x.map.getD j 0⟩)
theorem wrL_len (i : Int) (x : Ino) (k : Nat) : (wrL i x k).length = 3 + k := by simp [wrL]; omega
theorem wrL_succ (i : Int) (x : Ino) (k : Nat) : wrL i x (k + 1) = wrL i x k ++ [⟨48 + 12 * i + (3 + (k : Int)), x.map.getD k 0⟩] := by
  unfold wrL; rw [List.range_succ, List.map_append, List.append_assoc]; rfl

set_option maxRecDepth 100000 in
set_option maxHeartbeats 2000000 in
theorem l05Write_any (i : Int) (x : Ino) (w : World) (hi : 0 ≤ i ∧ i < 16) :
    Calls Tryz.prog 75 #[.int .i64 i, x.v] w fun e w' => ∃ v', e = .returned v' ∧ Row w' 61 2 w.heap.size w'.heap.size v' (wrL i x 8).length (ses (wrL i x 8)) ∧ Below w.heap.size w w' := by
  have hv : x.v = .agg x.cs.toArray := rfl
  obtain ⟨W, hW⟩ : ∃ W, W = w.alloc (.cells x.cs.toArray 73) := ⟨_, rfl⟩
  have CA : Hid (∀ w', Below W.heap.size W w' → ∀ j, w'.cell? ⟨w.heap.size, j, none⟩ = x.cs[j]?) := fun w' hb j => by
    have : w'.heap[w.heap.size]? = some (.cells x.cs.toArray 73 (0, 0)) := (hb.block _ (by rw [hW]; simp)).trans (by rw [hW]; exact at_new rfl)
    exact (eight_at (xs := x.cs) this j).1
  have BW : Hid (Below w.heap.size w W) := by rw [hW]; exact (Below.refl _ _).alloc (Nat.le_refl _) _
  have c0 : W.cell? ⟨w.heap.size, 0, none⟩ = some (.int .i64 x.kind) := CA.out W (Below.refl _ _) 0
  have c1 : W.cell? ⟨w.heap.size, 1, none⟩ = some (.int .i64 x.size) := CA.out W (Below.refl _ _) 1
  have c2 : W.cell? ⟨w.heap.size, 2, none⟩ = some (.int .i64 x.links) := CA.out W (Below.refl _ _) 2
  have hWz : w.heap.size < W.heap.size := by rw [hW]; simp
  rw [hv]
  go_enter Tryz.func75, Tryz.ntmps75
  have SK : Hid (∀ w', Below W.heap.size W w' → w'.cell? ⟨w.heap.size, 0, none⟩ = some (.int .i64 x.kind) ∧ w'.cell? ⟨w.heap.size, 1, none⟩ = some (.int .i64 x.size) ∧ w'.cell? ⟨w.heap.size, 2, none⟩ = some (.int .i64 x.links)) := fun w' hb => ⟨CA.out w' hb 0, CA.out w' hb 1, CA.out w' hb 2⟩
  go_wp2_with fail
  rw [← hW]
  clear hW c0 c1 c2
  go_region_held3 (fun w' => w'.cell? ⟨w.heap.size, 0, none⟩ = some (.int .i64 x.kind) ∧ w'.cell? ⟨w.heap.size, 1, none⟩ = some (.int .i64 x.size) ∧ w'.cell? ⟨w.heap.size, 2, none⟩ = some (.int .i64 x.links))
    (exact SK.out _ (by repeat (first | exact Below.refl _ _ | refine Below.drew ?_ | refine Below.alloc ?_ (by simp) _)))
    (first | (go_at_call 58; refine (l03Inode_any _ _ _ hi (by omega)).mono ?_; rintro e w' ⟨rfl, hw'⟩; subst w'))
  have START : Hid (UpI W (W.alloc (.cells #[.int .i64 (48 + 12 * i), .int .i64 x.kind, .int .i64 (48 + 12 * i + 1), .int .i64 x.size, .int .i64 (48 + 12 * i + 2), .int .i64 x.links] 61)).drew (.slice (some ⟨W.heap.size, 0, none⟩) 3 3) (wrL i x 0)) :=
    UpI.below (w := W.alloc (.cells #[.int .i64 (48 + 12 * i), .int .i64 x.kind, .int .i64 (48 + 12 * i + 1), .int .i64 x.size, .int .i64 (48 + 12 * i + 2), .int .i64 x.links] 61)) ⟨World.ownsRow_lit W _ 3 (Nat.le_refl _) (by simp [maxLen]) rfl, (Below.refl _ _).alloc (Nat.le_refl _) _⟩ ((Below.refl _ _).drew)
  clear SK
  go_wp2
  go_loopw [5, 6] (fun vL i' wr => ∃ m : Nat, m ≤ 8 ∧ i' = .int .i64 m ∧ Hid (UpI W wr vL (wrL i x m))) (fun _ i' _ => 8 - (intOf i').toNat)
  case atStart => exact ⟨0, by omega, rfl, START⟩
  case round =>
    obtain ⟨m, hm, rfl, J⟩ := hrel
    clear START
    have m0 : (0 : Int) ≤ (m : Int) := by omega
    by_cases hlt : m < 8
    · have m1 : (m : Int) < 8 := by omega
      have SK : Hid (∀ w', Below W.heap.size W w' → w'.cell? ⟨w.heap.size, 3 + m, none⟩ = some (.int .i64 (x.map.getD m 0))) := fun w' hb => (CA.out w' hb (3 + m)).trans (x.at m hlt)
      have x1 := SK.out wr J.out.b
      have EM := hideIt (wrL_succ i x m)
      have l1 := wrL_len i x m
      have l2 : (wrL i x m).length ≤ 11 := by omega
      have li := hi.1
      have lj := hi.2
      have wp1 : IntKind.i64.wrap (3 + (m : Int)) = 3 + (m : Int) := by rw [IntKind.wrap_i64]; omega
      generalize x.map.getD m 0 = y at *
      have J4 := hideIt (J.out.below ((Below.refl _ _).alloc (Nat.le_refl _) (.cells #[.int .i64 (48 + 12 * i + (3 + (m : Int))), .int .i64 y] 61)))
      have J4d := hideIt ((J.out.below ((Below.refl wr.heap.size wr).drew)).below ((Below.refl _ _).alloc (Nat.le_refl _) (.cells #[.int .i64 (48 + 12 * i + (3 + (m : Int))), .int .i64 y] 61)))
      have HRD := hideIt (rd_upd wr (48 + 12 * i + (3 + (m : Int))) y)
      have HRDd := hideIt (rd_upd wr.drew (48 + 12 * i + (3 + (m : Int))) y)
      clear l1
      go_wp2_with fail
      go_region_held3 (fun w' => w'.cell? ⟨w.heap.size, 3 + m, none⟩ = some (.int .i64 y))
        (first | exact SK.out _ G.out.b | exact SK.out _ J.out.b | exact SK.out _ J.out.b.drew | exact SK.out _ J4.out.b | exact SK.out _ J4d.out.b)
        (first
          | (go_at_call 58; refine (l03Inode_any _ _ _ hi (by omega)).mono ?_; rintro e w' ⟨rfl, hw'⟩; subst w')
          | (refine step_append_rd rfl (.tmp 27) (.tmp 37) 27 rfl W.heap.size 61 (.agg #[.int .i64 0, .int .i64 0]) 2 16 Tryz.underlying27 infoUp rfl (by decide) _ (wrL i x m).length (ses (wrL i x m)) rfl (by first | exact J4.out.l | exact J4d.out.l) _ 1 (ses [⟨48 + 12 * i + (3 + (m : Int)), y⟩]) rfl (by first | exact HRD.out | exact HRDd.out) (ses_ones _) (by simp [maxLen]; omega) (by omega) (by first | exact J4.out.z | exact J4d.out.z) ?_; intro vN wN hownN hgrN; have G := (by first | exact hideIt (J4.out.grow [⟨48 + 12 * i + (3 + (m : Int)), y⟩] hownN hgrN) | exact hideIt (J4d.out.grow [⟨48 + 12 * i + (3 + (m : Int)), y⟩] hownN hgrN) : Hid (UpI W wN vN (wrL i x m ++ [⟨48 + 12 * i + (3 + (m : Int)), y⟩]))); clear hownN hgrN))
      all_goals
        rw [← EM.out] at G
        clear J J4 J4d HRD HRDd x1 SK
        go_wp2
        go_roundw
        case rel => exact ⟨m + 1, by omega, by go_num, G⟩
        case measure => simp [intOf]; omega
    · obtain rfl : m = 8 := by omega
      obtain ⟨-, aL, cL, hvL, -⟩ := (own_block J.out.l).rd
      subst hvL
      go_wp2
      go_ret
      exact ⟨_, rfl, (own_block J.out.l).wide (by omega) (Nat.le_refl _), below_trans BW.out (J.out.b) (by omega)⟩
end Go.Proofs.YtpgdpachomdfhaaGreatDoor
