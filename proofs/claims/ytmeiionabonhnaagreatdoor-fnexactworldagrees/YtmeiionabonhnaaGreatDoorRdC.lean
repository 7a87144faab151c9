/- An image, read off its words: by the model. -/
import Derived.Test.YtmeiionabonhnaaGreatDoorZBA
import Derived.BigQuiet
namespace Go.Proofs.YtmeiionabonhnaaGreatDoor
open Go.RowKit
def xC (ls : List Int) (i j : Nat) : List Value := [.int .i64 (wdI ls (48 + 12 * (i : Int))), .int .i64 (wdI ls (48 + 12 * (i : Int) + 1)), .int .i64 (wdI ls (48 + 12 * (i : Int) + 2))] ++ (List.range 8).map fun m => .int .i64 (if m < j then wdI ls (48 + 12 * (i : Int) + (3 + (m : Int))) else 0)
theorem zs11_cells {t : TypeId} {wr w : World} {b : Nat} (h : BoxZ t wr w b [.int .i64 0, .int .i64 0, .int .i64 0, .int .i64 0, .int .i64 0, .int .i64 0, .int .i64 0, .int .i64 0, .int .i64 0, .int .i64 0, .int .i64 0]) : w.cell? ⟨b, 0, none⟩ = some (.int .i64 0) ∧ w.cell? ⟨b, 1, none⟩ = some (.int .i64 0) ∧ w.cell? ⟨b, 2, none⟩ = some (.int .i64 0) ∧ w.cell? ⟨b, 3, none⟩ = some (.int .i64 0) ∧ w.cell? ⟨b, 4, none⟩ = some (.int .i64 0) ∧ w.cell? ⟨b, 5, none⟩ = some (.int .i64 0) ∧ w.cell? ⟨b, 6, none⟩ = some (.int .i64 0) ∧ w.cell? ⟨b, 7, none⟩ = some (.int .i64 0) ∧ w.cell? ⟨b, 8, none⟩ = some (.int .i64 0) ∧ w.cell? ⟨b, 9, none⟩ = some (.int .i64 0) ∧ w.cell? ⟨b, 10, none⟩ = some (.int .i64 0) ∧ w.frozen? ⟨b, 0, none⟩ = false ∧ w.frozen? ⟨b, 1, none⟩ = false ∧ w.frozen? ⟨b, 2, none⟩ = false ∧ w.frozen? ⟨b, 3, none⟩ = false ∧ w.frozen? ⟨b, 4, none⟩ = false ∧ w.frozen? ⟨b, 5, none⟩ = false ∧ w.frozen? ⟨b, 6, none⟩ = false ∧ w.frozen? ⟨b, 7, none⟩ = false ∧ w.frozen? ⟨b, 8, none⟩ = false ∧ w.frozen? ⟨b, 9, none⟩ = false ∧ w.frozen? ⟨b, 10, none⟩ = false :=
  ⟨(h.cell 0).1, (h.cell 1).1, (h.cell 2).1, (h.cell 3).1, (h.cell 4).1, (h.cell 5).1, (h.cell 6).1, (h.cell 7).1, (h.cell 8).1, (h.cell 9).1, (h.cell 10).1, (h.cell 0).2, (h.cell 1).2, (h.cell 2).2, (h.cell 3).2, (h.cell 4).2, (h.cell 5).2, (h.cell 6).2, (h.cell 7).2, (h.cell 8).2, (h.cell 9).2, (h.cell 10).2⟩
theorem BoxZ.put11 {t : TypeId} {wr w : World} {b : Nat} (h : BoxZ t wr w b [.int .i64 0, .int .i64 0, .int .i64 0, .int .i64 0, .int .i64 0, .int .i64 0, .int .i64 0, .int .i64 0, .int .i64 0, .int .i64 0, .int .i64 0]) (v0 v1 v2 v3 v4 v5 v6 v7 v8 v9 v10 : Value) : BoxZ t wr (((((((((((w.setCell ⟨b, 0, none⟩ v0).setCell ⟨b, 1, none⟩ v1).setCell ⟨b, 2, none⟩ v2).setCell ⟨b, 3, none⟩ v3).setCell ⟨b, 4, none⟩ v4).setCell ⟨b, 5, none⟩ v5).setCell ⟨b, 6, none⟩ v6).setCell ⟨b, 7, none⟩ v7).setCell ⟨b, 8, none⟩ v8).setCell ⟨b, 9, none⟩ v9).setCell ⟨b, 10, none⟩ v10) b [v0, v1, v2, v3, v4, v5, v6, v7, v8, v9, v10] := (((((((((((h.put 0 v0).put 1 v1).put 2 v2).put 3 v3).put 4 v4).put 5 v5).put 6 v6).put 7 v7).put 8 v8).put 9 v9).put 10 v10)
theorem xC_zero (ls : List Int) (i : Nat) : xC ls i 0 = [.int .i64 (wdI ls (48 + 12 * (i : Int))), .int .i64 (wdI ls (48 + 12 * (i : Int) + 1)), .int .i64 (wdI ls (48 + 12 * (i : Int) + 2)), .int .i64 0, .int .i64 0, .int .i64 0, .int .i64 0, .int .i64 0, .int .i64 0, .int .i64 0, .int .i64 0] := rfl
theorem xC_all (ls : List Int) (i : Nat) : xC ls i 8 = (inoOf ls i).cs := by
  simp [xC, inoOf, Ino.cs, List.range_succ_eq_map, Int.add_assoc]
theorem xC_succ (ls : List Int) (i j : Nat) (h : j < 8) : (xC ls i j).set (3 + j) (.int .i64 (wdI ls (48 + 12 * (i : Int) + (3 + (j : Int))))) = xC ls i (j + 1) := by
  rcases (show j = 0 ∨ j = 1 ∨ j = 2 ∨ j = 3 ∨ j = 4 ∨ j = 5 ∨ j = 6 ∨ j = 7 by omega) with rfl | rfl | rfl | rfl | rfl | rfl | rfl | rfl <;> rfl
theorem below_drewR {B : Nat} {a w : World} (h : Below B a w) (n : Nat) : Below B a (w.drewN n) := by
  induction n with
  | zero => exact h
  | succ n ih => exact ⟨ih.os, ih.tape, ih.output, ih.size, ih.block⟩
theorem zs3_cells {t : TypeId} {wr w : World} {b : Nat} (h : BoxZ t wr w b [.int .i64 0, .string ⟨#[]⟩, .int .i64 0]) : w.cell? ⟨b, 0, none⟩ = some (.int .i64 0) ∧ w.cell? ⟨b, 1, none⟩ = some (.string ⟨#[]⟩) ∧ w.cell? ⟨b, 2, none⟩ = some (.int .i64 0) ∧ w.frozen? ⟨b, 0, none⟩ = false ∧ w.frozen? ⟨b, 1, none⟩ = false ∧ w.frozen? ⟨b, 2, none⟩ = false :=
  ⟨(h.cell 0).1, (h.cell 1).1, (h.cell 2).1, (h.cell 0).2, (h.cell 1).2, (h.cell 2).2⟩
theorem BoxZ.put3 {t : TypeId} {wr w : World} {b : Nat} {a0 a1 a2 : Value} (h : BoxZ t wr w b [a0, a1, a2]) (v0 v1 v2 : Value) : BoxZ t wr (((w.setCell ⟨b, 0, none⟩ v0).setCell ⟨b, 1, none⟩ v1).setCell ⟨b, 2, none⟩ v2) b [v0, v1, v2] := ((h.put 0 v0).put 1 v1).put 2 v2
theorem xC_at (ls : List Int) (i j : Nat) (h : j < 8) : (xC ls i j)[3 + j]? = some (.int .i64 0) := by
  rcases (show j = 0 ∨ j = 1 ∨ j = 2 ∨ j = 3 ∨ j = 4 ∨ j = 5 ∨ j = 6 ∨ j = 7 by omega) with rfl | rfl | rfl | rfl | rfl | rfl | rfl | rfl <;> rfl
theorem ino_cells {t : TypeId} {wr w : World} {b : Nat} {x : Ino} (h : BoxZ t wr w b x.cs) : w.cell? ⟨b, 0, none⟩ = some (.int .i64 x.kind) ∧ w.cell? ⟨b, 1, none⟩ = some (.int .i64 x.size) ∧ w.cell? ⟨b, 2, none⟩ = some (.int .i64 x.links) ∧ w.cell? ⟨b, 3, none⟩ = some (.int .i64 x.m0) ∧ w.cell? ⟨b, 4, none⟩ = some (.int .i64 x.m1) ∧ w.cell? ⟨b, 5, none⟩ = some (.int .i64 x.m2) ∧ w.cell? ⟨b, 6, none⟩ = some (.int .i64 x.m3) ∧ w.cell? ⟨b, 7, none⟩ = some (.int .i64 x.m4) ∧ w.cell? ⟨b, 8, none⟩ = some (.int .i64 x.m5) ∧ w.cell? ⟨b, 9, none⟩ = some (.int .i64 x.m6) ∧ w.cell? ⟨b, 10, none⟩ = some (.int .i64 x.m7) :=
  ⟨(h.cell 0).1, (h.cell 1).1, (h.cell 2).1, (h.cell 3).1, (h.cell 4).1, (h.cell 5).1, (h.cell 6).1, (h.cell 7).1, (h.cell 8).1, (h.cell 9).1, (h.cell 10).1⟩
theorem rd_ino (w1 : World) (x : Ino) : Rd (w1.alloc (.cells #[.int .i64 x.kind, .int .i64 x.size, .int .i64 x.links, .int .i64 x.m0, .int .i64 x.m1, .int .i64 x.m2, .int .i64 x.m3, .int .i64 x.m4, .int .i64 x.m5, .int .i64 x.m6, .int .i64 x.m7] 150)) 11 (.slice (some ⟨w1.heap.size, 0, none⟩) 1 1) 1 (inos [x]) := by
  refine ⟨rfl, _, _, rfl, ⟨Nat.le_refl _, fun e => by cases e⟩, fun _ => ⟨w1.heap.size, 0, rfl, by simp, fun j hj => ?_⟩⟩
  rw [Nat.zero_add]
  exact (eight_at (xs := x.cs) (at_new rfl) j).1
set_option maxRecDepth 100000 in
set_option maxHeartbeats 4000000 in
theorem l05Read_any (v : Value) (ws : List Int) (ps : List St) (w : World) (h : RdPm w v ws ps) (hp : pmB ws ps = true) :
    Calls Tryz.prog 48 #[v] w fun e w' => (∃ v', e = .returned (.tuple #[v', .bool (allGood (layW ws ps) 24)]) ∧ (allGood (layW ws ps) 24 = true → RowIm w' w.heap.size w'.heap.size v' (inosOf (layW ws ps) 16) (densOf (layW ws ps) 24)) ∧ (allGood (layW ws ps) 24 = false → v' = .agg #[.slice none 0 0, .slice none 0 0])) ∧ Below w.heap.size w w' := by
  have HR := hideIt h
  have LL := hideIt (fun z w1 h h0 => ld_any v ws ps z w1 h hp h0)
  have WR := hideIt (fun z => wdI_range hp z)
  obtain ⟨vW, vP, rfl, h1, h2⟩ := h
  obtain ⟨aW, cW, rfl, _, _⟩ := h1.shape
  obtain ⟨aP, cP, rfl, _, _⟩ := h2.shape
  clear h1 h2 hp
  generalize hls : layW ws ps = ls at *
  clear hls
  obtain ⟨W1, hW1⟩ : ∃ W1, W1 = (w.alloc (.cells #[.slice aW ws.length cW, .slice aP ps.length cP] 66)).alloc (.cells #[.slice none 0 0, .slice none 0 0] 98) := ⟨_, rfl⟩
  have hz1 : W1.heap.size = w.heap.size + 1 + 1 := by rw [hW1]; simp
  have CA : Hid (∀ w', Below W1.heap.size W1 w' → w'.cell? ⟨w.heap.size, 0, none⟩ = some (.slice aW ws.length cW) ∧ w'.cell? ⟨w.heap.size, 1, none⟩ = some (.slice aP ps.length cP)) := fun w' hb => by
    have : w'.heap[w.heap.size]? = some (.cells #[.slice aW ws.length cW, .slice aP ps.length cP] 66 (0, 0)) := (hb.block _ (by omega)).trans (by rw [hW1]; exact at_old (at_new rfl))
    exact ⟨(two_cells this).1, (two_cells this).2.1⟩
  have CR : Hid (∀ w', Below W1.heap.size W1 w' → w'.heap[w.heap.size + 1]? = some (.cells #[.slice none 0 0, .slice none 0 0] 98 (0, 0))) := fun w' hb => (hb.block _ (by omega)).trans (by
    rw [hW1]
    have := at_new (w := w.alloc (.cells #[.slice aW ws.length cW, .slice aP ps.length cP] 66)) (o := .cells #[.slice none 0 0, .slice none 0 0] 98) rfl
    rw [World.size_alloc] at this
    exact this)
  have BW : Hid (Below w.heap.size w W1) := by rw [hW1]; exact ((Below.refl _ _).alloc (Nat.le_refl _) _).alloc (by simp) _
  have START : Hid (RimI W1 (((W1.alloc (.cells #[] 150)).alloc (.cells #[] 140)).alloc (.cells #[.slice (some ⟨w.heap.size + 1 + 1, 0, none⟩) 0 0, .slice (some ⟨w.heap.size + 1 + 1 + 1, 0, none⟩) 0 0] 98)) (w.heap.size + 1 + 1 + 1 + 1) (.slice (some ⟨w.heap.size + 1 + 1, 0, none⟩) 0 0) (.slice (some ⟨w.heap.size + 1 + 1 + 1, 0, none⟩) 0 0) [] []) := by
    have hs2 : (W1.alloc (.cells #[] 150)).heap.size = w.heap.size + 1 + 1 + 1 := by rw [World.size_alloc, hz1]
    have hs3 : ((W1.alloc (.cells #[] 150)).alloc (.cells #[] 140)).heap.size = w.heap.size + 1 + 1 + 1 + 1 := by rw [World.size_alloc, hs2]
    refine ⟨?_, ?_, ?_, ?_, by omega⟩
    · have := at_new (w := (W1.alloc (.cells #[] 150)).alloc (.cells #[] 140)) (o := .cells #[.slice (some ⟨w.heap.size + 1 + 1, 0, none⟩) 0 0, .slice (some ⟨w.heap.size + 1 + 1 + 1, 0, none⟩) 0 0] 98) rfl
      rw [hs3] at this
      exact this
    · have := World.ownsRow_lit (e := 150) (size := 11) (base := W1.heap.size) W1 #[] 0 (Nat.le_refl _) (by simp [maxLen]) (by simp)
      have r := ((own_block this).below (((Below.refl _ (W1.alloc (.cells #[] 150))).alloc (Nat.le_refl _) (.cells #[] 140)).alloc (by simp) (.cells #[.slice (some ⟨w.heap.size + 1 + 1, 0, none⟩) 0 0, .slice (some ⟨w.heap.size + 1 + 1 + 1, 0, none⟩) 0 0] 98)) (Nat.le_refl _)).1
      rw [hz1] at r ⊢
      exact r
    · have := World.ownsRow_lit (e := 140) (size := 3) (base := W1.heap.size) (W1.alloc (.cells #[] 150)) #[] 0 (by simp) (by simp [maxLen]) (by simp)
      have r := ((own_block this).below ((Below.refl _ ((W1.alloc (.cells #[] 150)).alloc (.cells #[] 140))).alloc (Nat.le_refl _) (.cells #[.slice (some ⟨w.heap.size + 1 + 1, 0, none⟩) 0 0, .slice (some ⟨w.heap.size + 1 + 1 + 1, 0, none⟩) 0 0] 98)) (Nat.le_refl _)).1
      rw [hs2] at r
      exact r
    · exact (((Below.refl _ _).alloc (Nat.le_refl _) _).alloc (by simp) _).alloc (by simp <;> omega) _
  have HZ1 := hideIt hz1
  have hz1' : w.heap.size < W1.heap.size := by omega
  clear hz1
  have LL2 := hideIt (fun z w1 (hb : Below W1.heap.size W1 w1) (h0 : 0 ≤ z ∧ z < 336) => LL.out z w1 (HR.out.below (below_trans BW.out hb BW.out.size)) h0)
  clear LL
  go_enter Tryz.func48, Tryz.ntmps48
  go_wp2
  rw [← hW1]
  clear hW1
  generalize hbM : w.heap.size + 1 + 1 + 1 + 1 = bM at *
  clear hbM
  go_loopg [5] 16 (fun g i wr => ∃ k : Nat, k + g = 16 ∧ i = .int .i64 k ∧ Hid (∃ vI vD, RimI W1 wr bM vI vD (inosOf ls k) []))
  case atStart => exact ⟨0, rfl, rfl, _, _, START.out⟩
  case round =>
    obtain ⟨k, hk, rfl, J⟩ := hrel
    obtain ⟨vI, vD, I⟩ := J.out
    have I := hideIt I
    obtain ⟨x0, x1⟩ := CA.out wr I.out.b
    have k0 : (0 : Int) ≤ (k : Int) := by omega
    clear J START
    by_cases hlt : k < 16
    · have k1 : (k : Int) < 16 := by omega
      have SK : Hid (∀ w', Below wr.heap.size wr w' → w'.cell? ⟨w.heap.size, 0, none⟩ = some (.slice aW ws.length cW) ∧ w'.cell? ⟨w.heap.size, 1, none⟩ = some (.slice aP ps.length cP)) := fun w' hb => CA.out w' (below_trans I.out.b hb I.out.z)
      have LL3 := hideIt (fun z w1 (hb : Below wr.heap.size wr w1) (h0 : 0 ≤ z ∧ z < 336) => LL2.out z w1 (below_trans I.out.b hb I.out.z) h0)
      go_wp2_with fail
      go_cut [6] (fun s wx => ∃ bX, s = .pointer (some ⟨bX, 0, none⟩) ∧ Hid (BoxZ 150 wr wx bX (xC ls k 0) ∧ Below wr.heap.size wr wx))
      case first =>
        go_region_held3 (fun w' => w'.cell? ⟨w.heap.size, 0, none⟩ = some (.slice aW ws.length cW) ∧ w'.cell? ⟨w.heap.size, 1, none⟩ = some (.slice aP ps.length cP))
          (exact SK.out _ (by repeat (first | with_reducible exact BF.out | with_reducible exact Below.refl _ _ | with_reducible refine below_allocB ?_ _ | with_reducible refine Below.drew ?_ | with_reducible refine Below.setCell ?_ VX.out.ge _)))
          (first
            | (go_at_call 92; refine (l03Inode_any _ _ _ ⟨k0, k1⟩ ⟨by decide, by decide⟩).mono ?_; rintro e w' ⟨rfl, hw'⟩; subst w')
            | (go_at_call 91; refine (LL3.out _ _ (by repeat (first | with_reducible exact BF.out | with_reducible exact Below.refl _ _ | with_reducible refine below_allocB ?_ _ | with_reducible refine Below.drew ?_)) ⟨by omega, by omega⟩).mono ?_; rintro e w1 ⟨rfl, hb1⟩; (first | (have VX := hideIt (BoxZ.below (t := 150) (wr := wr) (by repeat (first | with_reducible exact VX.out | with_reducible exact BoxZ.new (by repeat (first | with_reducible exact BF.out | with_reducible exact Below.refl _ _ | with_reducible refine below_allocB ?_ _ | with_reducible refine Below.drew ?_)) | with_reducible apply BoxZ.drew)) hb1); obtain ⟨c0, c1, c2, c3, c4, c5, c6, c7, c8, c9, c10, d0, d1, d2, d3, d4, d5, d6, d7, d8, d9, d10⟩ := zs11_cells VX.out) | skip); have BF : Hid (Below wr.heap.size wr w1) := bel2 (by repeat (first | with_reducible exact BF.out | with_reducible exact Below.refl _ _ | with_reducible refine below_allocB ?_ _ | with_reducible refine Below.drew ?_)) hb1; clear hb1))
        all_goals
          go_wp2_with fail
          go_meet
          refine ⟨_, rfl, ?_⟩
          unfold Hid
          rw [xC_zero]
          refine ⟨?_, ?_⟩
          · repeat (first | with_reducible exact BoxZ.new (by repeat (first | with_reducible exact BF.out | with_reducible exact Below.refl _ _ | with_reducible refine below_allocB ?_ _ | with_reducible refine Below.drew ?_)) | with_reducible exact BoxZ.put11 VX.out _ _ _ _ _ _ _ _ _ _ _ | with_reducible apply BoxZ.drew)
          · repeat (first | with_reducible exact BF.out | with_reducible exact Below.refl _ _ | with_reducible refine below_allocB ?_ _ | with_reducible refine Below.drew ?_ | with_reducible refine Below.setCell ?_ VX.out.ge _)
      case rest =>
        obtain ⟨bX, rfl, C⟩ := hcut
        rename World => wx
        have BX := hideIt C.out.2
        have XB := hideIt C.out.1
        clear x0 x1 SK C
        generalize gk = G0 at *
        generalize hV : wr = V at *
        clear hV
        have hzV : W1.heap.size ≤ V.heap.size := I.out.z
        have SK2 : Hid (∀ w', Below V.heap.size V w' → w'.cell? ⟨w.heap.size, 0, none⟩ = some (.slice aW ws.length cW) ∧ w'.cell? ⟨w.heap.size, 1, none⟩ = some (.slice aP ps.length cP)) := fun w' hb => CA.out w' (below_trans I.out.b hb hzV)
        go_wp2_with fail
        go_loopg [7] 8 (fun g j wq => ∃ m : Nat, m + g = 8 ∧ j = .int .i64 m ∧ Hid (BoxZ 150 V wq bX (xC ls k m) ∧ Below V.heap.size V wq))
        case atStart => exact ⟨0, rfl, rfl, XB.out, BX.out⟩
        case round =>
          obtain ⟨m, hm, rfl, K⟩ := hrel
          have KX := hideIt K.out.1
          have KB := hideIt K.out.2
          have m0 : (0 : Int) ≤ (m : Int) := by omega
          clear XB BX K
          by_cases hlm : m < 8
          · have m1 : (m : Int) < 8 := by omega
            have wp1 : IntKind.i64.wrap (3 + (m : Int)) = 3 + (m : Int) := by rw [IntKind.wrap_i64]; omega
            obtain ⟨x0, x1⟩ := SK2.out wr KB.out
            have SK3 : Hid (∀ w', Below wr.heap.size wr w' → w'.cell? ⟨w.heap.size, 0, none⟩ = some (.slice aW ws.length cW) ∧ w'.cell? ⟨w.heap.size, 1, none⟩ = some (.slice aP ps.length cP)) := fun w' hb => SK2.out w' (below_trans KB.out hb KB.out.size)
            have LL4 := hideIt (fun z w1 (hb : Below wr.heap.size wr w1) (h0 : 0 ≤ z ∧ z < 336) => LL3.out z w1 (below_trans KB.out hb KB.out.size) h0)
            have XA := xC_at ls k m hlm
            have XS := hideIt (xC_succ ls k m hlm)
            go_wp2_with fail
            go_region_held3 (fun w' => w'.cell? ⟨w.heap.size, 0, none⟩ = some (.slice aW ws.length cW) ∧ w'.cell? ⟨w.heap.size, 1, none⟩ = some (.slice aP ps.length cP))
              (exact SK2.out _ (by repeat (first | with_reducible exact BG.out | with_reducible exact KB.out | with_reducible refine Below.drew ?_ | with_reducible refine Below.setCell ?_ KX.out.ge _)))
              (first
                | (go_at_call 92; refine (l03Inode_any _ _ _ ⟨k0, k1⟩ ⟨by omega, by omega⟩).mono ?_; rintro e w' ⟨rfl, hw'⟩; subst w')
                | (go_at_call 91; refine (LL4.out _ _ (by repeat (first | with_reducible exact BF.out | with_reducible exact Below.refl _ _ | with_reducible refine Below.drew ?_)) ⟨by omega, by omega⟩).mono ?_; rintro e w1 ⟨rfl, hb1⟩; have BF : Hid (Below wr.heap.size wr w1) := bel2 (by repeat (first | with_reducible exact BF.out | with_reducible exact Below.refl _ _ | with_reducible refine Below.drew ?_)) hb1; clear hb1; have BG : Hid (Below V.heap.size V w1) := below_trans KB.out BF.out KB.out.size; have e0 := ((KX.out.below BF.out).cell (3 + m)).1.trans XA; have e1 := ((KX.out.below BF.out).cell (3 + m)).2))
            all_goals
              have P := hideIt ((KX.out.below BF.out).put (3 + m) (.int .i64 (wdI ls (48 + 12 * (k : Int) + (3 + (m : Int))))))
              rw [XS.out] at P
              have BP : Hid (Below V.heap.size V (w1.setCell ⟨bX, 3 + m, none⟩ (.int .i64 (wdI ls (48 + 12 * (k : Int) + (3 + (m : Int))))))) := BG.out.setCell KX.out.ge _
              clear e0 e1 x0 x1 SK3 LL4
              go_wp2
              go_roundg (8 - (m + 1))
              case measure => omega
              case rel => exact ⟨m + 1, by omega, by go_num, (by repeat (first | exact P.out | refine BoxZ.drew ?_)), (by repeat (first | with_reducible exact BP.out | with_reducible refine Below.drew ?_))⟩
          · obtain rfl : m = 8 := by omega
            have KX2 : Hid (BoxZ 150 V wr bX (inoOf ls k).cs) := by unfold Hid; rw [← xC_all]; exact KX.out
            have IR := hideIt (I.out.below KB.out)
            have MN := hideIt (inosOf_succ ls k)
            have ML := inosOf_len ls k
            clear KX
            generalize inoOf ls k = x at *
            obtain ⟨c0, c1, c2, c3, c4, c5, c6, c7, c8, c9, c10⟩ := ino_cells KX2.out
            obtain ⟨n0, n1, _, _⟩ := two_cells IR.out.m
            have IA := hideIt (IR.out.below ((Below.refl _ _).alloc (Nat.le_refl _) (.cells #[.int .i64 x.kind, .int .i64 x.size, .int .i64 x.links, .int .i64 x.m0, .int .i64 x.m1, .int .i64 x.m2, .int .i64 x.m3, .int .i64 x.m4, .int .i64 x.m5, .int .i64 x.m6, .int .i64 x.m7] 150)))
            have RB := hideIt (rd_ino wr x)
            have hzA := IA.out.z
            simp only [World.size_alloc] at hzA
            clear IR LL3 SK2 KX2
            go_wp2_with (at_builtin; refine wpList_append_rd _ rfl (.tmp 46) (.tmp 48) 96 rfl W1.heap.size 150 (.agg #[.int .i64 0, .int .i64 0, .int .i64 0, .int .i64 0, .int .i64 0, .int .i64 0, .int .i64 0, .int .i64 0, .int .i64 0, .int .i64 0, .int .i64 0]) 11 88 Tryz.underlying96 infoIno rfl (by decide) _ _ _ rfl IA.out.i _ 1 _ rfl RB.out (inos_ones _) (by simp [maxLen]; omega) (by omega) IA.out.z ?_)
            intro vN wN hownN hgrN
            rcases (own_block hownN).shape with ⟨_, eN, _⟩ | ⟨bN, cN, rfl, _, _⟩
            · omega
            obtain ⟨g1, g2⟩ := IA.out.growI x (by rw [inosOf_len]; exact hownN) hgrN
            have G := hideIt g2
            rw [← MN.out] at G
            clear n0 n1 g2 c0 c1 c2 c3 c4 c5 c6 c7 c8 c9 c10 IA RB hownN hgrN ML MN
            obtain ⟨n0, n1, n2, n3⟩ := two_cells g1
            clear g1
            go_wp2
            go_roundg (16 - (k + 1))
            case measure => omega
            case rel => exact ⟨k + 1, by omega, by go_num, _, _, G.out⟩
    · obtain rfl : k = 16 := by omega
      have LL3 := LL2
      have SE : Hid (∃ vI vD, RimI W1 wr bM vI vD (inosOf ls 16) (densOf ls 0)) := ⟨vI, vD, I.out⟩
      have AG0 : Hid (∀ j, j < 0 → denGood ls j = true) := fun j h => absurd h (by omega)
      clear I x0 x1
      go_wp2_with fail
      go_loopg [8] 24 (fun g i wq => ∃ k : Nat, k + g = 24 ∧ i = .int .i64 k ∧ Hid ((∃ vI vD, RimI W1 wq bM vI vD (inosOf ls 16) (densOf ls k)) ∧ ∀ j, j < k → denGood ls j = true))
      case atStart => exact ⟨0, rfl, rfl, SE.out, AG0.out⟩
      case round =>
        obtain ⟨k, hk, rfl, J⟩ := hrel
        obtain ⟨vI, vD, I⟩ := J.out.1
        have I := hideIt I
        have AG := hideIt J.out.2
        obtain ⟨x0, x1⟩ := CA.out wr I.out.b
        have k0 : (0 : Int) ≤ (k : Int) := by omega
        clear J SE AG0
        by_cases hlt : k < 24
        · have k1 : (k : Int) < 24 := by omega
          have SK : Hid (∀ w', Below wr.heap.size wr w' → w'.cell? ⟨w.heap.size, 0, none⟩ = some (.slice aW ws.length cW) ∧ w'.cell? ⟨w.heap.size, 1, none⟩ = some (.slice aP ps.length cP)) := fun w' hb => CA.out w' (below_trans I.out.b hb I.out.z)
          have LL4 := hideIt (fun z w1 (hb : Below wr.heap.size wr w1) (h0 : 0 ≤ z ∧ z < 336) => LL3.out z w1 (below_trans I.out.b hb I.out.z) h0)
          have r2 := WR.out (240 + 3 * (k : Int) + 2)
          have wp1 : IntKind.i64.wrap (wdI ls (240 + 3 * (k : Int) + 2) - 1) = wdI ls (240 + 3 * (k : Int) + 2) - 1 := by rw [IntKind.wrap_i64]; omega
          go_wp2_with fail
          go_cut [9] (fun s wx => ∃ bX, s = .pointer (some ⟨bX, 0, none⟩) ∧ Hid (BoxZ 140 wr wx bX [.int .i64 (wdI ls (240 + 3 * (k : Int))), .string ⟨#[]⟩, .int .i64 (wdI ls (240 + 3 * (k : Int) + 2) - 1)] ∧ Below wr.heap.size wr wx))
          case first =>
            go_region_held3 (fun w' => w'.cell? ⟨w.heap.size, 0, none⟩ = some (.slice aW ws.length cW) ∧ w'.cell? ⟨w.heap.size, 1, none⟩ = some (.slice aP ps.length cP))
              (exact SK.out _ (by repeat (first | with_reducible exact BF.out | with_reducible exact Below.refl _ _ | with_reducible refine below_allocB ?_ _ | with_reducible refine Below.drew ?_ | with_reducible refine Below.setCell ?_ VX.out.ge _)))
              (first
                | (go_at_call 93; refine (l03Dirent_any _ _ _ ⟨k0, k1⟩ ⟨by decide, by decide⟩).mono ?_; rintro e w' ⟨rfl, hw'⟩; subst w')
                | (go_at_call 91; refine (LL4.out _ _ (by repeat (first | with_reducible exact BF.out | with_reducible exact Below.refl _ _ | with_reducible refine below_allocB ?_ _ | with_reducible refine Below.drew ?_)) ⟨by omega, by omega⟩).mono ?_; rintro e w1 ⟨rfl, hb1⟩; (first | (have VX := hideIt (BoxZ.below (t := 140) (wr := wr) (by repeat (first | with_reducible exact VX.out | with_reducible exact BoxZ.new (by repeat (first | with_reducible exact BF.out | with_reducible exact Below.refl _ _ | with_reducible refine below_allocB ?_ _ | with_reducible refine Below.drew ?_)) | with_reducible apply BoxZ.drew)) hb1); obtain ⟨c0, c1, c2, d0, d1, d2⟩ := zs3_cells VX.out) | skip); have BF : Hid (Below wr.heap.size wr w1) := bel2 (by repeat (first | with_reducible exact BF.out | with_reducible exact Below.refl _ _ | with_reducible refine below_allocB ?_ _ | with_reducible refine Below.drew ?_)) hb1; clear hb1))
            all_goals
              go_wp2_with fail
              go_meet
              refine ⟨_, rfl, ?_⟩
              unfold Hid
              refine ⟨?_, ?_⟩
              · repeat (first | with_reducible exact BoxZ.new (by repeat (first | with_reducible exact BF.out | with_reducible exact Below.refl _ _ | with_reducible refine below_allocB ?_ _ | with_reducible refine Below.drew ?_)) | with_reducible exact BoxZ.put3 VX.out _ _ _ | with_reducible apply BoxZ.drew)
              · repeat (first | with_reducible exact BF.out | with_reducible exact Below.refl _ _ | with_reducible refine below_allocB ?_ _ | with_reducible refine Below.drew ?_ | with_reducible refine Below.setCell ?_ VX.out.ge _)
          case rest =>
            obtain ⟨bX, rfl, C⟩ := hcut
            rename World => wx
            have BX := hideIt C.out.2
            have XB := hideIt C.out.1
            clear x0 x1 C
            obtain ⟨x0, x1⟩ := SK.out wx BX.out
            have e0 := (XB.out.cell 0).1
            have e1 := (XB.out.cell 1).1
            have e2 := (XB.out.cell 2).1
            have f1 := (XB.out.cell 1).2
            simp only [List.getElem?_cons_zero, List.getElem?_cons_succ] at e0 e1 e2
            have r0 := WR.out (240 + 3 * (k : Int))
            have r1 := WR.out (240 + 3 * (k : Int) + 1)
            have GD := hideIt (show denGood ls k = if wdI ls (240 + 3 * (k : Int) + 2) = 0 then wdI ls (240 + 3 * (k : Int)) == 0 && wdI ls (240 + 3 * (k : Int) + 1) == 0 else goodN (wdI ls (240 + 3 * (k : Int) + 1)) from rfl)
            have DD := hideIt (show denOf ls k = if wdI ls (240 + 3 * (k : Int) + 2) = 0 then ⟨0, ⟨#[]⟩, -1⟩ else ⟨wdI ls (240 + 3 * (k : Int)), unpS (wdI ls (240 + 3 * (k : Int) + 1)), wdI ls (240 + 3 * (k : Int) + 2) - 1⟩ from rfl)
            have L1 := hideIt (fun w1 (hb : Below wr.heap.size wr w1) => LL4.out (240 + 3 * (k : Int) + 1) w1 hb (by omega))
            have AGN : Hid (denGood ls k = true → ∀ j, j < k + 1 → denGood ls j = true) := fun q j h => by
              by_cases e : j = k
              · subst e; exact q
              · exact AG.out j (by omega)
            generalize wdI ls (240 + 3 * (k : Int) + 1) = nm at *
            generalize wdI ls (240 + 3 * (k : Int) + 2) = ch at *
            generalize wdI ls (240 + 3 * (k : Int)) = dr at *
            have SK3 : Hid (∀ w', Below wx.heap.size wx w' → w'.cell? ⟨w.heap.size, 0, none⟩ = some (.slice aW ws.length cW) ∧ w'.cell? ⟨w.heap.size, 1, none⟩ = some (.slice aP ps.length cP)) := fun w' hb => SK.out w' (bel2 BX.out hb)
            have SKX : Hid (∀ w', Below wx.heap.size wx w' → w'.cell? ⟨bX, 0, none⟩ = some (.int .i64 dr)) := fun w' hb => ((XB.out.below hb).cell 0).1
            by_cases c : ch = 0
            · subst c
              have c1 : ¬ ((0 : Int) - 1 ≥ 0) := by decide
              rw [if_pos rfl] at GD DD
              by_cases q0 : dr = 0
              case neg =>
                have q1 : (dr != 0) = true := by rw [bne_iff_ne]; exact q0
                have GF : Hid (denGood ls k = false) := GD.out.trans (by rw [show (dr == 0) = false by rw [beq_eq_false_iff_ne]; exact q0]; rfl)
                clear q0 AGN GD DD
                go_wp2_with fail
                go_quiet (fail)
                obtain ⟨wy, hwy⟩ : ∃ wy, wy = wx.drewN nq := ⟨_, rfl⟩
                rw [← hwy]
                have BW3 : Hid (Below wr.heap.size wr wy) := by rw [hwy]; exact below_drewR BX.out _
                clear hwy x0 x1 e0 e1 e2 f1 SK SK3 SKX LL4 L1
                have CB := hideIt (CR.out _ (below_trans I.out.b BW3.out I.out.z))
                obtain ⟨p0, p1, p2, p3⟩ := two_cells CB.out
                have EB := hideIt (allGood_no (n := 24) hlt GF.out)
                have BR : Hid (Below w.heap.size w ((wy.setCell ⟨w.heap.size + 1, 0, none⟩ (.slice none 0 0)).setCell ⟨w.heap.size + 1, 1, none⟩ (.slice none 0 0))) := ((below_trans BW.out (below_trans I.out.b BW3.out I.out.z) BW.out.size).setCell (by simp only; omega) _).setCell (by simp only; omega) _
                go_wp2
                refine bodyPost_ret (v := .tuple #[.agg #[.slice none 0 0, .slice none 0 0], .bool false]) (by simp [results, Tryz.results48, go_sem, p0, p1]) rfl ?_
                rw [EB.out]
                exact ⟨⟨_, rfl, (fun h => by cases h), fun _ => rfl⟩, BR.out⟩
              have q1 : (dr != 0) = false := by rw [q0]; rfl
              by_cases q2 : nm = 0
              case neg =>
                have q3 : (nm != 0) = true := by rw [bne_iff_ne]; exact q2
                have GF : Hid (denGood ls k = false) := GD.out.trans (by rw [show (nm == 0) = false by rw [beq_eq_false_iff_ne]; exact q2]; simp)
                clear q0 q2 AGN GD DD
                go_wp2_with fail
                go_region_held3 (fun w' => (w'.cell? ⟨w.heap.size, 0, none⟩ = some (.slice aW ws.length cW) ∧ w'.cell? ⟨w.heap.size, 1, none⟩ = some (.slice aP ps.length cP)) ∧ w'.cell? ⟨bX, 0, none⟩ = some (.int .i64 dr))
                  (exact ⟨SK3.out _ (by repeat (first | with_reducible exact BF.out | with_reducible exact Below.refl _ _ | with_reducible refine Below.drew ?_)), SKX.out _ (by repeat (first | with_reducible exact BF.out | with_reducible exact Below.refl _ _ | with_reducible refine Below.drew ?_))⟩)
                  (first
                    | (go_at_call 93; refine (l03Dirent_any _ _ _ ⟨k0, k1⟩ ⟨by decide, by decide⟩).mono ?_; rintro e w' ⟨rfl, hw'⟩; subst w')
                    | (go_at_call 91; refine (L1.out _ (bel2 BX.out (by repeat (first | with_reducible exact BF.out | with_reducible exact Below.refl _ _ | with_reducible refine Below.drew ?_)))).mono ?_; rintro e w1 ⟨rfl, hb1⟩; have BF : Hid (Below wx.heap.size wx w1) := bel2 (by repeat (first | with_reducible exact BF.out | with_reducible exact Below.refl _ _ | with_reducible refine Below.drew ?_)) hb1; clear hb1))
                all_goals
                  have BW3 : Hid (Below wr.heap.size wr w1) := bel2 BX.out BF.out
                  clear x0 x1 e0 e1 e2 f1 SK SK3 SKX LL4 L1
                  have CB := hideIt (CR.out _ (below_trans I.out.b BW3.out I.out.z))
                  obtain ⟨p0, p1, p2, p3⟩ := two_cells CB.out
                  have EB := hideIt (allGood_no (n := 24) hlt GF.out)
                  have BR : Hid (Below w.heap.size w ((w1.setCell ⟨w.heap.size + 1, 0, none⟩ (.slice none 0 0)).setCell ⟨w.heap.size + 1, 1, none⟩ (.slice none 0 0))) := ((below_trans BW.out (below_trans I.out.b BW3.out I.out.z) BW.out.size).setCell (by simp only; omega) _).setCell (by simp only; omega) _
                  go_wp2
                  refine bodyPost_ret (v := .tuple #[.agg #[.slice none 0 0, .slice none 0 0], .bool false]) (by simp [results, Tryz.results48, go_sem, p0, p1]) rfl ?_
                  rw [EB.out]
                  exact ⟨⟨_, rfl, (fun h => by cases h), fun _ => rfl⟩, BR.out⟩
              have q3 : (nm != 0) = false := by rw [q2]; rfl
              have AG2 := hideIt (AGN.out (GD.out.trans (by rw [q0, q2]; rfl)))
              have DO : Hid (denOf ls k = ⟨dr, ⟨#[]⟩, -1⟩) := by unfold Hid; rw [DD.out, q0]
              clear q0 q2 AGN GD DD
              go_wp2_with fail
              go_region_held3 (fun w' => (w'.cell? ⟨w.heap.size, 0, none⟩ = some (.slice aW ws.length cW) ∧ w'.cell? ⟨w.heap.size, 1, none⟩ = some (.slice aP ps.length cP)) ∧ w'.cell? ⟨bX, 0, none⟩ = some (.int .i64 dr))
                (exact ⟨SK3.out _ (by repeat (first | with_reducible exact BF.out | with_reducible exact Below.refl _ _ | with_reducible refine Below.drew ?_)), SKX.out _ (by repeat (first | with_reducible exact BF.out | with_reducible exact Below.refl _ _ | with_reducible refine Below.drew ?_))⟩)
                (first
                  | (go_at_call 93; refine (l03Dirent_any _ _ _ ⟨k0, k1⟩ ⟨by decide, by decide⟩).mono ?_; rintro e w' ⟨rfl, hw'⟩; subst w')
                  | (go_at_call 91; refine (L1.out _ (bel2 BX.out (by repeat (first | with_reducible exact BF.out | with_reducible exact Below.refl _ _ | with_reducible refine Below.drew ?_)))).mono ?_; rintro e w1 ⟨rfl, hb1⟩; have BF : Hid (Below wx.heap.size wx w1) := bel2 (by repeat (first | with_reducible exact BF.out | with_reducible exact Below.refl _ _ | with_reducible refine Below.drew ?_)) hb1; clear hb1))
              all_goals
                have BW3 : Hid (Below wr.heap.size wr w1) := bel2 BX.out BF.out
                have XW := hideIt (XB.out.below BF.out)
                have IR := hideIt (I.out.below BW3.out)
                clear x0 x1 e0 e1 e2 f1 SK SK3 SKX LL4 L1 BF
                have e0 := (XW.out.cell 0).1
                have e1 := (XW.out.cell 1).1
                have e2 := (XW.out.cell 2).1
                simp only [List.getElem?_cons_zero, List.getElem?_cons_succ, show ((0 : Int) - 1) = -1 from rfl] at e0 e1 e2
                have MN := hideIt (densOf_succ ls k)
                have ML := densOf_len ls k
                obtain ⟨n0, n1, _, _⟩ := two_cells IR.out.m
                have IA := hideIt (IR.out.below ((Below.refl _ _).alloc (Nat.le_refl _) (.cells #[.int .i64 dr, .string ⟨#[]⟩, .int .i64 (-1)] 140)))
                have RB := hideIt (rd_den w1 ⟨dr, ⟨#[]⟩, (-1)⟩)
                have hzA := IA.out.z
                simp only [World.size_alloc] at hzA
                rw [DO.out] at MN
                go_wp2_with (at_builtin; refine wpList_append_rd _ rfl (.tmp 93) (.tmp 95) 31 rfl W1.heap.size 140 (.agg #[.int .i64 0, .string ⟨#[]⟩, .int .i64 0]) 3 32 Tryz.underlying31 infoDen rfl (by decide) _ _ _ rfl IA.out.d _ 1 _ rfl RB.out (dens_ones _) (by simp [maxLen]; omega) (by omega) IA.out.z ?_)
                intro vN wN hownN hgrN
                rcases (own_block hownN).shape with ⟨_, eN, _⟩ | ⟨bN, cN, rfl, _, _⟩
                · omega
                obtain ⟨g1, g2⟩ := IA.out.growD ⟨dr, ⟨#[]⟩, (-1)⟩ (by rw [densOf_len]; exact hownN) hgrN
                have G := hideIt g2
                rw [← MN.out] at G
                clear n0 n1 g2 IA RB hownN hgrN ML MN
                obtain ⟨n0, n1, n2, n3⟩ := two_cells g1
                clear g1
                go_wp2
                go_roundg (24 - (k + 1))
                case measure => omega
                case rel => exact ⟨k + 1, by omega, by go_num, ⟨_, _, G.out⟩, AG2.out⟩
            · have c1 : ch - 1 ≥ 0 := by omega
              rw [if_neg c] at GD DD
              have LU := hideIt (fun w1 => l03Unpack_any nm w1 (by omega))
              clear c
              generalize ch - 1 = cm at *
              go_wp2_with fail
              go_region_held3 (fun w' => w'.cell? ⟨w.heap.size, 0, none⟩ = some (.slice aW ws.length cW) ∧ w'.cell? ⟨w.heap.size, 1, none⟩ = some (.slice aP ps.length cP))
                (exact SK3.out _ (by repeat (first | with_reducible exact BF.out | with_reducible exact Below.refl _ _ | with_reducible refine Below.drew ?_)))
                (first
                  | (go_at_call 93; refine (l03Dirent_any _ _ _ ⟨k0, k1⟩ ⟨by decide, by decide⟩).mono ?_; rintro e w' ⟨rfl, hw'⟩; subst w')
                  | (go_at_call 91; refine (L1.out _ (bel2 BX.out (by repeat (first | with_reducible exact BF.out | with_reducible exact Below.refl _ _ | with_reducible refine Below.drew ?_)))).mono ?_; rintro e w1 ⟨rfl, hb1⟩; have BF : Hid (Below wx.heap.size wx w1) := bel2 (by repeat (first | with_reducible exact BF.out | with_reducible exact Below.refl _ _ | with_reducible refine Below.drew ?_)) hb1; clear hb1)
                  | (go_at_call 94; refine (LU.out _).mono ?_; rintro e w1 ⟨⟨sN, rfl, hsN⟩, hb1⟩; have BF : Hid (Below wx.heap.size wx w1) := bel2 (by repeat (first | with_reducible exact BF.out | with_reducible exact Below.refl _ _ | with_reducible refine Below.drew ?_)) hb1; clear hb1))
              all_goals
                have BW3 : Hid (Below wr.heap.size wr w1) := bel2 BX.out BF.out
                have XW := hideIt (XB.out.below BF.out)
                clear x0 x1 e0 e1 e2 f1 SK SK3 SKX LL4 L1 LU
                cases gq : goodN nm with
                | false =>
                  have GF : Hid (denGood ls k = false) := GD.out.trans gq
                  clear gq hsN AGN GD DD
                  have CB := hideIt (CR.out _ (below_trans I.out.b BW3.out I.out.z))
                  obtain ⟨p0, p1, p2, p3⟩ := two_cells CB.out
                  have EB := hideIt (allGood_no (n := 24) hlt GF.out)
                  have BR : Hid (Below w.heap.size w ((w1.setCell ⟨w.heap.size + 1, 0, none⟩ (.slice none 0 0)).setCell ⟨w.heap.size + 1, 1, none⟩ (.slice none 0 0))) := ((below_trans BW.out (below_trans I.out.b BW3.out I.out.z) BW.out.size).setCell (by simp only; omega) _).setCell (by simp only; omega) _
                  go_wp2
                  refine bodyPost_ret (v := .tuple #[.agg #[.slice none 0 0, .slice none 0 0], .bool false]) (by simp [results, Tryz.results48, go_sem, p0, p1]) rfl ?_
                  rw [EB.out]
                  exact ⟨⟨_, rfl, (fun h => by cases h), fun _ => rfl⟩, BR.out⟩
                | true =>
                  have AG2 := hideIt (AGN.out (GD.out.trans gq))
                  have DO : Hid (denOf ls k = ⟨dr, sN, cm⟩) := by unfold Hid; rw [DD.out, hsN gq]
                  have e1 := (XW.out.cell 1).1
                  have f1 := (XW.out.cell 1).2
                  simp only [List.getElem?_cons_zero, List.getElem?_cons_succ] at e1
                  have XP := hideIt (XW.out.put 1 (.string sN))
                  have BP : Hid (Below wr.heap.size wr (w1.setCell ⟨bX, 1, none⟩ (.string sN))) := BW3.out.setCell XW.out.ge _
                  have IR := hideIt (I.out.below BP.out)
                  clear gq hsN AGN GD DD
                  go_upto_region 22 with fail
                  obtain ⟨w2, hw2⟩ : ∃ w2, w2 = w1.setCell ⟨bX, 1, none⟩ (.string sN) := ⟨_, rfl⟩
                  rw [← hw2]
                  rw [← hw2] at XP BP IR
                  clear hw2 e1 f1 XW BW3 BF
                  have e0 := (XP.out.cell 0).1
                  have e1 := (XP.out.cell 1).1
                  have e2 := (XP.out.cell 2).1
                  simp only [List.set_cons_succ, List.set_cons_zero, List.getElem?_cons_zero, List.getElem?_cons_succ] at e0 e1 e2
                  have MN := hideIt (densOf_succ ls k)
                  have ML := densOf_len ls k
                  obtain ⟨n0, n1, _, _⟩ := two_cells IR.out.m
                  have IA := hideIt (IR.out.below ((Below.refl _ _).alloc (Nat.le_refl _) (.cells #[.int .i64 dr, .string sN, .int .i64 cm] 140)))
                  have RB := hideIt (rd_den w2 ⟨dr, sN, cm⟩)
                  have hzA := IA.out.z
                  simp only [World.size_alloc] at hzA
                  rw [DO.out] at MN
                  go_wp2_with (at_builtin; refine wpList_append_rd _ rfl (.tmp 93) (.tmp 95) 31 rfl W1.heap.size 140 (.agg #[.int .i64 0, .string ⟨#[]⟩, .int .i64 0]) 3 32 Tryz.underlying31 infoDen rfl (by decide) _ _ _ rfl IA.out.d _ 1 _ rfl RB.out (dens_ones _) (by simp [maxLen]; omega) (by omega) IA.out.z ?_)
                  intro vN wN hownN hgrN
                  rcases (own_block hownN).shape with ⟨_, eN, _⟩ | ⟨bN, cN, rfl, _, _⟩
                  · omega
                  obtain ⟨g1, g2⟩ := IA.out.growD ⟨dr, sN, cm⟩ (by rw [densOf_len]; exact hownN) hgrN
                  have G := hideIt g2
                  rw [← MN.out] at G
                  clear n0 n1 g2 IA RB hownN hgrN ML MN
                  obtain ⟨n0, n1, n2, n3⟩ := two_cells g1
                  clear g1
                  go_wp2
                  go_roundg (24 - (k + 1))
                  case measure => omega
                  case rel => exact ⟨k + 1, by omega, by go_num, ⟨_, _, G.out⟩, AG2.out⟩
        · obtain rfl : k = 24 := by omega
          have EB := hideIt (allGood_yes (ls := ls) (n := 24) AG.out)
          have NI := inosOf_len ls 16
          have ND := densOf_len ls 24
          have RI := hideIt (own_block I.out.i)
          have RD := hideIt (own_block I.out.d)
          rcases RI.out.shape with ⟨_, e, _⟩ | ⟨b1, c1, rfl, _, _⟩
          · omega
          rcases RD.out.shape with ⟨_, e, _⟩ | ⟨b2, c2, rfl, _, _⟩
          · omega
          obtain ⟨n0, n1, _, _⟩ := two_cells I.out.m
          have CB := hideIt (CR.out _ I.out.b)
          obtain ⟨p0, p1, p2, p3⟩ := two_cells CB.out
          have T1 := hideIt (own_type I.out.i CB.out img_ino)
          have T2 := hideIt (own_type I.out.d CB.out img_den)
          have hbz : W1.heap.size ≤ wr.heap.size := I.out.z
          have BR : Hid (Below w.heap.size w ((wr.setCell ⟨w.heap.size + 1, 0, none⟩ (.slice (some ⟨b1, 0, none⟩) (inosOf ls 16).length c1)).setCell ⟨w.heap.size + 1, 1, none⟩ (.slice (some ⟨b2, 0, none⟩) (densOf ls 24).length c2))) := ((below_trans BW.out I.out.b BW.out.size).setCell (by simp only; omega) _).setCell (by simp only; omega) _
          have RR : Hid (RowIm ((wr.setCell ⟨w.heap.size + 1, 0, none⟩ (.slice (some ⟨b1, 0, none⟩) (inosOf ls 16).length c1)).setCell ⟨w.heap.size + 1, 1, none⟩ (.slice (some ⟨b2, 0, none⟩) (densOf ls 24).length c2)) w.heap.size ((wr.setCell ⟨w.heap.size + 1, 0, none⟩ (.slice (some ⟨b1, 0, none⟩) (inosOf ls 16).length c1)).setCell ⟨w.heap.size + 1, 1, none⟩ (.slice (some ⟨b2, 0, none⟩) (densOf ls 24).length c2)).heap.size (.agg #[.slice (some ⟨b1, 0, none⟩) (inosOf ls 16).length c1, .slice (some ⟨b2, 0, none⟩) (densOf ls 24).length c2]) (inosOf ls 16) (densOf ls 24)) :=
            ⟨_, _, rfl, (own_block (ownsRow_setCell_other (ownsRow_setCell_other I.out.i T1.out _) T1.out _)).wide (by omega) (Nat.le_refl _), (own_block (ownsRow_setCell_other (ownsRow_setCell_other I.out.d T2.out _) T2.out _)).wide (by omega) (Nat.le_refl _)⟩
          clear RI RD T1 T2 x0 x1 AG CB
          simp only [inosOf_len, densOf_len] at n0 n1 BR
          clear NI ND
          go_wp2
          refine bodyPost_ret (v := .tuple #[.agg #[.slice (some ⟨b1, 0, none⟩) (inosOf ls 16).length c1, .slice (some ⟨b2, 0, none⟩) (densOf ls 24).length c2], .bool true]) (by simp [results, Tryz.results48, go_sem, p0, p1, inosOf_len, densOf_len]) rfl ?_
          rw [EB.out]
          simp only [inosOf_len, densOf_len] at RR ⊢
          exact ⟨⟨_, rfl, (fun _ => RR.out), fun h => by cases h⟩, BR.out⟩
end Go.Proofs.YtmeiionabonhnaaGreatDoor
