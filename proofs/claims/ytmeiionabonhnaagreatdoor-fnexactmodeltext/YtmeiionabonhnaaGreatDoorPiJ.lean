/- An entry among others, none twice: by the program. -/
import Derived.Test.YtmeiionabonhnaaGreatDoorZAK
import Derived.Test.YtmeiionabonhnaaGreatDoorZAH
namespace Go.Proofs.YtmeiionabonhnaaGreatDoor
open Go.RowKit
def anonD (x : Den) : Den := ⟨x.dir, x.name, -1⟩
def hasD (ps : List Den) (x : Den) : Bool := ps.any fun y => denEq x.dir x.name x.child y.dir y.name y.child
def onceD (ps : List Den) : Bool := decide (∀ k (h : k < ps.length), hasD (ps.take k) ps[k] = false)
theorem hasD_at {ps : List Den} {x : Den} {k : Nat} (hk : k < ps.length) (h : denEq x.dir x.name x.child ps[k].dir ps[k].name ps[k].child = true) : hasD ps x = true := by
  unfold hasD
  rw [List.any_eq_true]
  exact ⟨ps[k], List.getElem_mem _, h⟩
theorem hasD_not {ps : List Den} {x : Den} (h : ∀ j (h : j < ps.length), denEq x.dir x.name x.child ps[j].dir ps[j].name ps[j].child = false) : hasD ps x = false := by
  unfold hasD
  rw [List.any_eq_false]
  intro y hy
  obtain ⟨j, hj, rfl⟩ := List.getElem_of_mem hy
  rw [h j hj]
  decide
theorem onceD_mk {ps : List Den} (h : ∀ k (h : k < ps.length), hasD (ps.take k) ps[k] = false) : onceD ps = true := decide_eq_true h
theorem onceD_not {ps : List Den} {k : Nat} (hk : k < ps.length) (h : hasD (ps.take k) ps[k] = true) : onceD ps = false := decide_eq_false (fun x => by have := x k hk; rw [h] at this; cases this)
theorem RdD.take {w : World} {ao : Option Addr} {c : Nat} {ps : List Den} {m : Nat} (h : RdD w (.slice ao ps.length c) ps) (hm : m ≤ ps.length) : RdD w (.slice ao m c) (ps.take m) := by
  have := Rd.take h hm
  unfold RdD
  have e : (ps.take m).length = m := by rw [List.length_take]; omega
  have e2 : dens (ps.take m) = (dens ps).take (m * 3) := by
    have hl := dens_len (ps.take m)
    have e3 : dens ps = dens (ps.take m) ++ dens (ps.drop m) := by
      unfold dens
      rw [← List.flatMap_append, List.take_append_drop]
    rw [e3]
    exact (List.take_left' (by rw [hl, e])).symm
  rw [e, e2]
  exact this
theorem below_drewN {B : Nat} {a w : World} (h : Below B a w) (n : Nat) : Below B a (w.drewN n) := by
  induction n with
  | zero => exact h
  | succ n ih => exact ⟨ih.os, ih.tape, ih.output, ih.size, ih.block⟩
set_option maxRecDepth 100000 in
set_option maxHeartbeats 4000000 in
theorem indexDen_any (v : Value) (ps : List Den) (x : Den) (w : World) (h : RdD w v ps) (hn : ps.length ≤ 1048576) :
    Calls Tryz.prog 277 #[v, x.v] w fun e w' => ∃ r : Int, e = .returned (.int .i64 r) ∧ (decide (0 ≤ r) = hasD ps x) ∧ Below w.heap.size w w' := by
  obtain ⟨aZ, cZ, rfl, _, hcZ⟩ := h.shape
  have HZ := hideIt hcZ
  have BW := hideIt ((Below.refl w.heap.size w).alloc (Nat.le_refl _) (.cells #[.int .i64 x.dir, .string x.name, .int .i64 x.child] 140))
  have CB : Hid (∀ w', Below (w.alloc (.cells #[.int .i64 x.dir, .string x.name, .int .i64 x.child] 140)).heap.size (w.alloc (.cells #[.int .i64 x.dir, .string x.name, .int .i64 x.child] 140)) w' → w'.cell? ⟨w.heap.size, 0, none⟩ = some (.int .i64 x.dir) ∧ w'.cell? ⟨w.heap.size, 1, none⟩ = some (.string x.name) ∧ w'.cell? ⟨w.heap.size, 2, none⟩ = some (.int .i64 x.child)) := fun w' hb => three_cells ((hb.block _ (by simp)).trans (at_new rfl))
  have hz : w.heap.size ≤ (w.alloc (.cells #[.int .i64 x.dir, .string x.name, .int .i64 x.child] 140)).heap.size := BW.out.size
  obtain ⟨W, hW⟩ : ∃ W, W = w.alloc (.cells #[.int .i64 x.dir, .string x.name, .int .i64 x.child] 140) := ⟨_, rfl⟩
  rw [← hW] at BW CB hz
  rw [show x.v = .agg #[.int .i64 x.dir, .string x.name, .int .i64 x.child] from rfl]
  clear h hcZ
  go_enter Tryz.func277, Tryz.ntmps277
  go_wp2
  rw [← hW]
  clear hW
  go_loopw [5, 8] (fun _ i wr => ∃ k : Nat, k ≤ ps.length ∧ i = .int .i64 k ∧ Hid (Below W.heap.size W wr ∧ ∀ j (h : j < ps.length), j < k → denEq x.dir x.name x.child ps[j].dir ps[j].name ps[j].child = false)) (fun _ i _ => ps.length - (intOf i).toNat)
  case atStart => exact ⟨0, by omega, rfl, Below.refl _ _, fun j h a => absurd a (by omega)⟩
  case round =>
    obtain ⟨k, hk, rfl, H⟩ := hrel
    by_cases hlt : k < ps.length
    · obtain ⟨b, o, rfl, hbl, hcell⟩ := HZ.out (by omega)
      obtain ⟨x0, x1, x2⟩ := CB.out wr H.out.1
      have B0 := hideIt (below_trans BW.out H.out.1 hz)
      obtain ⟨a0, a1, a2⟩ := hcell k hlt
      have d0 := (B0.out.cell (p := ⟨b, o + k * 3, none⟩) hbl).trans a0
      have d1 := (B0.out.cell (p := ⟨b, o + k * 3 + 1, none⟩) hbl).trans a1
      have d2 := (B0.out.cell (p := ⟨b, o + k * 3 + 2, none⟩) hbl).trans a2
      have k0 : (0 : Int) ≤ (k : Int) := by omega
      have k1 : (k : Int) < (ps.length : Int) := by omega
      clear hcell a0 a1 a2
      cases q : denEq x.dir x.name x.child ps[k].dir ps[k].name ps[k].child with
      | true =>
        have E := hideIt (hasD_at hlt q)
        clear H
        generalize ps[k] = y at *
        go_wp2
        go_quiet (fail)
        go_wp2
        go_ret
        exact ⟨_, rfl, by rw [E.out]; exact decide_eq_true (by omega), below_drewN B0.out _⟩
      | false =>
        have H' : Hid (∀ j (h : j < ps.length), j < k + 1 → denEq x.dir x.name x.child ps[j].dir ps[j].name ps[j].child = false) := fun j h a => by
          by_cases e : j = k
          · subst e; exact q
          · exact H.out.2 j h (by omega)
        have H1 := hideIt H.out.1
        clear H
        generalize ps[k] = y at d0 d1 d2 q
        go_wp2
        go_quiet (fail)
        go_wp2
        go_roundw
        case rel => exact ⟨k + 1, by omega, by go_num, below_drewN H1.out _, H'.out⟩
        case measure => simp [intOf]; omega
    · have E := hideIt (hasD_not (fun j h => H.out.2 j h (by omega)))
      have B0 := hideIt (below_trans BW.out H.out.1 hz)
      clear H
      go_wp2
      go_ret
      exact ⟨_, rfl, by rw [E.out]; rfl, B0.out⟩
set_option maxRecDepth 100000 in
set_option maxHeartbeats 4000000 in
theorem containsDen_any (v : Value) (ps : List Den) (x : Den) (w : World) (h : RdD w v ps) (hn : ps.length ≤ 1048576) :
    Calls Tryz.prog 238 #[v, x.v] w fun e w' => e = .returned (.bool (hasD ps x)) ∧ Below w.heap.size w w' := by
  have HZ := hideIt h
  obtain ⟨aZ, cZ, rfl, _, _⟩ := h.shape
  have BW := hideIt ((Below.refl w.heap.size w).alloc (Nat.le_refl _) (.cells #[.int .i64 x.dir, .string x.name, .int .i64 x.child] 140))
  have LI := hideIt (fun w1 h => indexDen_any (.slice aZ ps.length cZ) ps x w1 h hn)
  obtain ⟨x0, x1, x2⟩ := three_cells (at_new (w := w) (o := .cells #[.int .i64 x.dir, .string x.name, .int .i64 x.child] 140) rfl)
  rw [show x.v = .agg #[.int .i64 x.dir, .string x.name, .int .i64 x.child] from rfl]
  clear h
  go_enter Tryz.func238, Tryz.ntmps238
  go_wp2_with fail
  refine (LI.out _ (Rd.below HZ.out BW.out)).mono ?_
  rintro e w1 ⟨r, rfl, hr, hb⟩
  have R := hideIt hr
  have B1 := hideIt (below_trans BW.out hb BW.out.size)
  clear hr hb x0 x1 x2
  go_wp2
  go_ret
  exact ⟨ret_bool R.out, B1.out⟩
set_option maxRecDepth 100000 in
set_option maxHeartbeats 4000000 in
theorem noneTwiceDen_any (v : Value) (ps : List Den) (w : World) (h : RdD w v ps) (hn : ps.length ≤ 1048576) :
    Calls Tryz.prog 181 #[v] w fun e w' => e = .returned (.bool (onceD ps)) ∧ Below w.heap.size w w' := by
  have HR := hideIt h
  obtain ⟨aZ, cZ, rfl, hcap, hcZ⟩ := h.shape
  have HZ := hideIt hcZ
  clear h hcZ
  go_enter Tryz.func181, Tryz.ntmps181
  go_wp2
  go_loopw [3, 4, 7] (fun _ _ i wr => ∃ k : Nat, k ≤ ps.length ∧ i = .int .i64 k ∧ Hid (Below w.heap.size w wr ∧ ∀ j (h : j < ps.length), j < k → hasD (ps.take j) ps[j] = false)) (fun _ _ i _ => ps.length - (intOf i).toNat)
  case atStart => exact ⟨0, by omega, rfl, Below.refl _ _, fun j h a => absurd a (by omega)⟩
  case round =>
    obtain ⟨k, hk, rfl, H⟩ := hrel
    by_cases hlt : k < ps.length
    · obtain ⟨b, o, rfl, hbl, hcell⟩ := HZ.out (by omega)
      obtain ⟨a0, a1, a2⟩ := hcell k hlt
      have d0 := (H.out.1.cell (p := ⟨b, o + k * 3, none⟩) hbl).trans a0
      have d1 := (H.out.1.cell (p := ⟨b, o + k * 3 + 1, none⟩) hbl).trans a1
      have d2 := (H.out.1.cell (p := ⟨b, o + k * 3 + 2, none⟩) hbl).trans a2
      have k0 : (0 : Int) ≤ (k : Int) := by omega
      have k1 : (k : Int) < (ps.length : Int) := by omega
      have k2 : (k : Int) ≤ (cZ : Int) := by omega
      have RT := hideIt (RdD.take HR.out hk)
      have LT := hideIt (show (ps.take k).length ≤ 1048576 by rw [List.length_take]; omega)
      have hz : w.heap.size ≤ wr.heap.size := H.out.1.size
      have H1 := hideIt H.out.1
      clear hcell a0 a1 a2
      obtain ⟨wb, hwb⟩ : ∃ wb : World, wb = wr.alloc (.cells #[.int .i64 ps[k].dir, .string ps[k].name, .int .i64 ps[k].child] 140) := ⟨_, rfl⟩
      have B2 : Hid (Below w.heap.size w wb) := by rw [hwb]; exact H1.out.alloc hz _
      have SK : Hid (∀ w', Below wb.heap.size wb w' → w'.cell? ⟨wr.heap.size, 0, none⟩ = some (.int .i64 ps[k].dir) ∧ w'.cell? ⟨wr.heap.size, 1, none⟩ = some (.string ps[k].name) ∧ w'.cell? ⟨wr.heap.size, 2, none⟩ = some (.int .i64 ps[k].child)) := fun w' hb => three_cells ((hb.block _ (by rw [hwb]; simp)).trans (by rw [hwb]; exact at_new rfl))
      cases q : hasD (ps.take k) ps[k] with
      | false =>
        have H' : Hid (∀ j (h : j < ps.length), j < k + 1 → hasD (ps.take j) ps[j] = false) := fun j h a => by
          by_cases e : j = k
          · subst e; exact q
          · exact H.out.2 j h (by omega)
        have Q := hideIt q
        clear q H
        generalize ps[k] = x at d0 d1 d2 Q hwb SK
        go_wp2_with fail
        rw [← hwb]
        clear hwb
        go_region_held3 (fun w' => w'.cell? ⟨wr.heap.size, 0, none⟩ = some (.int .i64 x.dir) ∧ w'.cell? ⟨wr.heap.size, 1, none⟩ = some (.string x.name) ∧ w'.cell? ⟨wr.heap.size, 2, none⟩ = some (.int .i64 x.child))
          (exact SK.out _ (by repeat (first | exact BF.out | exact Below.refl _ _ | refine Below.drew ?_)))
          (first
            | (go_at_call 238; refine (containsDen_any _ (ps.take k) x _ (Rd.below RT.out (below_trans B2.out (by repeat (first | exact Below.refl _ _ | refine Below.drew ?_)) B2.out.size)) LT.out).mono ?_; rw [Q.out]; rintro e w1 ⟨rfl, hb1⟩; have BF : Hid (Below wb.heap.size wb w1) := (by first | exact hb1 | exact below_trans (by repeat (first | exact Below.refl _ _ | refine Below.drew ?_)) hb1 (Nat.le_refl _))))
        all_goals
          have B3 := hideIt (below_trans B2.out BF.out B2.out.size)
          clear hb1 BF SK d0 d1 d2
          go_wp2
          go_roundw
          case rel => exact ⟨k + 1, by omega, by go_num, (by repeat (first | exact B3.out | refine Below.drew ?_)), H'.out⟩
          case measure => simp [intOf]; omega
      | true =>
        have E := hideIt (onceD_not hlt q)
        have Q := hideIt q
        clear q H
        generalize ps[k] = x at d0 d1 d2 Q hwb SK
        go_wp2_with fail
        rw [← hwb]
        clear hwb
        go_region_held3 (fun w' => w'.cell? ⟨wr.heap.size, 0, none⟩ = some (.int .i64 x.dir) ∧ w'.cell? ⟨wr.heap.size, 1, none⟩ = some (.string x.name) ∧ w'.cell? ⟨wr.heap.size, 2, none⟩ = some (.int .i64 x.child))
          (exact SK.out _ (by repeat (first | exact BF.out | exact Below.refl _ _ | refine Below.drew ?_)))
          (first
            | (go_at_call 238; refine (containsDen_any _ (ps.take k) x _ (Rd.below RT.out (below_trans B2.out (by repeat (first | exact Below.refl _ _ | refine Below.drew ?_)) B2.out.size)) LT.out).mono ?_; rw [Q.out]; rintro e w1 ⟨rfl, hb1⟩; have BF : Hid (Below wb.heap.size wb w1) := (by first | exact hb1 | exact below_trans (by repeat (first | exact Below.refl _ _ | refine Below.drew ?_)) hb1 (Nat.le_refl _))))
        all_goals
          have B3 := hideIt (below_trans B2.out BF.out B2.out.size)
          clear hb1 BF SK d0 d1 d2
          go_wp2
          go_ret
          exact ⟨ret_bool E.out.symm, (by repeat (first | exact B3.out | refine Below.drew ?_))⟩
    · have E := hideIt (onceD_mk (fun j h => H.out.2 j h (by omega)))
      have H1 := hideIt H.out.1
      clear H
      go_wp2
      go_ret
      exact ⟨ret_bool E.out.symm, H1.out⟩
end Go.Proofs.YtmeiionabonhnaaGreatDoor
