/- Several texts laid together: PiI, PiJ. -/
import Derived.Test.YtcilodgoognmnaaGreatDoorZAG
import Derived.Test.YtcilodgoognmnaaGreatDoorZAF
namespace Go.Proofs.YtcilodgoognmnaaGreatDoor
open Go.RowKit

theorem rd_den (w1 : World) (x : Den) : Rd (w1.alloc (.cells #[.int .i64 x.dir, .string x.name, .int .i64 x.child] 180)) 3 (.slice (some ⟨w1.heap.size, 0, none⟩) 1 1) 1 (dens [x]) := by
  refine ⟨rfl, _, _, rfl, ⟨Nat.le_refl _, fun e => by cases e⟩, fun _ => ⟨w1.heap.size, 0, rfl, by simp, fun j hj => ?_⟩⟩
  obtain ⟨e0, e1, e2⟩ := three_cells (at_new (w := w1) (o := .cells #[.int .i64 x.dir, .string x.name, .int .i64 x.child] 180) rfl)
  rcases (show j = 0 ∨ j = 1 ∨ j = 2 by omega) with rfl | rfl | rfl
  · exact e0
  · exact e1
  · exact e2
theorem dens_ones (l : List Den) : ∀ u ∈ dens l, u.oneCell' = true := by
  intro u hu
  simp only [dens, List.mem_flatMap] at hu
  obtain ⟨m, _, hm⟩ := hu
  simp [Den.cells] at hm
  rcases hm with rfl | rfl | rfl <;> rfl
theorem dens_app (l l' : List Den) : dens (l ++ l') = dens l ++ dens l' := by simp [dens]
/-- A row of entries that grows. -/
structure DnI (W w : World) (vL : Value) (ds : List Den) : Prop where
  l : w.ownsRow W.heap.size 180 3 vL ds.length (dens ds)
  b : Below W.heap.size W w
theorem DnI.z {W w : World} {vL : Value} {ds : List Den} (h : DnI W w vL ds) : W.heap.size ≤ w.heap.size := h.b.size
theorem DnI.below {W w w' : World} {vL : Value} {ds : List Den} (h : DnI W w vL ds) (hb : Below w.heap.size w w') : DnI W w' vL ds :=
  ⟨((own_block h.l).below hb (Nat.le_refl _)).1, below_trans h.b hb h.z⟩
theorem DnI.grow {W w w' : World} {vL v' : Value} {ds : List Den} (h : DnI W w vL ds) (ms : List Den) (ho : w'.ownsRow W.heap.size 180 3 v' (ds.length + ms.length) (dens ds ++ dens ms)) (hg : w.grownBy w' vL.ownBlock) : DnI W w' v' (ds ++ ms) :=
  ⟨by rw [dens_app, List.length_append]; exact ho, h.b.grown hg h.z (fun q hq => (h.l.lt q hq).1)⟩
/-- The entries that are taken. -/
def takenD (ps : List Den) : List Den := ps.filter fun x => !x.freeB
theorem taken_succ {ps : List Den} {k : Nat} (h : k < ps.length) : takenD (ps.take (k + 1)) = if ps[k].freeB = true then takenD (ps.take k) else takenD (ps.take k) ++ [ps[k]] := by
  unfold takenD
  rw [List.take_succ_eq_append_getElem h, List.filter_append]
  cases hf : ps[k].freeB <;> simp [hf]
theorem taken_len (ps : List Den) : (takenD ps).length ≤ ps.length := List.length_filter_le _ _

set_option maxRecDepth 100000 in
set_option maxHeartbeats 4000000 in
theorem takenDirents_any (v : Value) (ps : List Den) (w : World) (h : RdD w v ps) (hn : ps.length ≤ 4096) (hF : FD w) :
    Calls Tryz.prog 139 #[v] w fun e w' => ∃ v', e = .returned v' ∧ Row w' 180 3 w.heap.size w'.heap.size v' (takenD ps).length (dens (takenD ps)) ∧ Below w.heap.size w w' := by
  obtain ⟨aP, cP, rfl, _, hcP⟩ := h.shape
  have HP := hideIt hcP
  have F := hideIt hF
  clear h hcP hF
  go_enter Tryz.func139, Tryz.ntmps139
  go_wp2
  go_loopw [3, 5, 8] (fun vL _ i wr => ∃ k : Nat, k ≤ ps.length ∧ i = .int .i64 k ∧ Hid (DnI w wr vL (takenD (ps.take k))) ∧ w.heap.size ≤ wr.heap.size) (fun _ _ i _ => ps.length - (intOf i).toNat)
  case atStart => exact ⟨0, by omega, rfl, ⟨World.ownsRow_nil _ _ _ _, Below.refl _ _⟩, Nat.le_refl _⟩
  case round =>
    obtain ⟨k, hk, rfl, I, hz⟩ := hrel
    by_cases hlt : k < ps.length
    · obtain ⟨b, o, rfl, hbl, hcell⟩ := HP.out (by omega)
      obtain ⟨a0, a1, a2⟩ := hcell k hlt
      have d0 := (I.out.b.cell (p := ⟨b, o + k * 3, none⟩) hbl).trans a0
      have d1 := (I.out.b.cell (p := ⟨b, o + k * 3 + 1, none⟩) hbl).trans a1
      have d2 := (I.out.b.cell (p := ⟨b, o + k * 3 + 2, none⟩) hbl).trans a2
      have k0 : (0 : Int) ≤ (k : Int) := by omega
      have k1 : (k : Int) < (ps.length : Int) := by omega
      have TS := hideIt (taken_succ hlt)
      have TL := taken_len (ps.take k)
      rw [List.length_take] at TL
      have DF := den_free ps[k]
      clear a0 a1 a2 hcell
      generalize ps[k] = x at *
      have IB : Hid (DnI w (wr.alloc (.cells #[.int .i64 x.dir, .string x.name, .int .i64 x.child] 180)) u3 (takenD (ps.take k))) := I.out.below ((Below.refl _ _).alloc (Nat.le_refl _) _)
      obtain ⟨f0, f1, f2⟩ := FD.cells (F.out.below IB.out.b)
      have hzb := IB.out.z
      cases hf : x.freeB with
      | true =>
        have G : Hid (DnI w (wr.alloc (.cells #[.int .i64 x.dir, .string x.name, .int .i64 x.child] 180)) u3 (takenD (ps.take (k + 1)))) := by unfold Hid; rw [TS.out, if_pos hf]; exact IB.out
        rw [hf] at DF
        clear IB I TS hf TL
        go_wp2
        go_roundw
        case rel => exact ⟨k + 1, by omega, by go_num, G, hzb⟩
        case measure => simp [intOf]; omega
      | false =>
        have IC : Hid (DnI w ((wr.alloc (.cells #[.int .i64 x.dir, .string x.name, .int .i64 x.child] 180)).alloc (.cells #[.int .i64 x.dir, .string x.name, .int .i64 x.child] 180)) u3 (takenD (ps.take k))) := IB.out.below ((Below.refl _ _).alloc (Nat.le_refl _) _)
        have RC := hideIt (rd_den (wr.alloc (.cells #[.int .i64 x.dir, .string x.name, .int .i64 x.child] 180)) x)
        have hzc := IC.out.z
        have TN : Hid (takenD (ps.take (k + 1)) = takenD (ps.take k) ++ [x]) := by unfold Hid; rw [TS.out, if_neg (by rw [hf]; decide)]
        rw [hf] at DF
        rw [World.size_alloc] at RC
        clear IB I TS hf
        go_wp2_with (at_builtin; refine wpList_append_rd _ rfl (.tmp 15) (.tmp 17) 61 rfl w.heap.size 180 (.agg #[.int .i64 0, .string ⟨#[]⟩, .int .i64 0]) 3 32 Tryz.underlying61 infoDen rfl (by decide) _ _ _ rfl IC.out.l _ 1 _ rfl RC.out (dens_ones _) (by simp [maxLen]; omega) (by omega) (by omega) ?_)
        intro vN wN hownN hgrN
        have G := hideIt (IC.out.grow [x] hownN hgrN)
        rw [← TN.out] at G
        have hzN := G.out.z
        clear hownN hgrN IC RC
        go_wp2
        go_roundw
        case rel => exact ⟨k + 1, by omega, by go_num, G, hzN⟩
        case measure => simp [intOf]; omega
    · obtain rfl : k = ps.length := by omega
      have E := hideIt (show takenD (ps.take ps.length) = takenD ps by rw [List.take_length])
      rw [E.out] at I
      obtain ⟨-, aL, cL, hvL, -⟩ := (own_block I.out.l).rd
      subst hvL
      go_wp2
      go_ret
      exact ⟨_, rfl, own_block I.out.l, I.out.b⟩
end Go.Proofs.YtcilodgoognmnaaGreatDoor

namespace Go.Proofs.YtcilodgoognmnaaGreatDoor
open Go.RowKit

/-- An entry without its inode. -/
def anonD (x : Den) : Den := ⟨x.dir, x.name, -1⟩
/-- An entry stands in a list; none stands twice. -/
def hasD (ps : List Den) (x : Den) : Bool := ps.any fun y => denEq x.dir x.name x.child y.dir y.name y.child
def onceD (ps : List Den) : Bool := decide (∀ k (h : k < ps.length), hasD (ps.take k) ps[k] = false)
theorem hasD_at {ps : List Den} {x : Den} {k : Nat} (hk : k < ps.length) (h : denEq x.dir x.name x.child ps[k].dir ps[k].name ps[k].child = true) : hasD ps x = true := by
  unfold hasD
  rw [List.any_eq_true]
  exact ⟨ps[k], List.getElem_mem _, h⟩
theorem hasD_not {ps : List Den} {x : Den} (h : ∀ j (h : j < ps.length), denEq x.dir x.name x.child ps[j].dir ps[j].name ps[j].child = false) : hasD ps x = false := by
  unfold hasD
  rw [List.any_eq_false]
  intro y hy
  obtain ⟨j, hj, rfl⟩ := List.getElem_of_mem hy
  rw [h j hj]
  decide
theorem onceD_mk {ps : List Den} (h : ∀ k (h : k < ps.length), hasD (ps.take k) ps[k] = false) : onceD ps = true := decide_eq_true h
theorem onceD_not {ps : List Den} {k : Nat} (hk : k < ps.length) (h : hasD (ps.take k) ps[k] = true) : onceD ps = false := decide_eq_false (fun x => by have := x k hk; rw [h] at this; cases this)
theorem RdD.take {w : World} {ao : Option Addr} {c : Nat} {ps : List Den} {m : Nat} (h : RdD w (.slice ao ps.length c) ps) (hm : m ≤ ps.length) : RdD w (.slice ao m c) (ps.take m) := by
  have := Rd.take h hm
  unfold RdD
  have e : (ps.take m).length = m := by rw [List.length_take]; omega
  have e2 : dens (ps.take m) = (dens ps).take (m * 3) := by
    have hl := dens_len (ps.take m)
    have e3 : dens ps = dens (ps.take m) ++ dens (ps.drop m) := by
      unfold dens
      rw [← List.flatMap_append, List.take_append_drop]
    rw [e3]
    exact (List.take_left' (by rw [hl, e])).symm
  rw [e, e2]
  exact this

theorem below_drewN {B : Nat} {a w : World} (h : Below B a w) (n : Nat) : Below B a (w.drewN n) := by
  induction n with
  | zero => exact h
  | succ n ih => exact ⟨ih.os, ih.tape, ih.output, ih.size, ih.block⟩

set_option maxRecDepth 100000 in
set_option maxHeartbeats 4000000 in
theorem indexDen_any (v : Value) (ps : List Den) (x : Den) (w : World) (h : RdD w v ps) (hn : ps.length ≤ 1048576) :
    Calls Tryz.prog 246 #[v, x.v] w fun e w' => ∃ r : Int, e = .returned (.int .i64 r) ∧ (decide (0 ≤ r) = hasD ps x) ∧ Below w.heap.size w w' := by
  obtain ⟨aZ, cZ, rfl, _, hcZ⟩ := h.shape
  have HZ := hideIt hcZ
  have BW := hideIt ((Below.refl w.heap.size w).alloc (Nat.le_refl _) (.cells #[.int .i64 x.dir, .string x.name, .int .i64 x.child] 180))
  have CB : Hid (∀ w', Below (w.alloc (.cells #[.int .i64 x.dir, .string x.name, .int .i64 x.child] 180)).heap.size (w.alloc (.cells #[.int .i64 x.dir, .string x.name, .int .i64 x.child] 180)) w' → w'.cell? ⟨w.heap.size, 0, none⟩ = some (.int .i64 x.dir) ∧ w'.cell? ⟨w.heap.size, 1, none⟩ = some (.string x.name) ∧ w'.cell? ⟨w.heap.size, 2, none⟩ = some (.int .i64 x.child)) := fun w' hb => three_cells ((hb.block _ (by simp)).trans (at_new rfl))
  have hz : w.heap.size ≤ (w.alloc (.cells #[.int .i64 x.dir, .string x.name, .int .i64 x.child] 180)).heap.size := BW.out.size
  obtain ⟨W, hW⟩ : ∃ W, W = w.alloc (.cells #[.int .i64 x.dir, .string x.name, .int .i64 x.child] 180) := ⟨_, rfl⟩
  rw [← hW] at BW CB hz
  rw [show x.v = .agg #[.int .i64 x.dir, .string x.name, .int .i64 x.child] from rfl]
  clear h hcZ
  go_enter Tryz.func246, Tryz.ntmps246
  go_wp2
  rw [← hW]
  clear hW
  go_loopw [5, 8] (fun _ i wr => ∃ k : Nat, k ≤ ps.length ∧ i = .int .i64 k ∧ Hid (Below W.heap.size W wr ∧ ∀ j (h : j < ps.length), j < k → denEq x.dir x.name x.child ps[j].dir ps[j].name ps[j].child = false)) (fun _ i _ => ps.length - (intOf i).toNat)
  case atStart => exact ⟨0, by omega, rfl, Below.refl _ _, fun j h a => absurd a (by omega)⟩
  case round =>
    obtain ⟨k, hk, rfl, H⟩ := hrel
    by_cases hlt : k < ps.length
    · obtain ⟨b, o, rfl, hbl, hcell⟩ := HZ.out (by omega)
      obtain ⟨x0, x1, x2⟩ := CB.out wr H.out.1
      have B0 := hideIt (below_trans BW.out H.out.1 hz)
      obtain ⟨a0, a1, a2⟩ := hcell k hlt
      have d0 := (B0.out.cell (p := ⟨b, o + k * 3, none⟩) hbl).trans a0
      have d1 := (B0.out.cell (p := ⟨b, o + k * 3 + 1, none⟩) hbl).trans a1
      have d2 := (B0.out.cell (p := ⟨b, o + k * 3 + 2, none⟩) hbl).trans a2
      have k0 : (0 : Int) ≤ (k : Int) := by omega
      have k1 : (k : Int) < (ps.length : Int) := by omega
      clear hcell a0 a1 a2
      cases q : denEq x.dir x.name x.child ps[k].dir ps[k].name ps[k].child with
      | true =>
        have E := hideIt (hasD_at hlt q)
        clear H
        generalize ps[k] = y at *
        go_wp2
        go_quiet (fail)
        go_wp2
        go_ret
        exact ⟨_, rfl, by rw [E.out]; exact decide_eq_true (by omega), below_drewN B0.out _⟩
      | false =>
        have H' : Hid (∀ j (h : j < ps.length), j < k + 1 → denEq x.dir x.name x.child ps[j].dir ps[j].name ps[j].child = false) := fun j h a => by
          by_cases e : j = k
          · subst e; exact q
          · exact H.out.2 j h (by omega)
        have H1 := hideIt H.out.1
        clear H
        generalize ps[k] = y at d0 d1 d2 q
        go_wp2
        go_quiet (fail)
        go_wp2
        go_roundw
        case rel => exact ⟨k + 1, by omega, by go_num, below_drewN H1.out _, H'.out⟩
        case measure => simp [intOf]; omega
    · have E := hideIt (hasD_not (fun j h => H.out.2 j h (by omega)))
      have B0 := hideIt (below_trans BW.out H.out.1 hz)
      clear H
      go_wp2
      go_ret
      exact ⟨_, rfl, by rw [E.out]; rfl, B0.out⟩

set_option maxRecDepth 100000 in
set_option maxHeartbeats 4000000 in
theorem containsDen_any (v : Value) (ps : List Den) (x : Den) (w : World) (h : RdD w v ps) (hn : ps.length ≤ 1048576) :
    Calls Tryz.prog 225 #[v, x.v] w fun e w' => e = .returned (.bool (hasD ps x)) ∧ Below w.heap.size w w' := by
  have HZ := hideIt h
  obtain ⟨aZ, cZ, rfl, _, _⟩ := h.shape
  have BW := hideIt ((Below.refl w.heap.size w).alloc (Nat.le_refl _) (.cells #[.int .i64 x.dir, .string x.name, .int .i64 x.child] 180))
  have LI := hideIt (fun w1 h => indexDen_any (.slice aZ ps.length cZ) ps x w1 h hn)
  obtain ⟨x0, x1, x2⟩ := three_cells (at_new (w := w) (o := .cells #[.int .i64 x.dir, .string x.name, .int .i64 x.child] 180) rfl)
  rw [show x.v = .agg #[.int .i64 x.dir, .string x.name, .int .i64 x.child] from rfl]
  clear h
  go_enter Tryz.func225, Tryz.ntmps225
  go_wp2_with fail
  refine (LI.out _ (Rd.below HZ.out BW.out)).mono ?_
  rintro e w1 ⟨r, rfl, hr, hb⟩
  have R := hideIt hr
  have B1 := hideIt (below_trans BW.out hb BW.out.size)
  clear hr hb x0 x1 x2
  go_wp2
  go_ret
  exact ⟨ret_bool R.out, B1.out⟩

set_option maxRecDepth 100000 in
set_option maxHeartbeats 4000000 in
theorem noneTwiceDen_any (v : Value) (ps : List Den) (w : World) (h : RdD w v ps) (hn : ps.length ≤ 1048576) :
    Calls Tryz.prog 197 #[v] w fun e w' => e = .returned (.bool (onceD ps)) ∧ Below w.heap.size w w' := by
  have HR := hideIt h
  obtain ⟨aZ, cZ, rfl, hcap, hcZ⟩ := h.shape
  have HZ := hideIt hcZ
  clear h hcZ
  go_enter Tryz.func197, Tryz.ntmps197
  go_wp2
  go_loopw [3, 4, 7] (fun _ _ i wr => ∃ k : Nat, k ≤ ps.length ∧ i = .int .i64 k ∧ Hid (Below w.heap.size w wr ∧ ∀ j (h : j < ps.length), j < k → hasD (ps.take j) ps[j] = false)) (fun _ _ i _ => ps.length - (intOf i).toNat)
  case atStart => exact ⟨0, by omega, rfl, Below.refl _ _, fun j h a => absurd a (by omega)⟩
  case round =>
    obtain ⟨k, hk, rfl, H⟩ := hrel
    by_cases hlt : k < ps.length
    · obtain ⟨b, o, rfl, hbl, hcell⟩ := HZ.out (by omega)
      obtain ⟨a0, a1, a2⟩ := hcell k hlt
      have d0 := (H.out.1.cell (p := ⟨b, o + k * 3, none⟩) hbl).trans a0
      have d1 := (H.out.1.cell (p := ⟨b, o + k * 3 + 1, none⟩) hbl).trans a1
      have d2 := (H.out.1.cell (p := ⟨b, o + k * 3 + 2, none⟩) hbl).trans a2
      have k0 : (0 : Int) ≤ (k : Int) := by omega
      have k1 : (k : Int) < (ps.length : Int) := by omega
      have k2 : (k : Int) ≤ (cZ : Int) := by omega
      have RT := hideIt (RdD.take HR.out hk)
      have LT := hideIt (show (ps.take k).length ≤ 1048576 by rw [List.length_take]; omega)
      have hz : w.heap.size ≤ wr.heap.size := H.out.1.size
      have H1 := hideIt H.out.1
      clear hcell a0 a1 a2
      obtain ⟨wb, hwb⟩ : ∃ wb : World, wb = wr.alloc (.cells #[.int .i64 ps[k].dir, .string ps[k].name, .int .i64 ps[k].child] 180) := ⟨_, rfl⟩
      have B2 : Hid (Below w.heap.size w wb) := by rw [hwb]; exact H1.out.alloc hz _
      have SK : Hid (∀ w', Below wb.heap.size wb w' → w'.cell? ⟨wr.heap.size, 0, none⟩ = some (.int .i64 ps[k].dir) ∧ w'.cell? ⟨wr.heap.size, 1, none⟩ = some (.string ps[k].name) ∧ w'.cell? ⟨wr.heap.size, 2, none⟩ = some (.int .i64 ps[k].child)) := fun w' hb => three_cells ((hb.block _ (by rw [hwb]; simp)).trans (by rw [hwb]; exact at_new rfl))
      cases q : hasD (ps.take k) ps[k] with
      | false =>
        have H' : Hid (∀ j (h : j < ps.length), j < k + 1 → hasD (ps.take j) ps[j] = false) := fun j h a => by
          by_cases e : j = k
          · subst e; exact q
          · exact H.out.2 j h (by omega)
        have Q := hideIt q
        clear q H
        generalize ps[k] = x at d0 d1 d2 Q hwb SK
        go_wp2_with fail
        rw [← hwb]
        clear hwb
        go_region_held3 (fun w' => w'.cell? ⟨wr.heap.size, 0, none⟩ = some (.int .i64 x.dir) ∧ w'.cell? ⟨wr.heap.size, 1, none⟩ = some (.string x.name) ∧ w'.cell? ⟨wr.heap.size, 2, none⟩ = some (.int .i64 x.child))
          (exact SK.out _ (by repeat (first | exact BF.out | exact Below.refl _ _ | refine Below.drew ?_)))
          (first
            | (go_at_call 225; refine (containsDen_any _ (ps.take k) x _ (Rd.below RT.out (below_trans B2.out (by repeat (first | exact Below.refl _ _ | refine Below.drew ?_)) B2.out.size)) LT.out).mono ?_; rw [Q.out]; rintro e w1 ⟨rfl, hb1⟩; have BF : Hid (Below wb.heap.size wb w1) := (by first | exact hb1 | exact below_trans (by repeat (first | exact Below.refl _ _ | refine Below.drew ?_)) hb1 (Nat.le_refl _))))
        all_goals
          have B3 := hideIt (below_trans B2.out BF.out B2.out.size)
          clear hb1 BF SK d0 d1 d2
          go_wp2
          go_roundw
          case rel => exact ⟨k + 1, by omega, by go_num, (by repeat (first | exact B3.out | refine Below.drew ?_)), H'.out⟩
          case measure => simp [intOf]; omega
      | true =>
        have E := hideIt (onceD_not hlt q)
        have Q := hideIt q
        clear q H
        generalize ps[k] = x at d0 d1 d2 Q hwb SK
        go_wp2_with fail
        rw [← hwb]
        clear hwb
        go_region_held3 (fun w' => w'.cell? ⟨wr.heap.size, 0, none⟩ = some (.int .i64 x.dir) ∧ w'.cell? ⟨wr.heap.size, 1, none⟩ = some (.string x.name) ∧ w'.cell? ⟨wr.heap.size, 2, none⟩ = some (.int .i64 x.child))
          (exact SK.out _ (by repeat (first | exact BF.out | exact Below.refl _ _ | refine Below.drew ?_)))
          (first
            | (go_at_call 225; refine (containsDen_any _ (ps.take k) x _ (Rd.below RT.out (below_trans B2.out (by repeat (first | exact Below.refl _ _ | refine Below.drew ?_)) B2.out.size)) LT.out).mono ?_; rw [Q.out]; rintro e w1 ⟨rfl, hb1⟩; have BF : Hid (Below wb.heap.size wb w1) := (by first | exact hb1 | exact below_trans (by repeat (first | exact Below.refl _ _ | refine Below.drew ?_)) hb1 (Nat.le_refl _))))
        all_goals
          have B3 := hideIt (below_trans B2.out BF.out B2.out.size)
          clear hb1 BF SK d0 d1 d2
          go_wp2
          go_ret
          exact ⟨ret_bool E.out.symm, (by repeat (first | exact B3.out | refine Below.drew ?_))⟩
    · have E := hideIt (onceD_mk (fun j h => H.out.2 j h (by omega)))
      have H1 := hideIt H.out.1
      clear H
      go_wp2
      go_ret
      exact ⟨ret_bool E.out.symm, H1.out⟩
end Go.Proofs.YtcilodgoognmnaaGreatDoor
