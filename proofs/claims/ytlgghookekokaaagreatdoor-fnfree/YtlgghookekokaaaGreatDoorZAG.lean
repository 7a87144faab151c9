/- Several texts laid together: ImB, UpL, ImC, ImD, ImH, ImE, ImF. -/
import Derived.Test.YtlgghookekokaaaGreatDoorZAF
import Derived.Test.YtlgghookekokaaaGreatDoorZAA
import Derived.Deep.RegionWith
import Derived.Deep.RegionHeld3
import Derived.Laws.OwnMore
namespace Go.Proofs.YtlgghookekokaaaGreatDoor
open Go.RowKit

/-- One entry of a map, at its place. -/
def entB (i : Nat) (z size : Int) : Bool := tieB z && (z == 0 || decide ((i : Int) < size))
/-- The map of an inode is right from its start on, so far. -/
def mapTo (zs : List Int) (size : Int) (k : Nat) : Prop := ∀ i, i < k → entB i (zs.getD i 0) size = true
def mapB (zs : List Int) (size : Int) : Bool := (List.range 8).all fun i => entB i (zs.getD i 0) size
theorem mapB_of {zs : List Int} {size : Int} (h : mapTo zs size 8) : mapB zs size = true := by
  unfold mapB
  rw [List.all_eq_true]
  intro i hi
  exact h i (List.mem_range.1 hi)
theorem mapB_to {zs : List Int} {size : Int} (h : mapB zs size = true) : mapTo zs size 8 := by
  unfold mapB at h
  rw [List.all_eq_true] at h
  intro i hi
  exact h i (List.mem_range.2 hi)
theorem mapB_not {zs : List Int} {size : Int} {k : Nat} (hk : k < 8) (h : entB k (zs.getD k 0) size = false) : mapB zs size = false := by
  rw [Bool.eq_false_iff]
  intro e
  rw [mapB_to e k hk] at h
  exact absurd h (by decide)
theorem mapTo_succ {zs : List Int} {size : Int} {k : Nat} (h : mapTo zs size k) (g : entB k (zs.getD k 0) size = true) : mapTo zs size (k + 1) := by
  intro i hi
  by_cases e : i = k
  · rw [e]; exact g
  · exact h i (by omega)
/-- What the kind asks. -/
def kindB (x : Ino) : Bool := if x.kind = 0 then decide (x.size = 0 ∧ x.links = 0 ∧ x.map = [0, 0, 0, 0, 0, 0, 0, 0]) else if x.kind = 2 then x.size == 0 && x.links == 1 else decide (0 < x.links)
/-- An inode that is right. -/
def inoB (x : Ino) : Bool := decide (0 ≤ x.kind ∧ x.kind ≤ 2) && (decide (0 ≤ x.size ∧ x.size ≤ 8) && (decide (0 ≤ x.links ∧ x.links ≤ 24) && (mapB x.map x.size && kindB x)))
/-- Its numbers are of the machine. -/
def Ino.R (x : Ino) : Prop := ∀ z ∈ x.map, -9223372036854775808 ≤ z ∧ z ≤ 9223372036854775807
theorem Ino.len (x : Ino) : x.map.length = 8 := rfl
theorem Ino.at (x : Ino) (k : Nat) (hk : k < 8) : x.cs[3 + k]? = some (.int .i64 (x.map.getD k 0)) := by
  rcases (show k = 0 ∨ k = 1 ∨ k = 2 ∨ k = 3 ∨ k = 4 ∨ k = 5 ∨ k = 6 ∨ k = 7 by omega) with rfl | rfl | rfl | rfl | rfl | rfl | rfl | rfl <;> rfl
theorem Ino.R.at {x : Ino} (h : x.R) (k : Nat) (hk : k < 8) : -9223372036854775808 ≤ x.map.getD k 0 ∧ x.map.getD k 0 ≤ 9223372036854775807 := by
  have e : x.map.getD k 0 = x.map[k]'(by rw [x.len]; exact hk) := by rw [List.getD_eq_getElem?_getD, List.getElem?_eq_getElem (by rw [x.len]; exact hk)]; rfl
  rw [e]
  exact h _ (List.getElem_mem _)

set_option maxRecDepth 100000 in
set_option maxHeartbeats 2000000 in
@[go_sem] theorem eqZero8 (m0 m1 m2 m3 m4 m5 m6 m7 : Int) (w : World) : (Op.equalIn 9999 42 (.agg #[.int .i64 m0, .int .i64 m1, .int .i64 m2, .int .i64 m3, .int .i64 m4, .int .i64 m5, .int .i64 m6, .int .i64 m7]) (.agg #[.int .i64 0, .int .i64 0, .int .i64 0, .int .i64 0, .int .i64 0, .int .i64 0, .int .i64 0, .int .i64 0])).run Tryz.prog w = .ok (decide ([m0, m1, m2, m3, m4, m5, m6, m7] = [0, 0, 0, 0, 0, 0, 0, 0])) w := by
  have u3 := Tryz.underlying3
  have a3 := Tryz.isAgg3
  have z3 := Tryz.sizeOf3
  rw [show (9999 : Nat) = 9998 + 1 from rfl, Op.equalIn]
  simp only [Sem.run_bind, run_underlying Tryz.underlying42, Result.andThen_ok]
  simp only [Std.Legacy.Range.forIn_eq_forIn_range', Std.Legacy.Range.size, Nat.sub_zero, Nat.add_sub_cancel, Nat.div_one, List.range'_succ, List.range'_zero, List.forIn_cons, List.forIn_nil]
  go_simp
  by_cases h0 : m0 = 0
  case neg => simp [h0]
  by_cases h1 : m1 = 0
  case neg => simp [h0, h1]
  by_cases h2 : m2 = 0
  case neg => simp [h0, h1, h2]
  by_cases h3 : m3 = 0
  case neg => simp [h0, h1, h2, h3]
  by_cases h4 : m4 = 0
  case neg => simp [h0, h1, h2, h3, h4]
  by_cases h5 : m5 = 0
  case neg => simp [h0, h1, h2, h3, h4, h5]
  by_cases h6 : m6 = 0
  case neg => simp [h0, h1, h2, h3, h4, h5, h6]
  by_cases h7 : m7 = 0
  case neg => simp [h0, h1, h2, h3, h4, h5, h6, h7]
  simp [h0, h1, h2, h3, h4, h5, h6, h7]

set_option maxRecDepth 100000 in
set_option maxHeartbeats 2000000 in
theorem l05Inode_any (x : Ino) (w : World) (hr : x.R) : Calls Tryz.prog 56 #[x.v] w fun e w' => e = .returned (.bool (inoB x)) ∧ Below w.heap.size w w' := by
  have hv : x.v = .agg x.cs.toArray := rfl
  have c0 : (w.alloc (.cells x.cs.toArray 44)).cell? ⟨w.heap.size, 0, none⟩ = some (.int .i64 x.kind) := (eight_at (xs := x.cs) (at_new rfl) 0).1
  have c1 : (w.alloc (.cells x.cs.toArray 44)).cell? ⟨w.heap.size, 1, none⟩ = some (.int .i64 x.size) := (eight_at (xs := x.cs) (at_new rfl) 1).1
  have c2 : (w.alloc (.cells x.cs.toArray 44)).cell? ⟨w.heap.size, 2, none⟩ = some (.int .i64 x.links) := (eight_at (xs := x.cs) (at_new rfl) 2).1
  have CM := hideIt (show ∀ k, k < 8 → (w.alloc (.cells x.cs.toArray 44)).cell? ⟨w.heap.size, 3 + k, none⟩ = some (.int .i64 (x.map.getD k 0)) from fun k hk => ((eight_at (xs := x.cs) (at_new rfl) (3 + k)).1).trans (x.at k hk))
  have B := hideIt ((Below.refl w.heap.size w).alloc (Nat.le_refl _) (.cells x.cs.toArray 44))
  rw [hv]
  by_cases h0 : 0 ≤ x.kind ∧ x.kind ≤ 2
  · by_cases h1 : 0 ≤ x.size ∧ x.size ≤ 8
    · by_cases h2 : 0 ≤ x.links ∧ x.links ≤ 24
      · have E := hideIt (show inoB x = (mapB x.map x.size && kindB x) by unfold inoB; rw [decide_eq_true h0, decide_eq_true h1, decide_eq_true h2]; rfl)
        have H := hideIt (And.intro h0 (And.intro h1 h2))
        clear h0 h1 h2
        go_enter Tryz.func56, Tryz.ntmps56
        go_wp2_with fail
        refine (l01In_yes _ _ _ _ H.out.1).mono ?_
        rintro e w' ⟨rfl, rfl⟩
        go_wp2_with fail
        refine (l01In_yes _ _ _ _ H.out.2.1).mono ?_
        rintro e w' ⟨rfl, rfl⟩
        go_wp2_with fail
        refine (l01In_yes _ _ _ _ H.out.2.2).mono ?_
        rintro e w' ⟨rfl, rfl⟩
        go_wp2
        obtain ⟨wa, hwa⟩ : ∃ wa, wa = w.alloc (.cells x.cs.toArray 44) := ⟨_, rfl⟩
        rw [← hwa] at c0 c1 c2 CM B ⊢
        have CA := hideIt (show ∀ j, wa.cell? ⟨w.heap.size, j, none⟩ = x.cs[j]? by rw [hwa]; exact fun j => (eight_at (xs := x.cs) (at_new rfl) j).1)
        clear hwa
        go_loopw [3] (fun i wr => ∃ k : Nat, k ≤ 8 ∧ i = .int .i64 k ∧ wr = wa ∧ Hid (mapTo x.map x.size k)) (fun i _ => 8 - (intOf i).toNat)
        case atStart => exact ⟨0, by omega, rfl, rfl, fun i hi => absurd hi (by omega)⟩
        case round =>
          obtain ⟨k, hk, rfl, rfl, M⟩ := hrel
          by_cases hlt : k < 8
          · have c3 := CM.out k hlt
            obtain ⟨r0, r1⟩ := hr.at k hlt
            have k0 : (0 : Int) ≤ (k : Int) := by omega
            have k1 : (k : Int) < 8 := by omega
            have MN := hideIt (fun e => mapB_not (zs := x.map) (size := x.size) hlt e)
            have MS := hideIt (fun e => mapTo_succ (k := k) M.out e)
            generalize x.map.getD k 0 = z at c3 r0 r1 MN MS
            clear CM CA M
            cases ht : tieB z with
            | false =>
              have F := hideIt (show inoB x = false by rw [E.out, MN.out (by unfold entB; rw [ht]; rfl), Bool.false_and])
              have T := hideIt ht
              clear ht MN MS E
              go_wp2_with fail
              refine (l03EntryOK_any _ _ r0 r1).mono ?_
              rintro e w' ⟨rfl, rfl⟩
              rw [T.out]
              go_wp2
              go_ret
              exact ⟨ret_bool F.out.symm, B.out⟩
            | true =>
              by_cases hz : z = 0
              · have q : (z != 0) = false := by rw [hz]; rfl
                have G := hideIt (MS.out (by unfold entB; rw [ht, hz]; rfl))
                have T := hideIt ht
                clear ht MN MS hz
                go_wp2_with fail
                refine (l03EntryOK_any _ _ r0 r1).mono ?_
                rintro e w' ⟨rfl, rfl⟩
                rw [T.out]
                go_wp2
                go_roundw
                case rel => exact ⟨k + 1, by omega, by go_num, trivial, G⟩
                case measure => simp [intOf]; omega
              · have q : (z != 0) = true := by rw [bne_iff_ne]; exact hz
                have qz : (z == 0) = false := by rw [beq_eq_false_iff_ne]; exact hz
                by_cases hs : (k : Int) < x.size
                · have q2 : ¬ x.size ≤ (k : Int) := by omega
                  have G := hideIt (MS.out (by unfold entB; rw [ht, qz, decide_eq_true hs]; rfl))
                  have T := hideIt ht
                  clear ht MN MS hz hs qz
                  go_wp2_with fail
                  refine (l03EntryOK_any _ _ r0 r1).mono ?_
                  rintro e w' ⟨rfl, rfl⟩
                  rw [T.out]
                  go_wp2
                  go_roundw
                  case rel => exact ⟨k + 1, by omega, by go_num, trivial, G⟩
                  case measure => simp [intOf]; omega
                · have q2 : x.size ≤ (k : Int) := by omega
                  have F := hideIt (show inoB x = false by rw [E.out, MN.out (by unfold entB; rw [ht, qz, decide_eq_false hs]; rfl), Bool.false_and])
                  have T := hideIt ht
                  clear ht MN MS hz hs qz E
                  go_wp2_with fail
                  refine (l03EntryOK_any _ _ r0 r1).mono ?_
                  rintro e w' ⟨rfl, rfl⟩
                  rw [T.out]
                  go_wp2
                  go_ret
                  exact ⟨ret_bool F.out.symm, B.out⟩
          · obtain rfl : k = 8 := by omega
            have F := hideIt (show inoB x = kindB x by rw [E.out, mapB_of M.out, Bool.true_and])
            clear E M CM
            rcases (show x.kind = 0 ∨ x.kind = 1 ∨ x.kind = 2 by have := H.out; omega) with hz | hz | hz
            · have K := hideIt (show kindB x = decide (x.size = 0 ∧ x.links = 0 ∧ x.map = [0, 0, 0, 0, 0, 0, 0, 0]) by unfold kindB; rw [if_pos hz])
              rw [hz] at c0
              have c3 : wr.cell? ⟨w.heap.size, 3, none⟩ = some (.int .i64 x.m0) := CA.out 3
              have c4 : wr.cell? ⟨w.heap.size, 4, none⟩ = some (.int .i64 x.m1) := CA.out 4
              have c5 : wr.cell? ⟨w.heap.size, 5, none⟩ = some (.int .i64 x.m2) := CA.out 5
              have c6 : wr.cell? ⟨w.heap.size, 6, none⟩ = some (.int .i64 x.m3) := CA.out 6
              have c7 : wr.cell? ⟨w.heap.size, 7, none⟩ = some (.int .i64 x.m4) := CA.out 7
              have c8 : wr.cell? ⟨w.heap.size, 8, none⟩ = some (.int .i64 x.m5) := CA.out 8
              have c9 : wr.cell? ⟨w.heap.size, 9, none⟩ = some (.int .i64 x.m6) := CA.out 9
              have c10 : wr.cell? ⟨w.heap.size, 10, none⟩ = some (.int .i64 x.m7) := CA.out 10
              clear CA
              go_wp2
              all_goals
                go_ret
                refine ⟨ret_bool ?_, B.out⟩
                rw [F.out, K.out, eq_comm]
                clear c0 c1 c2 c3 c4 c5 c6 c7 c8 c9 c10
                rename_i h9
                simp_all [Ino.map]
            · have K := hideIt (show kindB x = decide (0 < x.links) by unfold kindB; rw [if_neg (by omega), if_neg (by omega)])
              rw [hz] at c0
              clear CA
              go_wp2
              go_ret
              exact ⟨ret_bool (by rw [F.out, K.out]), B.out⟩
            · have K := hideIt (show kindB x = (x.size == 0 && x.links == 1) by unfold kindB; rw [if_neg (by omega), if_pos hz])
              rw [hz] at c0
              clear CA
              cases hq : (x.size == 0)
              all_goals
                rw [hq] at K
                go_wp2
                go_ret
                exact ⟨ret_bool (by rw [F.out, K.out]; rfl), B.out⟩
      · have E := hideIt (show inoB x = false by unfold inoB; rw [decide_eq_false h2, Bool.false_and, Bool.and_false, Bool.and_false])
        go_enter Tryz.func56, Tryz.ntmps56
        go_wp2_with fail
        refine (l01In_yes _ _ _ _ h0).mono ?_
        rintro e w' ⟨rfl, rfl⟩
        go_wp2_with fail
        refine (l01In_yes _ _ _ _ h1).mono ?_
        rintro e w' ⟨rfl, rfl⟩
        go_wp2_with fail
        refine (l01In_no _ _ _ _ h2).mono ?_
        rintro e w' ⟨rfl, rfl⟩
        go_wp2
        go_ret
        exact ⟨ret_bool E.out.symm, B.out⟩
    · have E := hideIt (show inoB x = false by unfold inoB; rw [decide_eq_false h1, Bool.false_and, Bool.and_false])
      go_enter Tryz.func56, Tryz.ntmps56
      go_wp2_with fail
      refine (l01In_yes _ _ _ _ h0).mono ?_
      rintro e w' ⟨rfl, rfl⟩
      go_wp2_with fail
      refine (l01In_no _ _ _ _ h1).mono ?_
      rintro e w' ⟨rfl, rfl⟩
      go_wp2
      go_ret
      exact ⟨ret_bool E.out.symm, B.out⟩
  · have E := hideIt (show inoB x = false by unfold inoB; rw [decide_eq_false h0, Bool.false_and])
    go_enter Tryz.func56, Tryz.ntmps56
    go_wp2_with fail
    refine (l01In_no _ _ _ _ h0).mono ?_
    rintro e w' ⟨rfl, rfl⟩
    go_wp2
    go_ret
    exact ⟨ret_bool E.out.symm, B.out⟩
end Go.Proofs.YtlgghookekokaaaGreatDoor

namespace Go.Proofs.YtlgghookekokaaaGreatDoor
open Go.RowKit

theorem infoUp : (Tryz.prog.info? 47).map (fun i => (i.zero, i.size, i.bytes)) = some (some (.agg #[.int .i64 0, .int .i64 0]), 2, 16) := by kernel_rfl

end Go.Proofs.YtlgghookekokaaaGreatDoor

namespace Go.Proofs.YtlgghookekokaaaGreatDoor
open Go.RowKit

theorem rd_upd (w1 : World) (x y : Int) : Rd (w1.alloc (.cells #[.int .i64 x, .int .i64 y] 47)) 2 (.slice (some ⟨w1.heap.size, 0, none⟩) 1 1) 1 (ses [⟨x, y⟩]) := by
  refine ⟨rfl, _, _, rfl, ⟨Nat.le_refl _, fun e => by cases e⟩, fun _ => ⟨w1.heap.size, 0, rfl, by simp, fun j hj => ?_⟩⟩
  obtain ⟨e0, e1, _, _⟩ := two_cells (at_new (w := w1) (o := .cells #[.int .i64 x, .int .i64 y] 47) rfl)
  rcases (show j = 0 ∨ j = 1 by omega) with rfl | rfl
  · exact e0
  · exact e1
theorem ses_ones (l : List Se) : ∀ u ∈ ses l, u.oneCell' = true := by
  intro u hu
  simp only [ses, List.mem_flatMap] at hu
  obtain ⟨m, _, hm⟩ := hu
  simp [Se.cells] at hm
  rcases hm with rfl | rfl <;> rfl
theorem ses_app (l l' : List Se) : ses (l ++ l') = ses l ++ ses l' := by simp [ses]
/-- A row of updates that grows. -/
structure UpI (W w : World) (vL : Value) (ls : List Se) : Prop where
  l : w.ownsRow W.heap.size 47 2 vL ls.length (ses ls)
  b : Below W.heap.size W w
theorem UpI.z {W w : World} {vL : Value} {ls : List Se} (h : UpI W w vL ls) : W.heap.size ≤ w.heap.size := h.b.size
theorem UpI.below {W w w' : World} {vL : Value} {ls : List Se} (h : UpI W w vL ls) (hb : Below w.heap.size w w') : UpI W w' vL ls :=
  ⟨((own_block h.l).below hb (Nat.le_refl _)).1, below_trans h.b hb h.z⟩
theorem UpI.grow {W w w' : World} {vL v' : Value} {ls : List Se} (h : UpI W w vL ls) (ms : List Se) (ho : w'.ownsRow W.heap.size 47 2 v' (ls.length + ms.length) (ses ls ++ ses ms)) (hg : w.grownBy w' vL.ownBlock) : UpI W w' v' (ls ++ ms) :=
  ⟨by rw [ses_app, List.length_append]; exact ho, h.b.grown hg h.z (fun q hq => (h.l.lt q hq).1)⟩
/-- The first words of an inode: three, and k of its map. -/
def wrL (i : Int) (x : Ino) (k : Nat) : List Se := [⟨48 + 12 * i, x.kind⟩, ⟨48 + 12 * i + 1, x.size⟩, ⟨48 + 12 * i + 2, x.links⟩] ++ (List.range k).map (fun j => ⟨48 + 12 * i + (3 + (j : Int)), x.map.getD j 0⟩)
theorem wrL_len (i : Int) (x : Ino) (k : Nat) : (wrL i x k).length = 3 + k := by simp [wrL]; omega
theorem wrL_succ (i : Int) (x : Ino) (k : Nat) : wrL i x (k + 1) = wrL i x k ++ [⟨48 + 12 * i + (3 + (k : Int)), x.map.getD k 0⟩] := by
  unfold wrL; rw [List.range_succ, List.map_append, List.append_assoc]; rfl

set_option maxRecDepth 100000 in
set_option maxHeartbeats 2000000 in
theorem l05Write_any (i : Int) (x : Ino) (w : World) (hi : 0 ≤ i ∧ i < 16) :
    Calls Tryz.prog 57 #[.int .i64 i, x.v] w fun e w' => ∃ v', e = .returned v' ∧ Row w' 47 2 w.heap.size w'.heap.size v' (wrL i x 8).length (ses (wrL i x 8)) ∧ Below w.heap.size w w' := by
  have hv : x.v = .agg x.cs.toArray := rfl
  obtain ⟨W, hW⟩ : ∃ W, W = w.alloc (.cells x.cs.toArray 44) := ⟨_, rfl⟩
  have CA : Hid (∀ w', Below W.heap.size W w' → ∀ j, w'.cell? ⟨w.heap.size, j, none⟩ = x.cs[j]?) := fun w' hb j => by
    have : w'.heap[w.heap.size]? = some (.cells x.cs.toArray 44 (0, 0)) := (hb.block _ (by rw [hW]; simp)).trans (by rw [hW]; exact at_new rfl)
    exact (eight_at (xs := x.cs) this j).1
  have BW : Hid (Below w.heap.size w W) := by rw [hW]; exact (Below.refl _ _).alloc (Nat.le_refl _) _
  have c0 : W.cell? ⟨w.heap.size, 0, none⟩ = some (.int .i64 x.kind) := CA.out W (Below.refl _ _) 0
  have c1 : W.cell? ⟨w.heap.size, 1, none⟩ = some (.int .i64 x.size) := CA.out W (Below.refl _ _) 1
  have c2 : W.cell? ⟨w.heap.size, 2, none⟩ = some (.int .i64 x.links) := CA.out W (Below.refl _ _) 2
  have hWz : w.heap.size < W.heap.size := by rw [hW]; simp
  rw [hv]
  go_enter Tryz.func57, Tryz.ntmps57
  have SK : Hid (∀ w', Below W.heap.size W w' → w'.cell? ⟨w.heap.size, 0, none⟩ = some (.int .i64 x.kind) ∧ w'.cell? ⟨w.heap.size, 1, none⟩ = some (.int .i64 x.size) ∧ w'.cell? ⟨w.heap.size, 2, none⟩ = some (.int .i64 x.links)) := fun w' hb => ⟨CA.out w' hb 0, CA.out w' hb 1, CA.out w' hb 2⟩
  go_wp2_with fail
  rw [← hW]
  clear hW c0 c1 c2
  go_region_held3 (fun w' => w'.cell? ⟨w.heap.size, 0, none⟩ = some (.int .i64 x.kind) ∧ w'.cell? ⟨w.heap.size, 1, none⟩ = some (.int .i64 x.size) ∧ w'.cell? ⟨w.heap.size, 2, none⟩ = some (.int .i64 x.links))
    (exact SK.out _ (by repeat (first | exact Below.refl _ _ | refine Below.drew ?_ | refine Below.alloc ?_ (by simp) _)))
    (first | (go_at_call 105; refine (l03Inode_any _ _ _ hi (by omega)).mono ?_; rintro e w' ⟨rfl, hw'⟩; subst w'))
  have START : Hid (UpI W (W.alloc (.cells #[.int .i64 (48 + 12 * i), .int .i64 x.kind, .int .i64 (48 + 12 * i + 1), .int .i64 x.size, .int .i64 (48 + 12 * i + 2), .int .i64 x.links] 47)).drew (.slice (some ⟨W.heap.size, 0, none⟩) 3 3) (wrL i x 0)) :=
    UpI.below (w := W.alloc (.cells #[.int .i64 (48 + 12 * i), .int .i64 x.kind, .int .i64 (48 + 12 * i + 1), .int .i64 x.size, .int .i64 (48 + 12 * i + 2), .int .i64 x.links] 47)) ⟨World.ownsRow_lit W _ 3 (Nat.le_refl _) (by simp [maxLen]) rfl, (Below.refl _ _).alloc (Nat.le_refl _) _⟩ ((Below.refl _ _).drew)
  clear SK
  go_wp2
  go_loopw [5, 6] (fun vL i' wr => ∃ m : Nat, m ≤ 8 ∧ i' = .int .i64 m ∧ Hid (UpI W wr vL (wrL i x m))) (fun _ i' _ => 8 - (intOf i').toNat)
  case atStart => exact ⟨0, by omega, rfl, START⟩
  case round =>
    obtain ⟨m, hm, rfl, J⟩ := hrel
    clear START
    have m0 : (0 : Int) ≤ (m : Int) := by omega
    by_cases hlt : m < 8
    · have m1 : (m : Int) < 8 := by omega
      have SK : Hid (∀ w', Below W.heap.size W w' → w'.cell? ⟨w.heap.size, 3 + m, none⟩ = some (.int .i64 (x.map.getD m 0))) := fun w' hb => (CA.out w' hb (3 + m)).trans (x.at m hlt)
      have x1 := SK.out wr J.out.b
      have EM := hideIt (wrL_succ i x m)
      have l1 := wrL_len i x m
      have l2 : (wrL i x m).length ≤ 11 := by omega
      have li := hi.1
      have lj := hi.2
      have wp1 : IntKind.i64.wrap (3 + (m : Int)) = 3 + (m : Int) := by rw [IntKind.wrap_i64]; omega
      generalize x.map.getD m 0 = y at *
      have J4 := hideIt (J.out.below ((Below.refl _ _).alloc (Nat.le_refl _) (.cells #[.int .i64 (48 + 12 * i + (3 + (m : Int))), .int .i64 y] 47)))
      have J4d := hideIt ((J.out.below ((Below.refl wr.heap.size wr).drew)).below ((Below.refl _ _).alloc (Nat.le_refl _) (.cells #[.int .i64 (48 + 12 * i + (3 + (m : Int))), .int .i64 y] 47)))
      have HRD := hideIt (rd_upd wr (48 + 12 * i + (3 + (m : Int))) y)
      have HRDd := hideIt (rd_upd wr.drew (48 + 12 * i + (3 + (m : Int))) y)
      clear l1
      go_wp2_with fail
      go_region_held3 (fun w' => w'.cell? ⟨w.heap.size, 3 + m, none⟩ = some (.int .i64 y))
        (first | exact SK.out _ G.out.b | exact SK.out _ J.out.b | exact SK.out _ J.out.b.drew | exact SK.out _ J4.out.b | exact SK.out _ J4d.out.b)
        (first
          | (go_at_call 105; refine (l03Inode_any _ _ _ hi (by omega)).mono ?_; rintro e w' ⟨rfl, hw'⟩; subst w')
          | (refine step_append_rd rfl (.tmp 27) (.tmp 37) 39 rfl W.heap.size 47 (.agg #[.int .i64 0, .int .i64 0]) 2 16 Tryz.underlying39 infoUp rfl (by decide) _ (wrL i x m).length (ses (wrL i x m)) rfl (by first | exact J4.out.l | exact J4d.out.l) _ 1 (ses [⟨48 + 12 * i + (3 + (m : Int)), y⟩]) rfl (by first | exact HRD.out | exact HRDd.out) (ses_ones _) (by simp [maxLen]; omega) (by omega) (by first | exact J4.out.z | exact J4d.out.z) ?_; intro vN wN hownN hgrN; have G := (by first | exact hideIt (J4.out.grow [⟨48 + 12 * i + (3 + (m : Int)), y⟩] hownN hgrN) | exact hideIt (J4d.out.grow [⟨48 + 12 * i + (3 + (m : Int)), y⟩] hownN hgrN) : Hid (UpI W wN vN (wrL i x m ++ [⟨48 + 12 * i + (3 + (m : Int)), y⟩]))); clear hownN hgrN))
      all_goals
        rw [← EM.out] at G
        clear J J4 J4d HRD HRDd x1 SK
        go_wp2
        go_roundw
        case rel => exact ⟨m + 1, by omega, by go_num, G⟩
        case measure => simp [intOf]; omega
    · obtain rfl : m = 8 := by omega
      obtain ⟨-, aL, cL, hvL, -⟩ := (own_block J.out.l).rd
      subst hvL
      go_wp2
      go_ret
      exact ⟨_, rfl, (own_block J.out.l).wide (by omega) (Nat.le_refl _), below_trans BW.out (J.out.b) (by omega)⟩
end Go.Proofs.YtlgghookekokaaaGreatDoor

namespace Go.Proofs.YtlgghookekokaaaGreatDoor
open Go.RowKit

theorem row_none (w : World) (t : TypeId) (size : Nat) : Row (w.alloc (.cells #[] t)) t size w.heap.size (w.alloc (.cells #[] t)).heap.size (.slice (some ⟨w.heap.size, 0, none⟩) 0 0) 0 [] :=
  own_block (World.ownsRow_lit w #[] 0 (Nat.le_refl _) (by simp [maxLen]) (by simp))
theorem Ino.all {x : Ino} {w' : World} {b : Nat} (h : ∀ j, w'.cell? ⟨b, j, none⟩ = x.cs[j]?) : w'.cell? ⟨b, 0, none⟩ = some (.int .i64 x.kind) ∧ w'.cell? ⟨b, 1, none⟩ = some (.int .i64 x.size) ∧ w'.cell? ⟨b, 2, none⟩ = some (.int .i64 x.links) ∧ w'.cell? ⟨b, 3, none⟩ = some (.int .i64 x.m0) ∧ w'.cell? ⟨b, 4, none⟩ = some (.int .i64 x.m1) ∧ w'.cell? ⟨b, 5, none⟩ = some (.int .i64 x.m2) ∧ w'.cell? ⟨b, 6, none⟩ = some (.int .i64 x.m3) ∧ w'.cell? ⟨b, 7, none⟩ = some (.int .i64 x.m4) ∧ w'.cell? ⟨b, 8, none⟩ = some (.int .i64 x.m5) ∧ w'.cell? ⟨b, 9, none⟩ = some (.int .i64 x.m6) ∧ w'.cell? ⟨b, 10, none⟩ = some (.int .i64 x.m7) := ⟨h 0, h 1, h 2, h 3, h 4, h 5, h 6, h 7, h 8, h 9, h 10⟩

end Go.Proofs.YtlgghookekokaaaGreatDoor

namespace Go.Proofs.YtlgghookekokaaaGreatDoor
open Go.RowKit

/-- The cells of inodes. -/
def inos (ps : List Ino) : List Value := ps.flatMap Ino.cs
theorem Ino.cs_len (x : Ino) : x.cs.length = 11 := rfl
theorem inos_at (ps : List Ino) (k i : Nat) (h : k < ps.length) (hi : i < 11) : (inos ps)[k * 11 + i]? = ps[k].cs[i]? := (flatMap_at _ 11 Ino.cs_len ps k i h hi).trans (by rw [List.getElem?_eq_getElem (show i < ps[k].cs.length by rw [Ino.cs_len]; exact hi)])
/-- A slice of inodes that can be read. -/
def RdN (w : World) (v : Value) (ps : List Ino) : Prop := Rd w 11 v ps.length (inos ps)
theorem RdN.shape {w : World} {v : Value} {ps : List Ino} (h : RdN w v ps) : ∃ ao cap, v = .slice ao ps.length cap ∧ ps.length ≤ cap ∧ (0 < ps.length → ∃ b o, ao = some ⟨b, o, none⟩ ∧ b < w.heap.size ∧
    ∀ k (h : k < ps.length), w.cell? ⟨b, o + k * 11, none⟩ = some (.int .i64 ps[k].kind) ∧ w.cell? ⟨b, o + k * 11 + 1, none⟩ = some (.int .i64 ps[k].size) ∧ w.cell? ⟨b, o + k * 11 + 2, none⟩ = some (.int .i64 ps[k].links) ∧ w.cell? ⟨b, o + k * 11 + 3, none⟩ = some (.int .i64 ps[k].m0) ∧ w.cell? ⟨b, o + k * 11 + 4, none⟩ = some (.int .i64 ps[k].m1) ∧ w.cell? ⟨b, o + k * 11 + 5, none⟩ = some (.int .i64 ps[k].m2) ∧ w.cell? ⟨b, o + k * 11 + 6, none⟩ = some (.int .i64 ps[k].m3) ∧ w.cell? ⟨b, o + k * 11 + 7, none⟩ = some (.int .i64 ps[k].m4) ∧ w.cell? ⟨b, o + k * 11 + 8, none⟩ = some (.int .i64 ps[k].m5) ∧ w.cell? ⟨b, o + k * 11 + 9, none⟩ = some (.int .i64 ps[k].m6) ∧ w.cell? ⟨b, o + k * 11 + 10, none⟩ = some (.int .i64 ps[k].m7)) := by
  obtain ⟨_, ao, cap, rfl, h2, h3⟩ := h
  refine ⟨ao, cap, rfl, h2.1, fun hn => ?_⟩
  obtain ⟨b, o, rfl, hb, hc⟩ := h3 hn
  exact ⟨b, o, rfl, hb, fun k hk => ⟨(hc (k * 11) (by omega)).trans (inos_at ps k 0 hk (by omega)), (hc (k * 11 + 1) (by omega)).trans (inos_at ps k 1 hk (by omega)), (hc (k * 11 + 2) (by omega)).trans (inos_at ps k 2 hk (by omega)), (hc (k * 11 + 3) (by omega)).trans (inos_at ps k 3 hk (by omega)), (hc (k * 11 + 4) (by omega)).trans (inos_at ps k 4 hk (by omega)), (hc (k * 11 + 5) (by omega)).trans (inos_at ps k 5 hk (by omega)), (hc (k * 11 + 6) (by omega)).trans (inos_at ps k 6 hk (by omega)), (hc (k * 11 + 7) (by omega)).trans (inos_at ps k 7 hk (by omega)), (hc (k * 11 + 8) (by omega)).trans (inos_at ps k 8 hk (by omega)), (hc (k * 11 + 9) (by omega)).trans (inos_at ps k 9 hk (by omega)), (hc (k * 11 + 10) (by omega)).trans (inos_at ps k 10 hk (by omega))⟩⟩

theorem infoIno : (Tryz.prog.info? 44).map (fun i => (i.zero, i.size, i.bytes)) = some (some (.agg #[.int .i64 0, .int .i64 0, .int .i64 0, .int .i64 0, .int .i64 0, .int .i64 0, .int .i64 0, .int .i64 0, .int .i64 0, .int .i64 0, .int .i64 0]), 11, 88) := by kernel_rfl

end Go.Proofs.YtlgghookekokaaaGreatDoor

namespace Go.Proofs.YtlgghookekokaaaGreatDoor
open Go.RowKit

/-- An entry. -/
structure Den where
  dir : Int
  name : ByteArray
  child : Int
/-- An entry as a value. -/
def Den.v (x : Den) : Value := .agg #[.int .i64 x.dir, .string x.name, .int .i64 x.child]

/-- A free entry. -/
def Den.freeB (x : Den) : Bool := x.dir == 0 && (x.name.size == 0 && x.child == -1)
/-- An entry that can be written. -/
def Den.okB (x : Den) : Bool := x.freeB || (decide (1 ≤ x.child ∧ x.child ≤ 15) && (decide (0 ≤ x.dir ∧ x.dir ≤ 15) && nmB x.name))
/-- Its words. -/
def enL (k : Int) (x : Den) : List Se := [⟨240 + 3 * k, x.dir⟩, ⟨240 + 3 * k + 1, ((pk x.name x.name.size : Nat) : Int)⟩, ⟨240 + 3 * k + 2, x.child + 1⟩]

set_option maxRecDepth 100000 in
set_option maxHeartbeats 2000000 in
theorem l03Pack_none (s : ByteArray) (w : World) (hs : s.size = 0) : Calls Tryz.prog 107 #[.string s] w fun e w' => e = .returned (.int .i64 ((pk s s.size : Nat) : Int)) ∧ w' = w := by
  have E := hideIt (show ((pk s s.size : Nat) : Int) = 0 by rw [hs, pk_zero]; rfl)
  rw [E.out]
  go_enter Tryz.func107, Tryz.ntmps107
  go_wp2
  go_loop [3, 4] (fun n i => i = .int .i64 0 ∧ n = .int .i64 0) (fun _ i => 0)
  case atStart => exact ⟨rfl, rfl⟩
  case round =>
    obtain ⟨rfl, rfl⟩ := hrel
    go_wp2
    go_ret
    exact ⟨rfl, rfl⟩

set_option maxRecDepth 100000 in
set_option maxHeartbeats 2000000 in
theorem l05Entry_any (k : Int) (x : Den) (w : World) (hk : 0 ≤ k ∧ k < 24) (hc : -1 ≤ x.child ∧ x.child ≤ 15) (hn : x.name.size = 0 ∨ nmB x.name = true) :
    Calls Tryz.prog 62 #[.int .i64 k, x.v] w fun e w' => ∃ v', e = .returned v' ∧ Row w' 47 2 w.heap.size w'.heap.size v' (enL k x).length (ses (enL k x)) ∧ Below w.heap.size w w' := by
  have LP := hideIt (fun w1 => show Calls Tryz.prog 107 #[.string x.name] w1 fun e w' => e = .returned (.int .i64 ((pk x.name x.name.size : Nat) : Int)) ∧ w' = w1 by
    rcases hn with h | h
    · exact l03Pack_none _ _ h
    · exact l03Pack_any _ _ h)
  clear hn
  have EL := hideIt (show enL k x = [⟨240 + 3 * k, x.dir⟩, ⟨240 + 3 * k + 1, ((pk x.name x.name.size : Nat) : Int)⟩, ⟨240 + 3 * k + 2, x.child + 1⟩] from rfl)
  generalize ((pk x.name x.name.size : Nat) : Int) = p at LP EL
  obtain ⟨W, hW⟩ : ∃ W, W = w.alloc (.cells #[.int .i64 x.dir, .string x.name, .int .i64 x.child] 50) := ⟨_, rfl⟩
  have SK : Hid (∀ w', Below W.heap.size W w' → w'.cell? ⟨w.heap.size, 0, none⟩ = some (.int .i64 x.dir) ∧ w'.cell? ⟨w.heap.size, 1, none⟩ = some (.string x.name) ∧ w'.cell? ⟨w.heap.size, 2, none⟩ = some (.int .i64 x.child)) := fun w' hb => by
    have : w'.heap[w.heap.size]? = some (.cells #[.int .i64 x.dir, .string x.name, .int .i64 x.child] 50 (0, 0)) := (hb.block _ (by rw [hW]; simp)).trans (by rw [hW]; exact at_new rfl)
    exact three_cells this
  have BW : Hid (Below w.heap.size w W) := by rw [hW]; exact (Below.refl _ _).alloc (Nat.le_refl _) _
  have hz : w.heap.size ≤ W.heap.size := BW.out.size
  unfold Den.v
  go_enter Tryz.func62, Tryz.ntmps62
  go_wp2_with fail
  rw [← hW]
  clear hW
  go_region_held3 (fun w' => w'.cell? ⟨w.heap.size, 0, none⟩ = some (.int .i64 x.dir) ∧ w'.cell? ⟨w.heap.size, 1, none⟩ = some (.string x.name) ∧ w'.cell? ⟨w.heap.size, 2, none⟩ = some (.int .i64 x.child))
    (exact SK.out _ (by repeat (first | exact Below.refl _ _ | refine Below.drew ?_ | refine Below.alloc ?_ (by simp) _)))
    (first | (go_at_call 106; refine (l03Dirent_any _ _ _ hk (by omega)).mono ?_; rintro e w' ⟨rfl, hw'⟩; subst w') | (go_at_call 107; refine (LP.out _).mono ?_; rintro e w' ⟨rfl, hw'⟩; subst w'))
  have wp1 : IntKind.i64.wrap (x.child + 1) = x.child + 1 := by rw [IntKind.wrap_i64]; omega
  rw [wp1]
  have R : Hid (UpI W (W.alloc (.cells #[.int .i64 (240 + 3 * k), .int .i64 x.dir, .int .i64 (240 + 3 * k + 1), .int .i64 p, .int .i64 (240 + 3 * k + 2), .int .i64 (x.child + 1)] 47)).drew (.slice (some ⟨W.heap.size, 0, none⟩) 3 3) (enL k x)) := by
    show UpI _ _ _ _
    rw [EL.out]
    exact UpI.below (w := W.alloc (.cells #[.int .i64 (240 + 3 * k), .int .i64 x.dir, .int .i64 (240 + 3 * k + 1), .int .i64 p, .int .i64 (240 + 3 * k + 2), .int .i64 (x.child + 1)] 47)) ⟨World.ownsRow_lit W _ 3 (Nat.le_refl _) (by simp [maxLen]) rfl, (Below.refl _ _).alloc (Nat.le_refl _) _⟩ ((Below.refl _ _).drew)
  go_wp2
  go_ret
  exact ⟨_, rfl, (own_block R.out.l).wide hz (Nat.le_refl _), below_trans BW.out R.out.b hz⟩

theorem noBytes (s : ByteArray) : s.toList = [] ↔ s.size = 0 := by
  rw [ByteArray.toList_eq]
  obtain ⟨⟨x⟩⟩ := s
  show x = [] ↔ x.length = 0
  exact List.length_eq_zero_iff.symm
end Go.Proofs.YtlgghookekokaaaGreatDoor

namespace Go.Proofs.YtlgghookekokaaaGreatDoor
open Go.RowKit

def Den.cells (s : Den) : List Value := [.int .i64 s.dir, .string s.name, .int .i64 s.child]
def dens (ps : List Den) : List Value := ps.flatMap Den.cells

theorem Den.cells_len (s : Den) : s.cells.length = 3 := rfl
theorem dens_len (ps : List Den) : (dens ps).length = ps.length * 3 := flatMap_len _ 3 Den.cells_len ps
theorem dens_at0 (ps : List Den) (k : Nat) (h : k < ps.length) : (dens ps)[k * 3]? = some (.int .i64 ps[k].dir) := flatMap_at _ 3 Den.cells_len ps k 0 h (by omega)
theorem dens_at1 (ps : List Den) (k : Nat) (h : k < ps.length) : (dens ps)[k * 3 + 1]? = some (.string ps[k].name) := flatMap_at _ 3 Den.cells_len ps k 1 h (by omega)
theorem dens_at2 (ps : List Den) (k : Nat) (h : k < ps.length) : (dens ps)[k * 3 + 2]? = some (.int .i64 ps[k].child) := flatMap_at _ 3 Den.cells_len ps k 2 h (by omega)

/-- A slice of steps that can be read. -/
def RdD (w : World) (v : Value) (ps : List Den) : Prop := Rd w 3 v ps.length (dens ps)
theorem RdD.shape {w : World} {v : Value} {ps : List Den} (h : RdD w v ps) : ∃ ao cap, v = .slice ao ps.length cap ∧ ps.length ≤ cap ∧ (0 < ps.length → ∃ b o, ao = some ⟨b, o, none⟩ ∧ b < w.heap.size ∧
    ∀ k (h : k < ps.length), w.cell? ⟨b, o + k * 3, none⟩ = some (.int .i64 ps[k].dir) ∧ w.cell? ⟨b, o + k * 3 + 1, none⟩ = some (.string ps[k].name) ∧ w.cell? ⟨b, o + k * 3 + 2, none⟩ = some (.int .i64 ps[k].child)) := by
  obtain ⟨_, ao, cap, rfl, h2, h3⟩ := h
  refine ⟨ao, cap, rfl, h2.1, fun hn => ?_⟩
  obtain ⟨b, o, rfl, hb, hc⟩ := h3 hn
  exact ⟨b, o, rfl, hb, fun k hk => ⟨(hc (k * 3) (by omega)).trans (dens_at0 ps k hk), (hc (k * 3 + 1) (by omega)).trans (dens_at1 ps k hk), (hc (k * 3 + 2) (by omega)).trans (dens_at2 ps k hk)⟩⟩

theorem infoDen : (Tryz.prog.info? 50).map (fun i => (i.zero, i.size, i.bytes)) = some (some (.agg #[.int .i64 0, .string ⟨#[]⟩, .int .i64 0]), 3, 32) := by kernel_rfl

end Go.Proofs.YtlgghookekokaaaGreatDoor
