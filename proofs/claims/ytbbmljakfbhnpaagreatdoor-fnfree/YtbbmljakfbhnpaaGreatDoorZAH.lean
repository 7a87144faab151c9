/- Several texts laid together: ImB, UpL, ImC, ImD, ImH, ImE, ImF. -/
import Derived.Test.YtbbmljakfbhnpaaGreatDoorZAG
import Derived.Test.YtbbmljakfbhnpaaGreatDoorZAA
import Derived.Deep.RegionWith
import Derived.Deep.RegionHeld3
import Derived.Laws.OwnMore
namespace Go.Proofs.YtbbmljakfbhnpaaGreatDoor
open Go.RowKit

/-- One entry of a map, at its place. -/
def zpt (i : Nat) (z size : Int) : Bool := zej z && (z == 0 || decide ((i : Int) < size))
/-- The map of an inode is right from its start on, so far. -/
def mapTo (zs : List Int) (size : Int) (k : Nat) : Prop := ∀ i, i < k → zpt i (zs.getD i 0) size = true
def mapB (zs : List Int) (size : Int) : Bool := (List.range 8).all fun i => zpt i (zs.getD i 0) size
theorem zqe {zs : List Int} {size : Int} (h : mapTo zs size 8) : mapB zs size = true := by
 unfold mapB
 rw [List.all_eq_true]
 intro i hi
 exact h i (List.mem_range.1 hi)
theorem zig {zs : List Int} {size : Int} (h : mapB zs size = true) : mapTo zs size 8 := by
 unfold mapB at h
 rw [List.all_eq_true] at h
 intro i hi
 exact h i (List.mem_range.2 hi)
theorem mapB_not {zs : List Int} {size : Int} {k : Nat} (hk : k < 8) (h : zpt k (zs.getD k 0) size = false) : mapB zs size = false := by
 rw [Bool.eq_false_iff]
 intro e
 rw [zig e k hk] at h
 exact absurd h (by decide)
theorem mapTo_succ {zs : List Int} {size : Int} {k : Nat} (h : mapTo zs size k) (g : zpt k (zs.getD k 0) size = true) : mapTo zs size (k + 1) := by
 intro i hi
 by_cases e : i = k
 ·rw [e]; exact g
 ·exact h i (by omega)
/-- What the kind asks. -/
def zek (x : Ino) : Bool := if x.kind = 0 then decide (x.size = 0 ∧ x.links = 0 ∧ x.map = [0, 0, 0, 0, 0, 0, 0, 0]) else if x.kind = 2 then x.size == 0 && x.links == 1 else decide (0 < x.links)
/-- An inode that is right. -/
def zdj (x : Ino) : Bool := decide (0 ≤ x.kind ∧ x.kind ≤ 2) && (decide (0 ≤ x.size ∧ x.size ≤ 8) && (decide (0 ≤ x.links ∧ x.links ≤ 24) && (mapB x.map x.size && zek x)))
/-- Its numbers are of the machine. -/
def Ino.R (x : Ino) : Prop := ∀ z ∈ x.map, -9223372036854775808 ≤ z ∧ z ≤ 9223372036854775807
theorem Ino.len (x : Ino) : x.map.length = 8 := rfl
theorem Ino.at (x : Ino) (k : Nat) (hk : k < 8) : x.cs[3 + k]? = some (.int .i64 (x.map.getD k 0)) := by
 rcases (show k = 0 ∨ k = 1 ∨ k = 2 ∨ k = 3 ∨ k = 4 ∨ k = 5 ∨ k = 6 ∨ k = 7 by omega) with rfl | rfl | rfl | rfl | rfl | rfl | rfl | rfl <;> rfl
theorem Ino.R.at {x : Ino} (h : x.R) (k : Nat) (hk : k < 8) : -9223372036854775808 ≤ x.map.getD k 0 ∧ x.map.getD k 0 ≤ 9223372036854775807 := by
 have e : x.map.getD k 0 = x.map[k]'(by rw [x.len]; exact hk) := by rw [List.getD_eq_getElem?_getD, List.getElem?_eq_getElem (by rw [x.len]; exact hk)]; rfl
 rw [e]
 exact h _ (List.getElem_mem _)

set_option maxRecDepth 100000 in
set_option maxHeartbeats 2000000 in
@[go_sem] theorem eqZero8 (m0 m1 m2 m3 m4 m5 m6 m7 : Int) (w : World) : (Op.equalIn 9999 42 (.agg #[.int .i64 m0, .int .i64 m1, .int .i64 m2, .int .i64 m3, .int .i64 m4, .int .i64 m5, .int .i64 m6, .int .i64 m7]) (.agg #[.int .i64 0, .int .i64 0, .int .i64 0, .int .i64 0, .int .i64 0, .int .i64 0, .int .i64 0, .int .i64 0])).run Tryz.prog w = .ok (decide ([m0, m1, m2, m3, m4, m5, m6, m7] = [0, 0, 0, 0, 0, 0, 0, 0])) w := by
 have u3 := Tryz.underlying3
 have a3 := Tryz.isAgg3
 have z3 := Tryz.sizeOf3
 rw [show (9999 : Nat) = 9998 + 1 from rfl, Op.equalIn]
 simp only [Sem.run_bind, run_underlying Tryz.underlying42, Result.andThen_ok]
 simp only [Std.Legacy.Range.forIn_eq_forIn_range', Std.Legacy.Range.size, Nat.sub_zero, Nat.add_sub_cancel, Nat.div_one, List.range'_succ, List.range'_zero, List.forIn_cons, List.forIn_nil]
 go_simp
 by_cases h0 : m0 = 0
 case neg => simp [h0]
 by_cases h1 : m1 = 0
 case neg => simp [h0, h1]
 by_cases h2 : m2 = 0
 case neg => simp [h0, h1, h2]
 by_cases h3 : m3 = 0
 case neg => simp [h0, h1, h2, h3]
 by_cases h4 : m4 = 0
 case neg => simp [h0, h1, h2, h3, h4]
 by_cases h5 : m5 = 0
 case neg => simp [h0, h1, h2, h3, h4, h5]
 by_cases h6 : m6 = 0
 case neg => simp [h0, h1, h2, h3, h4, h5, h6]
 by_cases h7 : m7 = 0
 case neg => simp [h0, h1, h2, h3, h4, h5, h6, h7]
 simp [h0, h1, h2, h3, h4, h5, h6, h7]

set_option maxRecDepth 100000 in
set_option maxHeartbeats 2000000 in
theorem zsj (x : Ino) (w : World) (hr : x.R) : Calls Tryz.prog 46 #[x.v] w fun e w' => e = .returned (.bool (zdj x)) ∧ Below w.heap.size w w' := by
 have hv : x.v = .agg x.cs.toArray := rfl
 have c0 : (w.alloc (.cells x.cs.toArray 44)).cell? ⟨w.heap.size, 0, none⟩ = some (.int .i64 x.kind) := (zas (xs := x.cs) (zah rfl) 0).1
 have c1 : (w.alloc (.cells x.cs.toArray 44)).cell? ⟨w.heap.size, 1, none⟩ = some (.int .i64 x.size) := (zas (xs := x.cs) (zah rfl) 1).1
 have c2 : (w.alloc (.cells x.cs.toArray 44)).cell? ⟨w.heap.size, 2, none⟩ = some (.int .i64 x.links) := (zas (xs := x.cs) (zah rfl) 2).1
 have CM := zaa (show ∀ k, k < 8 → (w.alloc (.cells x.cs.toArray 44)).cell? ⟨w.heap.size, 3 + k, none⟩ = some (.int .i64 (x.map.getD k 0)) from fun k hk => ((zas (xs := x.cs) (zah rfl) (3 + k)).1).trans (x.at k hk))
 have B := zaa ((Below.refl w.heap.size w).alloc (Nat.le_refl _) (.cells x.cs.toArray 44))
 rw [hv]
 by_cases h0 : 0 ≤ x.kind ∧ x.kind ≤ 2
 ·by_cases h1 : 0 ≤ x.size ∧ x.size ≤ 8
  ·by_cases h2 : 0 ≤ x.links ∧ x.links ≤ 24
   ·have E := zaa (show zdj x = (mapB x.map x.size && zek x) by unfold zdj; rw [decide_eq_true h0, decide_eq_true h1, decide_eq_true h2]; rfl)
    have H := zaa (And.intro h0 (And.intro h1 h2))
    clear h0 h1 h2
    go_enter Tryz.func46, Tryz.ntmps46
    go_wp2_with fail
    refine (zbk _ _ _ _ H.out.1).mono ?_
    rintro e w' ⟨rfl, rfl⟩
    go_wp2_with fail
    refine (zbk _ _ _ _ H.out.2.1).mono ?_
    rintro e w' ⟨rfl, rfl⟩
    go_wp2_with fail
    refine (zbk _ _ _ _ H.out.2.2).mono ?_
    rintro e w' ⟨rfl, rfl⟩
    go_wp2
    obtain ⟨wa, hwa⟩ : ∃ wa, wa = w.alloc (.cells x.cs.toArray 44) := ⟨_, rfl⟩
    rw [← hwa] at c0 c1 c2 CM B ⊢
    have CA := zaa (show ∀ j, wa.cell? ⟨w.heap.size, j, none⟩ = x.cs[j]? by rw [hwa]; exact fun j => (zas (xs := x.cs) (zah rfl) j).1)
    clear hwa
    go_loopw [3] (fun i wr => ∃ k : Nat, k ≤ 8 ∧ i = .int .i64 k ∧ wr = wa ∧ Hid (mapTo x.map x.size k)) (fun i _ => 8 - (intOf i).toNat)
    case atStart => exact ⟨0, by omega, rfl, rfl, fun i hi => absurd hi (by omega)⟩
    case round =>
     obtain ⟨k, hk, rfl, rfl, M⟩ := hrel
     by_cases hlt : k < 8
     ·have c3 := CM.out k hlt
      obtain ⟨r0, r1⟩ := hr.at k hlt
      have k0 : (0 : Int) ≤ (k : Int) := by omega
      have k1 : (k : Int) < 8 := by omega
      have MN := zaa (fun e => mapB_not (zs := x.map) (size := x.size) hlt e)
      have MS := zaa (fun e => mapTo_succ (k := k) M.out e)
      generalize x.map.getD k 0 = z at c3 r0 r1 MN MS
      clear CM CA M
      cases ht : zej z with
      | false =>
       have F := zaa (show zdj x = false by rw [E.out, MN.out (by unfold zpt; rw [ht]; rfl), Bool.false_and])
       have T := zaa ht
       clear ht MN MS E
       go_wp2_with fail
       refine (zeg _ _ r0 r1).mono ?_
       rintro e w' ⟨rfl, rfl⟩
       rw [T.out]
       go_wp2
       go_ret
       exact ⟨zag F.out.symm, B.out⟩
      | true =>
       by_cases hz : z = 0
       ·have q : (z != 0) = false := by rw [hz]; rfl
        have G := zaa (MS.out (by unfold zpt; rw [ht, hz]; rfl))
        have T := zaa ht
        clear ht MN MS hz
        go_wp2_with fail
        refine (zeg _ _ r0 r1).mono ?_
        rintro e w' ⟨rfl, rfl⟩
        rw [T.out]
        go_wp2
        go_roundw
        case rel => exact ⟨k + 1, by omega, by go_num, trivial, G⟩
        case measure => simp [intOf]; omega
       ·have q : (z != 0) = true := by rw [bne_iff_ne]; exact hz
        have qz : (z == 0) = false := by rw [beq_eq_false_iff_ne]; exact hz
        by_cases hs : (k : Int) < x.size
        ·have q2 : ¬ x.size ≤ (k : Int) := by omega
         have G := zaa (MS.out (by unfold zpt; rw [ht, qz, decide_eq_true hs]; rfl))
         have T := zaa ht
         clear ht MN MS hz hs qz
         go_wp2_with fail
         refine (zeg _ _ r0 r1).mono ?_
         rintro e w' ⟨rfl, rfl⟩
         rw [T.out]
         go_wp2
         go_roundw
         case rel => exact ⟨k + 1, by omega, by go_num, trivial, G⟩
         case measure => simp [intOf]; omega
        ·have q2 : x.size ≤ (k : Int) := by omega
         have F := zaa (show zdj x = false by rw [E.out, MN.out (by unfold zpt; rw [ht, qz, decide_eq_false hs]; rfl), Bool.false_and])
         have T := zaa ht
         clear ht MN MS hz hs qz E
         go_wp2_with fail
         refine (zeg _ _ r0 r1).mono ?_
         rintro e w' ⟨rfl, rfl⟩
         rw [T.out]
         go_wp2
         go_ret
         exact ⟨zag F.out.symm, B.out⟩
     ·obtain rfl : k = 8 := by omega
      have F := zaa (show zdj x = zek x by rw [E.out, zqe M.out, Bool.true_and])
      clear E M CM
      rcases (show x.kind = 0 ∨ x.kind = 1 ∨ x.kind = 2 by have := H.out; omega) with hz | hz | hz
      ·have K := zaa (show zek x = decide (x.size = 0 ∧ x.links = 0 ∧ x.map = [0, 0, 0, 0, 0, 0, 0, 0]) by unfold zek; rw [if_pos hz])
       rw [hz] at c0
       have c3 : wr.cell? ⟨w.heap.size, 3, none⟩ = some (.int .i64 x.m0) := CA.out 3
       have c4 : wr.cell? ⟨w.heap.size, 4, none⟩ = some (.int .i64 x.m1) := CA.out 4
       have c5 : wr.cell? ⟨w.heap.size, 5, none⟩ = some (.int .i64 x.m2) := CA.out 5
       have c6 : wr.cell? ⟨w.heap.size, 6, none⟩ = some (.int .i64 x.m3) := CA.out 6
       have c7 : wr.cell? ⟨w.heap.size, 7, none⟩ = some (.int .i64 x.m4) := CA.out 7
       have c8 : wr.cell? ⟨w.heap.size, 8, none⟩ = some (.int .i64 x.m5) := CA.out 8
       have c9 : wr.cell? ⟨w.heap.size, 9, none⟩ = some (.int .i64 x.m6) := CA.out 9
       have c10 : wr.cell? ⟨w.heap.size, 10, none⟩ = some (.int .i64 x.m7) := CA.out 10
       clear CA
       go_wp2
       all_goals
        go_ret
        refine ⟨zag ?_, B.out⟩
        rw [F.out, K.out, eq_comm]
        clear c0 c1 c2 c3 c4 c5 c6 c7 c8 c9 c10
        rename_i h9
        simp_all [Ino.map]
      ·have K := zaa (show zek x = decide (0 < x.links) by unfold zek; rw [if_neg (by omega), if_neg (by omega)])
       rw [hz] at c0
       clear CA
       go_wp2
       go_ret
       exact ⟨zag (by rw [F.out, K.out]), B.out⟩
      ·have K := zaa (show zek x = (x.size == 0 && x.links == 1) by unfold zek; rw [if_neg (by omega), if_pos hz])
       rw [hz] at c0
       clear CA
       cases hq : (x.size == 0)
       all_goals
        rw [hq] at K
        go_wp2
        go_ret
        exact ⟨zag (by rw [F.out, K.out]; rfl), B.out⟩
   ·have E := zaa (show zdj x = false by unfold zdj; rw [decide_eq_false h2, Bool.false_and, Bool.and_false, Bool.and_false])
    go_enter Tryz.func46, Tryz.ntmps46
    go_wp2_with fail
    refine (zbk _ _ _ _ h0).mono ?_
    rintro e w' ⟨rfl, rfl⟩
    go_wp2_with fail
    refine (zbk _ _ _ _ h1).mono ?_
    rintro e w' ⟨rfl, rfl⟩
    go_wp2_with fail
    refine (zfg _ _ _ _ h2).mono ?_
    rintro e w' ⟨rfl, rfl⟩
    go_wp2
    go_ret
    exact ⟨zag E.out.symm, B.out⟩
  ·have E := zaa (show zdj x = false by unfold zdj; rw [decide_eq_false h1, Bool.false_and, Bool.and_false])
   go_enter Tryz.func46, Tryz.ntmps46
   go_wp2_with fail
   refine (zbk _ _ _ _ h0).mono ?_
   rintro e w' ⟨rfl, rfl⟩
   go_wp2_with fail
   refine (zfg _ _ _ _ h1).mono ?_
   rintro e w' ⟨rfl, rfl⟩
   go_wp2
   go_ret
   exact ⟨zag E.out.symm, B.out⟩
 ·have E := zaa (show zdj x = false by unfold zdj; rw [decide_eq_false h0, Bool.false_and])
  go_enter Tryz.func46, Tryz.ntmps46
  go_wp2_with fail
  refine (zfg _ _ _ _ h0).mono ?_
  rintro e w' ⟨rfl, rfl⟩
  go_wp2
  go_ret
  exact ⟨zag E.out.symm, B.out⟩
end Go.Proofs.YtbbmljakfbhnpaaGreatDoor

namespace Go.Proofs.YtbbmljakfbhnpaaGreatDoor
open Go.RowKit

theorem zjf : (Tryz.prog.info? 47).map (fun i => (i.zero, i.size, i.bytes)) = some (some (.agg #[.int .i64 0, .int .i64 0]), 2, 16) := by kernel_rfl

end Go.Proofs.YtbbmljakfbhnpaaGreatDoor

namespace Go.Proofs.YtbbmljakfbhnpaaGreatDoor
open Go.RowKit

theorem zia (w1 : World) (x y : Int) : Rd (w1.alloc (.cells #[.int .i64 x, .int .i64 y] 47)) 2 (.slice (some ⟨w1.heap.size, 0, none⟩) 1 1) 1 (ses [⟨x, y⟩]) := by
 refine ⟨rfl, _, _, rfl, ⟨Nat.le_refl _, fun e => by cases e⟩, fun _ => ⟨w1.heap.size, 0, rfl, by simp, fun j hj => ?_⟩⟩
 obtain ⟨e0, e1, _, _⟩ := zac (zah (w := w1) (o := .cells #[.int .i64 x, .int .i64 y] 47) rfl)
 rcases (show j = 0 ∨ j = 1 by omega) with rfl | rfl
 ·exact e0
 ·exact e1
theorem zet (l : List Se) : ∀ u ∈ ses l, u.oneCell' = true := by
 intro u hu
 simp only [ses, List.mem_flatMap] at hu
 obtain ⟨m, _, hm⟩ := hu
 simp [Se.cells] at hm
 rcases hm with rfl | rfl <;> rfl
theorem ses_app (l l' : List Se) : ses (l ++ l') = ses l ++ ses l' := by simp [ses]
/-- A row of updates that grows. -/
structure UpI (W w : World) (vL : Value) (ls : List Se) : Prop where
 l : w.ownsRow W.heap.size 47 2 vL ls.length (ses ls)
 b : Below W.heap.size W w
theorem UpI.z {W w : World} {vL : Value} {ls : List Se} (h : UpI W w vL ls) : W.heap.size ≤ w.heap.size := h.b.size
theorem UpI.below {W w w' : World} {vL : Value} {ls : List Se} (h : UpI W w vL ls) (hb : Below w.heap.size w w') : UpI W w' vL ls :=
 ⟨((zad h.l).below hb (Nat.le_refl _)).1, zab h.b hb h.z⟩
theorem UpI.grow {W w w' : World} {vL v' : Value} {ls : List Se} (h : UpI W w vL ls) (ms : List Se) (ho : w'.ownsRow W.heap.size 47 2 v' (ls.length + ms.length) (ses ls ++ ses ms)) (hg : w.grownBy w' vL.ownBlock) : UpI W w' v' (ls ++ ms) :=
 ⟨by rw [ses_app, List.length_append]; exact ho, h.b.grown hg h.z (fun q hq => (h.l.lt q hq).1)⟩
/-- The first words of an inode: three, and k of its map. -/
def wrL (i : Int) (x : Ino) (k : Nat) : List Se := [⟨48 + 12 * i, x.kind⟩, ⟨48 + 12 * i + 1, x.size⟩, ⟨48 + 12 * i + 2, x.links⟩] ++ (List.range k).map (fun j => ⟨48 + 12 * i + (3 + (j : Int)), x.map.getD j 0⟩)
theorem zwt (i : Int) (x : Ino) (k : Nat) : (wrL i x k).length = 3 + k := by simp [wrL]; omega
theorem wrL_succ (i : Int) (x : Ino) (k : Nat) : wrL i x (k + 1) = wrL i x k ++ [⟨48 + 12 * i + (3 + (k : Int)), x.map.getD k 0⟩] := by
 unfold wrL; rw [List.range_succ, List.map_append, List.append_assoc]; rfl

set_option maxRecDepth 100000 in
set_option maxHeartbeats 2000000 in
theorem zvb (i : Int) (x : Ino) (w : World) (hi : 0 ≤ i ∧ i < 16) :
  Calls Tryz.prog 47 #[.int .i64 i, x.v] w fun e w' => ∃ v', e = .returned v' ∧ Row w' 47 2 w.heap.size w'.heap.size v' (wrL i x 8).length (ses (wrL i x 8)) ∧ Below w.heap.size w w' := by
 have hv : x.v = .agg x.cs.toArray := rfl
 obtain ⟨W, hW⟩ : ∃ W, W = w.alloc (.cells x.cs.toArray 44) := ⟨_, rfl⟩
 have CA : Hid (∀ w', Below W.heap.size W w' → ∀ j, w'.cell? ⟨w.heap.size, j, none⟩ = x.cs[j]?) := fun w' hb j => by
  have : w'.heap[w.heap.size]? = some (.cells x.cs.toArray 44 (0, 0)) := (hb.block _ (by rw [hW]; simp)).trans (by rw [hW]; exact zah rfl)
  exact (zas (xs := x.cs) this j).1
 have BW : Hid (Below w.heap.size w W) := by rw [hW]; exact (Below.refl _ _).alloc (Nat.le_refl _) _
 have c0 : W.cell? ⟨w.heap.size, 0, none⟩ = some (.int .i64 x.kind) := CA.out W (Below.refl _ _) 0
 have c1 : W.cell? ⟨w.heap.size, 1, none⟩ = some (.int .i64 x.size) := CA.out W (Below.refl _ _) 1
 have c2 : W.cell? ⟨w.heap.size, 2, none⟩ = some (.int .i64 x.links) := CA.out W (Below.refl _ _) 2
 have hWz : w.heap.size < W.heap.size := by rw [hW]; simp
 rw [hv]
 go_enter Tryz.func47, Tryz.ntmps47
 have SK : Hid (∀ w', Below W.heap.size W w' → w'.cell? ⟨w.heap.size, 0, none⟩ = some (.int .i64 x.kind) ∧ w'.cell? ⟨w.heap.size, 1, none⟩ = some (.int .i64 x.size) ∧ w'.cell? ⟨w.heap.size, 2, none⟩ = some (.int .i64 x.links)) := fun w' hb => ⟨CA.out w' hb 0, CA.out w' hb 1, CA.out w' hb 2⟩
 go_wp2_with fail
 rw [← hW]
 clear hW c0 c1 c2
 go_region_held3 (fun w' => w'.cell? ⟨w.heap.size, 0, none⟩ = some (.int .i64 x.kind) ∧ w'.cell? ⟨w.heap.size, 1, none⟩ = some (.int .i64 x.size) ∧ w'.cell? ⟨w.heap.size, 2, none⟩ = some (.int .i64 x.links))
  (exact SK.out _ (by repeat (first | exact Below.refl _ _ | refine Below.drew ?_ | refine Below.alloc ?_ (by simp) _)))
  (first | (go_at_call 87; refine (zba _ _ _ hi (by omega)).mono ?_; rintro e w' ⟨rfl, hw'⟩; subst w'))
 have START : Hid (UpI W (W.alloc (.cells #[.int .i64 (48 + 12 * i), .int .i64 x.kind, .int .i64 (48 + 12 * i + 1), .int .i64 x.size, .int .i64 (48 + 12 * i + 2), .int .i64 x.links] 47)).drew (.slice (some ⟨W.heap.size, 0, none⟩) 3 3) (wrL i x 0)) :=
  UpI.below (w := W.alloc (.cells #[.int .i64 (48 + 12 * i), .int .i64 x.kind, .int .i64 (48 + 12 * i + 1), .int .i64 x.size, .int .i64 (48 + 12 * i + 2), .int .i64 x.links] 47)) ⟨World.ownsRow_lit W _ 3 (Nat.le_refl _) (by simp [maxLen]) rfl, (Below.refl _ _).alloc (Nat.le_refl _) _⟩ ((Below.refl _ _).drew)
 clear SK
 go_wp2
 go_loopw [5, 6] (fun vL i' wr => ∃ m : Nat, m ≤ 8 ∧ i' = .int .i64 m ∧ Hid (UpI W wr vL (wrL i x m))) (fun _ i' _ => 8 - (intOf i').toNat)
 case atStart => exact ⟨0, by omega, rfl, START⟩
 case round =>
  obtain ⟨m, hm, rfl, J⟩ := hrel
  clear START
  have m0 : (0 : Int) ≤ (m : Int) := by omega
  by_cases hlt : m < 8
  ·have m1 : (m : Int) < 8 := by omega
   have SK : Hid (∀ w', Below W.heap.size W w' → w'.cell? ⟨w.heap.size, 3 + m, none⟩ = some (.int .i64 (x.map.getD m 0))) := fun w' hb => (CA.out w' hb (3 + m)).trans (x.at m hlt)
   have x1 := SK.out wr J.out.b
   have EM := zaa (wrL_succ i x m)
   have l1 := zwt i x m
   have l2 : (wrL i x m).length ≤ 11 := by omega
   have li := hi.1
   have lj := hi.2
   have wp1 : IntKind.i64.wrap (3 + (m : Int)) = 3 + (m : Int) := by rw [IntKind.wrap_i64]; omega
   generalize x.map.getD m 0 = y at *
   have J4 := zaa (J.out.below ((Below.refl _ _).alloc (Nat.le_refl _) (.cells #[.int .i64 (48 + 12 * i + (3 + (m : Int))), .int .i64 y] 47)))
   have J4d := zaa ((J.out.below ((Below.refl wr.heap.size wr).drew)).below ((Below.refl _ _).alloc (Nat.le_refl _) (.cells #[.int .i64 (48 + 12 * i + (3 + (m : Int))), .int .i64 y] 47)))
   have HRD := zaa (zia wr (48 + 12 * i + (3 + (m : Int))) y)
   have HRDd := zaa (zia wr.drew (48 + 12 * i + (3 + (m : Int))) y)
   clear l1
   go_wp2_with fail
   go_region_held3 (fun w' => w'.cell? ⟨w.heap.size, 3 + m, none⟩ = some (.int .i64 y))
    (first | exact SK.out _ G.out.b | exact SK.out _ J.out.b | exact SK.out _ J.out.b.drew | exact SK.out _ J4.out.b | exact SK.out _ J4d.out.b)
    (first
     | (go_at_call 87; refine (zba _ _ _ hi (by omega)).mono ?_; rintro e w' ⟨rfl, hw'⟩; subst w')
     | (refine zan rfl (.tmp 27) (.tmp 37) 39 rfl W.heap.size 47 (.agg #[.int .i64 0, .int .i64 0]) 2 16 Tryz.underlying39 zjf rfl (by decide) _ (wrL i x m).length (ses (wrL i x m)) rfl (by first | exact J4.out.l | exact J4d.out.l) _ 1 (ses [⟨48 + 12 * i + (3 + (m : Int)), y⟩]) rfl (by first | exact HRD.out | exact HRDd.out) (zet _) (by simp [maxLen]; omega) (by omega) (by first | exact J4.out.z | exact J4d.out.z) ?_; intro vN wN hownN hgrN; have G := (by first | exact zaa (J4.out.grow [⟨48 + 12 * i + (3 + (m : Int)), y⟩] hownN hgrN) | exact zaa (J4d.out.grow [⟨48 + 12 * i + (3 + (m : Int)), y⟩] hownN hgrN) : Hid (UpI W wN vN (wrL i x m ++ [⟨48 + 12 * i + (3 + (m : Int)), y⟩]))); clear hownN hgrN))
   all_goals
    rw [← EM.out] at G
    clear J J4 J4d HRD HRDd x1 SK
    go_wp2
    go_roundw
    case rel => exact ⟨m + 1, by omega, by go_num, G⟩
    case measure => simp [intOf]; omega
  ·obtain rfl : m = 8 := by omega
   obtain ⟨-, aL, cL, hvL, -⟩ := (zad J.out.l).rd
   subst hvL
   go_wp2
   go_ret
   exact ⟨_, rfl, (zad J.out.l).wide (by omega) (Nat.le_refl _), zab BW.out (J.out.b) (by omega)⟩
end Go.Proofs.YtbbmljakfbhnpaaGreatDoor

namespace Go.Proofs.YtbbmljakfbhnpaaGreatDoor
open Go.RowKit

/-- The updates of an inode: the code, and the list. -/
def iuC (i : Int) (x : Ino) : Int := if 0 ≤ i ∧ i ≤ 15 then (if zdj x = true then 0 else 1) else 4
def iuL (i : Int) (x : Ino) : List Se := if 0 ≤ i ∧ i ≤ 15 then (if zdj x = true then wrL i x 8 else []) else []
theorem iu_cases (i : Int) (x : Ino) : (¬ (0 ≤ i ∧ i ≤ 15) ∧ iuC i x = 4 ∧ iuL i x = []) ∨ ((0 ≤ i ∧ i ≤ 15) ∧ zdj x = false ∧ iuC i x = 1 ∧ iuL i x = []) ∨ ((0 ≤ i ∧ i ≤ 15) ∧ zdj x = true ∧ iuC i x = 0 ∧ iuL i x = wrL i x 8) := by
 unfold iuC iuL
 by_cases h : 0 ≤ i ∧ i ≤ 15
 ·cases q : zdj x
  ·exact .inr (.inl ⟨h, rfl, by rw [if_pos h, if_neg (by decide)], by rw [if_pos h, if_neg (by decide)]⟩)
  ·exact .inr (.inr ⟨h, rfl, by rw [if_pos h, if_pos rfl], by rw [if_pos h, if_pos rfl]⟩)
 ·exact .inl ⟨h, by rw [if_neg h], by rw [if_neg h]⟩
theorem zlj (w : World) (t : TypeId) (size : Nat) : Row (w.alloc (.cells #[] t)) t size w.heap.size (w.alloc (.cells #[] t)).heap.size (.slice (some ⟨w.heap.size, 0, none⟩) 0 0) 0 [] :=
 zad (World.ownsRow_lit w #[] 0 (Nat.le_refl _) (by simp [maxLen]) (by simp))
theorem Ino.all {x : Ino} {w' : World} {b : Nat} (h : ∀ j, w'.cell? ⟨b, j, none⟩ = x.cs[j]?) : w'.cell? ⟨b, 0, none⟩ = some (.int .i64 x.kind) ∧ w'.cell? ⟨b, 1, none⟩ = some (.int .i64 x.size) ∧ w'.cell? ⟨b, 2, none⟩ = some (.int .i64 x.links) ∧ w'.cell? ⟨b, 3, none⟩ = some (.int .i64 x.m0) ∧ w'.cell? ⟨b, 4, none⟩ = some (.int .i64 x.m1) ∧ w'.cell? ⟨b, 5, none⟩ = some (.int .i64 x.m2) ∧ w'.cell? ⟨b, 6, none⟩ = some (.int .i64 x.m3) ∧ w'.cell? ⟨b, 7, none⟩ = some (.int .i64 x.m4) ∧ w'.cell? ⟨b, 8, none⟩ = some (.int .i64 x.m5) ∧ w'.cell? ⟨b, 9, none⟩ = some (.int .i64 x.m6) ∧ w'.cell? ⟨b, 10, none⟩ = some (.int .i64 x.m7) := ⟨h 0, h 1, h 2, h 3, h 4, h 5, h 6, h 7, h 8, h 9, h 10⟩

end Go.Proofs.YtbbmljakfbhnpaaGreatDoor

namespace Go.Proofs.YtbbmljakfbhnpaaGreatDoor
open Go.RowKit

/-- The cells of inodes. -/
def inos (ps : List Ino) : List Value := ps.flatMap Ino.cs
theorem Ino.cs_len (x : Ino) : x.cs.length = 11 := rfl
theorem zdt (ps : List Ino) (k i : Nat) (h : k < ps.length) (hi : i < 11) : (inos ps)[k * 11 + i]? = ps[k].cs[i]? := (zbm _ 11 Ino.cs_len ps k i h hi).trans (by rw [List.getElem?_eq_getElem (show i < ps[k].cs.length by rw [Ino.cs_len]; exact hi)])
/-- A slice of inodes that can be read. -/
def RdN (w : World) (v : Value) (ps : List Ino) : Prop := Rd w 11 v ps.length (inos ps)
theorem RdN.shape {w : World} {v : Value} {ps : List Ino} (h : RdN w v ps) : ∃ ao cap, v = .slice ao ps.length cap ∧ ps.length ≤ cap ∧ (0 < ps.length → ∃ b o, ao = some ⟨b, o, none⟩ ∧ b < w.heap.size ∧
  ∀ k (h : k < ps.length), w.cell? ⟨b, o + k * 11, none⟩ = some (.int .i64 ps[k].kind) ∧ w.cell? ⟨b, o + k * 11 + 1, none⟩ = some (.int .i64 ps[k].size) ∧ w.cell? ⟨b, o + k * 11 + 2, none⟩ = some (.int .i64 ps[k].links) ∧ w.cell? ⟨b, o + k * 11 + 3, none⟩ = some (.int .i64 ps[k].m0) ∧ w.cell? ⟨b, o + k * 11 + 4, none⟩ = some (.int .i64 ps[k].m1) ∧ w.cell? ⟨b, o + k * 11 + 5, none⟩ = some (.int .i64 ps[k].m2) ∧ w.cell? ⟨b, o + k * 11 + 6, none⟩ = some (.int .i64 ps[k].m3) ∧ w.cell? ⟨b, o + k * 11 + 7, none⟩ = some (.int .i64 ps[k].m4) ∧ w.cell? ⟨b, o + k * 11 + 8, none⟩ = some (.int .i64 ps[k].m5) ∧ w.cell? ⟨b, o + k * 11 + 9, none⟩ = some (.int .i64 ps[k].m6) ∧ w.cell? ⟨b, o + k * 11 + 10, none⟩ = some (.int .i64 ps[k].m7)) := by
 obtain ⟨_, ao, cap, rfl, h2, h3⟩ := h
 refine ⟨ao, cap, rfl, h2.1, fun hn => ?_⟩
 obtain ⟨b, o, rfl, hb, hc⟩ := h3 hn
 exact ⟨b, o, rfl, hb, fun k hk => ⟨(hc (k * 11) (by omega)).trans (zdt ps k 0 hk (by omega)), (hc (k * 11 + 1) (by omega)).trans (zdt ps k 1 hk (by omega)), (hc (k * 11 + 2) (by omega)).trans (zdt ps k 2 hk (by omega)), (hc (k * 11 + 3) (by omega)).trans (zdt ps k 3 hk (by omega)), (hc (k * 11 + 4) (by omega)).trans (zdt ps k 4 hk (by omega)), (hc (k * 11 + 5) (by omega)).trans (zdt ps k 5 hk (by omega)), (hc (k * 11 + 6) (by omega)).trans (zdt ps k 6 hk (by omega)), (hc (k * 11 + 7) (by omega)).trans (zdt ps k 7 hk (by omega)), (hc (k * 11 + 8) (by omega)).trans (zdt ps k 8 hk (by omega)), (hc (k * 11 + 9) (by omega)).trans (zdt ps k 9 hk (by omega)), (hc (k * 11 + 10) (by omega)).trans (zdt ps k 10 hk (by omega))⟩⟩

theorem infoIno : (Tryz.prog.info? 44).map (fun i => (i.zero, i.size, i.bytes)) = some (some (.agg #[.int .i64 0, .int .i64 0, .int .i64 0, .int .i64 0, .int .i64 0, .int .i64 0, .int .i64 0, .int .i64 0, .int .i64 0, .int .i64 0, .int .i64 0]), 11, 88) := by kernel_rfl

end Go.Proofs.YtbbmljakfbhnpaaGreatDoor

namespace Go.Proofs.YtbbmljakfbhnpaaGreatDoor
open Go.RowKit

/-- An entry. -/
structure Den where
 dir : Int
 name : ByteArray
 child : Int
/-- An entry as a value. -/
def Den.v (x : Den) : Value := .agg #[.int .i64 x.dir, .string x.name, .int .i64 x.child]

/-- A free entry. -/
def Den.freeB (x : Den) : Bool := x.dir == 0 && (x.name.size == 0 && x.child == -1)
/-- An entry that can be written. -/
def Den.okB (x : Den) : Bool := x.freeB || (decide (1 ≤ x.child ∧ x.child ≤ 15) && (decide (0 ≤ x.dir ∧ x.dir ≤ 15) && nmB x.name))
/-- Its words. -/
def enL (k : Int) (x : Den) : List Se := [⟨240 + 3 * k, x.dir⟩, ⟨240 + 3 * k + 1, ((pk x.name x.name.size : Nat) : Int)⟩, ⟨240 + 3 * k + 2, x.child + 1⟩]

set_option maxRecDepth 100000 in
set_option maxHeartbeats 2000000 in
theorem zsl (s : ByteArray) (w : World) (hs : s.size = 0) : Calls Tryz.prog 89 #[.string s] w fun e w' => e = .returned (.int .i64 ((pk s s.size : Nat) : Int)) ∧ w' = w := by
 have E := zaa (show ((pk s s.size : Nat) : Int) = 0 by rw [hs, pk_zero]; rfl)
 rw [E.out]
 go_enter Tryz.func89, Tryz.ntmps89
 go_wp2
 go_loop [3, 4] (fun n i => i = .int .i64 0 ∧ n = .int .i64 0) (fun _ i => 0)
 case atStart => exact ⟨rfl, rfl⟩
 case round =>
  obtain ⟨rfl, rfl⟩ := hrel
  go_wp2
  go_ret
  exact ⟨rfl, rfl⟩

set_option maxRecDepth 100000 in
set_option maxHeartbeats 2000000 in
theorem zff (k : Int) (x : Den) (w : World) (hk : 0 ≤ k ∧ k < 24) (hc : -1 ≤ x.child ∧ x.child ≤ 15) (hn : x.name.size = 0 ∨ nmB x.name = true) :
  Calls Tryz.prog 52 #[.int .i64 k, x.v] w fun e w' => ∃ v', e = .returned v' ∧ Row w' 47 2 w.heap.size w'.heap.size v' (enL k x).length (ses (enL k x)) ∧ Below w.heap.size w w' := by
 have LP := zaa (fun w1 => show Calls Tryz.prog 89 #[.string x.name] w1 fun e w' => e = .returned (.int .i64 ((pk x.name x.name.size : Nat) : Int)) ∧ w' = w1 by
  rcases hn with h | h
  ·exact zsl _ _ h
  ·exact zwb _ _ h)
 clear hn
 have EL := zaa (show enL k x = [⟨240 + 3 * k, x.dir⟩, ⟨240 + 3 * k + 1, ((pk x.name x.name.size : Nat) : Int)⟩, ⟨240 + 3 * k + 2, x.child + 1⟩] from rfl)
 generalize ((pk x.name x.name.size : Nat) : Int) = p at LP EL
 obtain ⟨W, hW⟩ : ∃ W, W = w.alloc (.cells #[.int .i64 x.dir, .string x.name, .int .i64 x.child] 50) := ⟨_, rfl⟩
 have SK : Hid (∀ w', Below W.heap.size W w' → w'.cell? ⟨w.heap.size, 0, none⟩ = some (.int .i64 x.dir) ∧ w'.cell? ⟨w.heap.size, 1, none⟩ = some (.string x.name) ∧ w'.cell? ⟨w.heap.size, 2, none⟩ = some (.int .i64 x.child)) := fun w' hb => by
  have : w'.heap[w.heap.size]? = some (.cells #[.int .i64 x.dir, .string x.name, .int .i64 x.child] 50 (0, 0)) := (hb.block _ (by rw [hW]; simp)).trans (by rw [hW]; exact zah rfl)
  exact zbb this
 have BW : Hid (Below w.heap.size w W) := by rw [hW]; exact (Below.refl _ _).alloc (Nat.le_refl _) _
 have hz : w.heap.size ≤ W.heap.size := BW.out.size
 unfold Den.v
 go_enter Tryz.func52, Tryz.ntmps52
 go_wp2_with fail
 rw [← hW]
 clear hW
 go_region_held3 (fun w' => w'.cell? ⟨w.heap.size, 0, none⟩ = some (.int .i64 x.dir) ∧ w'.cell? ⟨w.heap.size, 1, none⟩ = some (.string x.name) ∧ w'.cell? ⟨w.heap.size, 2, none⟩ = some (.int .i64 x.child))
  (exact SK.out _ (by repeat (first | exact Below.refl _ _ | refine Below.drew ?_ | refine Below.alloc ?_ (by simp) _)))
  (first | (go_at_call 88; refine (zdu _ _ _ hk (by omega)).mono ?_; rintro e w' ⟨rfl, hw'⟩; subst w') | (go_at_call 89; refine (LP.out _).mono ?_; rintro e w' ⟨rfl, hw'⟩; subst w'))
 have wp1 : IntKind.i64.wrap (x.child + 1) = x.child + 1 := by rw [IntKind.wrap_i64]; omega
 rw [wp1]
 have R : Hid (UpI W (W.alloc (.cells #[.int .i64 (240 + 3 * k), .int .i64 x.dir, .int .i64 (240 + 3 * k + 1), .int .i64 p, .int .i64 (240 + 3 * k + 2), .int .i64 (x.child + 1)] 47)).drew (.slice (some ⟨W.heap.size, 0, none⟩) 3 3) (enL k x)) := by
  show UpI _ _ _ _
  rw [EL.out]
  exact UpI.below (w := W.alloc (.cells #[.int .i64 (240 + 3 * k), .int .i64 x.dir, .int .i64 (240 + 3 * k + 1), .int .i64 p, .int .i64 (240 + 3 * k + 2), .int .i64 (x.child + 1)] 47)) ⟨World.ownsRow_lit W _ 3 (Nat.le_refl _) (by simp [maxLen]) rfl, (Below.refl _ _).alloc (Nat.le_refl _) _⟩ ((Below.refl _ _).drew)
 go_wp2
 go_ret
 exact ⟨_, rfl, (zad R.out.l).wide hz (Nat.le_refl _), zab BW.out R.out.b hz⟩

theorem noBytes (s : ByteArray) : s.toList = [] ↔ s.size = 0 := by
 rw [ByteArray.toList_eq]
 obtain ⟨⟨x⟩⟩ := s
 show x = [] ↔ x.length = 0
 exact List.length_eq_zero_iff.symm
end Go.Proofs.YtbbmljakfbhnpaaGreatDoor

namespace Go.Proofs.YtbbmljakfbhnpaaGreatDoor
open Go.RowKit

def Den.cells (s : Den) : List Value := [.int .i64 s.dir, .string s.name, .int .i64 s.child]
def dens (ps : List Den) : List Value := ps.flatMap Den.cells

theorem Den.cells_len (s : Den) : s.cells.length = 3 := rfl
theorem dens_len (ps : List Den) : (dens ps).length = ps.length * 3 := znt _ 3 Den.cells_len ps
theorem dens_at0 (ps : List Den) (k : Nat) (h : k < ps.length) : (dens ps)[k * 3]? = some (.int .i64 ps[k].dir) := zbm _ 3 Den.cells_len ps k 0 h (by omega)
theorem dens_at1 (ps : List Den) (k : Nat) (h : k < ps.length) : (dens ps)[k * 3 + 1]? = some (.string ps[k].name) := zbm _ 3 Den.cells_len ps k 1 h (by omega)
theorem dens_at2 (ps : List Den) (k : Nat) (h : k < ps.length) : (dens ps)[k * 3 + 2]? = some (.int .i64 ps[k].child) := zbm _ 3 Den.cells_len ps k 2 h (by omega)

/-- A slice of steps that can be read. -/
def RdD (w : World) (v : Value) (ps : List Den) : Prop := Rd w 3 v ps.length (dens ps)
theorem RdD.shape {w : World} {v : Value} {ps : List Den} (h : RdD w v ps) : ∃ ao cap, v = .slice ao ps.length cap ∧ ps.length ≤ cap ∧ (0 < ps.length → ∃ b o, ao = some ⟨b, o, none⟩ ∧ b < w.heap.size ∧
  ∀ k (h : k < ps.length), w.cell? ⟨b, o + k * 3, none⟩ = some (.int .i64 ps[k].dir) ∧ w.cell? ⟨b, o + k * 3 + 1, none⟩ = some (.string ps[k].name) ∧ w.cell? ⟨b, o + k * 3 + 2, none⟩ = some (.int .i64 ps[k].child)) := by
 obtain ⟨_, ao, cap, rfl, h2, h3⟩ := h
 refine ⟨ao, cap, rfl, h2.1, fun hn => ?_⟩
 obtain ⟨b, o, rfl, hb, hc⟩ := h3 hn
 exact ⟨b, o, rfl, hb, fun k hk => ⟨(hc (k * 3) (by omega)).trans (dens_at0 ps k hk), (hc (k * 3 + 1) (by omega)).trans (dens_at1 ps k hk), (hc (k * 3 + 2) (by omega)).trans (dens_at2 ps k hk)⟩⟩

theorem zmj : (Tryz.prog.info? 50).map (fun i => (i.zero, i.size, i.bytes)) = some (some (.agg #[.int .i64 0, .string ⟨#[]⟩, .int .i64 0]), 3, 32) := by kernel_rfl

end Go.Proofs.YtbbmljakfbhnpaaGreatDoor
