/- Several texts laid together: ImB, ImD, ImH, StoreS, ImE. -/
import Derived.Test.YtmeiionabonhnaaGreatDoorZAC
import Derived.Test.YtmeiionabonhnaaGreatDoorWt
import Derived.Test.YtmeiionabonhnaaGreatDoorZAB
import Derived.Deep.RegionHeld3
import Derived.Laws.OwnMore
import Derived.Deep.RegionWith
namespace Go.Proofs.YtmeiionabonhnaaGreatDoor
open Go.RowKit
def entB (i : Nat) (z size : Int) : Bool := tieB z && (z == 0 || decide ((i : Int) < size))
def mapTo (zs : List Int) (size : Int) (k : Nat) : Prop := ∀ i, i < k → entB i (zs.getD i 0) size = true
def mapB (zs : List Int) (size : Int) : Bool := (List.range 8).all fun i => entB i (zs.getD i 0) size
theorem mapB_of {zs : List Int} {size : Int} (h : mapTo zs size 8) : mapB zs size = true := by
  unfold mapB
  rw [List.all_eq_true]
  intro i hi
  exact h i (List.mem_range.1 hi)
theorem mapB_to {zs : List Int} {size : Int} (h : mapB zs size = true) : mapTo zs size 8 := by
  unfold mapB at h
  rw [List.all_eq_true] at h
  intro i hi
  exact h i (List.mem_range.2 hi)
theorem mapB_not {zs : List Int} {size : Int} {k : Nat} (hk : k < 8) (h : entB k (zs.getD k 0) size = false) : mapB zs size = false := by
  rw [Bool.eq_false_iff]
  intro e
  rw [mapB_to e k hk] at h
  exact absurd h (by decide)
theorem mapTo_succ {zs : List Int} {size : Int} {k : Nat} (h : mapTo zs size k) (g : entB k (zs.getD k 0) size = true) : mapTo zs size (k + 1) := by
  intro i hi
  by_cases e : i = k
  · rw [e]; exact g
  · exact h i (by omega)
def kindB (x : Ino) : Bool := if x.kind = 0 then decide (x.size = 0 ∧ x.links = 0 ∧ x.map = [0, 0, 0, 0, 0, 0, 0, 0]) else if x.kind = 2 then x.size == 0 && x.links == 1 else decide (0 < x.links)
def inoB (x : Ino) : Bool := decide (0 ≤ x.kind ∧ x.kind ≤ 2) && (decide (0 ≤ x.size ∧ x.size ≤ 8) && (decide (0 ≤ x.links ∧ x.links ≤ 24) && (mapB x.map x.size && kindB x)))
def Ino.R (x : Ino) : Prop := ∀ z ∈ x.map, -9223372036854775808 ≤ z ∧ z ≤ 9223372036854775807
theorem Ino.len (x : Ino) : x.map.length = 8 := rfl
theorem Ino.at (x : Ino) (k : Nat) (hk : k < 8) : x.cs[3 + k]? = some (.int .i64 (x.map.getD k 0)) := by
  rcases (show k = 0 ∨ k = 1 ∨ k = 2 ∨ k = 3 ∨ k = 4 ∨ k = 5 ∨ k = 6 ∨ k = 7 by omega) with rfl | rfl | rfl | rfl | rfl | rfl | rfl | rfl <;> rfl
theorem Ino.R.at {x : Ino} (h : x.R) (k : Nat) (hk : k < 8) : -9223372036854775808 ≤ x.map.getD k 0 ∧ x.map.getD k 0 ≤ 9223372036854775807 := by
  have e : x.map.getD k 0 = x.map[k]'(by rw [x.len]; exact hk) := by rw [List.getD_eq_getElem?_getD, List.getElem?_eq_getElem (by rw [x.len]; exact hk)]; rfl
  rw [e]
  exact h _ (List.getElem_mem _)
set_option maxRecDepth 100000 in
set_option maxHeartbeats 2000000 in
@[go_sem] theorem eqZero8 (m0 m1 m2 m3 m4 m5 m6 m7 : Int) (w : World) : (Op.equalIn 9999 148 (.agg #[.int .i64 m0, .int .i64 m1, .int .i64 m2, .int .i64 m3, .int .i64 m4, .int .i64 m5, .int .i64 m6, .int .i64 m7]) (.agg #[.int .i64 0, .int .i64 0, .int .i64 0, .int .i64 0, .int .i64 0, .int .i64 0, .int .i64 0, .int .i64 0])).run Tryz.prog w = .ok (decide ([m0, m1, m2, m3, m4, m5, m6, m7] = [0, 0, 0, 0, 0, 0, 0, 0])) w := by
  have u3 := Tryz.underlying3
  have a3 := Tryz.isAgg3
  have z3 := Tryz.sizeOf3
  rw [show (9999 : Nat) = 9998 + 1 from rfl, Op.equalIn]
  simp only [Sem.run_bind, run_underlying Tryz.underlying148, Result.andThen_ok]
  simp only [Std.Legacy.Range.forIn_eq_forIn_range', Std.Legacy.Range.size, Nat.sub_zero, Nat.add_sub_cancel, Nat.div_one, List.range'_succ, List.range'_zero, List.forIn_cons, List.forIn_nil]
  go_simp
  by_cases h0 : m0 = 0
  case neg => simp [h0]
  by_cases h1 : m1 = 0
  case neg => simp [h0, h1]
  by_cases h2 : m2 = 0
  case neg => simp [h0, h1, h2]
  by_cases h3 : m3 = 0
  case neg => simp [h0, h1, h2, h3]
  by_cases h4 : m4 = 0
  case neg => simp [h0, h1, h2, h3, h4]
  by_cases h5 : m5 = 0
  case neg => simp [h0, h1, h2, h3, h4, h5]
  by_cases h6 : m6 = 0
  case neg => simp [h0, h1, h2, h3, h4, h5, h6]
  by_cases h7 : m7 = 0
  case neg => simp [h0, h1, h2, h3, h4, h5, h6, h7]
  simp [h0, h1, h2, h3, h4, h5, h6, h7]
set_option maxRecDepth 100000 in
set_option maxHeartbeats 2000000 in
theorem l05Inode_any (x : Ino) (w : World) (hr : x.R) : Calls Tryz.prog 126 #[x.v] w fun e w' => e = .returned (.bool (inoB x)) ∧ Below w.heap.size w w' := by
  have hv : x.v = .agg x.cs.toArray := rfl
  have c0 : (w.alloc (.cells x.cs.toArray 150)).cell? ⟨w.heap.size, 0, none⟩ = some (.int .i64 x.kind) := (eight_at (xs := x.cs) (at_new rfl) 0).1
  have c1 : (w.alloc (.cells x.cs.toArray 150)).cell? ⟨w.heap.size, 1, none⟩ = some (.int .i64 x.size) := (eight_at (xs := x.cs) (at_new rfl) 1).1
  have c2 : (w.alloc (.cells x.cs.toArray 150)).cell? ⟨w.heap.size, 2, none⟩ = some (.int .i64 x.links) := (eight_at (xs := x.cs) (at_new rfl) 2).1
  have CM := hideIt (show ∀ k, k < 8 → (w.alloc (.cells x.cs.toArray 150)).cell? ⟨w.heap.size, 3 + k, none⟩ = some (.int .i64 (x.map.getD k 0)) from fun k hk => ((eight_at (xs := x.cs) (at_new rfl) (3 + k)).1).trans (x.at k hk))
  have B := hideIt ((Below.refl w.heap.size w).alloc (Nat.le_refl _) (.cells x.cs.toArray 150))
  rw [hv]
  by_cases h0 : 0 ≤ x.kind ∧ x.kind ≤ 2
  · by_cases h1 : 0 ≤ x.size ∧ x.size ≤ 8
    · by_cases h2 : 0 ≤ x.links ∧ x.links ≤ 24
      · have E := hideIt (show inoB x = (mapB x.map x.size && kindB x) by unfold inoB; rw [decide_eq_true h0, decide_eq_true h1, decide_eq_true h2]; rfl)
        have H := hideIt (And.intro h0 (And.intro h1 h2))
        clear h0 h1 h2
        go_enter Tryz.func126, Tryz.ntmps126
        go_wp2_with fail
        refine (l01In_yes _ _ _ _ H.out.1).mono ?_
        rintro e w' ⟨rfl, rfl⟩
        go_wp2_with fail
        refine (l01In_yes _ _ _ _ H.out.2.1).mono ?_
        rintro e w' ⟨rfl, rfl⟩
        go_wp2_with fail
        refine (l01In_yes _ _ _ _ H.out.2.2).mono ?_
        rintro e w' ⟨rfl, rfl⟩
        go_wp2
        obtain ⟨wa, hwa⟩ : ∃ wa, wa = w.alloc (.cells x.cs.toArray 150) := ⟨_, rfl⟩
        rw [← hwa] at c0 c1 c2 CM B ⊢
        have CA := hideIt (show ∀ j, wa.cell? ⟨w.heap.size, j, none⟩ = x.cs[j]? by rw [hwa]; exact fun j => (eight_at (xs := x.cs) (at_new rfl) j).1)
        clear hwa
        go_loopw [3] (fun i wr => ∃ k : Nat, k ≤ 8 ∧ i = .int .i64 k ∧ wr = wa ∧ Hid (mapTo x.map x.size k)) (fun i _ => 8 - (intOf i).toNat)
        case atStart => exact ⟨0, by omega, rfl, rfl, fun i hi => absurd hi (by omega)⟩
        case round =>
          obtain ⟨k, hk, rfl, rfl, M⟩ := hrel
          by_cases hlt : k < 8
          · have c3 := CM.out k hlt
            obtain ⟨r0, r1⟩ := hr.at k hlt
            have k0 : (0 : Int) ≤ (k : Int) := by omega
            have k1 : (k : Int) < 8 := by omega
            have MN := hideIt (fun e => mapB_not (zs := x.map) (size := x.size) hlt e)
            have MS := hideIt (fun e => mapTo_succ (k := k) M.out e)
            generalize x.map.getD k 0 = z at c3 r0 r1 MN MS
            clear CM CA M
            cases ht : tieB z with
            | false =>
              have F := hideIt (show inoB x = false by rw [E.out, MN.out (by unfold entB; rw [ht]; rfl), Bool.false_and])
              have T := hideIt ht
              clear ht MN MS E
              go_wp2_with fail
              refine (l03EntryOK_any _ _ r0 r1).mono ?_
              rintro e w' ⟨rfl, rfl⟩
              rw [T.out]
              go_wp2
              go_ret
              exact ⟨ret_bool F.out.symm, B.out⟩
            | true =>
              by_cases hz : z = 0
              · have q : (z != 0) = false := by rw [hz]; rfl
                have G := hideIt (MS.out (by unfold entB; rw [ht, hz]; rfl))
                have T := hideIt ht
                clear ht MN MS hz
                go_wp2_with fail
                refine (l03EntryOK_any _ _ r0 r1).mono ?_
                rintro e w' ⟨rfl, rfl⟩
                rw [T.out]
                go_wp2
                go_roundw
                case rel => exact ⟨k + 1, by omega, by go_num, trivial, G⟩
                case measure => simp [intOf]; omega
              · have q : (z != 0) = true := by rw [bne_iff_ne]; exact hz
                have qz : (z == 0) = false := by rw [beq_eq_false_iff_ne]; exact hz
                by_cases hs : (k : Int) < x.size
                · have q2 : ¬ x.size ≤ (k : Int) := by omega
                  have G := hideIt (MS.out (by unfold entB; rw [ht, qz, decide_eq_true hs]; rfl))
                  have T := hideIt ht
                  clear ht MN MS hz hs qz
                  go_wp2_with fail
                  refine (l03EntryOK_any _ _ r0 r1).mono ?_
                  rintro e w' ⟨rfl, rfl⟩
                  rw [T.out]
                  go_wp2
                  go_roundw
                  case rel => exact ⟨k + 1, by omega, by go_num, trivial, G⟩
                  case measure => simp [intOf]; omega
                · have q2 : x.size ≤ (k : Int) := by omega
                  have F := hideIt (show inoB x = false by rw [E.out, MN.out (by unfold entB; rw [ht, qz, decide_eq_false hs]; rfl), Bool.false_and])
                  have T := hideIt ht
                  clear ht MN MS hz hs qz E
                  go_wp2_with fail
                  refine (l03EntryOK_any _ _ r0 r1).mono ?_
                  rintro e w' ⟨rfl, rfl⟩
                  rw [T.out]
                  go_wp2
                  go_ret
                  exact ⟨ret_bool F.out.symm, B.out⟩
          · obtain rfl : k = 8 := by omega
            have F := hideIt (show inoB x = kindB x by rw [E.out, mapB_of M.out, Bool.true_and])
            clear E M CM
            rcases (show x.kind = 0 ∨ x.kind = 1 ∨ x.kind = 2 by have := H.out; omega) with hz | hz | hz
            · have K := hideIt (show kindB x = decide (x.size = 0 ∧ x.links = 0 ∧ x.map = [0, 0, 0, 0, 0, 0, 0, 0]) by unfold kindB; rw [if_pos hz])
              rw [hz] at c0
              have c3 : wr.cell? ⟨w.heap.size, 3, none⟩ = some (.int .i64 x.m0) := CA.out 3
              have c4 : wr.cell? ⟨w.heap.size, 4, none⟩ = some (.int .i64 x.m1) := CA.out 4
              have c5 : wr.cell? ⟨w.heap.size, 5, none⟩ = some (.int .i64 x.m2) := CA.out 5
              have c6 : wr.cell? ⟨w.heap.size, 6, none⟩ = some (.int .i64 x.m3) := CA.out 6
              have c7 : wr.cell? ⟨w.heap.size, 7, none⟩ = some (.int .i64 x.m4) := CA.out 7
              have c8 : wr.cell? ⟨w.heap.size, 8, none⟩ = some (.int .i64 x.m5) := CA.out 8
              have c9 : wr.cell? ⟨w.heap.size, 9, none⟩ = some (.int .i64 x.m6) := CA.out 9
              have c10 : wr.cell? ⟨w.heap.size, 10, none⟩ = some (.int .i64 x.m7) := CA.out 10
              clear CA
              go_wp2
              all_goals
                go_ret
                refine ⟨ret_bool ?_, B.out⟩
                rw [F.out, K.out, eq_comm]
                clear c0 c1 c2 c3 c4 c5 c6 c7 c8 c9 c10
                rename_i h9
                simp_all [Ino.map]
            · have K := hideIt (show kindB x = decide (0 < x.links) by unfold kindB; rw [if_neg (by omega), if_neg (by omega)])
              rw [hz] at c0
              clear CA
              go_wp2
              go_ret
              exact ⟨ret_bool (by rw [F.out, K.out]), B.out⟩
            · have K := hideIt (show kindB x = (x.size == 0 && x.links == 1) by unfold kindB; rw [if_neg (by omega), if_pos hz])
              rw [hz] at c0
              clear CA
              cases hq : (x.size == 0)
              all_goals
                rw [hq] at K
                go_wp2
                go_ret
                exact ⟨ret_bool (by rw [F.out, K.out]; rfl), B.out⟩
      · have E := hideIt (show inoB x = false by unfold inoB; rw [decide_eq_false h2, Bool.false_and, Bool.and_false, Bool.and_false])
        go_enter Tryz.func126, Tryz.ntmps126
        go_wp2_with fail
        refine (l01In_yes _ _ _ _ h0).mono ?_
        rintro e w' ⟨rfl, rfl⟩
        go_wp2_with fail
        refine (l01In_yes _ _ _ _ h1).mono ?_
        rintro e w' ⟨rfl, rfl⟩
        go_wp2_with fail
        refine (l01In_no _ _ _ _ h2).mono ?_
        rintro e w' ⟨rfl, rfl⟩
        go_wp2
        go_ret
        exact ⟨ret_bool E.out.symm, B.out⟩
    · have E := hideIt (show inoB x = false by unfold inoB; rw [decide_eq_false h1, Bool.false_and, Bool.and_false])
      go_enter Tryz.func126, Tryz.ntmps126
      go_wp2_with fail
      refine (l01In_yes _ _ _ _ h0).mono ?_
      rintro e w' ⟨rfl, rfl⟩
      go_wp2_with fail
      refine (l01In_no _ _ _ _ h1).mono ?_
      rintro e w' ⟨rfl, rfl⟩
      go_wp2
      go_ret
      exact ⟨ret_bool E.out.symm, B.out⟩
  · have E := hideIt (show inoB x = false by unfold inoB; rw [decide_eq_false h0, Bool.false_and])
    go_enter Tryz.func126, Tryz.ntmps126
    go_wp2_with fail
    refine (l01In_no _ _ _ _ h0).mono ?_
    rintro e w' ⟨rfl, rfl⟩
    go_wp2
    go_ret
    exact ⟨ret_bool E.out.symm, B.out⟩
end Go.Proofs.YtmeiionabonhnaaGreatDoor

namespace Go.Proofs.YtmeiionabonhnaaGreatDoor
open Go.RowKit
theorem Ino.all {x : Ino} {w' : World} {b : Nat} (h : ∀ j, w'.cell? ⟨b, j, none⟩ = x.cs[j]?) : w'.cell? ⟨b, 0, none⟩ = some (.int .i64 x.kind) ∧ w'.cell? ⟨b, 1, none⟩ = some (.int .i64 x.size) ∧ w'.cell? ⟨b, 2, none⟩ = some (.int .i64 x.links) ∧ w'.cell? ⟨b, 3, none⟩ = some (.int .i64 x.m0) ∧ w'.cell? ⟨b, 4, none⟩ = some (.int .i64 x.m1) ∧ w'.cell? ⟨b, 5, none⟩ = some (.int .i64 x.m2) ∧ w'.cell? ⟨b, 6, none⟩ = some (.int .i64 x.m3) ∧ w'.cell? ⟨b, 7, none⟩ = some (.int .i64 x.m4) ∧ w'.cell? ⟨b, 8, none⟩ = some (.int .i64 x.m5) ∧ w'.cell? ⟨b, 9, none⟩ = some (.int .i64 x.m6) ∧ w'.cell? ⟨b, 10, none⟩ = some (.int .i64 x.m7) := ⟨h 0, h 1, h 2, h 3, h 4, h 5, h 6, h 7, h 8, h 9, h 10⟩
end Go.Proofs.YtmeiionabonhnaaGreatDoor

namespace Go.Proofs.YtmeiionabonhnaaGreatDoor
open Go.RowKit
def inos (ps : List Ino) : List Value := ps.flatMap Ino.cs
theorem Ino.cs_len (x : Ino) : x.cs.length = 11 := rfl
theorem inos_at (ps : List Ino) (k i : Nat) (h : k < ps.length) (hi : i < 11) : (inos ps)[k * 11 + i]? = ps[k].cs[i]? := (flatMap_at _ 11 Ino.cs_len ps k i h hi).trans (by rw [List.getElem?_eq_getElem (show i < ps[k].cs.length by rw [Ino.cs_len]; exact hi)])
def RdN (w : World) (v : Value) (ps : List Ino) : Prop := Rd w 11 v ps.length (inos ps)
theorem RdN.shape {w : World} {v : Value} {ps : List Ino} (h : RdN w v ps) : ∃ ao cap, v = .slice ao ps.length cap ∧ ps.length ≤ cap ∧ (0 < ps.length → ∃ b o, ao = some ⟨b, o, none⟩ ∧ b < w.heap.size ∧
    ∀ k (h : k < ps.length), w.cell? ⟨b, o + k * 11, none⟩ = some (.int .i64 ps[k].kind) ∧ w.cell? ⟨b, o + k * 11 + 1, none⟩ = some (.int .i64 ps[k].size) ∧ w.cell? ⟨b, o + k * 11 + 2, none⟩ = some (.int .i64 ps[k].links) ∧ w.cell? ⟨b, o + k * 11 + 3, none⟩ = some (.int .i64 ps[k].m0) ∧ w.cell? ⟨b, o + k * 11 + 4, none⟩ = some (.int .i64 ps[k].m1) ∧ w.cell? ⟨b, o + k * 11 + 5, none⟩ = some (.int .i64 ps[k].m2) ∧ w.cell? ⟨b, o + k * 11 + 6, none⟩ = some (.int .i64 ps[k].m3) ∧ w.cell? ⟨b, o + k * 11 + 7, none⟩ = some (.int .i64 ps[k].m4) ∧ w.cell? ⟨b, o + k * 11 + 8, none⟩ = some (.int .i64 ps[k].m5) ∧ w.cell? ⟨b, o + k * 11 + 9, none⟩ = some (.int .i64 ps[k].m6) ∧ w.cell? ⟨b, o + k * 11 + 10, none⟩ = some (.int .i64 ps[k].m7)) := by
  obtain ⟨_, ao, cap, rfl, h2, h3⟩ := h
  refine ⟨ao, cap, rfl, h2.1, fun hn => ?_⟩
  obtain ⟨b, o, rfl, hb, hc⟩ := h3 hn
  exact ⟨b, o, rfl, hb, fun k hk => ⟨(hc (k * 11) (by omega)).trans (inos_at ps k 0 hk (by omega)), (hc (k * 11 + 1) (by omega)).trans (inos_at ps k 1 hk (by omega)), (hc (k * 11 + 2) (by omega)).trans (inos_at ps k 2 hk (by omega)), (hc (k * 11 + 3) (by omega)).trans (inos_at ps k 3 hk (by omega)), (hc (k * 11 + 4) (by omega)).trans (inos_at ps k 4 hk (by omega)), (hc (k * 11 + 5) (by omega)).trans (inos_at ps k 5 hk (by omega)), (hc (k * 11 + 6) (by omega)).trans (inos_at ps k 6 hk (by omega)), (hc (k * 11 + 7) (by omega)).trans (inos_at ps k 7 hk (by omega)), (hc (k * 11 + 8) (by omega)).trans (inos_at ps k 8 hk (by omega)), (hc (k * 11 + 9) (by omega)).trans (inos_at ps k 9 hk (by omega)), (hc (k * 11 + 10) (by omega)).trans (inos_at ps k 10 hk (by omega))⟩⟩
theorem infoIno : (Tryz.prog.info? 150).map (fun i => (i.zero, i.size, i.bytes)) = some (some (.agg #[.int .i64 0, .int .i64 0, .int .i64 0, .int .i64 0, .int .i64 0, .int .i64 0, .int .i64 0, .int .i64 0, .int .i64 0, .int .i64 0, .int .i64 0]), 11, 88) := by kernel_rfl
end Go.Proofs.YtmeiionabonhnaaGreatDoor

namespace Go.Proofs.YtmeiionabonhnaaGreatDoor
open Go.RowKit
def put3 (ys : List Value) (k : Nat) (a b c : Value) : List Value := ((ys.set (k * 3) a).set (k * 3 + 1) b).set (k * 3 + 2) c
theorem put3_at {ys : List Value} {k : Nat} {a b c : Value} {j : Nat} (hj : j < ys.length) : (put3 ys k a b c)[j]? = if j = k * 3 + 2 then some c else if j = k * 3 + 1 then some b else if j = k * 3 then some a else ys[j]? := by
  unfold put3
  rw [set_at (by simpa using hj), set_at (by simpa using hj), set_at hj]
theorem Row.put3 {w : World} {e : TypeId} {lo hi : Nat} {b n cap : Nat} {ys : List Value} (h : Row w e 3 lo hi (.slice (some ⟨b, 0, none⟩) n cap) n ys) (k : Nat) (x y z : Value) :
    Row (((w.setCell ⟨b, k * 3, none⟩ x).setCell ⟨b, k * 3 + 1, none⟩ y).setCell ⟨b, k * 3 + 2, none⟩ z) e 3 lo hi (.slice (some ⟨b, 0, none⟩) n cap) n (put3 ys k x y z) :=
  ((h.stored (k * 3) x).stored (k * 3 + 1) y).stored (k * 3 + 2) z
end Go.Proofs.YtmeiionabonhnaaGreatDoor

namespace Go.Proofs.YtmeiionabonhnaaGreatDoor
open Go.RowKit
structure Den where
  dir : Int
  name : ByteArray
  child : Int
def Den.v (x : Den) : Value := .agg #[.int .i64 x.dir, .string x.name, .int .i64 x.child]
set_option maxHeartbeats 1000000 in
theorem szDirent_any (x : Den) (left : Int) (w : World) (hs : x.name.size ≤ maxLen) (h0 : 0 ≤ left) (h1 : left ≤ 1048576) : Calls Tryz.prog 66 #[x.v, .int .i64 left] w fun e w' => e = .returned (.int .i64 (if left < x.name.size then -1 else left - x.name.size)) ∧ Below w.heap.size w w' := by
  unfold Den.v
  unfold maxLen at hs
  by_cases c : left < x.name.size
  · rw [if_pos c]
    have c' : left - (x.name.size : Int) < 0 := by omega
    go_enter Tryz.func66, Tryz.ntmps66
    go_wp2
    go_ret
    refine ⟨rfl, ?_⟩
    repeat (refine Below.alloc ?_ (by simp <;> omega) _)
    exact Below.refl _ _
  · rw [if_neg c]
    have c' : ¬ left - (x.name.size : Int) < 0 := by omega
    go_enter Tryz.func66, Tryz.ntmps66
    go_wp2
    go_ret
    refine ⟨rfl, ?_⟩
    repeat (refine Below.alloc ?_ (by simp <;> omega) _)
    exact Below.refl _ _
def Den.freeB (x : Den) : Bool := x.dir == 0 && (x.name.size == 0 && x.child == -1)
def Den.okB (x : Den) : Bool := x.freeB || (decide (1 ≤ x.child ∧ x.child ≤ 15) && (decide (0 ≤ x.dir ∧ x.dir ≤ 15) && nmB x.name))
theorem noBytes (s : ByteArray) : s.toList = [] ↔ s.size = 0 := by
  rw [ByteArray.toList_eq]
  obtain ⟨⟨x⟩⟩ := s
  show x = [] ↔ x.length = 0
  exact List.length_eq_zero_iff.symm
end Go.Proofs.YtmeiionabonhnaaGreatDoor
