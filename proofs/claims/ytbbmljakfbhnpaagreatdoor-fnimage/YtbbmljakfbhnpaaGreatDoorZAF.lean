/- Several texts laid together: PiG, PiC, PiD, PiE. -/
import Derived.Test.YtbbmljakfbhnpaaGreatDoorZAE
import Derived.Test.YtbbmljakfbhnpaaGreatDoorZAC
import Derived.Laws.CopyRow
import Derived.Laws.CopyOwn
import Derived.Test.YtbbmljakfbhnpaaGreatDoorZAD
import Derived.Deep.RegionLaw
namespace Go.Proofs.YtbbmljakfbhnpaaGreatDoor
open Go.RowKit

theorem has_at {zs : List Int} {n : Int} {k : Nat} (hk : k < zs.length) (h : n = zs[k]) : zho zs n = true := by
 unfold zho
 rw [List.contains_eq_any_beq, List.any_eq_true]
 exact ⟨zs[k], List.getElem_mem _, by rw [h]; simp⟩

set_option maxHeartbeats 2000000 in
theorem ztx (v : Value) (zs : List Int) (n : Int) (w : World) (h : RdI w v zs) (hn : zs.length ≤ 1048576) :
  Calls Tryz.prog 121 #[v, .int .i64 n] w fun e w' => ∃ r : Int, e = .returned (.int .i64 r) ∧ (decide (0 ≤ r) = zho zs n) ∧ w' = w := by
 obtain ⟨aZ, cZ, rfl, _, hcZ⟩ := h.shape
 have HZ := zaa hcZ
 clear h hcZ
 go_enter Tryz.func121, Tryz.ntmps121
 go_wp2
 go_loop [5, 8] (fun _ i => ∃ k : Nat, k ≤ zs.length ∧ i = .int .i64 k ∧ Hid (∀ j (h : j < zs.length), j < k → ¬ zs[j] = n)) (fun _ i => zs.length - (intOf i).toNat)
 case atStart => exact ⟨0, by omega, rfl, fun j h a => absurd a (by omega)⟩
 case round =>
  obtain ⟨k, hk, rfl, H⟩ := hrel
  by_cases hlt : k < zs.length
  ·obtain ⟨b, o, rfl, hbl, hcell⟩ := HZ.out (by omega)
   have hck := hcell k hlt
   clear hcell
   by_cases q : n = zs[k]
   ·have q' : (n == zs[k]) = true := by rw [beq_iff_eq]; exact q
    have E := zaa (has_at hlt q)
    clear q H
    generalize zs[k] = z at *
    go_wp2
    go_ret
    exact ⟨_, rfl, by rw [E.out]; exact decide_eq_true (by omega), rfl⟩
   ·have q' : (n == zs[k]) = false := by rw [beq_eq_false_iff_ne]; exact q
    have H' : Hid (∀ j (h : j < zs.length), j < k + 1 → ¬ zs[j] = n) := fun j h a => by
     by_cases e : j = k
     ·subst e; exact fun e => q e.symm
     ·exact H.out j h (by omega)
    clear q H
    generalize zs[k] = z at hck q'
    go_wp2
    go_round
    case rel => exact ⟨k + 1, by omega, by go_num, H'⟩
    case measure => simp [intOf]; omega
  ·have E := zaa (has_not (fun j h => H.out j h (by omega)))
   clear H
   go_wp2
   go_ret
   exact ⟨_, rfl, by rw [E.out]; rfl, rfl⟩

theorem zgt (v : Value) (zs : List Int) (n : Int) (w : World) (h : RdI w v zs) (hn : zs.length ≤ 1048576) :
  Calls Tryz.prog 84 #[v, .int .i64 n] w fun e w' => e = .returned (.bool (zho zs n)) ∧ w' = w := by
 have HZ := zaa h
 obtain ⟨aZ, cZ, rfl, _, _⟩ := h.shape
 clear h
 go_enter Tryz.func84, Tryz.ntmps84
 go_wp2_with fail
 refine (ztx _ zs n _ HZ.out hn).mono ?_
 rintro e w' ⟨r, rfl, hr, hw'⟩
 subst w'
 have R := zaa hr
 clear hr
 go_wp2
 go_ret
 exact ⟨zah R.out, rfl⟩

theorem Rd.take {w : World} {size : Nat} {ao : Option Addr} {n c : Nat} {xs : List Value} {m : Nat} (h : Rd w size (.slice ao n c) n xs) (hm : m ≤ n) : Rd w size (.slice ao m c) m (xs.take (m * size)) := by
 obtain ⟨h1, ao', cap, e, h2, h3⟩ := h
 cases e
 have hms : m * size ≤ n * size := Nat.mul_le_mul_right _ hm
 refine ⟨by rw [List.length_take, h1]; omega, ao, c, rfl, ⟨by omega, h2.2⟩, fun hp => ?_⟩
 obtain ⟨b, o, e1, e2, e3⟩ := h3 (by omega)
 exact ⟨b, o, e1, e2, fun j hj => by rw [e3 j (by omega), List.getElem?_take, if_pos hj]⟩
theorem RdI.take {w : World} {ao : Option Addr} {c : Nat} {zs : List Int} {m : Nat} (h : RdI w (.slice ao zs.length c) zs) (hm : m ≤ zs.length) : RdI w (.slice ao m c) (zs.take m) := by
 have := Rd.take h hm
 unfold RdI
 have e : (zs.take m).length = m := by rw [List.length_take]; omega
 have e2 : zco (zs.take m) = (zco zs).take (m * 1) := by rw [Nat.mul_one]; simp [zco, List.map_take]
 rw [e, e2]
 exact this
/-- No number stands twice. -/
def zig (zs : List Int) : Bool := decide (∀ k (h : k < zs.length), zho (zs.take k) zs[k] = false)
theorem onceB_mk {zs : List Int} (h : ∀ k (h : k < zs.length), zho (zs.take k) zs[k] = false) : zig zs = true := decide_eq_true h
theorem onceB_not {zs : List Int} {k : Nat} (hk : k < zs.length) (h : zho (zs.take k) zs[k] = true) : zig zs = false := decide_eq_false (fun x => by have := x k hk; rw [h] at this; cases this)

set_option maxHeartbeats 2000000 in
theorem zky (v : Value) (zs : List Int) (w : World) (h : RdI w v zs) (hn : zs.length ≤ 1048576) :
  Calls Tryz.prog 40 #[v] w fun e w' => e = .returned (.bool (zig zs)) ∧ w' = w := by
 have HR := zaa h
 obtain ⟨aZ, cZ, rfl, hcap, hcZ⟩ := h.shape
 have HZ := zaa hcZ
 clear h hcZ
 go_enter Tryz.func40, Tryz.ntmps40
 go_wp2
 go_loop [3, 4, 7] (fun _ _ i => ∃ k : Nat, k ≤ zs.length ∧ i = .int .i64 k ∧ Hid (∀ j (h : j < zs.length), j < k → zho (zs.take j) zs[j] = false)) (fun _ _ i => zs.length - (intOf i).toNat)
 case atStart => exact ⟨0, by omega, rfl, fun j h a => absurd a (by omega)⟩
 case round =>
  obtain ⟨k, hk, rfl, H⟩ := hrel
  by_cases hlt : k < zs.length
  ·obtain ⟨b, o, rfl, hbl, hcell⟩ := HZ.out (by omega)
   have hck := hcell k hlt
   have RT := zaa (RdI.take HR.out hk)
   have LT := zaa (show (zs.take k).length ≤ 1048576 by rw [List.length_take]; omega)
   clear hcell
   cases q : zho (zs.take k) zs[k] with
   | false =>
    have H' : Hid (∀ j (h : j < zs.length), j < k + 1 → zho (zs.take j) zs[j] = false) := fun j h a => by
     by_cases e : j = k
     ·subst e; exact q
     ·exact H.out j h (by omega)
    have Q := zaa q
    clear q H
    generalize zs[k] = z at hck Q
    go_wp2_with (go_at_call 84; refine (zgt _ (zs.take k) z _ RT.out LT.out).mono ?_; rw [Q.out]; rintro e w' ⟨rfl, rfl⟩)
    go_round
    case rel => exact ⟨k + 1, by omega, by go_num, H'⟩
    case measure => simp [intOf]; omega
   | true =>
    have E := zaa (onceB_not hlt q)
    have Q := zaa q
    clear q H
    generalize zs[k] = z at hck Q
    go_wp2_with (go_at_call 84; refine (zgt _ (zs.take k) z _ RT.out LT.out).mono ?_; rw [Q.out]; rintro e w' ⟨rfl, rfl⟩)
    go_ret
    exact ⟨zah E.out.symm, rfl⟩
  ·have E := zaa (onceB_mk (fun j h => H.out j h (by omega)))
   clear H
   go_wp2
   go_ret
   exact ⟨zah E.out.symm, rfl⟩
end Go.Proofs.YtbbmljakfbhnpaaGreatDoor

namespace Go.Proofs.YtbbmljakfbhnpaaGreatDoor
open Go.RowKit

/-- The first words from a place on. -/
def ufL (at_ : Int) (zs : List Int) (k : Nat) : List Se := (List.range k).map (fun j : Nat => ⟨at_ + (j : Int), zs.getD j 0⟩)
theorem ufL_len (a : Int) (zs : List Int) (k : Nat) : (ufL a zs k).length = k := by simp [ufL]
theorem ufL_succ (a : Int) (zs : List Int) (k : Nat) (h : k < zs.length) : ufL a zs (k + 1) = ufL a zs k ++ [⟨a + (k : Int), zs[k]⟩] := by
 unfold ufL; rw [List.range_succ, List.map_append]
 simp [List.getD_eq_getElem?_getD, List.getElem?_eq_getElem h]

set_option maxRecDepth 100000 in
set_option maxHeartbeats 4000000 in
theorem zgn (a : Int) (v : Value) (zs : List Int) (w : World) (h : RdI w v zs) (hn : zs.length ≤ 64) (ha : 0 ≤ a ∧ a ≤ 1000) :
  Calls Tryz.prog 44 #[.int .i64 a, v] w fun e w' => ∃ v', e = .returned v' ∧ Row w' 47 2 w.heap.size w'.heap.size v' (ufL a zs zs.length).length (ses (ufL a zs zs.length)) ∧ Below w.heap.size w w' := by
 obtain ⟨aU, cU, rfl, _, hcU⟩ := h.shape
 have HU := zaa hcU
 obtain ⟨ha0, ha1⟩ := ha
 clear h hcU
 go_enter Tryz.func44, Tryz.ntmps44
 go_wp2
 go_loopw [5, 6, 7, 10] (fun vL _ _ i wr => ∃ m : Nat, m ≤ zs.length ∧ i = .int .i64 m ∧ Hid (UpI w wr vL (ufL a zs m)) ∧ w.heap.size ≤ wr.heap.size) (fun _ _ _ i _ => zs.length - (intOf i).toNat)
 case atStart => exact ⟨0, by omega, rfl, ⟨World.ownsRow_nil _ _ _ _, Below.refl _ _⟩, Nat.le_refl _⟩
 case round =>
  obtain ⟨m, hm, rfl, I, hz⟩ := hrel
  by_cases hlt : m < zs.length
  ·obtain ⟨b, o, rfl, hbl, hcell⟩ := HU.out (by omega)
   have e0 := (I.out.b.cell (p := ⟨b, o + m, none⟩) hbl).trans (hcell m hlt)
   have m0 : (0 : Int) ≤ (m : Int) := by omega
   have m1 : (m : Int) < (zs.length : Int) := by omega
   have NX := zaa (ufL_succ a zs m hlt)
   have hle : (ufL a zs m).length ≤ 64 := by rw [ufL_len]; omega
   clear hcell
   generalize zs[m] = x at *
   obtain ⟨wb, hwb⟩ : ∃ wb : World, wb = wr.alloc (.cells #[.int .i64 (a + (m : Int)), .int .i64 x] 47) := ⟨_, rfl⟩
   have IB : Hid (UpI w wb u5 (ufL a zs m)) := by rw [hwb]; exact I.out.below ((Below.refl _ _).alloc (Nat.le_refl _) _)
   have RB : Hid (Rd wb 2 (.slice (some ⟨wr.heap.size, 0, none⟩) 1 1) 1 (ses [⟨a + (m : Int), x⟩])) := by rw [hwb]; exact zhm wr _ _
   have hzb := IB.out.z
   subst hwb
   go_wp2_with (first
    | (at_builtin; refine zae _ rfl (.tmp 15) (.tmp 21) 39 rfl w.heap.size 47 (.agg #[.int .i64 0, .int .i64 0]) 2 16 Tryz.underlying39 zjg rfl (by decide) _ _ _ rfl IB.out.l _ 1 _ rfl RB.out (zef _) (by simp [maxLen]; omega) (by omega) (by omega) ?_))
   intro vN wN hownN hgrN
   have G := zaa (IB.out.grow [⟨a + (m : Int), x⟩] hownN hgrN)
   rw [← NX.out] at G
   have hzN := G.out.z
   clear hownN hgrN IB RB I
   go_wp2
   go_roundw
   case rel => exact ⟨m + 1, by omega, by go_num, G, by omega⟩
   case measure => simp [intOf]; omega
  ·obtain rfl : m = zs.length := by omega
   obtain ⟨-, aL, cL, hvL, -⟩ := (zac I.out.l).rd
   subst hvL
   go_wp2
   go_ret
   exact ⟨_, rfl, zac I.out.l, I.out.b⟩
end Go.Proofs.YtbbmljakfbhnpaaGreatDoor

namespace Go.Proofs.YtbbmljakfbhnpaaGreatDoor
open Go.RowKit

set_option maxRecDepth 100000 in
set_option maxHeartbeats 2000000 in
theorem eq8 (a0 a1 a2 a3 a4 a5 a6 a7 b0 b1 b2 b3 b4 b5 b6 b7 : Int) (w : World) : (Op.equalIn 9999 42 (.agg #[.int .i64 a0, .int .i64 a1, .int .i64 a2, .int .i64 a3, .int .i64 a4, .int .i64 a5, .int .i64 a6, .int .i64 a7]) (.agg #[.int .i64 b0, .int .i64 b1, .int .i64 b2, .int .i64 b3, .int .i64 b4, .int .i64 b5, .int .i64 b6, .int .i64 b7])).run Tryz.prog w = .ok (decide ([a0, a1, a2, a3, a4, a5, a6, a7] = [b0, b1, b2, b3, b4, b5, b6, b7])) w := by
 have U3 := Tryz.underlying3
 have A3 := Tryz.isAgg3
 have Z3 := Tryz.sizeOf3
 rw [show (9999 : Nat) = 9998 + 1 from rfl, Op.equalIn]
 simp only [Sem.run_bind, run_underlying Tryz.underlying42, Result.andThen_ok]
 simp only [Std.Legacy.Range.forIn_eq_forIn_range', Std.Legacy.Range.size, Nat.sub_zero, Nat.add_sub_cancel, Nat.div_one, List.range'_succ, List.range'_zero, List.forIn_cons, List.forIn_nil]
 go_simp
 by_cases h0 : a0 = b0
 case neg => simp [h0]
 by_cases h1 : a1 = b1
 case neg => simp [h0, h1]
 by_cases h2 : a2 = b2
 case neg => simp [h0, h1, h2]
 by_cases h3 : a3 = b3
 case neg => simp [h0, h1, h2, h3]
 by_cases h4 : a4 = b4
 case neg => simp [h0, h1, h2, h3, h4]
 by_cases h5 : a5 = b5
 case neg => simp [h0, h1, h2, h3, h4, h5]
 by_cases h6 : a6 = b6
 case neg => simp [h0, h1, h2, h3, h4, h5, h6]
 by_cases h7 : a7 = b7
 case neg => simp [h0, h1, h2, h3, h4, h5, h6, h7]
 simp [h0, h1, h2, h3, h4, h5, h6, h7]

/-- Two rows of numbers are alike. -/
def zpt (xs ys : List Int) : Bool := decide (xs = ys)
theorem zvj {xs ys : List Int} (h : xs = ys) : zpt xs ys = true := decide_eq_true h
theorem inoEq_f {xs ys : List Int} (h : ¬ xs = ys) : zpt xs ys = false := decide_eq_false h

set_option maxRecDepth 100000 in
set_option maxHeartbeats 4000000 in
@[go_sem ↓] theorem eqIno (k s l a0 a1 a2 a3 a4 a5 a6 a7 k' s' l' b0 b1 b2 b3 b4 b5 b6 b7 : Int) (w : World) : (Op.equalIn 10000 44 (.agg #[.int .i64 k, .int .i64 s, .int .i64 l, .int .i64 a0, .int .i64 a1, .int .i64 a2, .int .i64 a3, .int .i64 a4, .int .i64 a5, .int .i64 a6, .int .i64 a7]) (.agg #[.int .i64 k', .int .i64 s', .int .i64 l', .int .i64 b0, .int .i64 b1, .int .i64 b2, .int .i64 b3, .int .i64 b4, .int .i64 b5, .int .i64 b6, .int .i64 b7])).run Tryz.prog w = .ok (zpt [k, s, l, a0, a1, a2, a3, a4, a5, a6, a7] [k', s', l', b0, b1, b2, b3, b4, b5, b6, b7]) w := by
 have e8 := eq8 a0 a1 a2 a3 a4 a5 a6 a7 b0 b1 b2 b3 b4 b5 b6 b7 w
 unfold zpt
 by_cases g0 : k = k'
 case neg => go_simp
 by_cases g1 : s = s'
 case neg => go_simp
 by_cases g2 : l = l'
 case neg => go_simp
 subst g0 g1 g2
 go_simp
 split
 ·rename_i h
  rw [h]
 ·rename_i h
  rw [Bool.not_eq_false] at h
  rw [h]

set_option maxRecDepth 100000 in
set_option maxHeartbeats 2000000 in
theorem znq (x : Ino) (w : World) (hT : TS w) (hE : ED w) (hr : x.R) : Calls Tryz.prog 43 #[x.v] w fun e w' => e = .returned (.bool (zdm x)) ∧ Below w.heap.size w w' := by
 have hv : x.v = .agg x.cs.toArray := rfl
 have BW : Hid (Below w.heap.size w (w.alloc (.cells x.cs.toArray 44))) := (Below.refl _ _).alloc (Nat.le_refl _) _
 have CA : Hid (∀ j, (w.alloc (.cells x.cs.toArray 44)).cell? ⟨w.heap.size, j, none⟩ = x.cs[j]?) := fun j => (zao (xs := x.cs) (zag rfl) j).1
 have T : Hid (TS (w.alloc (.cells x.cs.toArray 44))) := hT.below BW.out
 obtain ⟨d0, d1, d2, d3, d4, d5, d6, d7, d8, d9, d10⟩ := ED.cells (hE.below BW.out)
 obtain ⟨p0, p1, p2, p3, p4, p5, p6, p7, p8, p9, p10⟩ := Ino.all CA.out
 have LF := zaa (fun w1 (h : TS w1) => isFile_any x w1 h hr)
 rw [hv]
 clear hT hE hr CA
 by_cases h0 : x.ns = [0, 0, 0, 0, 0, 0, 0, 0, 0, 0, 0]
 ·have E := zaa (ino_empty h0)
  have q1 : zpt [x.kind, x.size, x.links, x.m0, x.m1, x.m2, x.m3, x.m4, x.m5, x.m6, x.m7] [0, 0, 0, 0, 0, 0, 0, 0, 0, 0, 0] = true := zvj h0
  clear h0
  go_enter Tryz.func43, Tryz.ntmps43
  go_wp2
  go_ret
  exact ⟨zah E.out.symm, BW.out⟩
 have q1 : zpt [x.kind, x.size, x.links, x.m0, x.m1, x.m2, x.m3, x.m4, x.m5, x.m6, x.m7] [0, 0, 0, 0, 0, 0, 0, 0, 0, 0, 0] = false := inoEq_f h0
 by_cases h1 : x.ns = [2, 0, 1, 0, 0, 0, 0, 0, 0, 0, 0]
 ·have E := zaa (ino_dir h1)
  have q2 : zpt [x.kind, x.size, x.links, x.m0, x.m1, x.m2, x.m3, x.m4, x.m5, x.m6, x.m7] [2, 0, 1, 0, 0, 0, 0, 0, 0, 0, 0] = true := zvj h1
  clear h0 h1
  go_enter Tryz.func43, Tryz.ntmps43
  go_wp2
  go_ret
  exact ⟨zah E.out.symm, BW.out⟩
 have q2 : zpt [x.kind, x.size, x.links, x.m0, x.m1, x.m2, x.m3, x.m4, x.m5, x.m6, x.m7] [2, 0, 1, 0, 0, 0, 0, 0, 0, 0, 0] = false := inoEq_f h1
 have E := zaa (ino_file h0 h1)
 clear h0 h1
 go_enter Tryz.func43, Tryz.ntmps43
 go_wp2_with fail
 refine (LF.out _ T.out).mono ?_
 rw [E.out]
 rintro e w1 ⟨rfl, hb1⟩
 have B1 := zaa (zab BW.out hb1 BW.out.size)
 clear hb1
 go_wp2
 go_ret
 exact ⟨rfl, B1.out⟩
end Go.Proofs.YtbbmljakfbhnpaaGreatDoor

namespace Go.Proofs.YtbbmljakfbhnpaaGreatDoor
open Go.RowKit

theorem arr11_from (b : Nat) (w : World) : (Instr.sliceAt 84 (.pointer (some ⟨b, 0, none⟩)) (some (.int .i64 3)) none none).run Tryz.prog w = .ok (.slice (some ⟨b, 3, none⟩) 8 8) w := by
 have al : Tryz.prog.arrayLen 84 = 11 := by kernel_rfl
 rw [run_sliceAt_array_l w 84 ⟨b, 0, none⟩ (by kernel_rfl) .i64 3 (by omega) (by rw [al]; omega), al]
 have sz : (sizeOf (Tryz.prog.elem 84)).run Tryz.prog w = .ok 1 w := by kernel_rfl
 rw [sz]
 simp [Result.andThen, slicedAt, Addr.add]
theorem arr11_all (b : Nat) (w : World) : (Instr.sliceAt 84 (.pointer (some ⟨b, 0, none⟩)) none none none).run Tryz.prog w = .ok (.slice (some ⟨b, 0, none⟩) 11 11) w := by
 have al : Tryz.prog.arrayLen 84 = 11 := by kernel_rfl
 rw [run_sliceAt_array_all w 84 ⟨b, 0, none⟩ (by kernel_rfl), al]
 have sz : (sizeOf (Tryz.prog.elem 84)).run Tryz.prog w = .ok 1 w := by kernel_rfl
 rw [sz]
 simp [Result.andThen, slicedAt, Addr.add]
theorem map_all (b : Nat) (w : World) : (Instr.sliceAt 42 (.pointer (some ⟨b, 3, none⟩)) none none none).run Tryz.prog w = .ok (.slice (some ⟨b, 3, none⟩) 8 8) w := by
 have al : Tryz.prog.arrayLen 42 = 8 := by kernel_rfl
 rw [run_sliceAt_array_all w 42 ⟨b, 3, none⟩ (by kernel_rfl), al]
 have sz : (sizeOf (Tryz.prog.elem 42)).run Tryz.prog w = .ok 1 w := by kernel_rfl
 rw [sz]
 simp [Result.andThen, slicedAt, Addr.add]
/-- An inode's words, ahead of its map's. -/
def preC (x : Ino) : List Value := [.int .i64 x.kind, .int .i64 x.size, .int .i64 x.links, .int .i64 0, .int .i64 0, .int .i64 0, .int .i64 0, .int .i64 0, .int .i64 0, .int .i64 0, .int .i64 0]
def mapC (x : Ino) : List Value := [.int .i64 x.m0, .int .i64 x.m1, .int .i64 x.m2, .int .i64 x.m3, .int .i64 x.m4, .int .i64 x.m5, .int .i64 x.m6, .int .i64 x.m7]
theorem splice_ino (x : Ino) : splice (preC x) 3 (mapC x) = x.cs := rfl
theorem mapC_one (x : Ino) : ∀ v ∈ mapC x, v.oneCell' = true := by
 intro v hv
 simp [mapC] at hv
 rcases hv with rfl | rfl | rfl | rfl | rfl | rfl | rfl | rfl <;> rfl
theorem mapC_at (x : Ino) (j : Nat) (v : Value) (h : (mapC x)[j]? = some v) : x.cs[3 + j]? = some v := by
 have hj : j < 8 := by
  have := (List.getElem?_eq_some_iff.1 h).1
  exact this
 rcases (show j = 0 ∨ j = 1 ∨ j = 2 ∨ j = 3 ∨ j = 4 ∨ j = 5 ∨ j = 6 ∨ j = 7 by omega) with rfl | rfl | rfl | rfl | rfl | rfl | rfl | rfl <;> exact h
theorem ns_cs (x : Ino) : zco x.ns = x.cs := rfl
theorem rd_ns {x : Ino} {w : World} {b : Nat} {t : TypeId} (h : w.heap[b]? = some (.cells x.cs.toArray t (0, 0))) : RdI w (.slice (some ⟨b, 0, none⟩) 11 11) x.ns := by
 refine ⟨by rw [zda, Nat.mul_one], some ⟨b, 0, none⟩, 11, rfl, ⟨Nat.le_refl _, fun e => by cases e⟩, fun _ => ⟨b, 0, rfl, (Array.getElem?_eq_some_iff.1 h).1, fun j hj => ?_⟩⟩
 rw [Nat.zero_add, ns_cs]
 exact (zao (xs := x.cs) h j).1
theorem uf_wr (i : Int) (x : Ino) : ufL (48 + 12 * i) x.ns x.ns.length = wrL i x 8 := by
 have e1 : x.ns.length = 11 := rfl
 rw [e1]
 simp [ufL, wrL, List.range_succ, Ino.ns, Ino.map]

theorem sz3 : (Tryz.prog.info? 3).map (·.size) = some 1 := by kernel_rfl

set_option maxRecDepth 100000 in
set_option maxHeartbeats 4000000 in
theorem zec (i : Int) (x : Ino) (w : World) (hT : TS w) (hE : ED w) (hr : x.R) :
  Calls Tryz.prog 9 #[.int .i64 i, x.v] w fun e w' => ∃ v', e = .returned (.tuple #[v', .int .i64 (iuC i x)]) ∧ Row w' 47 2 w.heap.size w'.heap.size v' (iuL i x).length (ses (iuL i x)) ∧ Below w.heap.size w w' := by
 have hv : x.v = .agg x.cs.toArray := rfl
 have BW : Hid (Below w.heap.size w (w.alloc (.cells x.cs.toArray 44))) := (Below.refl _ _).alloc (Nat.le_refl _) _
 have CA : Hid (∀ w', Below (w.alloc (.cells x.cs.toArray 44)).heap.size (w.alloc (.cells x.cs.toArray 44)) w' → ∀ j, w'.cell? ⟨w.heap.size, j, none⟩ = x.cs[j]?) := fun w' hb j => by
  have : w'.heap[w.heap.size]? = some (.cells x.cs.toArray 44 (0, 0)) := (hb.block _ (by simp)).trans (zag rfl)
  exact (zao (xs := x.cs) this j).1
 have T : Hid (TS (w.alloc (.cells x.cs.toArray 44))) := hT.below BW.out
 have TE : Hid (ED (w.alloc (.cells x.cs.toArray 44))) := hE.below BW.out
 have LF := zaa (fun w1 (h : TS w1) (g : ED w1) => znq x w1 h g hr)
 have hz : w.heap.size < (w.alloc (.cells x.cs.toArray 44)).heap.size := by simp
 obtain ⟨W, hW⟩ : ∃ W, W = w.alloc (.cells x.cs.toArray 44) := ⟨_, rfl⟩
 rw [← hW] at BW CA T TE hz
 rw [hv]
 clear hT hE hr
 rcases iu_cases i x with ⟨c1, e1, e2⟩ | ⟨c1, c2, e1, e2⟩ | ⟨c1, c2, e1, e2⟩
 ·rw [e1, e2]
  obtain ⟨k1, k2⟩ := zwm (i := i) (f := 0) (by omega)
  have K1 := zaa k1
  have K2 := zaa k2
  clear e1 e2 c1 k1 k2
  go_enter Tryz.func9, Tryz.ntmps9
  go_wp2_with fail
  rw [← hW]
  clear hW
  refine (zfo _ _ _).mono ?_
  rw [K2.out]
  rintro e w' ⟨rfl, hw'⟩
  subst w'
  go_wp2
  go_ret2
  exact ⟨_, rfl, Row.nil _ _ _ _ _, BW.out⟩
 ·rw [e1, e2]
  obtain ⟨k1, k2⟩ := ino_in (i := i) (f := 0) (by omega) (by omega)
  have K1 := zaa k1
  have K2 := zaa k2
  have C2 := zaa c2
  clear e1 e2 c1 c2 k1 k2
  go_enter Tryz.func9, Tryz.ntmps9
  go_wp2_with fail
  rw [← hW]
  clear hW
  refine (zfo _ _ _).mono ?_
  rw [K1.out, K2.out]
  rintro e w' ⟨rfl, hw'⟩
  subst w'
  obtain ⟨p0, p1, p2, p3, p4, p5, p6, p7, p8, p9, p10⟩ := Ino.all (CA.out W (Below.refl _ _))
  go_wp2_with fail
  refine (LF.out _ T.out TE.out).mono ?_
  rw [C2.out]
  rintro e w1 ⟨rfl, hb⟩
  have B1 := zaa (zab BW.out hb (by omega))
  clear hb p0 p1 p2 p3 p4 p5 p6 p7 p8 p9 p10
  go_wp2
  go_ret2
  exact ⟨_, rfl, Row.nil _ _ _ _ _, B1.out⟩
 ·rw [e1, e2]
  obtain ⟨k1, k2⟩ := ino_in (i := i) (f := 0) (by omega) (by omega)
  have K1 := zaa k1
  have K2 := zaa k2
  have C2 := zaa c2
  have UF := zaa (uf_wr i x)
  have RA := zaa (show 0 ≤ 48 + 12 * i ∧ 48 + 12 * i ≤ 1000 by omega)
  clear e1 e2 c1 c2 k1 k2
  go_enter Tryz.func9, Tryz.ntmps9
  go_wp2_with fail
  rw [← hW]
  clear hW
  refine (zfo _ _ _).mono ?_
  rw [K1.out, K2.out]
  rintro e w' ⟨rfl, hw'⟩
  subst w'
  obtain ⟨p0, p1, p2, p3, p4, p5, p6, p7, p8, p9, p10⟩ := Ino.all (CA.out W (Below.refl _ _))
  go_wp2_with fail
  refine (LF.out _ T.out TE.out).mono ?_
  rw [C2.out]
  rintro e w1 ⟨rfl, hb⟩
  have B1 := zaa (zab BW.out hb (by omega))
  have hz1 : W.heap.size ≤ w1.heap.size := hb.size
  have HB := zaa hb
  obtain ⟨d0, d1, d2, d3, d4, d5, d6, d7, d8, d9, d10⟩ := Ino.all (CA.out w1 hb)
  clear hb p0 p1 p2 p3 p4 p5 p6 p7 p8 p9 p10
  go_wp2_with fail
  clear d0 d1 d2 d3 d4 d5 d6 d7 d8 d9 d10
  obtain ⟨wb, hwb⟩ : ∃ wb, wb = w1.alloc (.cells (preC x).toArray 84) := ⟨_, rfl⟩
  have HC : Hid (Below w1.heap.size w1 wb) := by rw [hwb]; exact (Below.refl _ _).alloc (Nat.le_refl _) _
  have HZ : w1.heap.size < wb.heap.size := by rw [hwb]; simp
  have HG : Hid (∀ w', Below wb.heap.size wb w' → w'.heap[w1.heap.size]? = some (.cells (preC x).toArray 84 (0, 0))) := fun w' hb => (hb.block _ HZ).trans (by rw [hwb]; exact zag rfl)
  have HS : Hid (∀ w', Below wb.heap.size wb w' → ∀ j v, (mapC x)[j]? = some v → w'.cell? ((⟨w.heap.size, 3, none⟩ : Addr).add j) = some v) := fun w' hb j v hv => by rw [Addr.add_lit]; exact (CA.out w' (zab (zab HB.out HC.out hz1) hb (by omega)) (3 + j)).trans (mapC_at x j v hv)
  have HD : Hid (∀ w', Below wb.heap.size wb w' → Below w1.heap.size w1 w') := fun w' hb => zab HC.out hb (by omega)
  unfold preC at hwb
  rw [← hwb]
  clear hwb
  have s1 := arr11_from w1.heap.size
  have s2 := map_all w.heap.size
  have s3 := arr11_all w1.heap.size
  go_region_held3 (fun _ => True) (trivial)
   (first
    | (refine step_copy_splice rfl (.tmp 27) (.tmp 29) 28 28 rfl 3 Tryz.underlying28 sz3 _ _ _ _ _ _ rfl rfl w1.heap.size 3 (preC x) 84 (HG.out _ (by repeat (first | exact Below.refl _ _ | refine Below.drew ?_))) (mapC x) rfl (fun _ => ⟨rfl, _, rfl, HS.out _ (by repeat (first | exact Below.refl _ _ | refine Below.drew ?_))⟩) (Nat.le_refl 11) (mapC_one x) w1.heap.size w1 (HD.out _ (by repeat (first | exact Below.refl _ _ | refine Below.drew ?_))) (Nat.le_refl _) ?_; intro w4 hg4 hb4))
  all_goals
   rw [splice_ino] at hg4
   have R4 := zaa (rd_ns hg4.out)
   have B4 := zaa (zab B1.out hb4 (by omega))
   have hz4 : w1.heap.size ≤ w4.heap.size := hb4.size
   clear hg4 hb4 HG HS HD HC s1 s2
   go_wp2_with fail
   refine (zgn _ _ x.ns _ R4.out (show (11 : Nat) ≤ 64 by omega) RA.out).mono ?_
   rw [UF.out]
   rintro e w5 ⟨v5, rfl, hr5, hb5⟩
   obtain ⟨-, aL, cL, hvL, -⟩ := hr5.rd
   subst hvL
   have R5 := zaa (hr5.wide (by omega : w.heap.size ≤ w4.heap.size) (Nat.le_refl _))
   have B5 := zaa (zab B4.out hb5 (by omega))
   clear hr5 hb5
   go_wp2
   go_ret2
   exact ⟨_, rfl, R5.out, B5.out⟩
end Go.Proofs.YtbbmljakfbhnpaaGreatDoor
