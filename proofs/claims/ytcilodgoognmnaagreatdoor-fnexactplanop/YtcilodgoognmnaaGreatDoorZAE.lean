/- Several texts laid together: PiG, PiC, PiD, PiE, PiF, PiH. -/
import Derived.Test.YtcilodgoognmnaaGreatDoorZAD
import Derived.Test.YtcilodgoognmnaaGreatDoorZAB
import Derived.Laws.CopyRow
import Derived.Laws.CopyOwn
import Derived.Test.YtcilodgoognmnaaGreatDoorZAC
import Derived.Deep.RegionLaw
namespace Go.Proofs.YtcilodgoognmnaaGreatDoor
open Go.RowKit
theorem has_at {zs : List Int} {n : Int} {k : Nat} (hk : k < zs.length) (h : n = zs[k]) : zem zs n = true := by
 unfold zem
 rw [List.contains_eq_any_beq, List.any_eq_true]
 exact ⟨zs[k], List.getElem_mem _, by rw [h]; simp⟩
set_option maxHeartbeats 2000000 in
theorem zue (v : Value) (zs : List Int) (n : Int) (w : World) (h : RdI w v zs) (hn : zs.length ≤ 1048576) :
  Calls Tryz.prog 226 #[v, .int .i64 n] w fun e w' => ∃ r : Int, e = .returned (.int .i64 r) ∧ (decide (0 ≤ r) = zem zs n) ∧ w' = w := by
 obtain ⟨aZ, cZ, rfl, _, hcZ⟩ := h.shape
 have HZ := zaa hcZ
 clear h hcZ
 go_enter Tryz.func226, Tryz.ntmps226
 go_wp2
 go_loop [5, 8] (fun _ i => ∃ k : Nat, k ≤ zs.length ∧ i = .int .i64 k ∧ Hid (∀ j (h : j < zs.length), j < k → ¬ zs[j] = n)) (fun _ i => zs.length - (intOf i).toNat)
 case atStart => exact ⟨0, by omega, rfl, fun j h a => absurd a (by omega)⟩
 case round =>
  obtain ⟨k, hk, rfl, H⟩ := hrel
  by_cases hlt : k < zs.length
  ·obtain ⟨b, o, rfl, hbl, hcell⟩ := HZ.out (by omega)
   have hck := hcell k hlt
   clear hcell
   by_cases q : n = zs[k]
   ·have q' : (n == zs[k]) = true := by rw [beq_iff_eq]; exact q
    have E := zaa (has_at hlt q)
    clear q H
    generalize zs[k] = z at *
    go_wp2
    go_ret
    exact ⟨_, rfl, by rw [E.out]; exact decide_eq_true (by omega), rfl⟩
   ·have q' : (n == zs[k]) = false := by rw [beq_eq_false_iff_ne]; exact q
    have H' : Hid (∀ j (h : j < zs.length), j < k + 1 → ¬ zs[j] = n) := fun j h a => by
     by_cases e : j = k
     ·subst e; exact fun e => q e.symm
     ·exact H.out j h (by omega)
    clear q H
    generalize zs[k] = z at hck q'
    go_wp2
    go_round
    case rel => exact ⟨k + 1, by omega, by go_num, H'⟩
    case measure => simp [intOf]; omega
  ·have E := zaa (has_not (fun j h => H.out j h (by omega)))
   clear H
   go_wp2
   go_ret
   exact ⟨_, rfl, by rw [E.out]; rfl, rfl⟩
theorem zew (v : Value) (zs : List Int) (n : Int) (w : World) (h : RdI w v zs) (hn : zs.length ≤ 1048576) :
  Calls Tryz.prog 199 #[v, .int .i64 n] w fun e w' => e = .returned (.bool (zem zs n)) ∧ w' = w := by
 have HZ := zaa h
 obtain ⟨aZ, cZ, rfl, _, _⟩ := h.shape
 clear h
 go_enter Tryz.func199, Tryz.ntmps199
 go_wp2_with fail
 refine (zue _ zs n _ HZ.out hn).mono ?_
 rintro e w' ⟨r, rfl, hr, hw'⟩
 subst w'
 have R := zaa hr
 clear hr
 go_wp2
 go_ret
 exact ⟨zaf R.out, rfl⟩
theorem Rd.take {w : World} {size : Nat} {ao : Option Addr} {n c : Nat} {xs : List Value} {m : Nat} (h : Rd w size (.slice ao n c) n xs) (hm : m ≤ n) : Rd w size (.slice ao m c) m (xs.take (m * size)) := by
 obtain ⟨h1, ao', cap, e, h2, h3⟩ := h
 cases e
 have hms : m * size ≤ n * size := Nat.mul_le_mul_right _ hm
 refine ⟨by rw [List.length_take, h1]; omega, ao, c, rfl, ⟨by omega, h2.2⟩, fun hp => ?_⟩
 obtain ⟨b, o, e1, e2, e3⟩ := h3 (by omega)
 exact ⟨b, o, e1, e2, fun j hj => by rw [e3 j (by omega), List.getElem?_take, if_pos hj]⟩
theorem RdI.take {w : World} {ao : Option Addr} {c : Nat} {zs : List Int} {m : Nat} (h : RdI w (.slice ao zs.length c) zs) (hm : m ≤ zs.length) : RdI w (.slice ao m c) (zs.take m) := by
 have := Rd.take h hm
 unfold RdI
 have e : (zs.take m).length = m := by rw [List.length_take]; omega
 have e2 : zec (zs.take m) = (zec zs).take (m * 1) := by rw [Nat.mul_one]; simp [zec, List.map_take]
 rw [e, e2]
 exact this
def zex (zs : List Int) : Bool := decide (∀ k (h : k < zs.length), zem (zs.take k) zs[k] = false)
theorem onceB_mk {zs : List Int} (h : ∀ k (h : k < zs.length), zem (zs.take k) zs[k] = false) : zex zs = true := decide_eq_true h
theorem zwc {zs : List Int} {k : Nat} (hk : k < zs.length) (h : zem (zs.take k) zs[k] = true) : zex zs = false := decide_eq_false (fun x => by have := x k hk; rw [h] at this; cases this)
set_option maxHeartbeats 2000000 in
theorem zmw (v : Value) (zs : List Int) (w : World) (h : RdI w v zs) (hn : zs.length ≤ 1048576) :
  Calls Tryz.prog 144 #[v] w fun e w' => e = .returned (.bool (zex zs)) ∧ w' = w := by
 have HR := zaa h
 obtain ⟨aZ, cZ, rfl, hcap, hcZ⟩ := h.shape
 have HZ := zaa hcZ
 clear h hcZ
 go_enter Tryz.func144, Tryz.ntmps144
 go_wp2
 go_loop [3, 4, 7] (fun _ _ i => ∃ k : Nat, k ≤ zs.length ∧ i = .int .i64 k ∧ Hid (∀ j (h : j < zs.length), j < k → zem (zs.take j) zs[j] = false)) (fun _ _ i => zs.length - (intOf i).toNat)
 case atStart => exact ⟨0, by omega, rfl, fun j h a => absurd a (by omega)⟩
 case round =>
  obtain ⟨k, hk, rfl, H⟩ := hrel
  by_cases hlt : k < zs.length
  ·obtain ⟨b, o, rfl, hbl, hcell⟩ := HZ.out (by omega)
   have hck := hcell k hlt
   have RT := zaa (RdI.take HR.out hk)
   have LT := zaa (show (zs.take k).length ≤ 1048576 by rw [List.length_take]; omega)
   clear hcell
   cases q : zem (zs.take k) zs[k] with
   | false =>
    have H' : Hid (∀ j (h : j < zs.length), j < k + 1 → zem (zs.take j) zs[j] = false) := fun j h a => by
     by_cases e : j = k
     ·subst e; exact q
     ·exact H.out j h (by omega)
    have Q := zaa q
    clear q H
    generalize zs[k] = z at hck Q
    go_wp2_with (go_at_call 199; refine (zew _ (zs.take k) z _ RT.out LT.out).mono ?_; rw [Q.out]; rintro e w' ⟨rfl, rfl⟩)
    go_round
    case rel => exact ⟨k + 1, by omega, by go_num, H'⟩
    case measure => simp [intOf]; omega
   | true =>
    have E := zaa (zwc hlt q)
    have Q := zaa q
    clear q H
    generalize zs[k] = z at hck Q
    go_wp2_with (go_at_call 199; refine (zew _ (zs.take k) z _ RT.out LT.out).mono ?_; rw [Q.out]; rintro e w' ⟨rfl, rfl⟩)
    go_ret
    exact ⟨zaf E.out.symm, rfl⟩
  ·have E := zaa (onceB_mk (fun j h => H.out j h (by omega)))
   clear H
   go_wp2
   go_ret
   exact ⟨zaf E.out.symm, rfl⟩
end Go.Proofs.YtcilodgoognmnaaGreatDoor

namespace Go.Proofs.YtcilodgoognmnaaGreatDoor
open Go.RowKit
def ufL (at_ : Int) (zs : List Int) (k : Nat) : List Se := (List.range k).map (fun j : Nat => ⟨at_ + (j : Int), zs.getD j 0⟩)
theorem ufL_len (a : Int) (zs : List Int) (k : Nat) : (ufL a zs k).length = k := by simp [ufL]
theorem ufL_succ (a : Int) (zs : List Int) (k : Nat) (h : k < zs.length) : ufL a zs (k + 1) = ufL a zs k ++ [⟨a + (k : Int), zs[k]⟩] := by
 unfold ufL; rw [List.range_succ, List.map_append]
 simp [List.getD_eq_getElem?_getD, List.getElem?_eq_getElem h]
set_option maxRecDepth 100000 in
set_option maxHeartbeats 4000000 in
theorem zhm (a : Int) (v : Value) (zs : List Int) (w : World) (h : RdI w v zs) (hn : zs.length ≤ 64) (ha : 0 ≤ a ∧ a ≤ 1000) :
  Calls Tryz.prog 261 #[.int .i64 a, v] w fun e w' => ∃ v', e = .returned v' ∧ Row w' 130 2 w.heap.size w'.heap.size v' (ufL a zs zs.length).length (ses (ufL a zs zs.length)) ∧ Below w.heap.size w w' := by
 obtain ⟨aU, cU, rfl, _, hcU⟩ := h.shape
 have HU := zaa hcU
 obtain ⟨ha0, ha1⟩ := ha
 clear h hcU
 go_enter Tryz.func261, Tryz.ntmps261
 go_wp2
 go_loopw [5, 6, 7, 10] (fun vL _ _ i wr => ∃ m : Nat, m ≤ zs.length ∧ i = .int .i64 m ∧ Hid (UpI w wr vL (ufL a zs m)) ∧ w.heap.size ≤ wr.heap.size) (fun _ _ _ i _ => zs.length - (intOf i).toNat)
 case atStart => exact ⟨0, by omega, rfl, ⟨World.ownsRow_nil _ _ _ _, Below.refl _ _⟩, Nat.le_refl _⟩
 case round =>
  obtain ⟨m, hm, rfl, I, hz⟩ := hrel
  by_cases hlt : m < zs.length
  ·obtain ⟨b, o, rfl, hbl, hcell⟩ := HU.out (by omega)
   have e0 := (I.out.b.cell (p := ⟨b, o + m, none⟩) hbl).trans (hcell m hlt)
   have m0 : (0 : Int) ≤ (m : Int) := by omega
   have m1 : (m : Int) < (zs.length : Int) := by omega
   have NX := zaa (ufL_succ a zs m hlt)
   have hle : (ufL a zs m).length ≤ 64 := by rw [ufL_len]; omega
   clear hcell
   generalize zs[m] = x at *
   obtain ⟨wb, hwb⟩ : ∃ wb : World, wb = wr.alloc (.cells #[.int .i64 (a + (m : Int)), .int .i64 x] 130) := ⟨_, rfl⟩
   have IB : Hid (UpI w wb u5 (ufL a zs m)) := by rw [hwb]; exact I.out.below ((Below.refl _ _).alloc (Nat.le_refl _) _)
   have RB : Hid (Rd wb 2 (.slice (some ⟨wr.heap.size, 0, none⟩) 1 1) 1 (ses [⟨a + (m : Int), x⟩])) := by rw [hwb]; exact zfv wr _ _
   have hzb := IB.out.z
   subst hwb
   go_wp2_with (first
    | (at_builtin; refine zag _ rfl (.tmp 15) (.tmp 21) 57 rfl w.heap.size 130 (.agg #[.int .i64 0, .int .i64 0]) 2 16 Tryz.underlying57 zff rfl (by decide) _ _ _ rfl IB.out.l _ 1 _ rfl RB.out (zco _) (by simp [maxLen]; omega) (by omega) (by omega) ?_))
   intro vN wN hownN hgrN
   have G := zaa (IB.out.grow [⟨a + (m : Int), x⟩] hownN hgrN)
   rw [← NX.out] at G
   have hzN := G.out.z
   clear hownN hgrN IB RB I
   go_wp2
   go_roundw
   case rel => exact ⟨m + 1, by omega, by go_num, G, by omega⟩
   case measure => simp [intOf]; omega
  ·obtain rfl : m = zs.length := by omega
   obtain ⟨-, aL, cL, hvL, -⟩ := (zad I.out.l).rd
   subst hvL
   go_wp2
   go_ret
   exact ⟨_, rfl, zad I.out.l, I.out.b⟩
end Go.Proofs.YtcilodgoognmnaaGreatDoor

namespace Go.Proofs.YtcilodgoognmnaaGreatDoor
open Go.RowKit
set_option maxRecDepth 100000 in
set_option maxHeartbeats 2000000 in
theorem eq8 (a0 a1 a2 a3 a4 a5 a6 a7 b0 b1 b2 b3 b4 b5 b6 b7 : Int) (w : World) : (Op.equalIn 9999 95 (.agg #[.int .i64 a0, .int .i64 a1, .int .i64 a2, .int .i64 a3, .int .i64 a4, .int .i64 a5, .int .i64 a6, .int .i64 a7]) (.agg #[.int .i64 b0, .int .i64 b1, .int .i64 b2, .int .i64 b3, .int .i64 b4, .int .i64 b5, .int .i64 b6, .int .i64 b7])).run Tryz.prog w = .ok (decide ([a0, a1, a2, a3, a4, a5, a6, a7] = [b0, b1, b2, b3, b4, b5, b6, b7])) w := by
 have U3 := Tryz.underlying3
 have A3 := Tryz.isAgg3
 have Z3 := Tryz.sizeOf3
 rw [show (9999 : Nat) = 9998 + 1 from rfl, Op.equalIn]
 simp only [Sem.run_bind, run_underlying Tryz.underlying95, Result.andThen_ok]
 simp only [Std.Legacy.Range.forIn_eq_forIn_range', Std.Legacy.Range.size, Nat.sub_zero, Nat.add_sub_cancel, Nat.div_one, List.range'_succ, List.range'_zero, List.forIn_cons, List.forIn_nil]
 go_simp
 by_cases h0 : a0 = b0
 case neg => simp [h0]
 by_cases h1 : a1 = b1
 case neg => simp [h0, h1]
 by_cases h2 : a2 = b2
 case neg => simp [h0, h1, h2]
 by_cases h3 : a3 = b3
 case neg => simp [h0, h1, h2, h3]
 by_cases h4 : a4 = b4
 case neg => simp [h0, h1, h2, h3, h4]
 by_cases h5 : a5 = b5
 case neg => simp [h0, h1, h2, h3, h4, h5]
 by_cases h6 : a6 = b6
 case neg => simp [h0, h1, h2, h3, h4, h5, h6]
 by_cases h7 : a7 = b7
 case neg => simp [h0, h1, h2, h3, h4, h5, h6, h7]
 simp [h0, h1, h2, h3, h4, h5, h6, h7]
def zfh (xs ys : List Int) : Bool := decide (xs = ys)
theorem inoEq_t {xs ys : List Int} (h : xs = ys) : zfh xs ys = true := decide_eq_true h
theorem inoEq_f {xs ys : List Int} (h : ¬ xs = ys) : zfh xs ys = false := decide_eq_false h
set_option maxRecDepth 100000 in
set_option maxHeartbeats 4000000 in
@[go_sem ↓] theorem eqIno (k s l a0 a1 a2 a3 a4 a5 a6 a7 k' s' l' b0 b1 b2 b3 b4 b5 b6 b7 : Int) (w : World) : (Op.equalIn 10000 97 (.agg #[.int .i64 k, .int .i64 s, .int .i64 l, .int .i64 a0, .int .i64 a1, .int .i64 a2, .int .i64 a3, .int .i64 a4, .int .i64 a5, .int .i64 a6, .int .i64 a7]) (.agg #[.int .i64 k', .int .i64 s', .int .i64 l', .int .i64 b0, .int .i64 b1, .int .i64 b2, .int .i64 b3, .int .i64 b4, .int .i64 b5, .int .i64 b6, .int .i64 b7])).run Tryz.prog w = .ok (zfh [k, s, l, a0, a1, a2, a3, a4, a5, a6, a7] [k', s', l', b0, b1, b2, b3, b4, b5, b6, b7]) w := by
 have e8 := eq8 a0 a1 a2 a3 a4 a5 a6 a7 b0 b1 b2 b3 b4 b5 b6 b7 w
 unfold zfh
 by_cases g0 : k = k'
 case neg => go_simp
 by_cases g1 : s = s'
 case neg => go_simp
 by_cases g2 : l = l'
 case neg => go_simp
 subst g0 g1 g2
 go_simp
 split
 ·rename_i h
  rw [h]
 ·rename_i h
  rw [Bool.not_eq_false] at h
  rw [h]
set_option maxRecDepth 100000 in
set_option maxHeartbeats 2000000 in
theorem zpq (x : Ino) (w : World) (hT : TS w) (hE : ED w) (hr : x.R) : Calls Tryz.prog 193 #[x.v] w fun e w' => e = .returned (.bool (zep x)) ∧ Below w.heap.size w w' := by
 have hv : x.v = .agg x.cs.toArray := rfl
 have BW : Hid (Below w.heap.size w (w.alloc (.cells x.cs.toArray 97))) := (Below.refl _ _).alloc (Nat.le_refl _) _
 have CA : Hid (∀ j, (w.alloc (.cells x.cs.toArray 97)).cell? ⟨w.heap.size, j, none⟩ = x.cs[j]?) := fun j => (zae (xs := x.cs) (zah rfl) j).1
 have T : Hid (TS (w.alloc (.cells x.cs.toArray 97))) := hT.below BW.out
 obtain ⟨d0, d1, d2, d3, d4, d5, d6, d7, d8, d9, d10⟩ := ED.cells (hE.below BW.out)
 obtain ⟨p0, p1, p2, p3, p4, p5, p6, p7, p8, p9, p10⟩ := Ino.all CA.out
 have LF := zaa (fun w1 (h : TS w1) => isFile_any x w1 h hr)
 rw [hv]
 clear hT hE hr CA
 by_cases h0 : x.ns = [0, 0, 0, 0, 0, 0, 0, 0, 0, 0, 0]
 ·have E := zaa (ino_empty h0)
  have q1 : zfh [x.kind, x.size, x.links, x.m0, x.m1, x.m2, x.m3, x.m4, x.m5, x.m6, x.m7] [0, 0, 0, 0, 0, 0, 0, 0, 0, 0, 0] = true := inoEq_t h0
  clear h0
  go_enter Tryz.func193, Tryz.ntmps193
  go_wp2
  go_ret
  exact ⟨zaf E.out.symm, BW.out⟩
 have q1 : zfh [x.kind, x.size, x.links, x.m0, x.m1, x.m2, x.m3, x.m4, x.m5, x.m6, x.m7] [0, 0, 0, 0, 0, 0, 0, 0, 0, 0, 0] = false := inoEq_f h0
 by_cases h1 : x.ns = [2, 0, 1, 0, 0, 0, 0, 0, 0, 0, 0]
 ·have E := zaa (ino_dir h1)
  have q2 : zfh [x.kind, x.size, x.links, x.m0, x.m1, x.m2, x.m3, x.m4, x.m5, x.m6, x.m7] [2, 0, 1, 0, 0, 0, 0, 0, 0, 0, 0] = true := inoEq_t h1
  clear h0 h1
  go_enter Tryz.func193, Tryz.ntmps193
  go_wp2
  go_ret
  exact ⟨zaf E.out.symm, BW.out⟩
 have q2 : zfh [x.kind, x.size, x.links, x.m0, x.m1, x.m2, x.m3, x.m4, x.m5, x.m6, x.m7] [2, 0, 1, 0, 0, 0, 0, 0, 0, 0, 0] = false := inoEq_f h1
 have E := zaa (ino_file h0 h1)
 clear h0 h1
 go_enter Tryz.func193, Tryz.ntmps193
 go_wp2_with fail
 refine (LF.out _ T.out).mono ?_
 rw [E.out]
 rintro e w1 ⟨rfl, hb1⟩
 have B1 := zaa (zab BW.out hb1 BW.out.size)
 clear hb1
 go_wp2
 go_ret
 exact ⟨rfl, B1.out⟩
end Go.Proofs.YtcilodgoognmnaaGreatDoor

namespace Go.Proofs.YtcilodgoognmnaaGreatDoor
open Go.RowKit
theorem arr11_from (b : Nat) (w : World) : (Instr.sliceAt 300 (.pointer (some ⟨b, 0, none⟩)) (some (.int .i64 3)) none none).run Tryz.prog w = .ok (.slice (some ⟨b, 3, none⟩) 8 8) w := by
 have al : Tryz.prog.arrayLen 300 = 11 := by kernel_rfl
 rw [run_sliceAt_array_l w 300 ⟨b, 0, none⟩ (by kernel_rfl) .i64 3 (by omega) (by rw [al]; omega), al]
 have sz : (sizeOf (Tryz.prog.elem 300)).run Tryz.prog w = .ok 1 w := by kernel_rfl
 rw [sz]
 simp [Result.andThen, slicedAt, Addr.add]
theorem arr11_all (b : Nat) (w : World) : (Instr.sliceAt 300 (.pointer (some ⟨b, 0, none⟩)) none none none).run Tryz.prog w = .ok (.slice (some ⟨b, 0, none⟩) 11 11) w := by
 have al : Tryz.prog.arrayLen 300 = 11 := by kernel_rfl
 rw [run_sliceAt_array_all w 300 ⟨b, 0, none⟩ (by kernel_rfl), al]
 have sz : (sizeOf (Tryz.prog.elem 300)).run Tryz.prog w = .ok 1 w := by kernel_rfl
 rw [sz]
 simp [Result.andThen, slicedAt, Addr.add]
theorem map_all (b : Nat) (w : World) : (Instr.sliceAt 95 (.pointer (some ⟨b, 3, none⟩)) none none none).run Tryz.prog w = .ok (.slice (some ⟨b, 3, none⟩) 8 8) w := by
 have al : Tryz.prog.arrayLen 95 = 8 := by kernel_rfl
 rw [run_sliceAt_array_all w 95 ⟨b, 3, none⟩ (by kernel_rfl), al]
 have sz : (sizeOf (Tryz.prog.elem 95)).run Tryz.prog w = .ok 1 w := by kernel_rfl
 rw [sz]
 simp [Result.andThen, slicedAt, Addr.add]
def preC (x : Ino) : List Value := [.int .i64 x.kind, .int .i64 x.size, .int .i64 x.links, .int .i64 0, .int .i64 0, .int .i64 0, .int .i64 0, .int .i64 0, .int .i64 0, .int .i64 0, .int .i64 0]
def mapC (x : Ino) : List Value := [.int .i64 x.m0, .int .i64 x.m1, .int .i64 x.m2, .int .i64 x.m3, .int .i64 x.m4, .int .i64 x.m5, .int .i64 x.m6, .int .i64 x.m7]
theorem splice_ino (x : Ino) : splice (preC x) 3 (mapC x) = x.cs := rfl
theorem mapC_one (x : Ino) : ∀ v ∈ mapC x, v.oneCell' = true := by
 intro v hv
 simp [mapC] at hv
 rcases hv with rfl | rfl | rfl | rfl | rfl | rfl | rfl | rfl <;> rfl
theorem mapC_at (x : Ino) (j : Nat) (v : Value) (h : (mapC x)[j]? = some v) : x.cs[3 + j]? = some v := by
 have hj : j < 8 := by
  have := (List.getElem?_eq_some_iff.1 h).1
  exact this
 rcases (show j = 0 ∨ j = 1 ∨ j = 2 ∨ j = 3 ∨ j = 4 ∨ j = 5 ∨ j = 6 ∨ j = 7 by omega) with rfl | rfl | rfl | rfl | rfl | rfl | rfl | rfl <;> exact h
theorem ns_cs (x : Ino) : zec x.ns = x.cs := rfl
theorem rd_ns {x : Ino} {w : World} {b : Nat} {t : TypeId} (h : w.heap[b]? = some (.cells x.cs.toArray t (0, 0))) : RdI w (.slice (some ⟨b, 0, none⟩) 11 11) x.ns := by
 refine ⟨by rw [zjx, Nat.mul_one], some ⟨b, 0, none⟩, 11, rfl, ⟨Nat.le_refl _, fun e => by cases e⟩, fun _ => ⟨b, 0, rfl, (Array.getElem?_eq_some_iff.1 h).1, fun j hj => ?_⟩⟩
 rw [Nat.zero_add, ns_cs]
 exact (zae (xs := x.cs) h j).1
theorem uf_wr (i : Int) (x : Ino) : ufL (48 + 12 * i) x.ns x.ns.length = wrL i x 8 := by
 have e1 : x.ns.length = 11 := rfl
 rw [e1]
 simp [ufL, wrL, List.range_succ, Ino.ns, Ino.map]
theorem sz3 : (Tryz.prog.info? 3).map (·.size) = some 1 := by kernel_rfl
set_option maxRecDepth 100000 in
set_option maxHeartbeats 4000000 in
theorem zip (i : Int) (x : Ino) (w : World) (hT : TS w) (hE : ED w) (hr : x.R) :
  Calls Tryz.prog 262 #[.int .i64 i, x.v] w fun e w' => ∃ v', e = .returned (.tuple #[v', .int .i64 (iuC i x)]) ∧ Row w' 130 2 w.heap.size w'.heap.size v' (iuL i x).length (ses (iuL i x)) ∧ Below w.heap.size w w' := by
 have hv : x.v = .agg x.cs.toArray := rfl
 have BW : Hid (Below w.heap.size w (w.alloc (.cells x.cs.toArray 97))) := (Below.refl _ _).alloc (Nat.le_refl _) _
 have CA : Hid (∀ w', Below (w.alloc (.cells x.cs.toArray 97)).heap.size (w.alloc (.cells x.cs.toArray 97)) w' → ∀ j, w'.cell? ⟨w.heap.size, j, none⟩ = x.cs[j]?) := fun w' hb j => by
  have : w'.heap[w.heap.size]? = some (.cells x.cs.toArray 97 (0, 0)) := (hb.block _ (by simp)).trans (zah rfl)
  exact (zae (xs := x.cs) this j).1
 have T : Hid (TS (w.alloc (.cells x.cs.toArray 97))) := hT.below BW.out
 have TE : Hid (ED (w.alloc (.cells x.cs.toArray 97))) := hE.below BW.out
 have LF := zaa (fun w1 (h : TS w1) (g : ED w1) => zpq x w1 h g hr)
 have hz : w.heap.size < (w.alloc (.cells x.cs.toArray 97)).heap.size := by simp
 obtain ⟨W, hW⟩ : ∃ W, W = w.alloc (.cells x.cs.toArray 97) := ⟨_, rfl⟩
 rw [← hW] at BW CA T TE hz
 rw [hv]
 clear hT hE hr
 rcases iu_cases i x with ⟨c1, e1, e2⟩ | ⟨c1, c2, e1, e2⟩ | ⟨c1, c2, e1, e2⟩
 ·rw [e1, e2]
  obtain ⟨k1, k2⟩ := ino_out (i := i) (f := 0) (by omega)
  have K1 := zaa k1
  have K2 := zaa k2
  clear e1 e2 c1 k1 k2
  go_enter Tryz.func262, Tryz.ntmps262
  go_wp2_with fail
  rw [← hW]
  clear hW
  refine (zeg _ _ _).mono ?_
  rw [K2.out]
  rintro e w' ⟨rfl, hw'⟩
  subst w'
  go_wp2
  go_ret2
  exact ⟨_, rfl, Row.nil _ _ _ _ _, BW.out⟩
 ·rw [e1, e2]
  obtain ⟨k1, k2⟩ := ino_in (i := i) (f := 0) (by omega) (by omega)
  have K1 := zaa k1
  have K2 := zaa k2
  have C2 := zaa c2
  clear e1 e2 c1 c2 k1 k2
  go_enter Tryz.func262, Tryz.ntmps262
  go_wp2_with fail
  rw [← hW]
  clear hW
  refine (zeg _ _ _).mono ?_
  rw [K1.out, K2.out]
  rintro e w' ⟨rfl, hw'⟩
  subst w'
  obtain ⟨p0, p1, p2, p3, p4, p5, p6, p7, p8, p9, p10⟩ := Ino.all (CA.out W (Below.refl _ _))
  go_wp2_with fail
  refine (LF.out _ T.out TE.out).mono ?_
  rw [C2.out]
  rintro e w1 ⟨rfl, hb⟩
  have B1 := zaa (zab BW.out hb (by omega))
  clear hb p0 p1 p2 p3 p4 p5 p6 p7 p8 p9 p10
  go_wp2
  go_ret2
  exact ⟨_, rfl, Row.nil _ _ _ _ _, B1.out⟩
 ·rw [e1, e2]
  obtain ⟨k1, k2⟩ := ino_in (i := i) (f := 0) (by omega) (by omega)
  have K1 := zaa k1
  have K2 := zaa k2
  have C2 := zaa c2
  have UF := zaa (uf_wr i x)
  have RA := zaa (show 0 ≤ 48 + 12 * i ∧ 48 + 12 * i ≤ 1000 by omega)
  clear e1 e2 c1 c2 k1 k2
  go_enter Tryz.func262, Tryz.ntmps262
  go_wp2_with fail
  rw [← hW]
  clear hW
  refine (zeg _ _ _).mono ?_
  rw [K1.out, K2.out]
  rintro e w' ⟨rfl, hw'⟩
  subst w'
  obtain ⟨p0, p1, p2, p3, p4, p5, p6, p7, p8, p9, p10⟩ := Ino.all (CA.out W (Below.refl _ _))
  go_wp2_with fail
  refine (LF.out _ T.out TE.out).mono ?_
  rw [C2.out]
  rintro e w1 ⟨rfl, hb⟩
  have B1 := zaa (zab BW.out hb (by omega))
  have hz1 : W.heap.size ≤ w1.heap.size := hb.size
  have HB := zaa hb
  obtain ⟨d0, d1, d2, d3, d4, d5, d6, d7, d8, d9, d10⟩ := Ino.all (CA.out w1 hb)
  clear hb p0 p1 p2 p3 p4 p5 p6 p7 p8 p9 p10
  go_wp2_with fail
  clear d0 d1 d2 d3 d4 d5 d6 d7 d8 d9 d10
  obtain ⟨wb, hwb⟩ : ∃ wb, wb = w1.alloc (.cells (preC x).toArray 300) := ⟨_, rfl⟩
  have HC : Hid (Below w1.heap.size w1 wb) := by rw [hwb]; exact (Below.refl _ _).alloc (Nat.le_refl _) _
  have HZ : w1.heap.size < wb.heap.size := by rw [hwb]; simp
  have HG : Hid (∀ w', Below wb.heap.size wb w' → w'.heap[w1.heap.size]? = some (.cells (preC x).toArray 300 (0, 0))) := fun w' hb => (hb.block _ HZ).trans (by rw [hwb]; exact zah rfl)
  have HS : Hid (∀ w', Below wb.heap.size wb w' → ∀ j v, (mapC x)[j]? = some v → w'.cell? ((⟨w.heap.size, 3, none⟩ : Addr).add j) = some v) := fun w' hb j v hv => by rw [Addr.add_lit]; exact (CA.out w' (zab (zab HB.out HC.out hz1) hb (by omega)) (3 + j)).trans (mapC_at x j v hv)
  have HD : Hid (∀ w', Below wb.heap.size wb w' → Below w1.heap.size w1 w') := fun w' hb => zab HC.out hb (by omega)
  unfold preC at hwb
  rw [← hwb]
  clear hwb
  have s1 := arr11_from w1.heap.size
  have s2 := map_all w.heap.size
  have s3 := arr11_all w1.heap.size
  go_region_held3 (fun _ => True) (trivial)
   (first
    | (refine step_copy_splice rfl (.tmp 27) (.tmp 29) 22 22 rfl 3 Tryz.underlying22 sz3 _ _ _ _ _ _ rfl rfl w1.heap.size 3 (preC x) 300 (HG.out _ (by repeat (first | exact Below.refl _ _ | refine Below.drew ?_))) (mapC x) rfl (fun _ => ⟨rfl, _, rfl, HS.out _ (by repeat (first | exact Below.refl _ _ | refine Below.drew ?_))⟩) (Nat.le_refl 11) (mapC_one x) w1.heap.size w1 (HD.out _ (by repeat (first | exact Below.refl _ _ | refine Below.drew ?_))) (Nat.le_refl _) ?_; intro w4 hg4 hb4))
  all_goals
   rw [splice_ino] at hg4
   have R4 := zaa (rd_ns hg4.out)
   have B4 := zaa (zab B1.out hb4 (by omega))
   have hz4 : w1.heap.size ≤ w4.heap.size := hb4.size
   clear hg4 hb4 HG HS HD HC s1 s2
   go_wp2_with fail
   refine (zhm _ _ x.ns _ R4.out (show (11 : Nat) ≤ 64 by omega) RA.out).mono ?_
   rw [UF.out]
   rintro e w5 ⟨v5, rfl, hr5, hb5⟩
   obtain ⟨-, aL, cL, hvL, -⟩ := hr5.rd
   subst hvL
   have R5 := zaa (hr5.wide (by omega : w.heap.size ≤ w4.heap.size) (Nat.le_refl _))
   have B5 := zaa (zab B4.out hb5 (by omega))
   clear hr5 hb5
   go_wp2
   go_ret2
   exact ⟨_, rfl, R5.out, B5.out⟩
end Go.Proofs.YtcilodgoognmnaaGreatDoor

namespace Go.Proofs.YtcilodgoognmnaaGreatDoor
open Go.RowKit
def FD (w : World) : Prop := ∃ t fr, w.heap[2]? = some (.cells #[.int .i64 0, .string ⟨#[]⟩, .int .i64 (-1)] t fr)
theorem FD.lt {w : World} (h : FD w) : 2 < w.heap.size := by
 obtain ⟨t, fr, h⟩ := h
 exact (Array.getElem?_eq_some_iff.1 h).1
theorem FD.below {w w' : World} (h : FD w) (hb : Below w.heap.size w w') : FD w' := by
 have hl := h.lt
 obtain ⟨t, fr, h⟩ := h
 exact ⟨t, fr, (hb.block _ hl).trans h⟩
theorem FD.cells {w : World} (h : FD w) : w.cell? ⟨2, 0, none⟩ = some (.int .i64 0) ∧ w.cell? ⟨2, 1, none⟩ = some (.string ⟨#[]⟩) ∧ w.cell? ⟨2, 2, none⟩ = some (.int .i64 (-1)) := by
 obtain ⟨t, fr, h⟩ := h
 simp [World.cell?, h]
def zhk (a : Int) (s : ByteArray) (c a' : Int) (s' : ByteArray) (c' : Int) : Bool := (a == a') && ((s.toList == s'.toList) && (c == c'))
set_option maxRecDepth 100000 in
set_option maxHeartbeats 4000000 in
@[go_sem ↓] theorem eqDen (a : Int) (s : ByteArray) (c a' : Int) (s' : ByteArray) (c' : Int) (w : World) : (Op.equalIn 10000 180 (.agg #[.int .i64 a, .string s, .int .i64 c]) (.agg #[.int .i64 a', .string s', .int .i64 c'])).run Tryz.prog w = .ok (zhk a s c a' s' c') w := by
 unfold zhk
 cases g0 : (a == a')
 ·go_simp
 cases g1 : (s.toList == s'.toList)
 ·go_simp
 cases g2 : (c == c')
 ·go_simp
 ·go_simp
theorem empty_bytes : (⟨#[]⟩ : ByteArray).toList = [] := (zpm _).2 rfl
theorem zkr (x : Den) : zhk x.dir x.name x.child 0 ⟨#[]⟩ (-1) = x.freeB := by
 unfold zhk Den.freeB
 congr 2
 rw [empty_bytes, Bool.eq_iff_iff, beq_iff_eq, beq_iff_eq]
 exact zpm x.name
theorem Den.okB_free {x : Den} (h : x.freeB = true) : x.okB = true := by unfold Den.okB; rw [h]; rfl
theorem Den.okB_not {x : Den} (h : x.freeB = false) : x.okB = (decide (1 ≤ x.child ∧ x.child ≤ 15) && (decide (0 ≤ x.dir ∧ x.dir ≤ 15) && nmB x.name)) := by unfold Den.okB; rw [h, Bool.false_or]
theorem packC_name (s : ByteArray) : (zqp s == 0) = nmB s := by
 unfold zqp
 cases h : nmB s with
 | true =>
  have := (of_decide_eq_true h : 1 ≤ s.size ∧ s.size ≤ 6 ∧ _)
  rw [if_neg (by omega), if_pos rfl]; rfl
 | false =>
  split
  ·rfl
  ·rw [if_neg (by decide)]; rfl
theorem zid (s : ByteArray) (w : World) (hs : s.size ≤ maxLen) : Calls Tryz.prog 224 #[.string s] w fun e w' => e = .returned (.bool (nmB s)) ∧ Below w.heap.size w w' := by
 have P := zaa (packC_name s)
 have LP := zaa (fun w1 => zgy s w1 hs)
 generalize zqb s = pv at *
 generalize zqp s = pc at *
 clear hs
 go_enter Tryz.func224, Tryz.ntmps224
 go_wp2_with fail
 refine (LP.out _).mono ?_
 rintro e w1 ⟨rfl, hb1⟩
 go_wp2
 go_ret
 exact ⟨zaf P.out, hb1⟩
set_option maxRecDepth 100000 in
set_option maxHeartbeats 4000000 in
theorem zmj (x : Den) (w : World) (hF : FD w) (hs : x.name.size ≤ maxLen) : Calls Tryz.prog 195 #[x.v] w fun e w' => e = .returned (.bool x.okB) ∧ Below w.heap.size w w' := by
 have LN := zaa (fun w1 => zid x.name w1 hs)
 have DF := zkr x
 have OF := @Den.okB_free x
 have ON := @Den.okB_not x
 obtain ⟨d, s, c⟩ := x
 simp only at LN DF ON hs
 unfold Den.v
 simp only
 have BW := zaa ((Below.refl w.heap.size w).alloc (Nat.le_refl _) (.cells #[.int .i64 d, .string s, .int .i64 c] 180))
 have CB : Hid (∀ w', Below (w.alloc (.cells #[.int .i64 d, .string s, .int .i64 c] 180)).heap.size (w.alloc (.cells #[.int .i64 d, .string s, .int .i64 c] 180)) w' → w'.cell? ⟨w.heap.size, 0, none⟩ = some (.int .i64 d) ∧ w'.cell? ⟨w.heap.size, 1, none⟩ = some (.string s) ∧ w'.cell? ⟨w.heap.size, 2, none⟩ = some (.int .i64 c)) := fun w' hb => zay ((hb.block _ (by simp)).trans (zah rfl))
 obtain ⟨x0, x1, x2⟩ := CB.out _ (Below.refl _ _)
 obtain ⟨f0, f1, f2⟩ := FD.cells (hF.below BW.out)
 clear hF hs
 cases h0 : (Den.mk d s c).freeB with
 | true =>
  rw [h0] at DF
  have E := zaa (OF h0)
  clear OF ON LN CB h0
  go_enter Tryz.func195, Tryz.ntmps195
  go_wp2
  go_ret
  exact ⟨zaf E.out.symm, BW.out⟩
 | false =>
  rw [h0] at DF
  have E := zaa (ON h0)
  clear OF ON h0
  cases h1 : nmB s with
  | false =>
   rw [h1] at E
   have N1 := zaa h1
   clear h1 CB
   go_enter Tryz.func195, Tryz.ntmps195
   go_wp2_with fail
   refine (LN.out _).mono ?_
   rw [N1.out]
   rintro e w1 ⟨rfl, hb1⟩
   have B1 := zaa (zab BW.out hb1 BW.out.size)
   clear hb1 x0 x1 x2 f0 f1 f2
   go_wp2
   go_ret
   exact ⟨zaf (by rw [E.out, Bool.and_false, Bool.and_false]), B1.out⟩
  | true =>
   rw [h1] at E
   have N1 := zaa h1
   clear h1
   by_cases h2 : 0 ≤ d ∧ d < 16
   case neg =>
    have E2 := zaa (show (Den.mk d s c).okB = false by rw [E.out, decide_eq_false (show ¬ (0 ≤ d ∧ d ≤ 15) by omega), Bool.false_and, Bool.and_false])
    have H2 := zaa h2
    clear h2 E
    go_enter Tryz.func195, Tryz.ntmps195
    go_wp2_with fail
    refine (LN.out _).mono ?_
    rw [N1.out]
    rintro e w1 ⟨rfl, hb1⟩
    have B1 := zaa (zab BW.out hb1 BW.out.size)
    clear x0 x1 x2 f0 f1 f2
    obtain ⟨x0, x1, x2⟩ := CB.out _ hb1
    clear hb1 CB
    go_wp2_with fail
    refine (zbj _ _ _ H2.out).mono ?_
    rintro e w' ⟨rfl, hw'⟩
    subst w'
    go_wp2
    go_ret
    exact ⟨zaf E2.out.symm, B1.out⟩
   by_cases h3 : 0 ≤ c ∧ c < 16
   case neg =>
    have E2 := zaa (show (Den.mk d s c).okB = false by rw [E.out, decide_eq_false (show ¬ (1 ≤ c ∧ c ≤ 15) by omega), Bool.false_and])
    have H2 := zaa h2
    have H3 := zaa h3
    clear h2 h3 E
    go_enter Tryz.func195, Tryz.ntmps195
    go_wp2_with fail
    refine (LN.out _).mono ?_
    rw [N1.out]
    rintro e w1 ⟨rfl, hb1⟩
    have B1 := zaa (zab BW.out hb1 BW.out.size)
    clear x0 x1 x2 f0 f1 f2
    obtain ⟨x0, x1, x2⟩ := CB.out _ hb1
    clear hb1 CB
    go_wp2_with fail
    refine (zaq _ _ _ H2.out).mono ?_
    rintro e w' ⟨rfl, hw'⟩
    subst w'
    go_wp2_with fail
    refine (zbj _ _ _ H3.out).mono ?_
    rintro e w' ⟨rfl, hw'⟩
    subst w'
    go_wp2
    go_ret
    exact ⟨zaf E2.out.symm, B1.out⟩
   have E2 := zaa (show (Den.mk d s c).okB = (c != 0) by
    rw [E.out, decide_eq_true (show 0 ≤ d ∧ d ≤ 15 by omega)]
    by_cases h : c = 0
    ·rw [h]; rfl
    ·rw [decide_eq_true (show 1 ≤ c ∧ c ≤ 15 by omega), eq_comm]; simpa using h)
   have H2 := zaa h2
   have H3 := zaa h3
   clear h2 h3 E
   go_enter Tryz.func195, Tryz.ntmps195
   go_wp2_with fail
   refine (LN.out _).mono ?_
   rw [N1.out]
   rintro e w1 ⟨rfl, hb1⟩
   have B1 := zaa (zab BW.out hb1 BW.out.size)
   clear x0 x1 x2 f0 f1 f2
   obtain ⟨x0, x1, x2⟩ := CB.out _ hb1
   clear hb1 CB
   go_wp2_with fail
   refine (zaq _ _ _ H2.out).mono ?_
   rintro e w' ⟨rfl, hw'⟩
   subst w'
   go_wp2_with fail
   refine (zaq _ _ _ H3.out).mono ?_
   rintro e w' ⟨rfl, hw'⟩
   subst w'
   go_wp2
   go_ret
   exact ⟨zaf E2.out.symm, B1.out⟩
theorem arr3_all (b : Nat) (w : World) : (Instr.sliceAt 217 (.pointer (some ⟨b, 0, none⟩)) none none none).run Tryz.prog w = .ok (.slice (some ⟨b, 0, none⟩) 3 3) w := by
 have al : Tryz.prog.arrayLen 217 = 3 := by kernel_rfl
 rw [run_sliceAt_array_all w 217 ⟨b, 0, none⟩ (by kernel_rfl), al]
 have sz : (sizeOf (Tryz.prog.elem 217)).run Tryz.prog w = .ok 1 w := by kernel_rfl
 rw [sz]
 simp [Result.andThen, slicedAt, Addr.add]
theorem rd_three {w : World} {b : Nat} {t : TypeId} {x y z : Int} (h : w.heap[b]? = some (.cells #[.int .i64 x, .int .i64 y, .int .i64 z] t (0, 0))) : RdI w (.slice (some ⟨b, 0, none⟩) 3 3) [x, y, z] := by
 refine ⟨by rw [zjx, Nat.mul_one], some ⟨b, 0, none⟩, 3, rfl, ⟨Nat.le_refl _, fun e => by cases e⟩, fun _ => ⟨b, 0, rfl, (Array.getElem?_eq_some_iff.1 h).1, fun j hj => ?_⟩⟩
 rw [Nat.zero_add]
 exact (zae (xs := [.int .i64 x, .int .i64 y, .int .i64 z]) h j).1
theorem pk_none {s : ByteArray} (h : s.size = 0) : pk s s.size = 0 := by
 rw [h]; rfl
theorem packV_ok {x : Den} (h : x.okB = true) : zqb x.name = ((pk x.name x.name.size : Nat) : Int) := by
 cases hn : nmB x.name with
 | true => exact (pack_yes hn).1
 | false =>
  have hf : x.freeB = true := by
   unfold Den.okB at h
   rw [hn, Bool.and_false, Bool.and_false, Bool.or_false] at h
   exact h
  unfold Den.freeB at hf
  simp only [Bool.and_eq_true, beq_iff_eq] at hf
  rw [pk_none hf.2.1]
  unfold zqb
  rw [hn]
  rfl
theorem ok_child {x : Den} (h : x.okB = true) : -1 ≤ x.child ∧ x.child ≤ 15 := by
 unfold Den.okB Den.freeB at h
 simp only [Bool.or_eq_true, Bool.and_eq_true, beq_iff_eq, decide_eq_true_eq] at h
 omega
theorem uf_en (k : Int) (x : Den) : ufL (240 + 3 * k) [x.dir, ((pk x.name x.name.size : Nat) : Int), x.child + 1] 3 = enL k x := by
 simp [ufL, enL, List.range_succ]
set_option maxRecDepth 100000 in
set_option maxHeartbeats 4000000 in
theorem zby (k : Int) (x : Den) (w : World) (hF : FD w) (hs : x.name.size ≤ maxLen) :
  Calls Tryz.prog 233 #[.int .i64 k, x.v] w fun e w' => ∃ v', e = .returned (.tuple #[v', .int .i64 (duC k x)]) ∧ Row w' 130 2 w.heap.size w'.heap.size v' (duL k x).length (ses (duL k x)) ∧ Below w.heap.size w w' := by
 have LF := zaa (fun w1 (h : FD w1) => zmj x w1 h hs)
 have LP := zaa (fun w1 => zgy x.name w1 hs)
 have PV := @packV_ok x
 have KC := @ok_child x
 have UE := zaa (uf_en k x)
 have DC := du_cases k x
 have BW := zaa ((Below.refl w.heap.size w).alloc (Nat.le_refl _) (.cells #[.int .i64 x.dir, .string x.name, .int .i64 x.child] 180))
 have CB : Hid (∀ w', Below (w.alloc (.cells #[.int .i64 x.dir, .string x.name, .int .i64 x.child] 180)).heap.size (w.alloc (.cells #[.int .i64 x.dir, .string x.name, .int .i64 x.child] 180)) w' → w'.cell? ⟨w.heap.size, 0, none⟩ = some (.int .i64 x.dir) ∧ w'.cell? ⟨w.heap.size, 1, none⟩ = some (.string x.name) ∧ w'.cell? ⟨w.heap.size, 2, none⟩ = some (.int .i64 x.child)) := fun w' hb => zay ((hb.block _ (by simp)).trans (zah rfl))
 have F : Hid (FD (w.alloc (.cells #[.int .i64 x.dir, .string x.name, .int .i64 x.child] 180))) := hF.below BW.out
 have hz : w.heap.size < (w.alloc (.cells #[.int .i64 x.dir, .string x.name, .int .i64 x.child] 180)).heap.size := by simp
 obtain ⟨W, hW⟩ : ∃ W, W = w.alloc (.cells #[.int .i64 x.dir, .string x.name, .int .i64 x.child] 180) := ⟨_, rfl⟩
 rw [← hW] at BW CB F hz
 rw [show x.v = .agg #[.int .i64 x.dir, .string x.name, .int .i64 x.child] from rfl]
 clear hF hs
 rcases DC with ⟨c1, e1, e2⟩ | ⟨c1, c2, e1, e2⟩ | ⟨c1, c2, e1, e2⟩
 ·rw [e1, e2]
  obtain ⟨k1, k2⟩ := den_out (i := k) (f := 0) (by omega)
  have K1 := zaa k1
  have K2 := zaa k2
  clear e1 e2 c1 k1 k2 PV KC
  go_enter Tryz.func233, Tryz.ntmps233
  go_wp2_with fail
  rw [← hW]
  clear hW
  refine (zfj _ _ _).mono ?_
  rw [K2.out]
  rintro e w' ⟨rfl, hw'⟩
  subst w'
  go_wp2
  go_ret2
  exact ⟨_, rfl, Row.nil _ _ _ _ _, BW.out⟩
 ·rw [e1, e2]
  obtain ⟨k1, k2⟩ := den_in (i := k) (f := 0) (by omega) (by omega)
  have K1 := zaa k1
  have K2 := zaa k2
  have C2 := zaa c2
  clear e1 e2 c1 c2 k1 k2 PV KC
  go_enter Tryz.func233, Tryz.ntmps233
  go_wp2_with fail
  rw [← hW]
  clear hW
  refine (zfj _ _ _).mono ?_
  rw [K1.out, K2.out]
  rintro e w' ⟨rfl, hw'⟩
  subst w'
  obtain ⟨p0, p1, p2⟩ := CB.out W (Below.refl _ _)
  go_wp2_with fail
  refine (LF.out _ F.out).mono ?_
  rw [C2.out]
  rintro e w1 ⟨rfl, hb⟩
  have B1 := zaa (zab BW.out hb (by omega))
  clear hb p0 p1 p2
  go_wp2
  go_ret2
  exact ⟨_, rfl, Row.nil _ _ _ _ _, B1.out⟩
 ·rw [e1, e2]
  obtain ⟨k1, k2⟩ := den_in (i := k) (f := 0) (by omega) (by omega)
  have K1 := zaa k1
  have K2 := zaa k2
  have C2 := zaa c2
  have P2 := zaa (PV c2)
  obtain ⟨b0, b1⟩ := KC c2
  have RA := zaa (show 0 ≤ 240 + 3 * k ∧ 240 + 3 * k ≤ 1000 by omega)
  clear e1 e2 c1 c2 k1 k2 PV KC
  go_enter Tryz.func233, Tryz.ntmps233
  go_wp2_with fail
  rw [← hW]
  clear hW
  refine (zfj _ _ _).mono ?_
  rw [K1.out, K2.out]
  rintro e w' ⟨rfl, hw'⟩
  subst w'
  obtain ⟨p0, p1, p2⟩ := CB.out W (Below.refl _ _)
  go_wp2_with fail
  refine (LF.out _ F.out).mono ?_
  rw [C2.out]
  rintro e w1 ⟨rfl, hb⟩
  have B1 := zaa (zab BW.out hb (by omega))
  have H1 := zaa hb
  have hz1 : W.heap.size ≤ w1.heap.size := hb.size
  clear p0 p1 p2
  obtain ⟨p0, p1, p2⟩ := CB.out w1 hb
  clear hb
  go_wp2_with fail
  refine (LP.out _).mono ?_
  rw [P2.out]
  rintro e w2 ⟨rfl, hb⟩
  have B2 := zaa (zab B1.out hb (by omega))
  have H2 := zaa (zab H1.out hb (by omega))
  have hz2 : w1.heap.size ≤ w2.heap.size := hb.size
  clear p0 p1 p2
  obtain ⟨p0, p1, p2⟩ := CB.out w2 H2.out
  generalize ((pk x.name x.name.size : Nat) : Int) = pv at *
  clear hb H1 H2 B1
  have B3 := zaa (B2.out.alloc (by omega) (.cells #[.int .i64 x.dir, .int .i64 pv, .int .i64 (x.child + 1)] 217))
  have R3 := zaa (rd_three (w := w2.alloc (.cells #[.int .i64 x.dir, .int .i64 pv, .int .i64 (x.child + 1)] 217)) (zah rfl))
  have s3 := arr3_all w2.heap.size
  go_wp2_with fail
  refine (zhm _ _ [x.dir, pv, x.child + 1] _ R3.out (show (3 : Nat) ≤ 64 by omega) RA.out).mono ?_
  rw [show [x.dir, pv, x.child + 1].length = 3 from rfl, UE.out]
  rintro e w5 ⟨v5, rfl, hr5, hb5⟩
  obtain ⟨-, aL, cL, hvL, -⟩ := hr5.rd
  subst hvL
  have R5 := zaa (hr5.wide (B3.out.size) (Nat.le_refl _))
  have B5 := zaa (zab B3.out hb5 B3.out.size)
  clear hr5 hb5
  go_wp2
  go_ret2
  exact ⟨_, rfl, R5.out, B5.out⟩
end Go.Proofs.YtcilodgoognmnaaGreatDoor

namespace Go.Proofs.YtcilodgoognmnaaGreatDoor
open Go.RowKit
structure InI (W w : World) (vL : Value) (zs : List Int) : Prop where
 l : w.ownsRow W.heap.size 3 1 vL zs.length (zec zs)
 b : Below W.heap.size W w
theorem InI.z {W w : World} {vL : Value} {zs : List Int} (h : InI W w vL zs) : W.heap.size ≤ w.heap.size := h.b.size
theorem InI.below {W w w' : World} {vL : Value} {zs : List Int} (h : InI W w vL zs) (hb : Below w.heap.size w w') : InI W w' vL zs :=
 ⟨((zad h.l).below hb (Nat.le_refl _)).1, zab h.b hb h.z⟩
theorem InI.grow {W w w' : World} {vL v' : Value} {zs : List Int} (h : InI W w vL zs) (x : Int) (ho : w'.ownsRow W.heap.size 3 1 v' (zs.length + 1) (zec zs ++ [.int .i64 x])) (hg : w.grownBy w' vL.ownBlock) : InI W w' v' (zs ++ [x]) :=
 ⟨by rw [ints_snoc, List.length_append]; exact ho, h.b.grown hg h.z (fun q hq => (h.l.lt q hq).1)⟩
theorem one_int (x : Int) : ∀ u ∈ [Value.int .i64 x], u.oneCell' = true := by
 intro u hu
 rw [List.mem_singleton.1 hu]
 rfl
def somes (zs : List Int) : List Int := zs.filter fun z => z != 0
def zam (ws : List Ino) : List Int := ws.flatMap fun x => somes x.map
def ztz (ws : List Ino) (k : Nat) (j : Nat) : List Int := zam (ws.take k) ++ somes (((ws[k]?).map Ino.map).getD [] |>.take j)
theorem zwu (ws : List Ino) (k : Nat) : ztz ws k 0 = zam (ws.take k) := by simp [ztz, somes]
theorem zuv {ws : List Ino} {k : Nat} (hk : k < ws.length) {j : Nat} (hj : j < 8) : ztz ws k (j + 1) = if ws[k].map.getD j 0 = 0 then ztz ws k j else ztz ws k j ++ [ws[k].map.getD j 0] := by
 have hl : j < ws[k].map.length := hj
 have e : ws[k].map.getD j 0 = ws[k].map[j] := by rw [List.getD_eq_getElem?_getD, List.getElem?_eq_getElem hl]; rfl
 unfold ztz somes
 rw [List.getElem?_eq_getElem hk]
 simp only [Option.map_some, Option.getD_some]
 rw [List.take_succ_eq_append_getElem hl, List.filter_append, e]
 by_cases h : ws[k].map[j] = 0
 ·rw [if_pos h, h]; simp
 ·rw [if_neg h]; simp [h]
theorem zwk {ws : List Ino} {k : Nat} (hk : k < ws.length) : ztz ws k 8 = zam (ws.take (k + 1)) := by
 unfold ztz zam
 rw [List.getElem?_eq_getElem hk, List.take_succ_eq_append_getElem hk, List.flatMap_append]
 simp [Ino.map]
theorem zwx (zs : List Int) : (somes zs).length ≤ zs.length := List.length_filter_le _ _
theorem zeo (ws : List Ino) : (zam ws).length ≤ 8 * ws.length := by
 induction ws with
 | nil => simp [zam]
 | cons x ws ih =>
  have h1 := zwx x.map
  have h2 : x.map.length = 8 := rfl
  unfold zam at *
  rw [List.flatMap_cons, List.length_append, List.length_cons]
  omega
theorem mapd_len (ws : List Ino) (k j : Nat) (hk : k < ws.length) (hj : j ≤ 8) : (ztz ws k j).length ≤ 8 * ws.length := by
 have h1 := zeo (ws.take k)
 have h2 := zwx (((ws[k]?).map Ino.map).getD [] |>.take j)
 have h3 : (((ws[k]?).map Ino.map).getD [] |>.take j).length ≤ j := by rw [List.length_take]; omega
 unfold ztz
 rw [List.length_append]
 rw [List.length_take] at h1
 omega
set_option maxRecDepth 100000 in
theorem idx8 (x : Ino) (j : Nat) (hj : j < 8) (w : World) : (Instr.index 95 (.agg #[.int .i64 x.m0, .int .i64 x.m1, .int .i64 x.m2, .int .i64 x.m3, .int .i64 x.m4, .int .i64 x.m5, .int .i64 x.m6, .int .i64 x.m7]) (.int .i64 (j : Int))).run Tryz.prog w = .ok (.int .i64 (x.map.getD j 0)) w := by
 rcases (show j = 0 ∨ j = 1 ∨ j = 2 ∨ j = 3 ∨ j = 4 ∨ j = 5 ∨ j = 6 ∨ j = 7 by omega) with rfl | rfl | rfl | rfl | rfl | rfl | rfl | rfl <;> simp [Instr.index, run_underlying Tryz.underlying95, asIntOf, Ino.map, go_sem]
set_option maxRecDepth 100000 in
set_option maxHeartbeats 4000000 in
theorem zgd (v : Value) (ws : List Ino) (w : World) (h : RdN w v ws) (hn : ws.length ≤ 4096) :
  Calls Tryz.prog 145 #[v] w fun e w' => ∃ v', e = .returned v' ∧ Row w' 3 1 w.heap.size w'.heap.size v' (zam ws).length (zec (zam ws)) ∧ Below w.heap.size w w' := by
 obtain ⟨aW, cW, rfl, _, hcW⟩ := h.shape
 have HW := zaa hcW
 clear h hcW
 go_enter Tryz.func145, Tryz.ntmps145
 go_wp2
 go_loopw [3, 5, 7, 10] (fun vL _ _ i wr => ∃ k : Nat, k ≤ ws.length ∧ i = .int .i64 k ∧ Hid (InI w wr vL (zam (ws.take k))) ∧ w.heap.size ≤ wr.heap.size) (fun _ _ _ i _ => ws.length - (intOf i).toNat)
 case atStart => exact ⟨0, by omega, rfl, ⟨World.ownsRow_nil _ _ _ _, Below.refl _ _⟩, Nat.le_refl _⟩
 case round =>
  obtain ⟨k, hk, rfl, I, hz⟩ := hrel
  by_cases hlt : k < ws.length
  ·obtain ⟨b, o, rfl, hbl, hcell⟩ := HW.out (by omega)
   obtain ⟨a0, a1, a2, a3, a4, a5, a6, a7, a8, a9, a10⟩ := hcell k hlt
   have d0 := (I.out.b.cell (p := ⟨b, o + k * 11, none⟩) hbl).trans a0
   have d1 := (I.out.b.cell (p := ⟨b, o + k * 11 + 1, none⟩) hbl).trans a1
   have d2 := (I.out.b.cell (p := ⟨b, o + k * 11 + 2, none⟩) hbl).trans a2
   have d3 := (I.out.b.cell (p := ⟨b, o + k * 11 + 3, none⟩) hbl).trans a3
   have d4 := (I.out.b.cell (p := ⟨b, o + k * 11 + 4, none⟩) hbl).trans a4
   have d5 := (I.out.b.cell (p := ⟨b, o + k * 11 + 5, none⟩) hbl).trans a5
   have d6 := (I.out.b.cell (p := ⟨b, o + k * 11 + 6, none⟩) hbl).trans a6
   have d7 := (I.out.b.cell (p := ⟨b, o + k * 11 + 7, none⟩) hbl).trans a7
   have d8 := (I.out.b.cell (p := ⟨b, o + k * 11 + 8, none⟩) hbl).trans a8
   have d9 := (I.out.b.cell (p := ⟨b, o + k * 11 + 9, none⟩) hbl).trans a9
   have d10 := (I.out.b.cell (p := ⟨b, o + k * 11 + 10, none⟩) hbl).trans a10
   have k0 : (0 : Int) ≤ (k : Int) := by omega
   have k1 : (k : Int) < (ws.length : Int) := by omega
   have MZ := zaa (zwu ws k)
   have MF := zaa (zwk hlt)
   have MS := zaa (fun j (hj : j < 8) => zuv hlt hj)
   have ML := zaa (fun j (hj : j ≤ 8) => mapd_len ws k j hlt hj)
   have HM := zaa (fun j (hj : j < 8) => ws[k].at j hj)
   clear a0 a1 a2 a3 a4 a5 a6 a7 a8 a9 a10 hcell
   generalize ws[k] = x at *
   have START : Hid (InI w (wr.alloc (.cells x.cs.toArray 97)) u3 (ztz ws k 0)) := by
    have := I.out.below ((Below.refl wr.heap.size wr).alloc (Nat.le_refl _) (.cells x.cs.toArray 97))
    unfold Hid
    rw [MZ.out]
    exact this
   unfold Ino.cs at START
   have hz0 := START.out.z
   clear I
   go_wp2
   go_loopw [3, 7, 16] (fun vL _ i wq => ∃ j : Nat, j ≤ 8 ∧ i = .int .i64 j ∧ Hid (InI w wq vL (ztz ws k j)) ∧ w.heap.size ≤ wq.heap.size) (fun _ _ i _ => 8 - (intOf i).toNat)
   case atStart => exact ⟨0, by omega, rfl, START, hz0⟩
   case round =>
    obtain ⟨j, hj, rfl, J, hzj⟩ := hrel
    clear START hz0 d0 d1 d2 d3 d4 d5 d6 d7 d8 d9 d10
    have j0 : (0 : Int) ≤ (j : Int) := by omega
    by_cases hlj : j < 8
    ·have j1 : (j : Int) < 8 := by omega
     have ix := idx8 x j hlj
     have MJ := zaa (MS.out j hlj)
     have hlen := ML.out j (by omega)
     generalize x.map.getD j 0 = z at ix MJ
     by_cases q : z = 0
     ·have q' : (z != 0) = false := by rw [q]; rfl
      have G : Hid (InI w wr u3 (ztz ws k (j + 1))) := by unfold Hid; rw [MJ.out, if_pos q]; exact J.out
      clear q J MJ
      go_wp2
      go_roundw
      case rel => exact ⟨j + 1, by omega, by go_num, G, hzj⟩
      case measure => simp [intOf]; omega
     ·have q' : (z != 0) = true := by rw [bne_iff_ne]; exact q
      have JB : Hid (InI w (wr.alloc (.cells #[.int .i64 z] 3)) u3 (ztz ws k j)) := J.out.below ((Below.refl _ _).alloc (Nat.le_refl _) _)
      have RB := zaa (rd_int wr z)
      have hzb := JB.out.z
      have MN : Hid (ztz ws k (j + 1) = ztz ws k j ++ [z]) := by unfold Hid; rw [MJ.out, if_neg q]
      clear q J MJ
      go_wp2_with (at_builtin; refine zag _ rfl (.tmp 21) (.tmp 23) 22 rfl w.heap.size 3 (.int .i64 0) 1 8 Tryz.underlying22 info3 rfl (by decide) _ _ _ rfl JB.out.l _ 1 _ rfl RB.out (one_int _) (by simp [maxLen]; omega) (by omega) (by omega) ?_)
      intro vN wN hownN hgrN
      have G := zaa (JB.out.grow z hownN hgrN)
      rw [← MN.out] at G
      have hzN := G.out.z
      clear hownN hgrN JB RB
      go_wp2
      go_roundw
      case rel => exact ⟨j + 1, by omega, by go_num, G, hzN⟩
      case measure => simp [intOf]; omega
    ·obtain rfl : j = 8 := by omega
     have G : Hid (InI w wr u3 (zam (ws.take (k + 1)))) := by unfold Hid; rw [← MF.out]; exact J.out
     clear J
     go_wp2
     go_roundw
     case rel => exact ⟨k + 1, by omega, by go_num, G, hzj⟩
     case measure => simp [intOf]; omega
  ·obtain rfl : k = ws.length := by omega
   have E := zaa (show zam (ws.take ws.length) = zam ws by rw [List.take_length])
   rw [E.out] at I
   obtain ⟨-, aL, cL, hvL, -⟩ := (zad I.out.l).rd
   subst hvL
   go_wp2
   go_ret
   exact ⟨_, rfl, zad I.out.l, I.out.b⟩
end Go.Proofs.YtcilodgoognmnaaGreatDoor
