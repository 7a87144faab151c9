/- Several texts laid together: PiG, PiC, PiD, PiE, PiF. -/
import Derived.Test.YtpakbbdlhlkogaaGreatDoorZAD
import Derived.Test.YtpakbbdlhlkogaaGreatDoorZAC
import Derived.Test.YtpakbbdlhlkogaaGreatDoorZAB
import Derived.Laws.CopyRow
import Derived.Laws.CopyOwn
import Derived.Deep.RegionLaw
namespace Go.Proofs.YtpakbbdlhlkogaaGreatDoor
open Go.RowKit
theorem yaul {zs : List Int} {n : Int} {k : Nat} (hk : k < zs.length) (h : n = zs[k]) : zhk zs n = true := by
 unfold zhk
 rw [List.contains_eq_any_beq, List.any_eq_true]
 exact ⟨zs[k], List.getElem_mem _, by rw [h]; simp⟩
set_option maxHeartbeats 2000000 in
theorem zty (v : Value) (zs : List Int) (n : Int) (w : World) (h : RdI w v zs) (hn : zs.length ≤ 1048576) :
  Calls Tryz.prog 145 #[v, .int .i64 n] w fun e w' => ∃ r : Int, e = .returned (.int .i64 r) ∧ (decide (0 ≤ r) = zhk zs n) ∧ w' = w := by
 obtain ⟨aZ, cZ, rfl, _, hcZ⟩ := h.shape
 have HZ := zaa hcZ
 clear h hcZ
 go_enter Tryz.func145, Tryz.ntmps145
 go_wp2
 go_loop [5, 8] (fun _ i => ∃ k : Nat, k ≤ zs.length ∧ i = .int .i64 k ∧ Hid (∀ j (h : j < zs.length), j < k → ¬ zs[j] = n)) (fun _ i => zs.length - (intOf i).toNat)
 case atStart => exact ⟨0, by omega, rfl, fun j h a => absurd a (by omega)⟩
 case round =>
  obtain ⟨k, hk, rfl, H⟩ := hrel
  by_cases hlt : k < zs.length
  ·obtain ⟨b, o, rfl, hbl, hcell⟩ := HZ.out (by omega)
   have hck := hcell k hlt
   clear hcell
   by_cases q : n = zs[k]
   ·have q' : (n == zs[k]) = true := by rw [beq_iff_eq]; exact q
    have E := zaa (yaul hlt q)
    clear q H
    generalize zs[k] = z at *
    go_wp2
    go_ret
    exact ⟨_, rfl, by rw [E.out]; exact decide_eq_true (by omega), rfl⟩
   ·have q' : (n == zs[k]) = false := by rw [beq_eq_false_iff_ne]; exact q
    have H' : Hid (∀ j (h : j < zs.length), j < k + 1 → ¬ zs[j] = n) := fun j h a => by
     by_cases e : j = k
     ·subst e; exact fun e => q e.symm
     ·exact H.out j h (by omega)
    clear q H
    generalize zs[k] = z at hck q'
    go_wp2
    go_round
    case rel => exact ⟨k + 1, by omega, by go_num, H'⟩
    case measure => simp [intOf]; omega
  ·have E := zaa (yafj (fun j h => H.out j h (by omega)))
   clear H
   go_wp2
   go_ret
   exact ⟨_, rfl, by rw [E.out]; rfl, rfl⟩
theorem zhr (v : Value) (zs : List Int) (n : Int) (w : World) (h : RdI w v zs) (hn : zs.length ≤ 1048576) :
  Calls Tryz.prog 114 #[v, .int .i64 n] w fun e w' => e = .returned (.bool (zhk zs n)) ∧ w' = w := by
 have HZ := zaa h
 obtain ⟨aZ, cZ, rfl, _, _⟩ := h.shape
 clear h
 go_enter Tryz.func114, Tryz.ntmps114
 go_wp2_with fail
 refine (zty _ zs n _ HZ.out hn).mono ?_
 rintro e w' ⟨r, rfl, hr, hw'⟩
 subst w'
 have R := zaa hr
 clear hr
 go_wp2
 go_ret
 exact ⟨zag R.out, rfl⟩
theorem Rd.take {w : World} {size : Nat} {ao : Option Addr} {n c : Nat} {xs : List Value} {m : Nat} (h : Rd w size (.slice ao n c) n xs) (hm : m ≤ n) : Rd w size (.slice ao m c) m (xs.take (m * size)) := by
 obtain ⟨h1, ao', cap, e, h2, h3⟩ := h
 cases e
 have hms : m * size ≤ n * size := Nat.mul_le_mul_right _ hm
 refine ⟨by rw [List.length_take, h1]; omega, ao, c, rfl, ⟨by omega, h2.2⟩, fun hp => ?_⟩
 obtain ⟨b, o, e1, e2, e3⟩ := h3 (by omega)
 exact ⟨b, o, e1, e2, fun j hj => by rw [e3 j (by omega), List.getElem?_take, if_pos hj]⟩
theorem RdI.take {w : World} {ao : Option Addr} {c : Nat} {zs : List Int} {m : Nat} (h : RdI w (.slice ao zs.length c) zs) (hm : m ≤ zs.length) : RdI w (.slice ao m c) (zs.take m) := by
 have := Rd.take h hm
 unfold RdI
 have e : (zs.take m).length = m := by rw [List.length_take]; omega
 have e2 : zdd (zs.take m) = (zdd zs).take (m * 1) := by rw [Nat.mul_one]; simp [zdd, List.map_take]
 rw [e, e2]
 exact this
def zfn (zs : List Int) : Bool := decide (∀ k (h : k < zs.length), zhk (zs.take k) zs[k] = false)
theorem zzx {zs : List Int} (h : ∀ k (h : k < zs.length), zhk (zs.take k) zs[k] = false) : zfn zs = true := decide_eq_true h
theorem zvc {zs : List Int} {k : Nat} (hk : k < zs.length) (h : zhk (zs.take k) zs[k] = true) : zfn zs = false := decide_eq_false (fun x => by have := x k hk; rw [h] at this; cases this)
set_option maxHeartbeats 2000000 in
theorem zmd (v : Value) (zs : List Int) (w : World) (h : RdI w v zs) (hn : zs.length ≤ 1048576) :
  Calls Tryz.prog 64 #[v] w fun e w' => e = .returned (.bool (zfn zs)) ∧ w' = w := by
 have HR := zaa h
 obtain ⟨aZ, cZ, rfl, hcap, hcZ⟩ := h.shape
 have HZ := zaa hcZ
 clear h hcZ
 go_enter Tryz.func64, Tryz.ntmps64
 go_wp2
 go_loop [3, 4, 7] (fun _ _ i => ∃ k : Nat, k ≤ zs.length ∧ i = .int .i64 k ∧ Hid (∀ j (h : j < zs.length), j < k → zhk (zs.take j) zs[j] = false)) (fun _ _ i => zs.length - (intOf i).toNat)
 case atStart => exact ⟨0, by omega, rfl, fun j h a => absurd a (by omega)⟩
 case round =>
  obtain ⟨k, hk, rfl, H⟩ := hrel
  by_cases hlt : k < zs.length
  ·obtain ⟨b, o, rfl, hbl, hcell⟩ := HZ.out (by omega)
   have hck := hcell k hlt
   have RT := zaa (RdI.take HR.out hk)
   have LT := zaa (show (zs.take k).length ≤ 1048576 by rw [List.length_take]; omega)
   clear hcell
   cases q : zhk (zs.take k) zs[k] with
   | false =>
    have H' : Hid (∀ j (h : j < zs.length), j < k + 1 → zhk (zs.take j) zs[j] = false) := fun j h a => by
     by_cases e : j = k
     ·subst e; exact q
     ·exact H.out j h (by omega)
    have Q := zaa q
    clear q H
    generalize zs[k] = z at hck Q
    go_wp2_with (go_at_call 114; refine (zhr _ (zs.take k) z _ RT.out LT.out).mono ?_; rw [Q.out]; rintro e w' ⟨rfl, rfl⟩)
    go_round
    case rel => exact ⟨k + 1, by omega, by go_num, H'⟩
    case measure => simp [intOf]; omega
   | true =>
    have E := zaa (zvc hlt q)
    have Q := zaa q
    clear q H
    generalize zs[k] = z at hck Q
    go_wp2_with (go_at_call 114; refine (zhr _ (zs.take k) z _ RT.out LT.out).mono ?_; rw [Q.out]; rintro e w' ⟨rfl, rfl⟩)
    go_ret
    exact ⟨zag E.out.symm, rfl⟩
  ·have E := zaa (zzx (fun j h => H.out j h (by omega)))
   clear H
   go_wp2
   go_ret
   exact ⟨zag E.out.symm, rfl⟩
def ufL (at_ : Int) (zs : List Int) (k : Nat) : List Se := (List.range k).map (fun j : Nat => ⟨at_ + (j : Int), zs.getD j 0⟩)
theorem yaqk (a : Int) (zs : List Int) (k : Nat) : (ufL a zs k).length = k := by simp [ufL]
theorem yaol (a : Int) (zs : List Int) (k : Nat) (h : k < zs.length) : ufL a zs (k + 1) = ufL a zs k ++ [⟨a + (k : Int), zs[k]⟩] := by
 unfold ufL; rw [List.range_succ, List.map_append]
 simp [List.getD_eq_getElem?_getD, List.getElem?_eq_getElem h]
set_option maxRecDepth 100000 in
set_option maxHeartbeats 4000000 in
theorem zht (a : Int) (v : Value) (zs : List Int) (w : World) (h : RdI w v zs) (hn : zs.length ≤ 64) (ha : 0 ≤ a ∧ a ≤ 1000) :
  Calls Tryz.prog 71 #[.int .i64 a, v] w fun e w' => ∃ v', e = .returned v' ∧ Row w' 83 2 w.heap.size w'.heap.size v' (ufL a zs zs.length).length (ses (ufL a zs zs.length)) ∧ Below w.heap.size w w' := by
 obtain ⟨aU, cU, rfl, _, hcU⟩ := h.shape
 have HU := zaa hcU
 obtain ⟨ha0, ha1⟩ := ha
 clear h hcU
 go_enter Tryz.func71, Tryz.ntmps71
 go_wp2
 go_loopw [5, 6, 7, 10] (fun vL _ _ i wr => ∃ m : Nat, m ≤ zs.length ∧ i = .int .i64 m ∧ Hid (UpI w wr vL (ufL a zs m)) ∧ w.heap.size ≤ wr.heap.size) (fun _ _ _ i _ => zs.length - (intOf i).toNat)
 case atStart => exact ⟨0, by omega, rfl, ⟨World.ownsRow_nil _ _ _ _, Below.refl _ _⟩, Nat.le_refl _⟩
 case round =>
  obtain ⟨m, hm, rfl, I, hz⟩ := hrel
  by_cases hlt : m < zs.length
  ·obtain ⟨b, o, rfl, hbl, hcell⟩ := HU.out (by omega)
   have e0 := (I.out.b.cell (p := ⟨b, o + m, none⟩) hbl).trans (hcell m hlt)
   have m0 : (0 : Int) ≤ (m : Int) := by omega
   have m1 : (m : Int) < (zs.length : Int) := by omega
   have NX := zaa (yaol a zs m hlt)
   have hle : (ufL a zs m).length ≤ 64 := by rw [yaqk]; omega
   clear hcell
   generalize zs[m] = x at *
   obtain ⟨wb, hwb⟩ : ∃ wb : World, wb = wr.alloc (.cells #[.int .i64 (a + (m : Int)), .int .i64 x] 83) := ⟨_, rfl⟩
   have IB : Hid (UpI w wb u5 (ufL a zs m)) := by rw [hwb]; exact I.out.below ((Below.refl _ _).alloc (Nat.le_refl _) _)
   have RB : Hid (Rd wb 2 (.slice (some ⟨wr.heap.size, 0, none⟩) 1 1) 1 (ses [⟨a + (m : Int), x⟩])) := by rw [hwb]; exact zil wr _ _
   have hzb := IB.out.z
   subst hwb
   go_wp2_with (first
    | (at_builtin; refine zae _ rfl (.tmp 15) (.tmp 21) 46 rfl w.heap.size 83 (.agg #[.int .i64 0, .int .i64 0]) 2 16 Tryz.underlying46 zhi rfl (by decide) _ _ _ rfl IB.out.l _ 1 _ rfl RB.out (zdp _) (by simp [maxLen]; omega) (by omega) (by omega) ?_))
   intro vN wN hownN hgrN
   have G := zaa (IB.out.grow [⟨a + (m : Int), x⟩] hownN hgrN)
   rw [← NX.out] at G
   have hzN := G.out.z
   clear hownN hgrN IB RB I
   go_wp2
   go_roundw
   case rel => exact ⟨m + 1, by omega, by go_num, G, by omega⟩
   case measure => simp [intOf]; omega
  ·obtain rfl : m = zs.length := by omega
   obtain ⟨-, aL, cL, hvL, -⟩ := (zad I.out.l).rd
   subst hvL
   go_wp2
   go_ret
   exact ⟨_, rfl, zad I.out.l, I.out.b⟩
set_option maxRecDepth 100000 in
set_option maxHeartbeats 2000000 in
theorem eq8 (a0 a1 a2 a3 a4 a5 a6 a7 b0 b1 b2 b3 b4 b5 b6 b7 : Int) (w : World) : (Op.equalIn 9999 54 (.agg #[.int .i64 a0, .int .i64 a1, .int .i64 a2, .int .i64 a3, .int .i64 a4, .int .i64 a5, .int .i64 a6, .int .i64 a7]) (.agg #[.int .i64 b0, .int .i64 b1, .int .i64 b2, .int .i64 b3, .int .i64 b4, .int .i64 b5, .int .i64 b6, .int .i64 b7])).run Tryz.prog w = .ok (decide ([a0, a1, a2, a3, a4, a5, a6, a7] = [b0, b1, b2, b3, b4, b5, b6, b7])) w := by
 have U3 := Tryz.underlying3
 have A3 := Tryz.isAgg3
 have Z3 := Tryz.sizeOf3
 rw [show (9999 : Nat) = 9998 + 1 from rfl, Op.equalIn]
 simp only [Sem.run_bind, run_underlying Tryz.underlying54, Result.andThen_ok]
 simp only [Std.Legacy.Range.forIn_eq_forIn_range', Std.Legacy.Range.size, Nat.sub_zero, Nat.add_sub_cancel, Nat.div_one, List.range'_succ, List.range'_zero, List.forIn_cons, List.forIn_nil]
 go_simp
 by_cases h0 : a0 = b0
 case neg => simp [h0]
 by_cases h1 : a1 = b1
 case neg => simp [h0, h1]
 by_cases h2 : a2 = b2
 case neg => simp [h0, h1, h2]
 by_cases h3 : a3 = b3
 case neg => simp [h0, h1, h2, h3]
 by_cases h4 : a4 = b4
 case neg => simp [h0, h1, h2, h3, h4]
 by_cases h5 : a5 = b5
 case neg => simp [h0, h1, h2, h3, h4, h5]
 by_cases h6 : a6 = b6
 case neg => simp [h0, h1, h2, h3, h4, h5, h6]
 by_cases h7 : a7 = b7
 case neg => simp [h0, h1, h2, h3, h4, h5, h6, h7]
 simp [h0, h1, h2, h3, h4, h5, h6, h7]
def zfo (xs ys : List Int) : Bool := decide (xs = ys)
theorem zsa {xs ys : List Int} (h : xs = ys) : zfo xs ys = true := decide_eq_true h
theorem zyo {xs ys : List Int} (h : ¬ xs = ys) : zfo xs ys = false := decide_eq_false h
set_option maxRecDepth 100000 in
set_option maxHeartbeats 4000000 in
@[go_sem ↓] theorem yawx (k s l a0 a1 a2 a3 a4 a5 a6 a7 k' s' l' b0 b1 b2 b3 b4 b5 b6 b7 : Int) (w : World) : (Op.equalIn 10000 56 (.agg #[.int .i64 k, .int .i64 s, .int .i64 l, .int .i64 a0, .int .i64 a1, .int .i64 a2, .int .i64 a3, .int .i64 a4, .int .i64 a5, .int .i64 a6, .int .i64 a7]) (.agg #[.int .i64 k', .int .i64 s', .int .i64 l', .int .i64 b0, .int .i64 b1, .int .i64 b2, .int .i64 b3, .int .i64 b4, .int .i64 b5, .int .i64 b6, .int .i64 b7])).run Tryz.prog w = .ok (zfo [k, s, l, a0, a1, a2, a3, a4, a5, a6, a7] [k', s', l', b0, b1, b2, b3, b4, b5, b6, b7]) w := by
 have e8 := eq8 a0 a1 a2 a3 a4 a5 a6 a7 b0 b1 b2 b3 b4 b5 b6 b7 w
 unfold zfo
 by_cases g0 : k = k'
 case neg => go_simp
 by_cases g1 : s = s'
 case neg => go_simp
 by_cases g2 : l = l'
 case neg => go_simp
 subst g0 g1 g2
 go_simp
 split
 ·rename_i h
  rw [h]
 ·rename_i h
  rw [Bool.not_eq_false] at h
  rw [h]
set_option maxRecDepth 100000 in
set_option maxHeartbeats 2000000 in
theorem znz (x : Ino) (w : World) (hT : TS w) (hE : ED w) (hr : x.R) : Calls Tryz.prog 109 #[x.v] w fun e w' => e = .returned (.bool (zdl x)) ∧ Below w.heap.size w w' := by
 have hv : x.v = .agg x.cs.toArray := rfl
 have BW : Hid (Below w.heap.size w (w.alloc (.cells x.cs.toArray 56))) := (Below.refl _ _).alloc (Nat.le_refl _) _
 have CA : Hid (∀ j, (w.alloc (.cells x.cs.toArray 56)).cell? ⟨w.heap.size, j, none⟩ = x.cs[j]?) := fun j => (zao (xs := x.cs) (zah rfl) j).1
 have T : Hid (TS (w.alloc (.cells x.cs.toArray 56))) := hT.below BW.out
 obtain ⟨d0, d1, d2, d3, d4, d5, d6, d7, d8, d9, d10⟩ := ED.cells (hE.below BW.out)
 obtain ⟨p0, p1, p2, p3, p4, p5, p6, p7, p8, p9, p10⟩ := Ino.all CA.out
 have LF := zaa (fun w1 (h : TS w1) => yacr x w1 h hr)
 rw [hv]
 clear hT hE hr CA
 by_cases h0 : x.ns = [0, 0, 0, 0, 0, 0, 0, 0, 0, 0, 0]
 ·have E := zaa (yajv h0)
  have q1 : zfo [x.kind, x.size, x.links, x.m0, x.m1, x.m2, x.m3, x.m4, x.m5, x.m6, x.m7] [0, 0, 0, 0, 0, 0, 0, 0, 0, 0, 0] = true := zsa h0
  clear h0
  go_enter Tryz.func109, Tryz.ntmps109
  go_wp2
  go_ret
  exact ⟨zag E.out.symm, BW.out⟩
 have q1 : zfo [x.kind, x.size, x.links, x.m0, x.m1, x.m2, x.m3, x.m4, x.m5, x.m6, x.m7] [0, 0, 0, 0, 0, 0, 0, 0, 0, 0, 0] = false := zyo h0
 by_cases h1 : x.ns = [2, 0, 1, 0, 0, 0, 0, 0, 0, 0, 0]
 ·have E := zaa (yaqn h1)
  have q2 : zfo [x.kind, x.size, x.links, x.m0, x.m1, x.m2, x.m3, x.m4, x.m5, x.m6, x.m7] [2, 0, 1, 0, 0, 0, 0, 0, 0, 0, 0] = true := zsa h1
  clear h0 h1
  go_enter Tryz.func109, Tryz.ntmps109
  go_wp2
  go_ret
  exact ⟨zag E.out.symm, BW.out⟩
 have q2 : zfo [x.kind, x.size, x.links, x.m0, x.m1, x.m2, x.m3, x.m4, x.m5, x.m6, x.m7] [2, 0, 1, 0, 0, 0, 0, 0, 0, 0, 0] = false := zyo h1
 have E := zaa (yaog h0 h1)
 clear h0 h1
 go_enter Tryz.func109, Tryz.ntmps109
 go_wp2_with fail
 refine (LF.out _ T.out).mono ?_
 rw [E.out]
 rintro e w1 ⟨rfl, hb1⟩
 have B1 := zaa (zab BW.out hb1 BW.out.size)
 clear hb1
 go_wp2
 go_ret
 exact ⟨rfl, B1.out⟩
theorem yabs (b : Nat) (w : World) : (Instr.sliceAt 158 (.pointer (some ⟨b, 0, none⟩)) (some (.int .i64 3)) none none).run Tryz.prog w = .ok (.slice (some ⟨b, 3, none⟩) 8 8) w := by
 have al : Tryz.prog.arrayLen 158 = 11 := by kernel_rfl
 rw [run_sliceAt_array_l w 158 ⟨b, 0, none⟩ (by kernel_rfl) .i64 3 (by omega) (by rw [al]; omega), al]
 have sz : (sizeOf (Tryz.prog.elem 158)).run Tryz.prog w = .ok 1 w := by kernel_rfl
 rw [sz]
 simp [Result.andThen, slicedAt, Addr.add]
theorem yagh (b : Nat) (w : World) : (Instr.sliceAt 158 (.pointer (some ⟨b, 0, none⟩)) none none none).run Tryz.prog w = .ok (.slice (some ⟨b, 0, none⟩) 11 11) w := by
 have al : Tryz.prog.arrayLen 158 = 11 := by kernel_rfl
 rw [run_sliceAt_array_all w 158 ⟨b, 0, none⟩ (by kernel_rfl), al]
 have sz : (sizeOf (Tryz.prog.elem 158)).run Tryz.prog w = .ok 1 w := by kernel_rfl
 rw [sz]
 simp [Result.andThen, slicedAt, Addr.add]
theorem yapx (b : Nat) (w : World) : (Instr.sliceAt 54 (.pointer (some ⟨b, 3, none⟩)) none none none).run Tryz.prog w = .ok (.slice (some ⟨b, 3, none⟩) 8 8) w := by
 have al : Tryz.prog.arrayLen 54 = 8 := by kernel_rfl
 rw [run_sliceAt_array_all w 54 ⟨b, 3, none⟩ (by kernel_rfl), al]
 have sz : (sizeOf (Tryz.prog.elem 54)).run Tryz.prog w = .ok 1 w := by kernel_rfl
 rw [sz]
 simp [Result.andThen, slicedAt, Addr.add]
def preC (x : Ino) : List Value := [.int .i64 x.kind, .int .i64 x.size, .int .i64 x.links, .int .i64 0, .int .i64 0, .int .i64 0, .int .i64 0, .int .i64 0, .int .i64 0, .int .i64 0, .int .i64 0]
def mapC (x : Ino) : List Value := [.int .i64 x.m0, .int .i64 x.m1, .int .i64 x.m2, .int .i64 x.m3, .int .i64 x.m4, .int .i64 x.m5, .int .i64 x.m6, .int .i64 x.m7]
theorem yacx (x : Ino) : splice (preC x) 3 (mapC x) = x.cs := rfl
theorem yaov (x : Ino) : ∀ v ∈ mapC x, v.oneCell' = true := by
 intro v hv
 simp [mapC] at hv
 rcases hv with rfl | rfl | rfl | rfl | rfl | rfl | rfl | rfl <;> rfl
theorem yasn (x : Ino) (j : Nat) (v : Value) (h : (mapC x)[j]? = some v) : x.cs[3 + j]? = some v := by
 have hj : j < 8 := by
  have := (List.getElem?_eq_some_iff.1 h).1
  exact this
 rcases (show j = 0 ∨ j = 1 ∨ j = 2 ∨ j = 3 ∨ j = 4 ∨ j = 5 ∨ j = 6 ∨ j = 7 by omega) with rfl | rfl | rfl | rfl | rfl | rfl | rfl | rfl <;> exact h
theorem yawl (x : Ino) : zdd x.ns = x.cs := rfl
theorem yawo {x : Ino} {w : World} {b : Nat} {t : TypeId} (h : w.heap[b]? = some (.cells x.cs.toArray t (0, 0))) : RdI w (.slice (some ⟨b, 0, none⟩) 11 11) x.ns := by
 refine ⟨by rw [zgm, Nat.mul_one], some ⟨b, 0, none⟩, 11, rfl, ⟨Nat.le_refl _, fun e => by cases e⟩, fun _ => ⟨b, 0, rfl, (Array.getElem?_eq_some_iff.1 h).1, fun j hj => ?_⟩⟩
 rw [Nat.zero_add, yawl]
 exact (zao (xs := x.cs) h j).1
theorem yavq (i : Int) (x : Ino) : ufL (48 + 12 * i) x.ns x.ns.length = wrL i x 8 := by
 have e1 : x.ns.length = 11 := rfl
 rw [e1]
 simp [ufL, wrL, List.range_succ, Ino.ns, Ino.map]
theorem sz3 : (Tryz.prog.info? 3).map (·.size) = some 1 := by kernel_rfl
set_option maxRecDepth 100000 in
set_option maxHeartbeats 4000000 in
theorem zik (i : Int) (x : Ino) (w : World) (hT : TS w) (hE : ED w) (hr : x.R) :
  Calls Tryz.prog 72 #[.int .i64 i, x.v] w fun e w' => ∃ v', e = .returned (.tuple #[v', .int .i64 (iuC i x)]) ∧ Row w' 83 2 w.heap.size w'.heap.size v' (iuL i x).length (ses (iuL i x)) ∧ Below w.heap.size w w' := by
 have hv : x.v = .agg x.cs.toArray := rfl
 have BW : Hid (Below w.heap.size w (w.alloc (.cells x.cs.toArray 56))) := (Below.refl _ _).alloc (Nat.le_refl _) _
 have CA : Hid (∀ w', Below (w.alloc (.cells x.cs.toArray 56)).heap.size (w.alloc (.cells x.cs.toArray 56)) w' → ∀ j, w'.cell? ⟨w.heap.size, j, none⟩ = x.cs[j]?) := fun w' hb j => by
  have : w'.heap[w.heap.size]? = some (.cells x.cs.toArray 56 (0, 0)) := (hb.block _ (by simp)).trans (zah rfl)
  exact (zao (xs := x.cs) this j).1
 have T : Hid (TS (w.alloc (.cells x.cs.toArray 56))) := hT.below BW.out
 have TE : Hid (ED (w.alloc (.cells x.cs.toArray 56))) := hE.below BW.out
 have LF := zaa (fun w1 (h : TS w1) (g : ED w1) => znz x w1 h g hr)
 have hz : w.heap.size < (w.alloc (.cells x.cs.toArray 56)).heap.size := by simp
 obtain ⟨W, hW⟩ : ∃ W, W = w.alloc (.cells x.cs.toArray 56) := ⟨_, rfl⟩
 rw [← hW] at BW CA T TE hz
 rw [hv]
 clear hT hE hr
 rcases yalw i x with ⟨c1, e1, e2⟩ | ⟨c1, c2, e1, e2⟩ | ⟨c1, c2, e1, e2⟩
 ·rw [e1, e2]
  obtain ⟨k1, k2⟩ := zyn (i := i) (f := 0) (by omega)
  have K1 := zaa k1
  have K2 := zaa k2
  clear e1 e2 c1 k1 k2
  go_enter Tryz.func72, Tryz.ntmps72
  go_wp2_with fail
  rw [← hW]
  clear hW
  refine (zfc _ _ _).mono ?_
  rw [K2.out]
  rintro e w' ⟨rfl, hw'⟩
  subst w'
  go_wp2
  go_ret2
  exact ⟨_, rfl, Row.nil _ _ _ _ _, BW.out⟩
 ·rw [e1, e2]
  obtain ⟨k1, k2⟩ := yaap (i := i) (f := 0) (by omega) (by omega)
  have K1 := zaa k1
  have K2 := zaa k2
  have C2 := zaa c2
  clear e1 e2 c1 c2 k1 k2
  go_enter Tryz.func72, Tryz.ntmps72
  go_wp2_with fail
  rw [← hW]
  clear hW
  refine (zfc _ _ _).mono ?_
  rw [K1.out, K2.out]
  rintro e w' ⟨rfl, hw'⟩
  subst w'
  obtain ⟨p0, p1, p2, p3, p4, p5, p6, p7, p8, p9, p10⟩ := Ino.all (CA.out W (Below.refl _ _))
  go_wp2_with fail
  refine (LF.out _ T.out TE.out).mono ?_
  rw [C2.out]
  rintro e w1 ⟨rfl, hb⟩
  have B1 := zaa (zab BW.out hb (by omega))
  clear hb p0 p1 p2 p3 p4 p5 p6 p7 p8 p9 p10
  go_wp2
  go_ret2
  exact ⟨_, rfl, Row.nil _ _ _ _ _, B1.out⟩
 ·rw [e1, e2]
  obtain ⟨k1, k2⟩ := yaap (i := i) (f := 0) (by omega) (by omega)
  have K1 := zaa k1
  have K2 := zaa k2
  have C2 := zaa c2
  have UF := zaa (yavq i x)
  have RA := zaa (show 0 ≤ 48 + 12 * i ∧ 48 + 12 * i ≤ 1000 by omega)
  clear e1 e2 c1 c2 k1 k2
  go_enter Tryz.func72, Tryz.ntmps72
  go_wp2_with fail
  rw [← hW]
  clear hW
  refine (zfc _ _ _).mono ?_
  rw [K1.out, K2.out]
  rintro e w' ⟨rfl, hw'⟩
  subst w'
  obtain ⟨p0, p1, p2, p3, p4, p5, p6, p7, p8, p9, p10⟩ := Ino.all (CA.out W (Below.refl _ _))
  go_wp2_with fail
  refine (LF.out _ T.out TE.out).mono ?_
  rw [C2.out]
  rintro e w1 ⟨rfl, hb⟩
  have B1 := zaa (zab BW.out hb (by omega))
  have hz1 : W.heap.size ≤ w1.heap.size := hb.size
  have HB := zaa hb
  obtain ⟨d0, d1, d2, d3, d4, d5, d6, d7, d8, d9, d10⟩ := Ino.all (CA.out w1 hb)
  clear hb p0 p1 p2 p3 p4 p5 p6 p7 p8 p9 p10
  go_wp2_with fail
  clear d0 d1 d2 d3 d4 d5 d6 d7 d8 d9 d10
  obtain ⟨wb, hwb⟩ : ∃ wb, wb = w1.alloc (.cells (preC x).toArray 158) := ⟨_, rfl⟩
  have HC : Hid (Below w1.heap.size w1 wb) := by rw [hwb]; exact (Below.refl _ _).alloc (Nat.le_refl _) _
  have HZ : w1.heap.size < wb.heap.size := by rw [hwb]; simp
  have HG : Hid (∀ w', Below wb.heap.size wb w' → w'.heap[w1.heap.size]? = some (.cells (preC x).toArray 158 (0, 0))) := fun w' hb => (hb.block _ HZ).trans (by rw [hwb]; exact zah rfl)
  have HS : Hid (∀ w', Below wb.heap.size wb w' → ∀ j v, (mapC x)[j]? = some v → w'.cell? ((⟨w.heap.size, 3, none⟩ : Addr).add j) = some v) := fun w' hb j v hv => by rw [Addr.add_lit]; exact (CA.out w' (zab (zab HB.out HC.out hz1) hb (by omega)) (3 + j)).trans (yasn x j v hv)
  have HD : Hid (∀ w', Below wb.heap.size wb w' → Below w1.heap.size w1 w') := fun w' hb => zab HC.out hb (by omega)
  unfold preC at hwb
  rw [← hwb]
  clear hwb
  have s1 := yabs w1.heap.size
  have s2 := yapx w.heap.size
  have s3 := yagh w1.heap.size
  go_region_held3 (fun _ => True) (trivial)
   (first
    | (refine step_copy_splice rfl (.tmp 27) (.tmp 29) 23 23 rfl 3 Tryz.underlying23 sz3 _ _ _ _ _ _ rfl rfl w1.heap.size 3 (preC x) 158 (HG.out _ (by repeat (first | exact Below.refl _ _ | refine Below.drew ?_))) (mapC x) rfl (fun _ => ⟨rfl, _, rfl, HS.out _ (by repeat (first | exact Below.refl _ _ | refine Below.drew ?_))⟩) (Nat.le_refl 11) (yaov x) w1.heap.size w1 (HD.out _ (by repeat (first | exact Below.refl _ _ | refine Below.drew ?_))) (Nat.le_refl _) ?_; intro w4 hg4 hb4))
  all_goals
   rw [yacx] at hg4
   have R4 := zaa (yawo hg4.out)
   have B4 := zaa (zab B1.out hb4 (by omega))
   have hz4 : w1.heap.size ≤ w4.heap.size := hb4.size
   clear hg4 hb4 HG HS HD HC s1 s2
   go_wp2_with fail
   refine (zht _ _ x.ns _ R4.out (show (11 : Nat) ≤ 64 by omega) RA.out).mono ?_
   rw [UF.out]
   rintro e w5 ⟨v5, rfl, hr5, hb5⟩
   obtain ⟨-, aL, cL, hvL, -⟩ := hr5.rd
   subst hvL
   have R5 := zaa (hr5.wide (by omega : w.heap.size ≤ w4.heap.size) (Nat.le_refl _))
   have B5 := zaa (zab B4.out hb5 (by omega))
   clear hr5 hb5
   go_wp2
   go_ret2
   exact ⟨_, rfl, R5.out, B5.out⟩
def FD (w : World) : Prop := ∃ t fr, w.heap[0]? = some (.cells #[.int .i64 0, .string ⟨#[]⟩, .int .i64 (-1)] t fr)
theorem FD.lt {w : World} (h : FD w) : 0 < w.heap.size := by
 obtain ⟨t, fr, h⟩ := h
 exact (Array.getElem?_eq_some_iff.1 h).1
theorem FD.below {w w' : World} (h : FD w) (hb : Below w.heap.size w w') : FD w' := by
 have hl := h.lt
 obtain ⟨t, fr, h⟩ := h
 exact ⟨t, fr, (hb.block _ hl).trans h⟩
theorem FD.cells {w : World} (h : FD w) : w.cell? ⟨0, 0, none⟩ = some (.int .i64 0) ∧ w.cell? ⟨0, 1, none⟩ = some (.string ⟨#[]⟩) ∧ w.cell? ⟨0, 2, none⟩ = some (.int .i64 (-1)) := by
 obtain ⟨t, fr, h⟩ := h
 simp [World.cell?, h]
def zgk (a : Int) (s : ByteArray) (c a' : Int) (s' : ByteArray) (c' : Int) : Bool := (a == a') && ((s.toList == s'.toList) && (c == c'))
set_option maxRecDepth 100000 in
set_option maxHeartbeats 4000000 in
@[go_sem ↓] theorem yawy (a : Int) (s : ByteArray) (c a' : Int) (s' : ByteArray) (c' : Int) (w : World) : (Op.equalIn 10000 69 (.agg #[.int .i64 a, .string s, .int .i64 c]) (.agg #[.int .i64 a', .string s', .int .i64 c'])).run Tryz.prog w = .ok (zgk a s c a' s' c') w := by
 unfold zgk
 cases g0 : (a == a')
 ·go_simp
 cases g1 : (s.toList == s'.toList)
 ·go_simp
 cases g2 : (c == c')
 ·go_simp
 ·go_simp
theorem zxt : (⟨#[]⟩ : ByteArray).toList = [] := (yajy _).2 rfl
theorem zkj (x : Den) : zgk x.dir x.name x.child 0 ⟨#[]⟩ (-1) = x.freeB := by
 unfold zgk Den.freeB
 congr 2
 rw [zxt, Bool.eq_iff_iff, beq_iff_eq, beq_iff_eq]
 exact yajy x.name
theorem Den.okB_free {x : Den} (h : x.freeB = true) : x.okB = true := by unfold Den.okB; rw [h]; rfl
theorem Den.okB_not {x : Den} (h : x.freeB = false) : x.okB = (decide (1 ≤ x.child ∧ x.child ≤ 15) && (decide (0 ≤ x.dir ∧ x.dir ≤ 15) && nmB x.name)) := by unfold Den.okB; rw [h, Bool.false_or]
theorem yabt (s : ByteArray) : (zpv s == 0) = nmB s := by
 unfold zpv
 cases h : nmB s with
 | true =>
  have := (of_decide_eq_true h : 1 ≤ s.size ∧ s.size ≤ 6 ∧ _)
  rw [if_neg (by omega), if_pos rfl]; rfl
 | false =>
  split
  ·rfl
  ·rw [if_neg (by decide)]; rfl
theorem zhp (s : ByteArray) (w : World) (hs : s.size ≤ maxLen) : Calls Tryz.prog 116 #[.string s] w fun e w' => e = .returned (.bool (nmB s)) ∧ Below w.heap.size w w' := by
 have P := zaa (yabt s)
 have LP := zaa (fun w1 => zhb s w1 hs)
 generalize zjc s = pv at *
 generalize zpv s = pc at *
 clear hs
 go_enter Tryz.func116, Tryz.ntmps116
 go_wp2_with fail
 refine (LP.out _).mono ?_
 rintro e w1 ⟨rfl, hb1⟩
 go_wp2
 go_ret
 exact ⟨zag P.out, hb1⟩
set_option maxRecDepth 100000 in
set_option maxHeartbeats 4000000 in
theorem zlw (x : Den) (w : World) (hF : FD w) (hs : x.name.size ≤ maxLen) : Calls Tryz.prog 69 #[x.v] w fun e w' => e = .returned (.bool x.okB) ∧ Below w.heap.size w w' := by
 have LN := zaa (fun w1 => zhp x.name w1 hs)
 have DF := zkj x
 have OF := @Den.okB_free x
 have ON := @Den.okB_not x
 obtain ⟨d, s, c⟩ := x
 simp only at LN DF ON hs
 unfold Den.v
 simp only
 have BW := zaa ((Below.refl w.heap.size w).alloc (Nat.le_refl _) (.cells #[.int .i64 d, .string s, .int .i64 c] 69))
 have CB : Hid (∀ w', Below (w.alloc (.cells #[.int .i64 d, .string s, .int .i64 c] 69)).heap.size (w.alloc (.cells #[.int .i64 d, .string s, .int .i64 c] 69)) w' → w'.cell? ⟨w.heap.size, 0, none⟩ = some (.int .i64 d) ∧ w'.cell? ⟨w.heap.size, 1, none⟩ = some (.string s) ∧ w'.cell? ⟨w.heap.size, 2, none⟩ = some (.int .i64 c)) := fun w' hb => zaw ((hb.block _ (by simp)).trans (zah rfl))
 obtain ⟨x0, x1, x2⟩ := CB.out _ (Below.refl _ _)
 obtain ⟨f0, f1, f2⟩ := FD.cells (hF.below BW.out)
 clear hF hs
 cases h0 : (Den.mk d s c).freeB with
 | true =>
  rw [h0] at DF
  have E := zaa (OF h0)
  clear OF ON LN CB h0
  go_enter Tryz.func69, Tryz.ntmps69
  go_wp2
  go_ret
  exact ⟨zag E.out.symm, BW.out⟩
 | false =>
  rw [h0] at DF
  have E := zaa (ON h0)
  clear OF ON h0
  cases h1 : nmB s with
  | false =>
   rw [h1] at E
   have N1 := zaa h1
   clear h1 CB
   go_enter Tryz.func69, Tryz.ntmps69
   go_wp2_with fail
   refine (LN.out _).mono ?_
   rw [N1.out]
   rintro e w1 ⟨rfl, hb1⟩
   have B1 := zaa (zab BW.out hb1 BW.out.size)
   clear hb1 x0 x1 x2 f0 f1 f2
   go_wp2
   go_ret
   exact ⟨zag (by rw [E.out, Bool.and_false, Bool.and_false]), B1.out⟩
  | true =>
   rw [h1] at E
   have N1 := zaa h1
   clear h1
   by_cases h2 : 0 ≤ d ∧ d < 16
   case neg =>
    have E2 := zaa (show (Den.mk d s c).okB = false by rw [E.out, decide_eq_false (show ¬ (0 ≤ d ∧ d ≤ 15) by omega), Bool.false_and, Bool.and_false])
    have H2 := zaa h2
    clear h2 E
    go_enter Tryz.func69, Tryz.ntmps69
    go_wp2_with fail
    refine (LN.out _).mono ?_
    rw [N1.out]
    rintro e w1 ⟨rfl, hb1⟩
    have B1 := zaa (zab BW.out hb1 BW.out.size)
    clear x0 x1 x2 f0 f1 f2
    obtain ⟨x0, x1, x2⟩ := CB.out _ hb1
    clear hb1 CB
    go_wp2_with fail
    refine (zcs _ _ _ H2.out).mono ?_
    rintro e w' ⟨rfl, hw'⟩
    subst w'
    go_wp2
    go_ret
    exact ⟨zag E2.out.symm, B1.out⟩
   by_cases h3 : 0 ≤ c ∧ c < 16
   case neg =>
    have E2 := zaa (show (Den.mk d s c).okB = false by rw [E.out, decide_eq_false (show ¬ (1 ≤ c ∧ c ≤ 15) by omega), Bool.false_and])
    have H2 := zaa h2
    have H3 := zaa h3
    clear h2 h3 E
    go_enter Tryz.func69, Tryz.ntmps69
    go_wp2_with fail
    refine (LN.out _).mono ?_
    rw [N1.out]
    rintro e w1 ⟨rfl, hb1⟩
    have B1 := zaa (zab BW.out hb1 BW.out.size)
    clear x0 x1 x2 f0 f1 f2
    obtain ⟨x0, x1, x2⟩ := CB.out _ hb1
    clear hb1 CB
    go_wp2_with fail
    refine (zbq _ _ _ H2.out).mono ?_
    rintro e w' ⟨rfl, hw'⟩
    subst w'
    go_wp2_with fail
    refine (zcs _ _ _ H3.out).mono ?_
    rintro e w' ⟨rfl, hw'⟩
    subst w'
    go_wp2
    go_ret
    exact ⟨zag E2.out.symm, B1.out⟩
   have E2 := zaa (show (Den.mk d s c).okB = (c != 0) by
    rw [E.out, decide_eq_true (show 0 ≤ d ∧ d ≤ 15 by omega)]
    by_cases h : c = 0
    ·rw [h]; rfl
    ·rw [decide_eq_true (show 1 ≤ c ∧ c ≤ 15 by omega), eq_comm]; simpa using h)
   have H2 := zaa h2
   have H3 := zaa h3
   clear h2 h3 E
   go_enter Tryz.func69, Tryz.ntmps69
   go_wp2_with fail
   refine (LN.out _).mono ?_
   rw [N1.out]
   rintro e w1 ⟨rfl, hb1⟩
   have B1 := zaa (zab BW.out hb1 BW.out.size)
   clear x0 x1 x2 f0 f1 f2
   obtain ⟨x0, x1, x2⟩ := CB.out _ hb1
   clear hb1 CB
   go_wp2_with fail
   refine (zbq _ _ _ H2.out).mono ?_
   rintro e w' ⟨rfl, hw'⟩
   subst w'
   go_wp2_with fail
   refine (zbq _ _ _ H3.out).mono ?_
   rintro e w' ⟨rfl, hw'⟩
   subst w'
   go_wp2
   go_ret
   exact ⟨zag E2.out.symm, B1.out⟩
theorem yald (b : Nat) (w : World) : (Instr.sliceAt 123 (.pointer (some ⟨b, 0, none⟩)) none none none).run Tryz.prog w = .ok (.slice (some ⟨b, 0, none⟩) 3 3) w := by
 have al : Tryz.prog.arrayLen 123 = 3 := by kernel_rfl
 rw [run_sliceAt_array_all w 123 ⟨b, 0, none⟩ (by kernel_rfl), al]
 have sz : (sizeOf (Tryz.prog.elem 123)).run Tryz.prog w = .ok 1 w := by kernel_rfl
 rw [sz]
 simp [Result.andThen, slicedAt, Addr.add]
theorem yaou {w : World} {b : Nat} {t : TypeId} {x y z : Int} (h : w.heap[b]? = some (.cells #[.int .i64 x, .int .i64 y, .int .i64 z] t (0, 0))) : RdI w (.slice (some ⟨b, 0, none⟩) 3 3) [x, y, z] := by
 refine ⟨by rw [zgm, Nat.mul_one], some ⟨b, 0, none⟩, 3, rfl, ⟨Nat.le_refl _, fun e => by cases e⟩, fun _ => ⟨b, 0, rfl, (Array.getElem?_eq_some_iff.1 h).1, fun j hj => ?_⟩⟩
 rw [Nat.zero_add]
 exact (zao (xs := [.int .i64 x, .int .i64 y, .int .i64 z]) h j).1
theorem yafu {s : ByteArray} (h : s.size = 0) : pk s s.size = 0 := by
 rw [h]; rfl
theorem yama {x : Den} (h : x.okB = true) : zjc x.name = ((pk x.name x.name.size : Nat) : Int) := by
 cases hn : nmB x.name with
 | true => exact (ztg hn).1
 | false =>
  have hf : x.freeB = true := by
   unfold Den.okB at h
   rw [hn, Bool.and_false, Bool.and_false, Bool.or_false] at h
   exact h
  unfold Den.freeB at hf
  simp only [Bool.and_eq_true, beq_iff_eq] at hf
  rw [yafu hf.2.1]
  unfold zjc
  rw [hn]
  rfl
theorem yani {x : Den} (h : x.okB = true) : -1 ≤ x.child ∧ x.child ≤ 15 := by
 unfold Den.okB Den.freeB at h
 simp only [Bool.or_eq_true, Bool.and_eq_true, beq_iff_eq, decide_eq_true_eq] at h
 omega
theorem yavp (k : Int) (x : Den) : ufL (240 + 3 * k) [x.dir, ((pk x.name x.name.size : Nat) : Int), x.child + 1] 3 = enL k x := by
 simp [ufL, enL, List.range_succ]
set_option maxRecDepth 100000 in
set_option maxHeartbeats 4000000 in
theorem zeo (k : Int) (x : Den) (w : World) (hF : FD w) (hs : x.name.size ≤ maxLen) :
  Calls Tryz.prog 29 #[.int .i64 k, x.v] w fun e w' => ∃ v', e = .returned (.tuple #[v', .int .i64 (duC k x)]) ∧ Row w' 83 2 w.heap.size w'.heap.size v' (duL k x).length (ses (duL k x)) ∧ Below w.heap.size w w' := by
 have LF := zaa (fun w1 (h : FD w1) => zlw x w1 h hs)
 have LP := zaa (fun w1 => zhb x.name w1 hs)
 have PV := @yama x
 have KC := @yani x
 have UE := zaa (yavp k x)
 have DC := yanb k x
 have BW := zaa ((Below.refl w.heap.size w).alloc (Nat.le_refl _) (.cells #[.int .i64 x.dir, .string x.name, .int .i64 x.child] 69))
 have CB : Hid (∀ w', Below (w.alloc (.cells #[.int .i64 x.dir, .string x.name, .int .i64 x.child] 69)).heap.size (w.alloc (.cells #[.int .i64 x.dir, .string x.name, .int .i64 x.child] 69)) w' → w'.cell? ⟨w.heap.size, 0, none⟩ = some (.int .i64 x.dir) ∧ w'.cell? ⟨w.heap.size, 1, none⟩ = some (.string x.name) ∧ w'.cell? ⟨w.heap.size, 2, none⟩ = some (.int .i64 x.child)) := fun w' hb => zaw ((hb.block _ (by simp)).trans (zah rfl))
 have F : Hid (FD (w.alloc (.cells #[.int .i64 x.dir, .string x.name, .int .i64 x.child] 69))) := hF.below BW.out
 have hz : w.heap.size < (w.alloc (.cells #[.int .i64 x.dir, .string x.name, .int .i64 x.child] 69)).heap.size := by simp
 obtain ⟨W, hW⟩ : ∃ W, W = w.alloc (.cells #[.int .i64 x.dir, .string x.name, .int .i64 x.child] 69) := ⟨_, rfl⟩
 rw [← hW] at BW CB F hz
 rw [show x.v = .agg #[.int .i64 x.dir, .string x.name, .int .i64 x.child] from rfl]
 clear hF hs
 rcases DC with ⟨c1, e1, e2⟩ | ⟨c1, c2, e1, e2⟩ | ⟨c1, c2, e1, e2⟩
 ·rw [e1, e2]
  obtain ⟨k1, k2⟩ := zwu (i := k) (f := 0) (by omega)
  have K1 := zaa k1
  have K2 := zaa k2
  clear e1 e2 c1 k1 k2 PV KC
  go_enter Tryz.func29, Tryz.ntmps29
  go_wp2_with fail
  rw [← hW]
  clear hW
  refine (zfx _ _ _).mono ?_
  rw [K2.out]
  rintro e w' ⟨rfl, hw'⟩
  subst w'
  go_wp2
  go_ret2
  exact ⟨_, rfl, Row.nil _ _ _ _ _, BW.out⟩
 ·rw [e1, e2]
  obtain ⟨k1, k2⟩ := yajj (i := k) (f := 0) (by omega) (by omega)
  have K1 := zaa k1
  have K2 := zaa k2
  have C2 := zaa c2
  clear e1 e2 c1 c2 k1 k2 PV KC
  go_enter Tryz.func29, Tryz.ntmps29
  go_wp2_with fail
  rw [← hW]
  clear hW
  refine (zfx _ _ _).mono ?_
  rw [K1.out, K2.out]
  rintro e w' ⟨rfl, hw'⟩
  subst w'
  obtain ⟨p0, p1, p2⟩ := CB.out W (Below.refl _ _)
  go_wp2_with fail
  refine (LF.out _ F.out).mono ?_
  rw [C2.out]
  rintro e w1 ⟨rfl, hb⟩
  have B1 := zaa (zab BW.out hb (by omega))
  clear hb p0 p1 p2
  go_wp2
  go_ret2
  exact ⟨_, rfl, Row.nil _ _ _ _ _, B1.out⟩
 ·rw [e1, e2]
  obtain ⟨k1, k2⟩ := yajj (i := k) (f := 0) (by omega) (by omega)
  have K1 := zaa k1
  have K2 := zaa k2
  have C2 := zaa c2
  have P2 := zaa (PV c2)
  obtain ⟨b0, b1⟩ := KC c2
  have RA := zaa (show 0 ≤ 240 + 3 * k ∧ 240 + 3 * k ≤ 1000 by omega)
  clear e1 e2 c1 c2 k1 k2 PV KC
  go_enter Tryz.func29, Tryz.ntmps29
  go_wp2_with fail
  rw [← hW]
  clear hW
  refine (zfx _ _ _).mono ?_
  rw [K1.out, K2.out]
  rintro e w' ⟨rfl, hw'⟩
  subst w'
  obtain ⟨p0, p1, p2⟩ := CB.out W (Below.refl _ _)
  go_wp2_with fail
  refine (LF.out _ F.out).mono ?_
  rw [C2.out]
  rintro e w1 ⟨rfl, hb⟩
  have B1 := zaa (zab BW.out hb (by omega))
  have H1 := zaa hb
  have hz1 : W.heap.size ≤ w1.heap.size := hb.size
  clear p0 p1 p2
  obtain ⟨p0, p1, p2⟩ := CB.out w1 hb
  clear hb
  go_wp2_with fail
  refine (LP.out _).mono ?_
  rw [P2.out]
  rintro e w2 ⟨rfl, hb⟩
  have B2 := zaa (zab B1.out hb (by omega))
  have H2 := zaa (zab H1.out hb (by omega))
  have hz2 : w1.heap.size ≤ w2.heap.size := hb.size
  clear p0 p1 p2
  obtain ⟨p0, p1, p2⟩ := CB.out w2 H2.out
  generalize ((pk x.name x.name.size : Nat) : Int) = pv at *
  clear hb H1 H2 B1
  have B3 := zaa (B2.out.alloc (by omega) (.cells #[.int .i64 x.dir, .int .i64 pv, .int .i64 (x.child + 1)] 123))
  have R3 := zaa (yaou (w := w2.alloc (.cells #[.int .i64 x.dir, .int .i64 pv, .int .i64 (x.child + 1)] 123)) (zah rfl))
  have s3 := yald w2.heap.size
  go_wp2_with fail
  refine (zht _ _ [x.dir, pv, x.child + 1] _ R3.out (show (3 : Nat) ≤ 64 by omega) RA.out).mono ?_
  rw [show [x.dir, pv, x.child + 1].length = 3 from rfl, UE.out]
  rintro e w5 ⟨v5, rfl, hr5, hb5⟩
  obtain ⟨-, aL, cL, hvL, -⟩ := hr5.rd
  subst hvL
  have R5 := zaa (hr5.wide (B3.out.size) (Nat.le_refl _))
  have B5 := zaa (zab B3.out hb5 B3.out.size)
  clear hr5 hb5
  go_wp2
  go_ret2
  exact ⟨_, rfl, R5.out, B5.out⟩
end Go.Proofs.YtpakbbdlhlkogaaGreatDoor
