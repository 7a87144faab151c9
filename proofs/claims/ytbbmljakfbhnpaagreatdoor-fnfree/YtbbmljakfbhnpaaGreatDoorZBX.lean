/- Several texts laid together: StS, StO, NdB, DevI, SameI. -/
import Derived.Test.YtbbmljakfbhnpaaGreatDoorZAJ
import Derived.Sort.Walk0
import Derived.Shelf.Sort.Plain
import Derived.Shelf.Slices.In.SortNone
import Derived.Test.YtbbmljakfbhnpaaGreatDoorStN
import Derived.Test.YtbbmljakfbhnpaaGreatDoorZBS
import Derived.Test.YtbbmljakfbhnpaaGreatDoorZAB
import Derived.Test.YtbbmljakfbhnpaaGreatDoorZAD
import Derived.Test.YtbbmljakfbhnpaaGreatDoorZAM
namespace Go.Proofs.YtbbmljakfbhnpaaGreatDoor
open Go.Shelf Go.RowKit

def zsm : Go.Shelf.Ren := ⟨fun | 190 => 62 | 125 => 96 | 258 => 95 | 128 => 137 | 129 => 138 | 302 => 128 | 303 => 129 | 304 => 130 | 305 => 131 | 306 => 132 | 307 => 133 | 308 => 134 | 309 => 135 | 310 => 136 | 333 => 169 | 329 => 170 | 330 => 171 | 334 => 172 | 335 => 173 | 336 => 174 | 344 => 195 | n => n, fun | 31 => 60 | 9 => 9 | 3 => 3 | 46 => 141 | 0 => 0 | 51 => 178 | 53 => 180 | 4 => 4 | 183 => 170 | 182 => 169 | 131 => 175 | 5 => 5 | 218 => 199 | 222 => 203 | 228 => 224 | 229 => 57 | n => n, fun | n => n⟩
theorem laysSort : Go.Proofs.Lays.n190 Tryz.prog zsm := {
 mixed := by kernel_rfl
 f125 := Tryz.func96.trans (congrArg some (by kernel_rfl))
 f128 := Tryz.func137.trans (congrArg some (by kernel_rfl))
 f129 := Tryz.func138.trans (congrArg some (by kernel_rfl))
 f190 := Tryz.func62.trans (congrArg some (by kernel_rfl))
 f258 := Tryz.func95.trans (congrArg some (by kernel_rfl))
 f302 := Tryz.func128.trans (congrArg some (by kernel_rfl))
 f303 := Tryz.func129.trans (congrArg some (by kernel_rfl))
 f304 := Tryz.func130.trans (congrArg some (by kernel_rfl))
 f305 := Tryz.func131.trans (congrArg some (by kernel_rfl))
 f306 := Tryz.func132.trans (congrArg some (by kernel_rfl))
 f307 := Tryz.func133.trans (congrArg some (by kernel_rfl))
 f308 := Tryz.func134.trans (congrArg some (by kernel_rfl))
 f309 := Tryz.func135.trans (congrArg some (by kernel_rfl))
 f310 := Tryz.func136.trans (congrArg some (by kernel_rfl))
 f329 := Tryz.func170.trans (congrArg some (by kernel_rfl))
 f330 := Tryz.func171.trans (congrArg some (by kernel_rfl))
 f333 := Tryz.func169.trans (congrArg some (by kernel_rfl))
 f334 := Tryz.func172.trans (congrArg some (by kernel_rfl))
 f335 := Tryz.func173.trans (congrArg some (by kernel_rfl))
 f336 := Tryz.func174.trans (congrArg some (by kernel_rfl))
 f344 := Tryz.func195.trans (congrArg some (by kernel_rfl))
 t0 := Tryz.underlying0
 a0 := Tryz.isAgg0
 z0 := Tryz.sizeOf0
 v0 := Tryz.zeroValue0
 t3 := Tryz.underlying3
 a3 := Tryz.isAgg3
 z3 := Tryz.sizeOf3
 v3 := Tryz.zeroValue3
 t4 := Tryz.underlying4
 a4 := Tryz.isAgg4
 z4 := Tryz.sizeOf4
 v4 := Tryz.zeroValue4
 t5 := Tryz.underlying5
 a5 := Tryz.isAgg5
 z5 := Tryz.sizeOf5
 v5 := Tryz.zeroValue5
 t9 := Tryz.underlying9
 a9 := Tryz.isAgg9
 z9 := Tryz.sizeOf9
 v9 := Tryz.zeroValue9
 t31 := Tryz.underlying60
 a31 := Tryz.isAgg60
 z31 := Tryz.sizeOf60
 v31 := Tryz.zeroValue60
 t46 := Tryz.underlying141
 a46 := Tryz.isAgg141
 z46 := Tryz.sizeOf141
 v46 := Tryz.zeroValue141
 t51 := Tryz.underlying178
 a51 := Tryz.isAgg178
 z51 := Tryz.sizeOf178
 v51 := Tryz.zeroValue178
 t53 := Tryz.underlying180
 a53 := Tryz.isAgg180
 z53 := Tryz.sizeOf180
 v53 := Tryz.zeroValue180
 t131 := Tryz.underlying175
 a131 := Tryz.isAgg175
 z131 := Tryz.sizeOf175
 v131 := Tryz.zeroValue175
 t182 := Tryz.underlying169
 a182 := Tryz.isAgg169
 z182 := Tryz.sizeOf169
 v182 := Tryz.zeroValue169
 t183 := Tryz.underlying170
 a183 := Tryz.isAgg170
 z183 := Tryz.sizeOf170
 v183 := Tryz.zeroValue170
 t218 := Tryz.underlying199
 a218 := Tryz.isAgg199
 z218 := Tryz.sizeOf199
 v218 := Tryz.zeroValue199
 t222 := Tryz.underlying203
 a222 := Tryz.isAgg203
 z222 := Tryz.sizeOf203
 v222 := Tryz.zeroValue203
 t228 := Tryz.underlying224
 a228 := Tryz.isAgg224
 z228 := Tryz.sizeOf224
 v228 := Tryz.zeroValue224
 t229 := Tryz.underlying57
 a229 := Tryz.isAgg57
 z229 := Tryz.sizeOf57
 v229 := Tryz.zeroValue57 }
open Go.Sort in
theorem sort_texts (blk off cap : Nat) (ss : List (List UInt8)) (w : World) (hH : Holds encStr w blk off ss.toArray) (hblk : blk < w.heap.size) (hsz : ss.length < 4611686018427387904) :
  Calls Tryz.prog 62 #[.slice (some ⟨blk, off, none⟩) ss.length cap] w fun e w' =>
   e = .returned (.tuple #[]) ∧ ∃ n os, w' = grow (putRow encStr (Sort.ahead w n) blk off (ss.mergeSort fun x y => decide (x ≤ y)).toArray) os := Any.slices_Sort_string laysSort blk off cap ss w hH hblk hsz
theorem sort_none (p : Option Addr) (cap : Nat) (w : World) :
  Calls Tryz.prog 62 #[.slice p 0 cap] w fun e w' => e = .returned (.tuple #[]) ∧ w' = w := Any.slices_Sort_string_none laysSort p cap w
end Go.Proofs.YtbbmljakfbhnpaaGreatDoor

namespace Go.Proofs.YtbbmljakfbhnpaaGreatDoor
open Go.RowKit Go.Sort

theorem strs_sorted (ss : List ByteArray) : zei (sorted ss) = ((ss.map fun s => s.data.toList).mergeSort fun x y => decide (x ≤ y)).map encStr := by
 unfold zei sorted
 rw [List.map_map]
 rfl
theorem texts_hold {w : World} {lo hi b n c : Nat} {ss : List ByteArray} (h : Row w 9 1 lo hi (.slice (some ⟨b, 0, none⟩) n c) n (zei ss)) : Holds encStr w b 0 (ss.map fun s => s.data.toList).toArray := by
 obtain ⟨_, _, _, _, hf, hc⟩ := h.at
 have hl := h.len
 rw [zhl] at hl
 intro j hj
 have hj' : j < ss.length := by simpa using hj
 rw [Nat.zero_add]
 refine ⟨?_, hf j⟩
 rw [hc j (by omega), zmy ss j hj', getElem!_pos _ j hj]
 simp [encStr]
theorem sort_row {w : World} {lo hi b n c : Nat} {ss : List ByteArray} (h : Row w 9 1 lo hi (.slice (some ⟨b, 0, none⟩) n c) n (zei ss)) (m : Nat) (os : Array Obj) (w' : World)
  (e : w' = grow (putRow encStr (Sort.ahead w m) b 0 ((ss.map fun s => s.data.toList).mergeSort fun x y => decide (x ≤ y)).toArray) os) :
  Row w' 9 1 lo hi (.slice (some ⟨b, 0, none⟩) n c) n (zei (sorted ss)) ∧ w.grownBy w' (some b) := by
 have hl := h.len
 rw [zhl, Nat.mul_one] at hl
 obtain ⟨h1, h2⟩ := h
 obtain ⟨hx, h1 | ⟨g, cap, cur, e1, hb, hg, hnc, hcm, hcs, htake⟩⟩ := h1
 ·cases h1.1
 cases e1
 have SD := strs_sorted ss
 have DL : ((ss.map fun s => s.data.toList).mergeSort fun x y => decide (x ≤ y)).length = ss.length := by rw [List.length_mergeSort, List.length_map]
 generalize (ss.map fun s => s.data.toList).mergeSort (fun x y => decide (x ≤ y)) = D at *
 have hbl : b < w.heap.size := (Array.getElem?_eq_some_iff.1 hg).1
 have hg' : w'.heap[b]? = some (.cells (putCells encStr 0 D.toArray cur) 9 (0, 0)) := by
  rw [e, heap_grow_old _ _ (by rw [size_putRow]; exact hbl)]
  unfold putRow mapBlock
  show (w.heap.modify b _)[b]? = _
  rw [Array.getElem?_modify, if_pos rfl, hg]
  rfl
 refine ⟨⟨⟨by rw [zhl, zhn]; omega, .inr ⟨b, c, putCells encStr 0 D.toArray cur, rfl, hb, hg', hnc, hcm, by unfold putCells; rw [Array.size_mapIdx]; exact hcs, ?_⟩⟩, h2⟩, ?_⟩
 ·rw [SD]
  apply List.ext_getElem?
  intro i
  rw [Nat.mul_one, List.getElem?_take, List.getElem?_map, Array.getElem?_toList]
  unfold putCells
  rw [Array.getElem?_mapIdx]
  by_cases hi : i < n
  ·rw [if_pos hi, Array.getElem?_eq_getElem (show i < cur.size by omega), List.getElem?_eq_getElem (show i < D.length by omega)]
   simp only [Option.map_some]
   rw [if_pos ⟨Nat.zero_le _, by simp; omega⟩, Nat.sub_zero, getElem!_pos _ i (by simp; omega)]
   simp
  ·rw [if_neg hi, List.getElem?_eq_none (by omega)]
   rfl
 ·refine ⟨by rw [e]; rfl, by rw [e]; rfl, by rw [e]; rfl, by rw [e, size_grow, size_putRow]; exact Nat.le_add_right _ _, fun k hk hne => ?_⟩
  rw [e, heap_grow_old _ _ (by rw [size_putRow]; exact hk)]
  unfold putRow mapBlock
  show (w.heap.modify b _)[k]? = _
  rw [Array.getElem?_modify, if_neg (fun x => hne (by rw [x]))]
/-- The sort of a row of texts, nil too. -/
theorem sort_any (v : Value) (ss : List ByteArray) (lo hi : Nat) (w : World) (h : Row w 9 1 lo hi v ss.length (zei ss)) (hn : ss.length ≤ 1048576) :
  Calls Tryz.prog 62 #[v] w fun e w' => e = .returned (.tuple #[]) ∧ Row w' 9 1 lo hi v ss.length (zei (sorted ss)) ∧ w.grownBy w' v.ownBlock := by
 rcases h.shape with ⟨rfl, e0, _⟩ | ⟨b, c, rfl, hc, _⟩
 ·refine (sort_none none 0 w).mono ?_
  rintro e w' ⟨rfl, rfl⟩
  have hs : ss = [] := List.eq_nil_of_length_eq_zero e0
  subst hs
  exact ⟨rfl, by rw [show sorted [] = [] by simp [sorted]]; exact h, World.grownBy.refl _ _⟩
 ·have hh := texts_hold h
  have := sort_texts b 0 c (ss.map fun s => s.data.toList) w hh h.at.2.2.2.1 (by rw [List.length_map]; omega)
  rw [List.length_map] at this
  refine this.mono ?_
  rintro e w' ⟨rfl, m, os, hw'⟩
  exact ⟨rfl, sort_row h m os w' hw'⟩
end Go.Proofs.YtbbmljakfbhnpaaGreatDoor

namespace Go.Proofs.YtbbmljakfbhnpaaGreatDoor
open Go.RowKit

set_option maxRecDepth 100000 in
set_option maxHeartbeats 4000000 in
theorem zke (v : Value) (ws : List Ino) (ps : List Den) (d : Int) (w : World) (h : RdIm w v ws ps) (hw : ws.length ≤ 1048576) (hp : ps.length ≤ 1048576) (hT : TS w) (hE : ED w) (hF : FD w) (hr : ∀ k (h : k < ws.length), ws[k].R) (hs : ∀ k (h : k < ps.length), ps[k].name.size ≤ maxLen) :
  Calls Tryz.prog 22 #[v, .int .i64 d] w fun e w' => ∃ v', e = .returned (.tuple #[v', .int .i64 (eoC ws ps d)]) ∧ Row w' 9 1 w.heap.size w'.heap.size v' (eoL ws ps d).length (zei (eoL ws ps d)) ∧ Below w.heap.size w w' := by
 have LI := zaa (fun w1 (hb : Below w.heap.size w w1) => zdn v ws ps w1 (h.below hb) hw hp (hT.below hb) (hE.below hb) (hF.below hb) hr hs)
 have FD_ := zaa hF
 obtain ⟨vW, vP, rfl, h1, h2⟩ := h
 have RP := zaa h2
 obtain ⟨aW, cW, rfl, _, hcW⟩ := h1.shape
 have HW := zaa hcW
 obtain ⟨aP, cP, rfl, _, _⟩ := h2.shape
 have LM := zaa (fun w1 (hb : Below w.heap.size w w1) (hl : ps.length ≤ 4096) => zgt (.slice aP ps.length cP) ps w1 (Rd.below RP.out hb) hl (FD_.out.below hb))
 clear h1 h2 hr hs hT hE hF hcW
 have CA : Hid (∀ w', Below (w.alloc (.cells #[.slice aW ws.length cW, .slice aP ps.length cP] 26)).heap.size (w.alloc (.cells #[.slice aW ws.length cW, .slice aP ps.length cP] 26)) w' → w'.cell? ⟨w.heap.size, 0, none⟩ = some (.slice aW ws.length cW) ∧ w'.cell? ⟨w.heap.size, 1, none⟩ = some (.slice aP ps.length cP)) := fun w' hb => by
  have : w'.heap[w.heap.size]? = some (.cells #[.slice aW ws.length cW, .slice aP ps.length cP] 26 (0, 0)) := (hb.block _ (by simp)).trans (zah rfl)
  exact ⟨(zac this).1, (zac this).2.1⟩
 have BW : Hid (Below w.heap.size w (w.alloc (.cells #[.slice aW ws.length cW, .slice aP ps.length cP] 26))) := (Below.refl _ _).alloc (Nat.le_refl _) _
 obtain ⟨x0, x1⟩ := CA.out _ (Below.refl _ _)
 cases c1 : zcm ws ps with
 | false =>
  rw [c1] at LI
  have E1 : eoC ws ps d = 1 := by unfold eoC; rw [c1]; rfl
  rw [show eoL ws ps d = [] by unfold eoL; rw [E1]; rfl, E1]
  clear c1 E1
  go_enter Tryz.func22, Tryz.ntmps22
  go_wp2_with fail
  refine (LI.out _ BW.out).mono ?_
  rintro e w1 ⟨rfl, hb1⟩
  have B1 := zaa (zab BW.out hb1 BW.out.size)
  clear hb1 x0 x1
  go_wp2
  go_ret2
  exact ⟨_, rfl, Row.nil _ _ _ _ _, B1.out⟩
 | true =>
 rw [c1] at LI
 by_cases c2 : 0 ≤ d ∧ d ≤ 15
 case neg =>
  have E1 : eoC ws ps d = 4 := by unfold eoC; rw [if_pos c1, if_neg c2]
  rw [show eoL ws ps d = [] by unfold eoL; rw [E1]; rfl, E1]
  have C2 : Hid (¬ (0 ≤ d ∧ d < 16)) := fun h => c2 (by omega)
  clear c1 c2 E1
  go_enter Tryz.func22, Tryz.ntmps22
  go_wp2_with fail
  refine (LI.out _ BW.out).mono ?_
  rintro e w1 ⟨rfl, hb1⟩
  have B1 := zaa (zab BW.out hb1 BW.out.size)
  clear hb1 x0 x1
  go_wp2_with fail
  refine (zdl _ _ _ C2.out).mono ?_
  rintro e w2 ⟨rfl, hw2⟩
  subst w2
  go_wp2
  go_ret2
  exact ⟨_, rfl, Row.nil _ _ _ _ _, B1.out⟩
 obtain ⟨dn, hdn⟩ : ∃ n : Nat, d = (n : Int) := ⟨d.toNat, by omega⟩
 have L24 := zaa (show ps.length ≤ 4096 by have := (zde c1).2.1; omega)
 have d1 : dn < ws.length := by have := (zde c1).1; omega
 obtain ⟨bW, oW, rfl, hblW, hcellW⟩ := HW.out (by omega)
 have HK : Hid (∀ w', Below w.heap.size w w' → w'.cell? ⟨bW, oW + dn * 11, none⟩ = some (.int .i64 (zaj ws d))) := fun w' hb => by
  rw [hdn, zbi d1]
  exact (hb.cell (p := ⟨bW, oW + dn * 11, none⟩) hblW).trans (hcellW dn d1).1
 clear hcellW HW
 have C2 : Hid (0 ≤ d ∧ d < 16) := by unfold Hid; omega
 have d2 : (0 : Int) ≤ (dn : Int) := by omega
 have d3 : (dn : Int) < (ws.length : Int) := by omega
 have ENC : Hid (eoC ws ps d = if zaj ws d = 2 then 0 else 10) := by unfold Hid eoC; rw [if_pos c1, if_pos c2]
 have ENL : Hid (eoC ws ps d = 0 → eoL ws ps d = sorted (zse (zar ps) d)) := fun h => by unfold eoL; rw [if_pos h, dirN_names (img_ents c1)]
 have ENN : Hid (eoC ws ps d = 10 → eoL ws ps d = []) := fun h => by unfold eoL; rw [h]; rfl
 have tl : (zar ps).length ≤ 24 := by have := zmg ps; have := (zde c1).2.1; omega
 generalize eoC ws ps d = EC at *
 generalize eoL ws ps d = EL at *
 generalize zaj ws d = kd at *
 clear c1 c2
 subst hdn
 by_cases c3 : kd = 2
 case neg =>
  have e1 : EC = 10 := by rw [ENC.out, if_neg c3]
  rw [ENN.out e1, e1]
  have q : (kd != 2) = true := by rw [bne_iff_ne]; exact c3
  clear c3 e1 ENC ENL ENN
  go_enter Tryz.func22, Tryz.ntmps22
  go_wp2_with fail
  refine (LI.out _ BW.out).mono ?_
  rintro e w1 ⟨rfl, hb1⟩
  have B1 := zaa (zab BW.out hb1 BW.out.size)
  clear x0 x1
  obtain ⟨x0, x1⟩ := CA.out _ hb1
  clear hb1
  have k1 := HK.out w1 B1.out
  go_wp2_with fail
  refine (zbq _ _ _ C2.out).mono ?_
  rintro e w2 ⟨rfl, hw2⟩
  subst w2
  go_wp2
  go_ret2
  exact ⟨_, rfl, Row.nil _ _ _ _ _, B1.out⟩
 have e1 : EC = 0 := by rw [ENC.out, if_pos c3]
 rw [ENL.out e1, e1]
 have q : (kd != 2) = false := by rw [c3]; rfl
 clear c3 e1 ENC ENL ENN
 generalize zar ps = ts at *
 go_enter Tryz.func22, Tryz.ntmps22
 go_wp2_with fail
 refine (LI.out _ BW.out).mono ?_
 rintro e w1 ⟨rfl, hb1⟩
 have B1 := zaa (zab BW.out hb1 BW.out.size)
 clear x0 x1
 obtain ⟨x0, x1⟩ := CA.out _ hb1
 clear hb1
 have k1 := HK.out w1 B1.out
 go_wp2_with fail
 refine (zbq _ _ _ C2.out).mono ?_
 rintro e w2 ⟨rfl, hw2⟩
 subst w2
 go_wp2_with fail
 refine (LM.out _ B1.out L24.out).mono ?_
 rintro e w2 ⟨v2, rfl, hr2, hb2⟩
 obtain ⟨-, aM, cM, hvM, -⟩ := hr2.rd
 subst hvM
 have R2 : Hid (RdD w2 (.slice aM ts.length cM) ts) := hr2.rd
 have B2 := zaa (zab B1.out hb2 B1.out.size)
 have hz2 : w.heap.size ≤ w2.heap.size := B2.out.size
 obtain ⟨aZ, cZ, eZ, _, hcZ⟩ := R2.out.shape
 have HZ := zaa hcZ
 obtain ⟨rfl, rfl⟩ : aZ = aM ∧ cZ = cM := by cases eZ; exact ⟨rfl, rfl⟩
 clear eZ hcZ hr2 hb2 x0 x1 k1 LI LM HK CA
 go_wp2
 go_loopw [6, 8, 26] (fun vL _ i wr => ∃ k : Nat, k ≤ ts.length ∧ i = .int .i64 k ∧ Hid (SnI w2 wr vL (zse (ts.take k) (dn : Int))) ∧ w2.heap.size ≤ wr.heap.size) (fun _ _ i _ => ts.length - (intOf i).toNat)
 case atStart => exact ⟨0, by omega, rfl, ⟨World.ownsRow_nil _ _ _ _, Below.refl _ _⟩, Nat.le_refl _⟩
 case round =>
  obtain ⟨k, hk, rfl, I, hz⟩ := hrel
  by_cases hlt : k < ts.length
  ·obtain ⟨b, o, rfl, hbl, hcell⟩ := HZ.out (by omega)
   obtain ⟨a0, a1, a2⟩ := hcell k hlt
   have f0 := (I.out.b.cell (p := ⟨b, o + k * 3, none⟩) hbl).trans a0
   have f1 := (I.out.b.cell (p := ⟨b, o + k * 3 + 1, none⟩) hbl).trans a1
   have f2 := (I.out.b.cell (p := ⟨b, o + k * 3 + 2, none⟩) hbl).trans a2
   have k0 : (0 : Int) ≤ (k : Int) := by omega
   have k1 : (k : Int) < (ts.length : Int) := by omega
   have US := zaa (dirN_succ (d := (dn : Int)) hlt)
   have UL := dirN_len (ts.take k) (dn : Int)
   rw [List.length_take] at UL
   clear hcell a0 a1 a2
   generalize ts[k] = x at *
   obtain ⟨wx, hwx⟩ : ∃ wx, wx = wr.alloc (.cells #[.int .i64 x.dir, .string x.name, .int .i64 x.child] 50) := ⟨_, rfl⟩
   have BX : Hid (Below wr.heap.size wr wx) := by rw [hwx]; exact (Below.refl _ _).alloc (Nat.le_refl _) _
   have IX := zaa (I.out.below BX.out)
   have hzx := IX.out.z
   by_cases r : x.dir = (dn : Int)
   ·have r' : (x.dir == (dn : Int)) = true := by rw [beq_iff_eq]; exact r
    have JB : Hid (SnI w2 (wx.alloc (.cells #[.string x.name] 9)) u6 (zse (ts.take k) (dn : Int))) := IX.out.below ((Below.refl _ _).alloc (Nat.le_refl _) _)
    have RB := zaa (zhe wx x.name)
    have hzb := JB.out.z
    have MN : Hid (zse (ts.take (k + 1)) (dn : Int) = zse (ts.take k) (dn : Int) ++ [x.name]) := by unfold Hid; rw [US.out, if_pos r]
    rw [hwx] at JB RB hzb
    simp only [World.size_alloc] at RB hzb
    clear r I US IX BX
    go_wp2_with (at_builtin; refine zae _ rfl (.tmp 34) (.tmp 37) 60 rfl w2.heap.size 9 (.string ⟨#[]⟩) 1 16 Tryz.underlying60 zes rfl (by decide) _ _ _ rfl JB.out.l _ 1 _ rfl RB.out (zbf _) (by simp [maxLen]; omega) (by omega) JB.out.z ?_)
    intro vN wN hownN hgrN
    have G := zaa (JB.out.grow [x.name] rfl hownN hgrN)
    rw [← MN.out] at G
    have hzN := G.out.z
    clear hownN hgrN JB RB
    go_wp2
    go_roundw
    case rel => exact ⟨k + 1, by omega, by go_num, G, hzN⟩
    case measure => simp [intOf]; omega
   ·have r' : (x.dir == (dn : Int)) = false := by rw [beq_eq_false_iff_ne]; exact r
    have G : Hid (SnI w2 wx u6 (zse (ts.take (k + 1)) (dn : Int))) := by unfold Hid; rw [US.out, if_neg r]; exact IX.out
    clear r I US IX BX
    go_wp2
    rw [← hwx]
    go_roundw
    case rel => exact ⟨k + 1, by omega, by go_num, G, hzx⟩
    case measure => simp [intOf]; omega
  ·obtain rfl : k = ts.length := by omega
   have E := zaa (show zse (ts.take ts.length) (dn : Int) = zse ts (dn : Int) by rw [List.take_length])
   rw [E.out] at I
   have SL := dirN_len ts (dn : Int)
   have SRT := zaa (sort_any u6 (zse ts (dn : Int)) w2.heap.size wr.heap.size wr (zad I.out.l) (by omega))
   have SLN := zaa (zhn (zse ts (dn : Int)))
   go_wp2_with fail
   refine SRT.out.mono ?_
   rintro e w3 ⟨rfl, hr3, hg3⟩
   have B3 : Hid (Below w2.heap.size w2 w3) := I.out.b.grown hg3 hz (fun q hq => (I.out.l.lt q hq).1)
   have R3 := zaa (hr3.wide hz2 hg3.size)
   obtain ⟨-, aL, cL, hvL, -⟩ := hr3.rd
   subst hvL
   clear hr3 hg3 I SRT
   go_wp2
   go_ret2
   exact ⟨_, rfl, by rw [SLN.out]; exact R3.out, zab B2.out B3.out hz2⟩
end Go.Proofs.YtbbmljakfbhnpaaGreatDoor

namespace Go.Proofs.YtbbmljakfbhnpaaGreatDoor
open Go.RowKit

/-- An empty directory. -/
def zsn : Ino := ⟨2, 0, 1, 0, 0, 0, 0, 0, 0, 0, 0⟩
theorem rootI_R : zsn.R := fun z hz => by
 simp [zsn, Ino.map] at hz
 omega
theorem dir_iu : iuC 0 zsn = 0 ∧ iuL 0 zsn = wrL 0 zsn 8 := ⟨by decide, by decide⟩
/-- The root's words. -/
def zfn : List Se := wrL 0 zsn 8
theorem rootU_len : zfn.length = 11 := rfl
/-- The words behind the first updates. -/
def upTo (us : List Se) (W : List Int) : Nat → List Int
 | 0 => W
 | k + 1 => (upTo us W k).set ((us.getD k ⟨0, 0⟩).at_.toNat) ((us.getD k ⟨0, 0⟩).val)
theorem upTo_len (us : List Se) (W : List Int) : ∀ k, (upTo us W k).length = W.length
 | 0 => rfl
 | k + 1 => by unfold upTo; rw [List.length_set]; exact upTo_len us W k
theorem root_all : upTo zfn (zfe.set 0 7) 11 = ndW := by kernel_rfl
theorem rootU_at (k : Nat) (hk : k < zfn.length) : zfn[k].at_ = 48 + (k : Int) := by
 have hk' : k < 11 := hk
 rcases (show k = 0 ∨ k = 1 ∨ k = 2 ∨ k = 3 ∨ k = 4 ∨ k = 5 ∨ k = 6 ∨ k = 7 ∨ k = 8 ∨ k = 9 ∨ k = 10 by omega) with rfl | rfl | rfl | rfl | rfl | rfl | rfl | rfl | rfl | rfl | rfl <;> rfl

set_option maxRecDepth 100000 in
set_option maxHeartbeats 4000000 in
theorem zju (w : World) (hT : TS w) (hE : ED w) :
  Calls Tryz.prog 7 #[] w fun e w' => ∃ v', e = .returned v' ∧ RowDev w' w.heap.size w'.heap.size v' ndW [] zvh [] ∧ Below w.heap.size w w' := by
 have k1 := zkw
 have k2 := zpk
 go_enter Tryz.func7, Tryz.ntmps7
 go_upto_region 1 with fail
 obtain ⟨w0, hw0⟩ : ∃ w0 : World, w0 = w.alloc (.cells #[.slice none 0 0, .slice none 0 0, .slice none 0 0, .slice none 0 0] 36) := ⟨_, rfl⟩
 have V0 : Hid (w0.heap[w.heap.size]? = some (.cells #[.slice none 0 0, .slice none 0 0, .slice none 0 0, .slice none 0 0] 36 (0, 0))) := by rw [hw0]; exact zah rfl
 have B0 : Hid (Below w.heap.size w w0) := by rw [hw0]; exact (Below.refl _ _).alloc (Nat.le_refl _) _
 have hz0 : w.heap.size < w0.heap.size := by rw [hw0]; simp
 rw [← hw0]
 have T := zaa hT
 have E0 := zaa hE
 clear hw0 hT hE
 go_cut [1] (fun s wx => ∃ (bw bs bx : Nat), s = .pointer (some ⟨bx, 0, none⟩) ∧ Hid (NDc w0 wx bw bs bx (.slice none 0 0) (.slice none 0 0) zfe))
 case first =>
  clear T E0 B0 V0
  go_region
  all_goals
   go_wp2_with fail
   go_meet
   apply Exists.intro
   apply Exists.intro
   apply Exists.intro
   apply And.intro
   ·rfl
   ·apply NDc.drew
    apply NDc.mk0
    ·first | exact zah (by simp) | exact zal (zah (by simp)) | exact zal (zal (zah (by simp)))
    ·first | exact zah (by simp) | exact zal (zah (by simp)) | exact zal (zal (zah (by simp)))
    ·first | exact zah (by simp) | exact zal (zah (by simp)) | exact zal (zal (zah (by simp)))
    ·omega
    ·omega
    ·omega
    ·omega
    ·omega
    ·omega
    ·repeat (first | exact Below.refl _ _ | refine Below.alloc ?_ (by simp <;> omega) _)
 case rest =>
 obtain ⟨bw, bs, bx, rfl, N1⟩ := hcut
 rename World => w1
 clear k1 k2
 have l1 := N1.out.l1
 have l3 := N1.out.l3
 obtain ⟨c0, f0⟩ := N1.out.at 0 (by rw [zcr]; omega)
 obtain ⟨x0, x1, x2, x3, _, _, _, _⟩ := zap N1.out.hx
 have N2 := zaa (N1.out.store 0 7)
 have B2 := zaa (B0.out.trans (N2.out.b.mono (by omega)))
 have LI := zaa (fun w1 (hb : Below w.heap.size w w1) => zhs 0 zsn w1 (T.out.below hb) (E0.out.below hb) rootI_R)
 rw [dir_iu.1, dir_iu.2, show wrL 0 zsn 8 = zfn from rfl] at LI
 obtain ⟨g0, g1, g2, g3, g4, g5, g6, g7, g8, g9, g10⟩ := ED.cells (E0.out.below B2.out)
 generalize zfe[0]'(by rw [zcr]; omega) = z0 at c0
 obtain ⟨w2s, hw2s⟩ : ∃ n, n = (w1.setCell ⟨bw, 0, none⟩ (.int .i64 7)).heap.size := ⟨_, rfl⟩
 have hz2s : w2s ≤ w1.heap.size := by rw [hw2s]; simp
 go_wp2_with fail
 refine (LI.out _ B2.out).mono ?_
 rintro e w3 ⟨v3, rfl, hr3, hb3⟩
 obtain ⟨-, aU, cU, hvU, -⟩ := hr3.rd
 subst hvU
 have N3 := zaa (N2.out.below hb3)
 have hz31 : w1.heap.size ≤ w3.heap.size := by have := hb3.size; simpa using this
 have B3 := zaa (zab B2.out hb3 B2.out.size)
 have hbw : bw < w2s := by rw [hw2s]; simpa using (Array.getElem?_eq_some_iff.1 N1.out.hw).1
 have R3 : Hid (Row w3 47 2 w2s w3.heap.size (.slice aU zfn.length cU) zfn.length (ses zfn)) := by rw [hw2s]; exact hr3
 clear hr3 hb3 g0 g1 g2 g3 g4 g5 g6 g7 g8 g9 g10 c0 f0 x0 x1 x2 x3 N1 N2 B2 LI hw2s
 have RA := zaa rootU_at
 have FIN := zaa root_all
 have UL := zaa (fun k => (upTo_len zfn (zfe.set 0 7) k).trans ((List.length_set ..).trans zcr))
 have US := zaa (fun k (hk : k < zfn.length) => show upTo zfn (zfe.set 0 7) (k + 1) = (upTo zfn (zfe.set 0 7) k).set (zfn[k].at_.toNat) zfn[k].val by
  show (upTo zfn (zfe.set 0 7) k).set ((zfn.getD k ⟨0, 0⟩).at_.toNat) ((zfn.getD k ⟨0, 0⟩).val) = _
  rw [List.getD_eq_getElem?_getD, List.getElem?_eq_getElem hk]; rfl)
 have UZ : Hid (NDc w0 w3 bw bs bx (.slice none 0 0) (.slice none 0 0) (upTo zfn (zfe.set 0 7) 0)) := N3
 generalize upTo zfn (zfe.set 0 7) = uf at *
 have HLL := zaa rootU_len
 have hl11 : zfn.length ≤ 11 := Nat.le_of_eq HLL.out
 rw [← HLL.out] at FIN
 generalize zfn = us at *
 have hz3 : w2s ≤ w3.heap.size := by omega
 clear N3
 go_wp2
 go_loopw [5, 22] (fun _ i wr => ∃ k : Nat, k ≤ us.length ∧ i = .int .i64 k ∧ Hid (NDc w0 wr bw bs bx (.slice none 0 0) (.slice none 0 0) (uf k) ∧ Row wr 47 2 w2s w3.heap.size (.slice aU us.length cU) us.length (ses us)) ∧ w3.heap.size ≤ wr.heap.size) (fun _ i _ => us.length - (intOf i).toNat)
 case atStart => exact ⟨0, by omega, rfl, ⟨UZ.out, R3.out⟩, Nat.le_refl _⟩
 case round =>
  obtain ⟨k, hk, rfl, I, hzr⟩ := hrel
  clear UZ R3
  by_cases hlt : k < us.length
  ·obtain ⟨aE, cE, eE, _, hcE⟩ := RdE.shape (show RdE wr (.slice aU us.length cU) us from I.out.2.rd)
   obtain ⟨rfl, rfl⟩ : aE = aU ∧ cE = cU := by cases eE; exact ⟨rfl, rfl⟩
   obtain ⟨b, o, rfl, hbl, hcell⟩ := hcE (by omega)
   obtain ⟨d0, d1⟩ := hcell k hlt
   have ea := RA.out k hlt
   have NX := zaa (US.out k hlt)
   have ul := UL.out k
   have k0 : (0 : Int) ≤ (k : Int) := by omega
   have k1 : (k : Int) < (us.length : Int) := by omega
   rw [ea] at d0
   rw [ea, show (48 + (k : Int)).toNat = 48 + k by omega] at NX
   have OB : Hid (∀ q, (Value.slice (some ⟨b, o, none⟩) us.length cE).ownBlock = some q → w2s ≤ q) := fun q hq => (I.out.2.1.lt q hq).1
   generalize us[k].val = y at *
   have ND : Hid (NDc w0 (wr.alloc (.cells #[.int .i64 (48 + (k : Int)), .int .i64 y] 47)) bw bs bx (.slice none 0 0) (.slice none 0 0) (uf k)) := I.out.1.below ((Below.refl _ _).alloc (Nat.le_refl _) _)
   obtain ⟨x0, x1, x2, x3, _, _, _, _⟩ := zap ND.out.hx
   obtain ⟨c0, f0⟩ := ND.out.at (48 + k) (by omega)
   have G : Hid (NDc w0 ((wr.alloc (.cells #[.int .i64 (48 + (k : Int)), .int .i64 y] 47)).setCell ⟨bw, 48 + k, none⟩ (.int .i64 y)) bw bs bx (.slice none 0 0) (.slice none 0 0) (uf (k + 1)) ∧ Row ((wr.alloc (.cells #[.int .i64 (48 + (k : Int)), .int .i64 y] 47)).setCell ⟨bw, 48 + k, none⟩ (.int .i64 y)) 47 2 w2s w3.heap.size (.slice (some ⟨b, o, none⟩) us.length cE) us.length (ses us)) := by
    refine ⟨?_, ?_⟩
    ·rw [NX.out]
     exact ND.out.store (48 + k) y
    ·refine Row.setOther (Row.alloc I.out.2 hzr _) (fun e => ?_) _
     have := OB.out _ e
     simp only at this
     omega
   have w48 : 48 + (k : Int) < 336 := by omega
   have w49 : (0 : Int) ≤ 48 + (k : Int) := by omega
   have w50 : (48 + (k : Int)).toNat = 48 + k := by omega
   generalize (uf k)[48 + k]'(by omega) = z at c0
   clear I ND hcell eE hcE OB ea NX
   go_wp2
   go_roundw
   case rel => exact ⟨k + 1, by omega, by go_num, G, by simp; omega⟩
   case measure => simp [intOf]; omega
  ·obtain rfl : k = us.length := by omega
   rw [FIN.out] at I
   have N := zaa I.out.1
   clear I
   obtain ⟨x0, x1, x2, x3, _, _, _, _⟩ := zap N.out.hx
   have VR := zaa ((N.out.b.block _ hz0).trans V0.out)
   obtain ⟨y0, y1, y2, y3, y4, y5, y6, y7⟩ := zap VR.out
   have F := zaa (zbj (zbj (zbj (zbj (xs := [.slice none 0 0, .slice none 0 0, .slice none 0 0, .slice none 0 0]) VR.out 0 (.slice (some ⟨bw, 0, none⟩) 336 336)) 1 (.slice none 0 0)) 2 (.slice (some ⟨bs, 0, none⟩) 32 32)) 3 (.slice none 0 0))
   have l2 := N.out.l2
   have RF : Hid (RowDev ((((wr.setCell ⟨w.heap.size, 0, none⟩ (.slice (some ⟨bw, 0, none⟩) 336 336)).setCell ⟨w.heap.size, 1, none⟩ (.slice none 0 0)).setCell ⟨w.heap.size, 2, none⟩ (.slice (some ⟨bs, 0, none⟩) 32 32)).setCell ⟨w.heap.size, 3, none⟩ (.slice none 0 0)) w.heap.size ((((wr.setCell ⟨w.heap.size, 0, none⟩ (.slice (some ⟨bw, 0, none⟩) 336 336)).setCell ⟨w.heap.size, 1, none⟩ (.slice none 0 0)).setCell ⟨w.heap.size, 2, none⟩ (.slice (some ⟨bs, 0, none⟩) 32 32)).setCell ⟨w.heap.size, 3, none⟩ (.slice none 0 0)).heap.size (.agg #[.slice (some ⟨bw, 0, none⟩) 336 336, .slice none 0 0, .slice (some ⟨bs, 0, none⟩) 32 32, .slice none 0 0]) ndW [] zvh []) := by
    have r := N.out.rowDev (lo := w0.heap.size) (Nat.le_refl _)
    have o : Outside w.heap.size (w.heap.size + 1) wr ((((wr.setCell ⟨w.heap.size, 0, none⟩ (.slice (some ⟨bw, 0, none⟩) 336 336)).setCell ⟨w.heap.size, 1, none⟩ (.slice none 0 0)).setCell ⟨w.heap.size, 2, none⟩ (.slice (some ⟨bs, 0, none⟩) 32 32)).setCell ⟨w.heap.size, 3, none⟩ (.slice none 0 0)) := by
     repeat (refine Outside.setCell ?_ (by simp only; omega) (by simp only; omega) _)
     exact Outside.refl _ _ _
    exact (r.outside o (by omega) (Nat.le_refl _)).wide (by omega) o.size
   have BF : Hid (Below w.heap.size w ((((wr.setCell ⟨w.heap.size, 0, none⟩ (.slice (some ⟨bw, 0, none⟩) 336 336)).setCell ⟨w.heap.size, 1, none⟩ (.slice none 0 0)).setCell ⟨w.heap.size, 2, none⟩ (.slice (some ⟨bs, 0, none⟩) 32 32)).setCell ⟨w.heap.size, 3, none⟩ (.slice none 0 0))) := by
    show Below _ _ _
    repeat (refine Below.setCell ?_ (by simp only; omega) _)
    exact B0.out.trans (N.out.b.mono (by omega))
   go_wp2
   generalize ((((wr.setCell ⟨w.heap.size, 0, none⟩ (.slice (some ⟨bw, 0, none⟩) 336 336)).setCell ⟨w.heap.size, 1, none⟩ (.slice none 0 0)).setCell ⟨w.heap.size, 2, none⟩ (.slice (some ⟨bs, 0, none⟩) 32 32)).setCell ⟨w.heap.size, 3, none⟩ (.slice none 0 0)) = wz at F RF BF ⊢
   obtain ⟨t0, t1, t2, t3, -, -, -, -⟩ := zap F.out
   refine bodyPost_ret (v := .agg #[.slice (some ⟨bw, 0, none⟩) 336 336, .slice none 0 0, .slice (some ⟨bs, 0, none⟩) 32 32, .slice none 0 0]) (by simp [results, Tryz.results7, go_sem, t0, t1, t2, t3]) rfl ?_
   exact ⟨_, rfl, RF.out, BF.out⟩
end Go.Proofs.YtbbmljakfbhnpaaGreatDoor

namespace Go.Proofs.YtbbmljakfbhnpaaGreatDoor
open Go.RowKit

set_option maxHeartbeats 2000000 in
theorem zkh (v : Value) (ws : List Int) (ps : List St) (es : List Int) (qs : List Se) (w : World) (h : RdDev w v ws ps es qs) (hw : ws.length ≤ 1048576) (hp : ps.length ≤ 1048576) (he : es.length ≤ 1048576) (hq : qs.length ≤ 1048576) :
  Calls Tryz.prog 23 #[v] w fun e w' => e = .returned (.bool (pmB ws ps && zip es qs)) ∧ Below w.heap.size w w' := by
 obtain ⟨aW, cW, aP, cP, aS, cS, aQ, cQ, rfl, h1, h2⟩ := h.form
 have H1 := zaa h1
 have H2 := zaa h2
 clear h h1 h2
 have hb0 : Below w.heap.size w (w.alloc (.cells #[.slice aW ws.length cW, .slice aP ps.length cP, .slice aS es.length cS, .slice aQ qs.length cQ] 36)) := (Below.refl _ _).alloc (Nat.le_refl _) _
 by_cases c : pmB ws ps = true
 ·have C := zaa c
  rw [c]
  clear c
  go_enter Tryz.func23, Tryz.ntmps23
  go_wp2_with fail
  refine (zfk _ ws ps _ (H1.out.below hb0) hw hp).mono ?_
  rw [C.out]
  rintro e w1 ⟨rfl, hb1⟩
  obtain ⟨x0, x1, x2, x3, -, -, -, -⟩ := zap ((hb1.block w.heap.size (by simp)).trans (zah rfl))
  have B1 := zaa (zab hb0 hb1 (by simp))
  clear hb0 hb1
  go_wp2_with fail
  refine (zrv _ es qs _ (H2.out.below B1.out) he hq).mono ?_
  rintro e w2 ⟨rfl, hb2⟩
  have B2 := zaa (zab B1.out hb2 B1.out.size)
  clear hb2
  go_wp2
  go_ret
  exact ⟨rfl, B2.out⟩
 ·have c' : pmB ws ps = false := by simpa using c
  have C := zaa c'
  rw [c']
  clear c c'
  go_enter Tryz.func23, Tryz.ntmps23
  go_wp2_with fail
  refine (zfk _ ws ps _ (H1.out.below hb0) hw hp).mono ?_
  rw [C.out]
  rintro e w1 ⟨rfl, hb1⟩
  have B1 := zaa (zab hb0 hb1 (by simp))
  clear hb0 hb1
  go_wp2
  go_ret
  exact ⟨rfl, B1.out⟩

end Go.Proofs.YtbbmljakfbhnpaaGreatDoor

namespace Go.Proofs.YtbbmljakfbhnpaaGreatDoor
open Go.RowKit

set_option maxHeartbeats 1000000 in
/-- Two slices that read alike are found alike. -/
theorem zib (va vb : Value) (zs : List Int) (w : World) (ha : RdI w va zs) (hb : RdI w vb zs) (hn : zs.length ≤ 2147483648) :
  Calls Tryz.prog 20 #[va, vb] w fun e w' => e = .returned (.bool true) ∧ Below w.heap.size w w' := by
 obtain ⟨ao, cap, rfl, hcap, hc⟩ := ha.shape
 obtain ⟨ao2, cap2, rfl, hcap2, hc2⟩ := hb.shape
 clear ha hb
 go_enter Tryz.func20, Tryz.ntmps20
 go_wp2
 go_loopw [5] (fun i wr => ∃ k : Nat, k ≤ zs.length ∧ i = .int .i64 k ∧ Below w.heap.size w wr) (fun i _ => zs.length - (intOf i).toNat)
 case atStart => exact ⟨0, by omega, rfl, Below.refl _ _⟩
 case round =>
  obtain ⟨k, hk, rfl, hbw⟩ := hrel
  by_cases hlt : k < zs.length
  ·obtain ⟨b, o, rfl, hbl, hcell⟩ := hc (by omega)
   obtain ⟨b2, o2, rfl, hbl2, hcell2⟩ := hc2 (by omega)
   have hck : wr.cell? ⟨b, o + k, none⟩ = some (.int .i64 zs[k]) := (hbw.cell (p := ⟨b, o + k, none⟩) hbl).trans (hcell k hlt)
   have hck2 : wr.cell? ⟨b2, o2 + k, none⟩ = some (.int .i64 zs[k]) := (hbw.cell (p := ⟨b2, o2 + k, none⟩) hbl2).trans (hcell2 k hlt)
   have hlt' : (k : Int) < (zs.length : Int) := by omega
   have hge : (0 : Int) ≤ (k : Int) := by omega
   clear hcell hcell2 hc hc2
   go_wp2
   go_quiet (fail)
   go_wp2
   go_roundw
   case rel => exact ⟨k + 1, by omega, by go_num, Below.drewN'' hbw _⟩
   case measure => simp [intOf]; omega
  ·go_wp2
   go_ret
   exact ⟨rfl, hbw⟩

end Go.Proofs.YtbbmljakfbhnpaaGreatDoor
