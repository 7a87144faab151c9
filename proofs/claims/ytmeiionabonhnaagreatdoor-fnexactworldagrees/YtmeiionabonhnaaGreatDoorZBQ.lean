/- Several texts laid together: ShL, PbB, PeJ, PeK, ShS, PeL, TpF. -/
import Derived.Test.YtmeiionabonhnaaGreatDoorRows
import Derived.Shelf.Small.Strs
import Derived.Shelf.Small.Wraps
import Derived.Shelf.Strings.Search3
import Derived.Shelf.Strings.Count
import Derived.Shelf.Strings.Split
import Derived.Test.YtmeiionabonhnaaGreatDoorZAW
import Derived.Test.YtmeiionabonhnaaGreatDoorZBP
import Derived.Sort.Grow
import Derived.Sort.Statements
import Derived.Laws.EntriesVeiled
import Derived.Shelf.SlSortCmp.WholeK
import Derived.Shelf.SlSortCmp.NoneTotal
import Derived.Test.YtmeiionabonhnaaGreatDoorZBO
import Derived.Test.YtmeiionabonhnaaGreatDoorMeB
import Derived.Test.YtmeiionabonhnaaGreatDoorZBH
import Derived.Deep.DeepCutAuto
namespace Go.Proofs.YtmeiionabonhnaaGreatDoor
open Go.Shelf Go.RowKit
def lays106_ren : Go.Shelf.Ren := ⟨fun | 106 => 79 | 213 => 136 | 265 => 199 | n => n, fun | 9 => 9 | 3 => 3 | n => n, fun | n => n⟩
theorem lays106 : Go.Proofs.Lays.n106 Tryz.prog lays106_ren := {
  mixed := by kernel_rfl
  f106 := Tryz.func79.trans (congrArg some (by kernel_rfl))
  f213 := Tryz.func136.trans (congrArg some (by kernel_rfl))
  f265 := Tryz.func199.trans (congrArg some (by kernel_rfl))
  t3 := Tryz.underlying3
  a3 := Tryz.isAgg3
  z3 := Tryz.sizeOf3
  v3 := Tryz.zeroValue3
  t9 := Tryz.underlying9
  a9 := Tryz.isAgg9
  z9 := Tryz.sizeOf9
  v9 := Tryz.zeroValue9 }
end Go.Proofs.YtmeiionabonhnaaGreatDoor

namespace Go.Proofs.YtmeiionabonhnaaGreatDoor
open Go.Shelf Go.RowKit Go.Lib
theorem compare_any (a b : ByteArray) (w : World) :
    Calls Tryz.prog 79 #[.string a, .string b] w fun e w' => e = .returned (.int .i64 (Lib.compareBytes a.data.toList b.data.toList)) ∧ w' = w := Any.strings_Compare lays106 a b w
end Go.Proofs.YtmeiionabonhnaaGreatDoor

namespace Go.Proofs.YtmeiionabonhnaaGreatDoor
open Go.RowKit Go.Sort
def encDen (x : Den) : List Value := [.int .i64 x.dir, .string x.name, .int .i64 x.child]
def cmpDen (x y : Den) : Int := Lib.compareBytes x.name.data.toList y.name.data.toList
theorem compare_lt : ∀ (a b : List UInt8), Lib.compareBytes a b < 0 ↔ a < b
  | [], [] => by simp [Lib.compareBytes]
  | [], y :: b => by simp [Lib.compareBytes]
  | x :: a, [] => by simp [Lib.compareBytes]
  | x :: a, y :: b => by
    have ih := compare_lt a b
    unfold Lib.compareBytes
    rw [List.cons_lt_cons_iff]
    by_cases h1 : x < y
    · simp [h1]
    · by_cases h2 : y < x
      · have h3 : ¬ x = y := fun e => by subst e; exact h1 h2
        simp [h1, h2, h3]
      · have h3 : x = y := by
          apply UInt8.toNat_inj.1
          rw [UInt8.lt_iff_toNat_lt] at h1 h2
          omega
        subst h3
        simpa [h1] using ih
theorem swoDen : SWO (fun x y : Den => decide (cmpDen x y < 0)) where
  irrefl x := decide_eq_false (by unfold cmpDen; rw [compare_lt]; exact List.lt_irrefl _)
  trans x y z h1 h2 := by
    have a := of_decide_eq_true h1
    have b := of_decide_eq_true h2
    unfold cmpDen at a b
    rw [compare_lt] at a b
    refine decide_eq_true ?_
    unfold cmpDen
    rw [compare_lt]
    exact List.lt_trans a b
  ntrans x y z h1 h2 := by
    have a := of_decide_eq_false h1
    have b := of_decide_eq_false h2
    unfold cmpDen at a b
    rw [compare_lt, List.not_lt] at a b
    refine decide_eq_false ?_
    unfold cmpDen
    rw [compare_lt, List.not_lt]
    exact List.le_trans b a
set_option maxHeartbeats 1000000 in
theorem closureCmp (x y : Den) (W : World) : Calls Tryz.prog 78 #[.agg #[.int .i64 x.dir, .string x.name, .int .i64 x.child], .agg #[.int .i64 y.dir, .string y.name, .int .i64 y.child]] W fun e w' => e = .returned (.int .i64 (cmpDen x y)) ∧ ∃ q os', w' = grow (W.drewN q) os' := by
  have hcon := hideIt (fun w => compare_any x.name y.name w)
  go_enter Tryz.func78, Tryz.ntmps78
  go_wp2_with fail
  refine (hcon.out _).mono ?_
  rintro e w' ⟨rfl, hw⟩
  subst w'
  go_wp2
  go_ret
  exact ⟨rfl, 0, _, by rw [alloc_eq_grow, alloc_eq_grow, grow_grow]; rfl⟩
end Go.Proofs.YtmeiionabonhnaaGreatDoor

namespace Go.Proofs.YtmeiionabonhnaaGreatDoor
open Go.RowKit
def SortDen : Prop := ∀ (v : Value) (ts : List Den) (lo hi : Nat) (w : World), Row w 140 3 lo hi v ts.length (dens ts) → hi ≤ w.heap.size → ts.length ≤ 24 →
  Calls Tryz.prog 77 #[v, .func (.func 78) #[] #[]] w fun e w' => e = .returned (.tuple #[]) ∧ ∃ rs : List Den, rs.Perm ts ∧ (rs.Pairwise fun a b => a.name.toList ≤ b.name.toList) ∧ Row w' 140 3 lo hi v rs.length (dens rs) ∧ Outside lo hi w w'
set_option maxRecDepth 100000 in
set_option maxHeartbeats 8000000 in
theorem implPathsOf_of (SORT : SortDen) (v : Value) (ws : List Ino) (ps : List Den) (w : World) (h : RdIm w v ws ps) (hw : ws.length ≤ 1048576) (hp : ps.length ≤ 1048576) (hT : TS w) (hE : ED w) (hF : FD w) (hr : ∀ k (h : k < ws.length), ws[k].R) (hs : ∀ k (h : k < ps.length), ps[k].name.size ≤ maxLen) :
    Calls Tryz.prog 34 #[v] w fun e w' => ∃ v', e = .returned (.tuple #[v', .int .i64 (poC ws ps)]) ∧ Row w' 9 1 w.heap.size w'.heap.size v' (poL ws ps).length (strs (poL ws ps)) ∧ Below w.heap.size w w' := by
  have HRD := hideIt h
  have LI := hideIt (fun w1 (hb : Below w.heap.size w w1) h => implImageOK_any v ws ps w1 h hw hp (hT.below hb) (hE.below hb) (hF.below hb) hr hs)
  have FF := hideIt hF
  obtain ⟨vW, vP, rfl, h1, h2⟩ := h
  obtain ⟨aW, cW, rfl, _, _⟩ := h1.shape
  have HD := hideIt h2
  obtain ⟨aP, cP, rfl, _, _⟩ := h2.shape
  clear h1 h2 hr hs hT hE hF
  obtain ⟨W0, hW0⟩ : ∃ W0, W0 = w.alloc (.cells #[.slice aW ws.length cW, .slice aP ps.length cP] 98) := ⟨_, rfl⟩
  have CA : Hid (∀ w', Below W0.heap.size W0 w' → w'.cell? ⟨w.heap.size, 0, none⟩ = some (.slice aW ws.length cW) ∧ w'.cell? ⟨w.heap.size, 1, none⟩ = some (.slice aP ps.length cP)) := fun w' hb => by
    have : w'.heap[w.heap.size]? = some (.cells #[.slice aW ws.length cW, .slice aP ps.length cP] 98 (0, 0)) := (hb.block _ (by rw [hW0]; simp)).trans (by rw [hW0]; exact at_new rfl)
    exact ⟨(two_cells this).1, (two_cells this).2.1⟩
  have BW : Hid (Below w.heap.size w W0) := by rw [hW0]; exact (Below.refl _ _).alloc (Nat.le_refl _) _
  have hz0 : w.heap.size ≤ W0.heap.size := BW.out.size
  obtain ⟨x0, x1⟩ := CA.out _ (Below.refl _ _)
  cases c1 : imgB ws ps with
  | false =>
    rw [c1] at LI
    rw [show poL ws ps = [] by unfold poL; rw [c1]; rfl, show poC ws ps = 1 by unfold poC; rw [c1]; rfl]
    clear c1
    go_enter Tryz.func34, Tryz.ntmps34
    go_wp2_with fail
    rw [← hW0]
    refine (LI.out _ BW.out (HRD.out.below BW.out)).mono ?_
    rintro e w1 ⟨rfl, hb1⟩
    have B1 := hideIt (below_trans BW.out hb1 BW.out.size)
    clear hb1 x0 x1
    go_wp2
    go_ret2
    exact ⟨_, rfl, Row.nil _ _ _ _ _, B1.out⟩
  | true =>
    have OK := hideIt c1
    have L24 := hideIt (pimg_all c1).2.1
    rw [c1] at LI
    rw [show poL ws ps = pthN ws ps 16 0 ⟨#[]⟩ by unfold poL; rw [c1]; rfl, show poC ws ps = 0 by unfold poC; rw [c1]; rfl]
    clear c1
    go_enter Tryz.func34, Tryz.ntmps34
    go_wp2_with fail
    rw [← hW0]
    clear hW0
    refine (LI.out _ BW.out (HRD.out.below BW.out)).mono ?_
    rintro e w1 ⟨rfl, hb1⟩
    have B1 := hideIt (below_trans BW.out hb1 BW.out.size)
    have B01 := hideIt hb1
    clear x0 x1
    obtain ⟨x0, x1⟩ := CA.out _ hb1
    clear hb1
    go_wp2_with fail
    refine (takenDirents_any _ ps w1 (Rd.below HD.out B1.out) (by have := L24.out; omega) (FF.out.below B1.out)).mono ?_
    rintro e w2 ⟨v2, rfl, hr2, hb2⟩
    have B2 := hideIt (below_trans B1.out hb2 B1.out.size)
    have hz1 : w.heap.size ≤ w1.heap.size := B1.out.size
    have hz2 : w1.heap.size ≤ w2.heap.size := hb2.size
    have tl : (takenD ps).length ≤ 24 := by rw [← L24.out]; exact List.length_filter_le _ _
    have R2 := hideIt hr2
    obtain ⟨_, a2, c2, rfl, _⟩ := hr2.rd
    obtain ⟨W3, hW3⟩ : ∃ W3, W3 = w2.alloc (.cells #[.slice a2 (takenD ps).length c2] 31) := ⟨_, rfl⟩
    have X3 : Hid (W3.heap[w2.heap.size]? = some (.cells #[.slice a2 (takenD ps).length c2] 31 (0, 0))) := by rw [hW3]; exact at_new rfl
    have BX : Hid (Below w2.heap.size w2 W3) := by rw [hW3]; exact (Below.refl _ _).alloc (Nat.le_refl _) _
    have R3 := hideIt (R2.out.below BX.out (Nat.le_refl _))
    have B3 := hideIt (below_trans B2.out BX.out B2.out.size)
    have hz3 : w2.heap.size < W3.heap.size := (Array.getElem?_eq_some_iff.1 X3.out).1
    have s0 := (one_cells X3.out).1
    rw [hW3] at s0
    clear x0 x1 hr2 hb2 R2
    go_wp2_with fail
    rw [← hW3]
    clear hW3 s0
    refine (SORT _ (takenD ps) _ _ W3 R3.out (by omega) tl).mono ?_
    rintro e w4 ⟨rfl, rs, hpm, hsr, hr4, ho4⟩
    have hz4 : W3.heap.size ≤ w4.heap.size := ho4.size
    have B4 := hideIt (B3.out.trans (ho4.below (B := w.heap.size) (by omega) (by omega)))
    have X4 := hideIt ((ho4.block _ (by omega) (by omega)).trans X3.out)
    have rl := hpm.length_eq
    rw [← rl] at X4
    have D4 : Hid (RdD w4 (.slice a2 rs.length c2) rs) := by
      have := hr4.rd
      rw [← rl] at this
      exact this
    have PS := hideIt (paths_same OK.out hpm hsr 16 0 ⟨#[]⟩)
    obtain ⟨W5, hW5⟩ : ∃ W5, W5 = (w4.alloc (.cells #[.slice none 0 0] 27)).alloc (.cells #[wkF w2.heap.size w4.heap.size (w4.heap.size + 1)] 147) := ⟨_, rfl⟩
    have I0 : Hid (WkI 147 w4 W5 w2.heap.size w4.heap.size (w4.heap.size + 1) (.slice none 0 0) []) := by
      rw [hW5]
      refine ⟨at_old (at_new rfl), ?_, ⟨World.ownsRow_nil _ _ _ _, below_allocN (below_allocN (Below.refl _ _) _) _⟩, Nat.le_refl _, by omega⟩
      have := at_new (w := w4.alloc (.cells #[.slice none 0 0] 27)) (o := .cells #[wkF w2.heap.size w4.heap.size (w4.heap.size + 1)] 147) rfl
      rw [World.size_alloc] at this
      exact this
    have LW := hideIt (walk_any OK.out hpm 147 (by decide) w4 a2 c2 w2.heap.size w4.heap.size (w4.heap.size + 1) (fun w' hb => (one_cells ((hb.block _ (by omega)).trans X4.out)).1) D4.out 16 0 ⟨#[]⟩ W5 _ [] (Or.inl ⟨0, rfl, rfl, by omega, (pimg_all OK.out).2.2.1, by decide, Nat.zero_le _⟩) I0.out)
    have f0 := (one_cells I0.out.f).1
    rw [hW5] at f0
    unfold wkF at hW5 f0
    clear hr4 ho4 hpm hsr D4 X3 R3 rl
    go_wp2_with fail
    rw [← hW5]
    clear hW5 f0
    refine LW.out.mono ?_
    rintro e w6 ⟨rfl, v6, h6⟩
    rw [List.nil_append, PS.out] at h6
    have I6 := hideIt h6
    obtain ⟨_, a6, c6, rfl, _⟩ := (own_block h6.i.l).rd
    clear h6 LW I0
    have t0 := (one_cells I6.out.s).1
    have B6 := hideIt (below_trans B4.out I6.out.i.b B4.out.size)
    have hz6 : w.heap.size ≤ w4.heap.size := B4.out.size
    go_wp2
    go_ret2
    exact ⟨_, rfl, (own_block I6.out.i.l).wide hz6 (Nat.le_refl _), B6.out⟩
end Go.Proofs.YtmeiionabonhnaaGreatDoor

namespace Go.Proofs.YtmeiionabonhnaaGreatDoor
open Go.Shelf Go.RowKit
def lays6_ren : Go.Shelf.Ren := ⟨fun | 6 => 77 | 15 => 135 | 14 => 134 | 28 => 197 | 29 => 198 | 20 => 189 | 21 => 190 | 22 => 191 | 23 => 192 | 24 => 193 | 25 => 194 | 26 => 195 | 27 => 196 | 46 => 241 | 47 => 242 | 48 => 243 | 49 => 244 | 50 => 245 | 57 => 278 | n => n, fun | 22 => 31 | 24 => 140 | 25 => 146 | 3 => 3 | 39 => 200 | 0 => 0 | 53 => 252 | 55 => 254 | 4 => 4 | 46 => 245 | 45 => 244 | 50 => 249 | 5 => 5 | 9 => 9 | 66 => 290 | 70 => 294 | 76 => 326 | 77 => 137 | n => n, fun | n => n⟩
theorem lays6 : Go.Proofs.SlLaysF0.n6 Tryz.prog lays6_ren := {
  mixed := by kernel_rfl
  f6 := ⟨Tryz.f77.name, by decide, Tryz.func77.trans (congrArg some (by kernel_rfl))⟩
  f14 := ⟨Tryz.f134.name, by decide, Tryz.func134.trans (congrArg some (by kernel_rfl))⟩
  f15 := Tryz.func135.trans (congrArg some (by kernel_rfl))
  f20 := ⟨Tryz.f189.name, by decide, Tryz.func189.trans (congrArg some (by kernel_rfl))⟩
  f21 := ⟨Tryz.f190.name, by decide, Tryz.func190.trans (congrArg some (by kernel_rfl))⟩
  f22 := ⟨Tryz.f191.name, by decide, Tryz.func191.trans (congrArg some (by kernel_rfl))⟩
  f23 := ⟨Tryz.f192.name, by decide, Tryz.func192.trans (congrArg some (by kernel_rfl))⟩
  f24 := ⟨Tryz.f193.name, by decide, Tryz.func193.trans (congrArg some (by kernel_rfl))⟩
  f25 := ⟨Tryz.f194.name, by decide, Tryz.func194.trans (congrArg some (by kernel_rfl))⟩
  f26 := ⟨Tryz.f195.name, by decide, Tryz.func195.trans (congrArg some (by kernel_rfl))⟩
  f27 := ⟨Tryz.f196.name, by decide, Tryz.func196.trans (congrArg some (by kernel_rfl))⟩
  f28 := Tryz.func197.trans (congrArg some (by kernel_rfl))
  f29 := Tryz.func198.trans (congrArg some (by kernel_rfl))
  f46 := ⟨Tryz.f241.name, by decide, Tryz.func241.trans (congrArg some (by kernel_rfl))⟩
  f47 := Tryz.func242.trans (congrArg some (by kernel_rfl))
  f48 := Tryz.func243.trans (congrArg some (by kernel_rfl))
  f49 := ⟨Tryz.f244.name, by decide, Tryz.func244.trans (congrArg some (by kernel_rfl))⟩
  f50 := ⟨Tryz.f245.name, by decide, Tryz.func245.trans (congrArg some (by kernel_rfl))⟩
  f57 := ⟨Tryz.f278.name, by decide, Tryz.func278.trans (congrArg some (by kernel_rfl))⟩
  t0 := Tryz.underlying0
  a0 := Tryz.isAgg0
  z0 := Tryz.sizeOf0
  v0 := Tryz.zeroValue0
  t3 := Tryz.underlying3
  a3 := Tryz.isAgg3
  z3 := Tryz.sizeOf3
  v3 := Tryz.zeroValue3
  t4 := Tryz.underlying4
  a4 := Tryz.isAgg4
  z4 := Tryz.sizeOf4
  v4 := Tryz.zeroValue4
  t5 := Tryz.underlying5
  a5 := Tryz.isAgg5
  z5 := Tryz.sizeOf5
  v5 := Tryz.zeroValue5
  t9 := Tryz.underlying9
  a9 := Tryz.isAgg9
  z9 := Tryz.sizeOf9
  v9 := Tryz.zeroValue9
  t22 := Tryz.underlying31
  a22 := Tryz.isAgg31
  z22 := Tryz.sizeOf31
  v22 := Tryz.zeroValue31
  t25 := Tryz.underlying146
  a25 := Tryz.isAgg146
  z25 := Tryz.sizeOf146
  v25 := Tryz.zeroValue146
  t39 := Tryz.underlying200
  a39 := Tryz.isAgg200
  z39 := Tryz.sizeOf200
  v39 := Tryz.zeroValue200
  t45 := Tryz.underlying244
  a45 := Tryz.isAgg244
  z45 := Tryz.sizeOf244
  v45 := Tryz.zeroValue244
  t46 := Tryz.underlying245
  a46 := Tryz.isAgg245
  z46 := Tryz.sizeOf245
  v46 := Tryz.zeroValue245
  t50 := Tryz.underlying249
  a50 := Tryz.isAgg249
  z50 := Tryz.sizeOf249
  v50 := Tryz.zeroValue249
  t53 := Tryz.underlying252
  a53 := Tryz.isAgg252
  z53 := Tryz.sizeOf252
  v53 := Tryz.zeroValue252
  t55 := Tryz.underlying254
  a55 := Tryz.isAgg254
  z55 := Tryz.sizeOf254
  v55 := Tryz.zeroValue254
  t66 := Tryz.underlying290
  a66 := Tryz.isAgg290
  z66 := Tryz.sizeOf290
  v66 := Tryz.zeroValue290
  t70 := Tryz.underlying294
  a70 := Tryz.isAgg294
  z70 := Tryz.sizeOf294
  v70 := Tryz.zeroValue294
  t76 := Tryz.underlying326
  a76 := Tryz.isAgg326
  z76 := Tryz.sizeOf326
  v76 := Tryz.zeroValue326
  t77 := Tryz.underlying137
  a77 := Tryz.isAgg137
  z77 := Tryz.sizeOf137
  v77 := Tryz.zeroValue137 }
end Go.Proofs.YtmeiionabonhnaaGreatDoor

namespace Go.Proofs.YtmeiionabonhnaaGreatDoor
open Go.RowKit Go.Sort
theorem put_row {w : World} {e : TypeId} {size lo hi b n c : Nat} {xs ys : List Value} (h : Row w e size lo hi (.slice (some ⟨b, 0, none⟩) n c) n xs) (hy : ys.length = n * size) (m : Nat) (os : Array Obj) (w' : World)
    (e' : w' = grow (putRow id (Sort.ahead w m) b 0 ys.toArray) os) : Row w' e size lo hi (.slice (some ⟨b, 0, none⟩) n c) n ys ∧ w.grownBy w' (some b) := by
  obtain ⟨h1, h2⟩ := h
  obtain ⟨hx, h1 | ⟨g, cap, cur, e1, hb, hg, hnc, hcm, hcs, htake⟩⟩ := h1
  · cases h1.1
  cases e1
  have hbl : b < w.heap.size := (Array.getElem?_eq_some_iff.1 hg).1
  have hg' : w'.heap[b]? = some (.cells (putCells id 0 ys.toArray cur) e (0, 0)) := by
    rw [e', heap_grow_old _ _ (by rw [size_putRow]; exact hbl)]
    unfold putRow mapBlock
    show (w.heap.modify b _)[b]? = _
    rw [Array.getElem?_modify, if_pos rfl, hg]
    rfl
  have hcap : n * size ≤ c * size := Nat.mul_le_mul_right _ hnc
  refine ⟨⟨⟨hy, .inr ⟨b, c, putCells id 0 ys.toArray cur, rfl, hb, hg', hnc, hcm, by unfold putCells; rw [Array.size_mapIdx]; exact hcs, ?_⟩⟩, h2⟩, ?_⟩
  · apply List.ext_getElem?
    intro i
    rw [List.getElem?_take, Array.getElem?_toList]
    unfold putCells
    rw [Array.getElem?_mapIdx]
    by_cases hi : i < n * size
    · rw [if_pos hi, Array.getElem?_eq_getElem (show i < cur.size by omega), List.getElem?_eq_getElem (show i < ys.length by omega)]
      simp only [Option.map_some]
      rw [if_pos ⟨Nat.zero_le _, by simp; omega⟩, Nat.sub_zero, getElem!_pos _ i (by simp; omega)]
      simp
    · rw [if_neg hi, List.getElem?_eq_none (by omega)]
  · refine ⟨by rw [e']; rfl, by rw [e']; rfl, by rw [e']; rfl, by rw [e', size_grow, size_putRow]; exact Nat.le_add_right _ _, fun k hk hne => ?_⟩
    rw [e', heap_grow_old _ _ (by rw [size_putRow]; exact hk)]
    unfold putRow mapBlock
    show (w.heap.modify b _)[k]? = _
    rw [Array.getElem?_modify, if_neg (fun x => hne (by rw [x]))]
theorem flat_dens [Inhabited Den] (ts : List Den) : flatK encDen 3 ts.toArray = (dens ts).toArray := by
  apply ext_get!
  · simp [dens_len]
  · intro t ht
    rw [size_flatK] at ht
    have ht' : t < ts.length * 3 := by simpa using ht
    rw [get_flatK _ _ _ _ ht]
    have hk : t / 3 < ts.length := by omega
    have hm : t % 3 < 3 := Nat.mod_lt _ (by omega)
    have e := flatMap_at Den.cells 3 (fun _ => rfl) ts (t / 3) (t % 3) hk hm
    rw [show t / 3 * 3 + t % 3 = t by omega] at e
    have e2 : (dens ts)[t]? = (ts[t / 3].cells)[t % 3]? := e
    rw [getElem!_pos ts.toArray (t / 3) (by simpa using hk)]
    have hl : t < (dens ts).length := by rw [dens_len]; omega
    rw [getElem!_pos (dens ts).toArray t (by simpa using hl)]
    have l3 : (encDen ts[t / 3]).length = 3 := rfl
    rw [List.getElem?_eq_getElem hl, List.getElem?_eq_getElem (show t % 3 < (ts[t / 3].cells).length from hm)] at e2
    have e3 := Option.some.inj e2
    simp only [List.getElem_toArray]
    rw [e3, getElem!_pos (encDen ts[t / 3]) (t % 3) (by rw [l3]; exact hm)]
    rfl
theorem dens_hold [Inhabited Den] {w : World} {lo hi b n c : Nat} {ts : List Den} (h : Row w 140 3 lo hi (.slice (some ⟨b, 0, none⟩) n c) n (dens ts)) : HoldsK encDen 3 w b 0 ts.toArray := by
  obtain ⟨_, _, _, _, hf, hc⟩ := h.at
  have hl := h.len
  unfold HoldsK
  rw [flat_dens]
  intro j hj
  have hj' : j < (dens ts).length := by simpa using hj
  rw [Nat.zero_add]
  refine ⟨?_, hf j⟩
  rw [hc j (by omega), List.getElem?_eq_getElem hj', getElem!_pos _ j hj]
  rfl
theorem cmpLaysDen [Inhabited Den] (blk off size : Nat) (w : World) : CmpLays Tryz.prog 78 #[] encDen 3 cmpDen blk off size w :=
  fun _ _ _ _ x y => closureCmp x y _
theorem sortDen_of [Inhabited Den] : SortDen := by
  intro v ts lo hi w h hz hn
  rcases h.shape with ⟨rfl, e0, _⟩ | ⟨b, c, rfl, hc, _⟩
  · have hs : ts = [] := List.eq_nil_of_length_eq_zero e0
    subst hs
    refine (AnyF.slices_SortFunc_none lays6 none 0 _ w).mono ?_
    rintro e w' ⟨rfl, rfl⟩
    exact ⟨rfl, [], List.Perm.refl _, List.Pairwise.nil, h, Outside.refl _ _ _⟩
  · have hh := dens_hold h
    have eg : ∀ args w, (callFunc 78 args).run Tryz.prog w = .ok (.enter 78 args) w := enters_of Tryz.func78 (by kernel_rfl) rfl
    have hcon := AnyQ.slices_SortFunc lays6 3 Tryz.isAgg140 Tryz.sizeOf140 encDen (fun _ => rfl) (fun x v hv => by simp [encDen] at hv; rcases hv with rfl | rfl | rfl <;> rfl) cmpDen swoDen 78 #[] b 0 c ts.toArray w eg (cmpLaysDen b 0 _ w) hh h.at.2.2.2.1 (by simp; omega)
    rw [show ts.toArray.size = ts.length by simp] at hcon
    refine hcon.mono ?_
    rintro e w' ⟨rfl, d', m, os, hp, hsd, hw'⟩
    obtain ⟨p1, -, p3⟩ := hp
    have p1' : d'.size = ts.length := by simpa using p1
    have perm : d'.toList.Perm ts := by
      have e1 : d'.extract 0 ts.length = d' := by rw [← p1']; simp
      have e2 : ts.toArray.extract 0 ts.length = ts.toArray := by simp
      rw [e1, e2] at p3
      simpa using p3
    have el : d'.toList.length = ts.length := by simpa using p1'
    have fl : flatK encDen 3 d' = (dens d'.toList).toArray := by rw [← flat_dens]
    have hr := put_row h (ys := dens d'.toList) (by rw [dens_len, el]) m os w' (by rw [hw']; unfold sortWorldK putRowK; rw [fl])
    refine ⟨rfl, d'.toList, perm, ?_, by rw [el]; exact hr.1, h.grown_outside hr.2⟩
    rw [List.pairwise_iff_getElem]
    intro i j hi hj hij
    have s := hsd i j (Nat.zero_le _) hij (by omega)
    rw [getElem!_pos d' i (by simpa using hi), getElem!_pos d' j (by simpa using hj)] at s
    have s2 := of_decide_eq_false s
    unfold cmpDen at s2
    rw [compare_lt, List.not_lt] at s2
    rw [ByteArray.toList_eq, ByteArray.toList_eq]
    simpa using s2
theorem sortDen_holds : SortDen := @sortDen_of ⟨⟨0, ⟨#[]⟩, 0⟩⟩
end Go.Proofs.YtmeiionabonhnaaGreatDoor

namespace Go.Proofs.YtmeiionabonhnaaGreatDoor
open Go.RowKit Go.Maps Go.MapKept Go.ChangeMaps Go.WideShapes
open Go.WideElems (Fit rd rg pl rd_val elemAt)
def thOf (ts : List Th) (ps : List Den) (s : ByteArray) : Th := ts.getD (wk (imgM ts) ps 0 (pcs s).tail).1.toNat thZ
def lnT (ts : List Th) (ps : List Den) (s : ByteArray) : ByteArray := s ++ ⟨#[32]⟩ ++ thT (thOf ts ps s).kind (thOf ts ps s).links (thOf ts ps s).pages
def mtL (ts : List Th) (ps : List Den) : List ByteArray := if modB ts ps = true then (pthN (imgM ts) ps 16 0 ⟨#[]⟩).map (lnT ts ps) else []
def mtC (ts : List Th) (ps : List Den) : Int := if modB ts ps = true then 0 else 1
def lnTo (ts : List Th) (ps : List Den) (P : List ByteArray) (k : Nat) : List ByteArray := (P.take k).map (lnT ts ps) ++ P.drop k
theorem lnTo_len (ts : List Th) (ps : List Den) (P : List ByteArray) (k : Nat) : (lnTo ts ps P k).length = P.length := by
  unfold lnTo
  rw [List.length_append, List.length_map, List.length_take, List.length_drop]
  omega
theorem lnTo_at {ts : List Th} {ps : List Den} {P : List ByteArray} {k : Nat} (h : k < P.length) : (lnTo ts ps P k)[k]? = some P[k] := by
  unfold lnTo
  have l : ((P.take k).map (lnT ts ps)).length = k := by rw [List.length_map, List.length_take]; omega
  rw [List.getElem?_append_right (by omega), l, Nat.sub_self, List.getElem?_drop]
  simp [h]
theorem lnTo_succ {ts : List Th} {ps : List Den} {P : List ByteArray} {k : Nat} (h : k < P.length) : (strs (lnTo ts ps P k)).set k (.string (lnT ts ps P[k])) = strs (lnTo ts ps P (k + 1)) := by
  unfold lnTo
  have l : (strs ((P.take k).map (lnT ts ps))).length = k := by rw [strs_len, List.length_map, List.length_take]; omega
  rw [List.drop_eq_getElem_cons h, List.take_succ_eq_append_getElem h, List.map_append]
  unfold strs at *
  rw [List.map_append, List.map_append, List.map_append, List.set_append_right _ _ (by omega), l, Nat.sub_self, List.append_assoc]
  rfl
theorem lnTo_zero (ts : List Th) (ps : List Den) (P : List ByteArray) : lnTo ts ps P 0 = P := by simp [lnTo]
theorem lnTo_end (ts : List Th) (ps : List Den) (P : List ByteArray) : lnTo ts ps P P.length = P.map (lnT ts ps) := by simp [lnTo]
structure Told (ts : List Th) (us : List (Th × Value)) (ps : List Den) (s : ByteArray) : Prop where
  at_ : ∀ z, (mapD us (takenD ps) (takenD ps) (takenD ps).length).atKey (keyB s) z = .held (thV (thAt (imgM ts) ps us s))
  idx : ∃ c, ∃ hc : c < us.length, thAt (imgM ts) ps us s = us[c] ∧ thOf ts ps s = us[c].1
  size : s.size ≤ 1000
  num : (0 ≤ (thOf ts ps s).links ∧ (thOf ts ps s).links ≤ 9223372036854775807) ∧ (thOf ts ps s).pages.length ≤ 8 ∧ ∀ z ∈ (thOf ts ps s).pages, 0 ≤ z ∧ z ≤ 9223372036854775807
theorem told {us : List (Th × Value)} {ts : List Th} {ps : List Den} (eu : us.map Prod.fst = ts) (hm : modB ts ps = true) {s : ByteArray} (hs : s ∈ pthN (imgM ts) ps 16 0 ⟨#[]⟩) : Told ts us ps s := by
  have hi : imgB (imgM ts) ps = true := by
    cases q : imgB (imgM ts) ps with
    | true => rfl
    | false => rw [mod_not q] at hm; cases hm
  have pg := img_pages hi
  have ul : us.length = 16 := by rw [map_fst_len eu]; exact pg.1
  have hw := mod_parts hi
  rw [hm] at hw
  obtain ⟨c, cl, w1, w2⟩ := (told_at hi ul hs (.held thZV)).2
  have e1 : thAt (imgM ts) ps us s = us[c] := by
    rw [w2, List.getD_eq_getElem?_getD, List.getElem?_eq_getElem cl]
    rfl
  have ct : c < ts.length := by rw [← map_fst_len eu]; exact cl
  have e2 : thOf ts ps s = us[c].1 := by
    unfold thOf
    rw [w1, List.getD_eq_getElem?_getD]
    simp only [Int.toNat_natCast]
    rw [List.getElem?_eq_getElem ct, map_fst_at eu c cl]
    rfl
  have e3 : us[c].1 = ts[c] := map_fst_at eu c cl
  refine ⟨fun z => (told_at hi ul hs z).1, ⟨c, cl, e1, e2⟩, ?_, ?_⟩
  · obtain ⟨j, hj, j0, q1, -⟩ := path_told hi hs
    rw [← q1]
    have := pthU_size (ts := takenD ps) (fun y hy => taken_name hi hy) 16 ps[j] ⟨#[]⟩ (taken_name hi (taken_in hj j0))
    have z : (⟨#[]⟩ : ByteArray).size = 0 := rfl
    omega
  · rw [e2, e3]
    obtain ⟨l1, l2, -, o, -⟩ := pimg_all hi
    have o' := (of_decide_eq_true o : ∀ k (h : k < (imgM ts).length), inoB (imgM ts)[k] = true) c (by rw [imgM_len]; exact ct)
    have e : (imgM ts)[c]'(by rw [imgM_len]; exact ct) = imO ts[c] := by simp [imgM]
    rw [e] at o'
    unfold inoB at o'
    simp only [Bool.and_eq_true, decide_eq_true_eq] at o'
    have q := o'.2.2.1
    simp only [imO] at q
    refine ⟨by omega, pg.2 c ct, fun z hz => ?_⟩
    have a := List.all_eq_true.1 hw.symm ts[c] (List.getElem_mem ct)
    have b := List.all_eq_true.1 a z hz
    have d := of_decide_eq_true b
    omega
end Go.Proofs.YtmeiionabonhnaaGreatDoor
