/- Several texts laid together: TrJ, TrK. -/
import Derived.Test.YtipklbnfobckaaaGreatDoorZBN
import Derived.Test.YtipklbnfobckaaaGreatDoorZBJ
import Derived.Deep.RegionHeld3
import Derived.Deep.DeepCutAuto
import Derived.BigQuiet
namespace Go.Proofs.YtipklbnfobckaaaGreatDoor
open Go.RowKit

theorem infoWp : (Tryz.prog.info? 264).map (fun i => (i.zero, i.size, i.bytes)) = some (some (.agg #[.int .i64 0, .int .i64 0, .int .i64 0]), 3, 24) := by kernel_rfl
/-- A row of pages with their heat that grows. -/
structure WpI (W w : World) (vL : Value) (ms : List Mi) : Prop where
 l : w.ownsRow W.heap.size 264 3 vL ms.length (mis ms)
 b : Below W.heap.size W w
theorem WpI.z {W w : World} {vL : Value} {ms : List Mi} (h : WpI W w vL ms) : W.heap.size ≤ w.heap.size := h.b.size
theorem WpI.below {W w w' : World} {vL : Value} {ms : List Mi} (h : WpI W w vL ms) (hb : Below w.heap.size w w') : WpI W w' vL ms :=
 ⟨((zaf h.l).below hb (Nat.le_refl _)).1, zab h.b hb h.z⟩
theorem WpI.grow {W w w' : World} {vL v' : Value} {ms : List Mi} (h : WpI W w vL ms) (x : Mi) (ho : w'.ownsRow W.heap.size 264 3 v' (ms.length + 1) (mis ms ++ x.cells)) (hg : w.grownBy w' vL.ownBlock) : WpI W w' v' (ms ++ [x]) :=
 ⟨by unfold mis; rw [List.flatMap_append, List.length_append, List.flatMap_singleton]; exact ho, h.b.grown hg h.z (fun q hq => (h.l.lt q hq).1)⟩
theorem zbw {w : World} {b : Nat} {x y z : Value} {t : TypeId} (q : w.heap[b]? = some (.cells #[x, y, z] t (0, 0))) : w.cell? ⟨b, 0, none⟩ = some x ∧ w.cell? ⟨b, 1, none⟩ = some y ∧ w.cell? ⟨b, 2, none⟩ = some z := by simp [World.cell?, q]
theorem rd_wp (w1 : World) (x : Mi) : Rd (w1.alloc (.cells #[.int .i64 x.kind, .int .i64 x.at_, .int .i64 x.val] 264)) 3 (.slice (some ⟨w1.heap.size, 0, none⟩) 1 1) 1 x.cells := by
 refine ⟨rfl, some ⟨w1.heap.size, 0, none⟩, 1, rfl, ⟨Nat.le_refl _, fun e => by cases e⟩, fun _ => ⟨_, 0, rfl, by simp, fun j hj => ?_⟩⟩
 have q : (w1.alloc (.cells #[.int .i64 x.kind, .int .i64 x.at_, .int .i64 x.val] 264)).heap[w1.heap.size]? = some (.cells #[.int .i64 x.kind, .int .i64 x.at_, .int .i64 x.val] 264 (0, 0)) := zah rfl
 rcases (show j = 0 ∨ j = 1 ∨ j = 2 by omega) with rfl | rfl | rfl
 ·exact (zbw q).1
 ·exact (zbw q).2.1
 ·exact (zbw q).2.2
theorem wp_ones (x : Mi) : ∀ u ∈ x.cells, u.oneCell' = true := by
 intro u hu
 simp only [Mi.cells, List.mem_cons, List.mem_nil_iff, or_false] at hu
 rcases hu with rfl | rfl | rfl <;> rfl

set_option maxRecDepth 100000 in
set_option maxHeartbeats 8000000 in
theorem zfy (v vh : Value) (ns : List Ino) (ds : List Den) (hs : List Int) (t : Int) (w : World) (h : RdIm w v ns ds) (hi : zdm ns ds = true) (hh : RdI w vh hs) (hb : zcn hs = true) (ht : t = 1 ∨ t = 2) (hT : TS w) :
  Calls Tryz.prog 268 #[v, vh, .int .i64 t] w fun e w' => ∃ v', e = .returned v' ∧ Row w' 264 3 w.heap.size w'.heap.size v' (wpL ns hs t 128).length (mis (wpL ns hs t 128)) ∧ Below w.heap.size w w' := by
 have TI := zaa (fun k (hk : k < 16) j => zon hi hk j)
 obtain ⟨l16, l24, _⟩ := zdr hi
 have L16 := zaa l16
 have L128 := zaa (zea hb).1
 obtain ⟨vW, vP, rfl, h1, h2⟩ := h
 obtain ⟨aW, cW, rfl, _, hcW⟩ := h1.shape
 obtain ⟨aP, cP, rfl, _, hcP⟩ := h2.shape
 obtain ⟨aH, cH, rfl, _, hcH⟩ := hh.shape
 obtain ⟨bW, oW, rfl, hblW, hcellW⟩ := hcW (by omega)
 obtain ⟨bH, oH, rfl, hblH, hcellH⟩ := hcH (by have := L128.out; omega)
 have HCW := zaa hcellW
 have HH : Hid (∀ k, k < 128 → ∀ w', Below w.heap.size w w' → w'.cell? ⟨bH, oH + k, none⟩ = some (.int .i64 (hs.getD k 0))) := fun k hk w' hb => by
  have q : k < hs.length := by have := L128.out; omega
  rw [List.getD_eq_getElem?_getD, List.getElem?_eq_getElem q]
  exact (hb.cell (p := ⟨bH, oH + k, none⟩) hblH).trans (hcellH k q)
 have HTT := zaa hT
 clear h1 h2 hi hcW hcP hcellW hcH hcellH l16 l24 hh hb hT
 obtain ⟨W, hW⟩ : ∃ W, W = w.alloc (.cells #[.slice (some ⟨bW, oW, none⟩) ns.length cW, .slice aP ds.length cP] 83) := ⟨_, rfl⟩
 have BW : Hid (Below w.heap.size w W) := by rw [hW]; exact (Below.refl _ _).alloc (Nat.le_refl _) _
 obtain ⟨x0, x1, -, -⟩ := zad (zah (w := w) (o := .cells #[.slice (some ⟨bW, oW, none⟩) ns.length cW, .slice aP ds.length cP] 83) rfl)
 have hn16 : ns.length ≤ 16 := by have := L16.out; omega
 have HN16 := zaa (show 16 ≤ ns.length by have := L16.out; omega)
 go_enter Tryz.func268, Tryz.ntmps268
 go_upto_region 3 with fail
 rw [← hW]
 clear hW x0 x1 L16
 go_loopw [7, 18] (fun vL i wr => ∃ k : Nat, k ≤ 16 ∧ i = .int .i64 k ∧ Hid (WpI W wr vL (wpL ns hs t (8 * k)))) (fun _ i _ => 16 - (intOf i).toNat)
 case atStart => exact ⟨0, by omega, rfl, ⟨World.ownsRow_nil _ _ _ _, Below.refl _ _⟩⟩
 case round =>
  obtain ⟨k, hk, rfl, I⟩ := hrel
  have k0 : (0 : Int) ≤ (k : Int) := by omega
  by_cases hlt : k < 16
  case neg =>
   obtain rfl : k = 16 := by omega
   have k1 : ¬ ((16 : Nat) : Int) < (ns.length : Int) := by omega
   have E := zaa (show wpL ns hs t (8 * 16) = wpL ns hs t 128 from rfl)
   rw [E.out] at I
   obtain ⟨-, aL, cL, hvL, -⟩ := (zaf I.out.l).rd
   subst hvL
   have R := zaa ((zaf I.out.l).wide (lo' := w.heap.size) BW.out.size (Nat.le_refl _))
   have B := zaa (zab BW.out I.out.b BW.out.size)
   go_wp2
   go_ret
   exact ⟨_, rfl, R.out, B.out⟩
  have hkl : k < ns.length := by have := HN16.out; omega
  have IB := zaa (zab BW.out I.out.b BW.out.size)
  obtain ⟨a0, a1, a2, a3, a4, a5, a6, a7, a8, a9, a10⟩ := HCW.out k hkl
  have d0 := (IB.out.cell (p := ⟨bW, oW + k * 11, none⟩) hblW).trans a0
  have d1 := (IB.out.cell (p := ⟨bW, oW + k * 11 + 1, none⟩) hblW).trans a1
  have d2 := (IB.out.cell (p := ⟨bW, oW + k * 11 + 2, none⟩) hblW).trans a2
  have d3 := (IB.out.cell (p := ⟨bW, oW + k * 11 + 3, none⟩) hblW).trans a3
  have d4 := (IB.out.cell (p := ⟨bW, oW + k * 11 + 4, none⟩) hblW).trans a4
  have d5 := (IB.out.cell (p := ⟨bW, oW + k * 11 + 5, none⟩) hblW).trans a5
  have d6 := (IB.out.cell (p := ⟨bW, oW + k * 11 + 6, none⟩) hblW).trans a6
  have d7 := (IB.out.cell (p := ⟨bW, oW + k * 11 + 7, none⟩) hblW).trans a7
  have d8 := (IB.out.cell (p := ⟨bW, oW + k * 11 + 8, none⟩) hblW).trans a8
  have d9 := (IB.out.cell (p := ⟨bW, oW + k * 11 + 9, none⟩) hblW).trans a9
  have d10 := (IB.out.cell (p := ⟨bW, oW + k * 11 + 10, none⟩) hblW).trans a10
  have k1 : (k : Int) < (ns.length : Int) := by omega
  have MS := zaa (fun j (hj : j < 8) => wpL_inode ns hs t k j hj)
  have TK := zaa (fun j => TI.out k hlt j)
  rw [zbr hkl] at MS TK
  clear a0 a1 a2 a3 a4 a5 a6 a7 a8 a9 a10
  generalize ns[k] = x at *
  have START : Hid (WpI W (wr.alloc (.cells x.cs.toArray 171)) u7 (wpL ns hs t (8 * k + 0))) := I.out.below ((Below.refl wr.heap.size wr).alloc (Nat.le_refl _) (.cells x.cs.toArray 171))
  unfold Ino.cs at START
  clear I IB
  go_wp2
  go_loopw [7, 25] (fun vL i wq => ∃ j : Nat, j ≤ 8 ∧ i = .int .i64 j ∧ Hid (WpI W wq vL (wpL ns hs t (8 * k + j)))) (fun _ i _ => 8 - (intOf i).toNat)
  case atStart => exact ⟨0, by omega, rfl, START⟩
  case round =>
   obtain ⟨j, hj, rfl, J⟩ := hrel
   clear START d0 d1 d2 d3 d4 d5 d6 d7 d8 d9 d10
   have j0 : (0 : Int) ≤ (j : Int) := by omega
   by_cases hlj : j < 8
   case neg =>
    obtain rfl : j = 8 := by omega
    have E := zaa (show wpL ns hs t (8 * k + 8) = wpL ns hs t (8 * (k + 1)) from rfl)
    rw [E.out] at J
    go_wp2
    go_roundw
    case rel => exact ⟨k + 1, by omega, by go_num, J⟩
    case measure => simp [intOf]; omega
   have j1 : (j : Int) < 8 := by omega
   have ix := idx8 x j hlj
   have MJ := zaa (MS.out j hlj)
   have TJ := zaa (TK.out j)
   have hlen : (wpL ns hs t (8 * k + j)).length ≤ 128 := by have := zvo ns hs t (8 * k + j); omega
   have JB := zaa (zab BW.out J.out.b BW.out.size)
   generalize x.map.getD j 0 = z at ix MJ TJ
   obtain ⟨z0, z1⟩ := zcd TJ.out
   have LT := zaa (zbm z wr (HTT.out.below JB.out) (by omega) (by omega))
   have TE := zaa (zvh TJ.out ht)
   by_cases q : z = 0 ∨ ¬ z % 4 = t
   ·have q' : (zos z == t) = false := by
     cases c : (zos z == t) with
     | false => rfl
     | true => exact absurd q (TE.out.1 c)
    have G : Hid (WpI W wr u7 (wpL ns hs t (8 * k + (j + 1)))) := by unfold Hid; rw [MJ.out, if_pos q]; exact J.out
    generalize zos z = tz at *
    generalize tieA z = ta at *
    generalize tieC z = tc at *
    clear q J MJ TE TJ
    go_wp2_with fail
    refine LT.out.mono ?_
    rintro e w' ⟨rfl, hw'⟩
    subst w'
    go_wp2
    go_roundw
    case rel => exact ⟨j + 1, by omega, by go_num, G⟩
    case measure => simp [intOf]; omega
   ·have q' : (zos z == t) = true := TE.out.2 q
    have MN : Hid (wpL ns hs t (8 * k + (j + 1)) = wpL ns hs t (8 * k + j) ++ [⟨(k : Int), (j : Int), hs.getD (8 * k + j) 0⟩]) := by unfold Hid; rw [MJ.out, if_neg q]
    have LA := zaa (heatAt_any k j · hlt hlj)
    have e1 := HH.out (8 * k + j) (by omega) wr JB.out
    obtain ⟨p, hp⟩ : ∃ p : Nat, p = 8 * k + j := ⟨_, rfl⟩
    rw [← hp] at LA e1 MN J hlen
    have p0 : (0 : Int) ≤ (p : Int) := by omega
    have p1 : (p : Int) < (hs.length : Int) := by have := L128.out; omega
    generalize hs.getD p 0 = hz at *
    generalize zos z = tz at *
    generalize tieA z = ta at *
    generalize tieC z = tc at *
    have JA : Hid (WpI W (wr.alloc (.cells #[.int .i64 (k : Int), .int .i64 (j : Int), .int .i64 hz] 264)) u7 (wpL ns hs t p)) := J.out.below ((Below.refl _ _).alloc (Nat.le_refl _) _)
    have RB := zaa (rd_wp wr ⟨(k : Int), (j : Int), hz⟩)
    have hzb := JA.out.z
    clear q J MJ TE TJ hp L128
    go_wp2_with fail
    refine LT.out.mono ?_
    rintro e w' ⟨rfl, hw'⟩
    subst w'
    go_wp2_with fail
    refine (LA.out _).mono ?_
    rintro e w' ⟨rfl, hw'⟩
    subst w'
    go_wp2_with (at_builtin; refine zai _ rfl (.tmp 38) (.tmp 48) 267 rfl W.heap.size 264 (.agg #[.int .i64 0, .int .i64 0, .int .i64 0]) 3 24 Tryz.underlying267 infoWp rfl (by decide) _ _ _ rfl JA.out.l _ 1 _ rfl RB.out (wp_ones _) (by simp [maxLen]; omega) (by omega) hzb ?_)
    intro vN wN hownN hgrN
    have G := zaa (JA.out.grow _ hownN hgrN)
    rw [← MN.out] at G
    clear hownN hgrN JA RB
    go_wp2
    go_roundw
    case rel => exact ⟨j + 1, by omega, by go_num, G⟩
    case measure => simp [intOf]; omega
end Go.Proofs.YtipklbnfobckaaaGreatDoor

namespace Go.Proofs.YtipklbnfobckaaaGreatDoor
open Go.RowKit

set_option maxRecDepth 100000 in
theorem zih (x : Mi) (w : World) : Calls Tryz.prog 269 #[.agg #[.int .i64 x.kind, .int .i64 x.at_, .int .i64 x.val]] w fun e w' => e = .returned (.int .i64 x.val) ∧ Below w.heap.size w w' := by
 have BB := zaa ((Below.refl w.heap.size w).alloc (Nat.le_refl _) (.cells #[.int .i64 x.kind, .int .i64 x.at_, .int .i64 x.val] 264))
 obtain ⟨c0, c1, c2⟩ := zbw (zah (w := w) (o := .cells #[.int .i64 x.kind, .int .i64 x.at_, .int .i64 x.val] 264) rfl)
 go_enter Tryz.func269, Tryz.ntmps269
 go_wp2
 go_ret
 exact ⟨rfl, BB.out⟩
theorem colder_wp (a b : Int) (w : World) : Calls Tryz.prog 205 #[.int .i64 a, .int .i64 b] w fun e w' => e = .returned (.int .i64 (min a b)) ∧ w' = w := by
 go_enter Tryz.func205, Tryz.ntmps205
 go_wp2
 go_ret
 exact ⟨rfl, rfl⟩
theorem hotter_wp (a b : Int) (w : World) : Calls Tryz.prog 207 #[.int .i64 a, .int .i64 b] w fun e w' => e = .returned (.int .i64 (max a b)) ∧ w' = w := by
 go_enter Tryz.func207, Tryz.ntmps207
 go_wp2
 go_ret
 exact ⟨rfl, rfl⟩
theorem zfc {w : World} {b : Nat} {x y z : Value} {t : TypeId} (q : w.heap[b]? = some (.cells #[x, y, z] t (0, 0))) : w.frozen? ⟨b, 0, none⟩ = false ∧ w.frozen? ⟨b, 1, none⟩ = false ∧ w.frozen? ⟨b, 2, none⟩ = false := by simp [World.frozen?, q]
theorem wp_put {w : World} {b : Nat} {x y z : Value} {t : TypeId} (q : w.heap[b]? = some (.cells #[x, y, z] t (0, 0))) (x' y' z' : Value) : (((w.setCell ⟨b, 0, none⟩ x').setCell ⟨b, 1, none⟩ y').setCell ⟨b, 2, none⟩ z').heap[b]? = some (.cells #[x', y', z'] t (0, 0)) := by
 have h1 : (w.setCell ⟨b, 0, none⟩ x').heap[b]? = some (.cells #[x', y, z] t (0, 0)) := by simp [World.setCell, Array.getElem?_modify, q]
 have h2 : ((w.setCell ⟨b, 0, none⟩ x').setCell ⟨b, 1, none⟩ y').heap[b]? = some (.cells #[x', y', z] t (0, 0)) := by
  generalize w.setCell ⟨b, 0, none⟩ x' = w1 at *
  simp [World.setCell, Array.getElem?_modify, h1]
 generalize (w.setCell ⟨b, 0, none⟩ x').setCell ⟨b, 1, none⟩ y' = w2 at *
 simp [World.setCell, Array.getElem?_modify, h2]
/-- In the midst of choosing: the best so far, the answer's own box. -/
structure ChI (w wr : World) (c : Mi) : Prop where
 res : wr.heap[w.heap.size]? = some (.cells #[.int .i64 0, .int .i64 0, .int .i64 0] 264 (0, 0))
 box : wr.heap[w.heap.size + 1]? = some (.cells #[.int .i64 c.kind, .int .i64 c.at_, .int .i64 c.val] 264 (0, 0))
 b : Below w.heap.size w wr
theorem ChI.below {w wr w' : World} {c : Mi} (h : ChI w wr c) (hb : Below wr.heap.size wr w') : ChI w w' c :=
 ⟨(hb.block _ (Array.getElem?_eq_some_iff.1 h.res).1).trans h.res, (hb.block _ (Array.getElem?_eq_some_iff.1 h.box).1).trans h.box, zab h.b hb h.b.size⟩
theorem ChI.put {w wr : World} {c : Mi} (h : ChI w wr c) (x : Mi) : ChI w (((wr.setCell ⟨w.heap.size + 1, 0, none⟩ (.int .i64 x.kind)).setCell ⟨w.heap.size + 1, 1, none⟩ (.int .i64 x.at_)).setCell ⟨w.heap.size + 1, 2, none⟩ (.int .i64 x.val)) x :=
 ⟨by rw [Below.heap_setCell _ _ _ _ (by simp), Below.heap_setCell _ _ _ _ (by simp), Below.heap_setCell _ _ _ _ (by simp)]; exact h.res, wp_put h.box _ _ _, ((h.b.setCell (by simp) _).setCell (by simp) _).setCell (by simp) _⟩
theorem belW {a b c : World} (h1 : Below a.heap.size a b) (h2 : Below b.heap.size b c) : Below a.heap.size a c := zab h1 h2 h1.size
theorem chO_take (hot : Bool) (l : List Mi) (k : Nat) (hk : k < l.length) (h0 : 0 < k) : chO hot (l.take (k + 1)) = chT hot (chO hot (l.take k)) l[k] := by
 rw [List.take_succ_eq_append_getElem hk]
 refine chO_snoc hot _ _ (fun e => ?_)
 have := congrArg List.length e
 rw [List.length_take, List.length_nil] at this
 omega
theorem zua (hot : Bool) (l : List Mi) (hk : 0 < l.length) : chO hot (l.take (0 + 1)) = l[0] := by
 rw [List.take_succ_eq_append_getElem hk]
 rfl

set_option maxRecDepth 100000 in
set_option maxHeartbeats 16000000 in
theorem znd (v : Value) (l : List Mi) (w : World) (h : RdM w v l) (hn : l.length ≤ 128) :
  Calls Tryz.prog 267 #[v, .func (.func 269) #[] #[], .func (.func 205) #[] #[]] w fun e w' => e = .returned (.tuple #[(.agg #[.int .i64 (chO false l).kind, .int .i64 (chO false l).at_, .int .i64 (chO false l).val]), .bool (decide (0 < l.length))]) ∧ Below w.heap.size w w' := by
 obtain ⟨aL, cL, rfl, _, hc⟩ := h.shape
 have HC := zaa hc
 clear h hc
 obtain ⟨W, hW⟩ : ∃ W, W = (w.alloc (.cells #[.int .i64 0, .int .i64 0, .int .i64 0] 264)).alloc (.cells #[.int .i64 0, .int .i64 0, .int .i64 0] 264) := ⟨_, rfl⟩
 have ST : Hid (ChI w W (chO false (l.take 0))) := by
  rw [hW]
  refine ⟨?_, ?_, ((Below.refl _ _).alloc (Nat.le_refl _) _).alloc (by simp) _⟩
  ·have := zah (w := w) (o := .cells #[.int .i64 0, .int .i64 0, .int .i64 0] 264) rfl
   exact (((Below.refl _ _).alloc (Nat.le_refl _) _).block _ (by simp)).trans this
  ·have := zah (w := w.alloc (.cells #[.int .i64 0, .int .i64 0, .int .i64 0] 264)) (o := .cells #[.int .i64 0, .int .i64 0, .int .i64 0] 264) rfl
   rw [World.size_alloc] at this
   exact this
 have CF := zaa (fun hk => zua false l hk)
 have CT := zaa (fun k hk h0 => chO_take false l k hk h0)
 have CE := zaa (show chO false (l.take l.length) = chO false l by rw [List.take_length])
 go_enter Tryz.func267, Tryz.ntmps267
 go_upto_region 3 with fail
 rw [← hW]
 clear hW
 go_loopw [13] (fun i wr => ∃ k : Nat, k ≤ l.length ∧ i = .int .i64 (k : Int) ∧ Hid (ChI w wr (chO false (l.take k)))) (fun i _ => l.length - (intOf i).toNat)
 case atStart => exact ⟨0, by omega, rfl, ST⟩
 case round =>
  obtain ⟨k, hk, rfl, I⟩ := hrel
  clear ST
  have k0 : (0 : Int) ≤ (k : Int) := by omega
  by_cases hlt : k < l.length
  case neg =>
   obtain rfl : k = l.length := by omega
   rw [CE.out] at I
   obtain ⟨c0, c1, c2⟩ := zbw I.out.box
   obtain ⟨f0, f1, f2⟩ := zfc I.out.res
   obtain ⟨r0, r1, r2⟩ := zbw I.out.res
   have BP : Hid (Below w.heap.size w (((wr.setCell ⟨w.heap.size, 0, none⟩ (.int .i64 (chO false l).kind)).setCell ⟨w.heap.size, 1, none⟩ (.int .i64 (chO false l).at_)).setCell ⟨w.heap.size, 2, none⟩ (.int .i64 (chO false l).val))) := ((I.out.b.setCell (Nat.le_refl _) _).setCell (Nat.le_refl _) _).setCell (Nat.le_refl _) _
   have EV : Hid ((0 < l.length) = (0 < (l.length : Int))) := by unfold Hid; rw [eq_iff_iff]; omega
   clear I CF CT
   go_wp2
   refine bodyPost_ret (v := .tuple #[.agg #[.int .i64 (chO false l).kind, .int .i64 (chO false l).at_, .int .i64 (chO false l).val], .bool (decide (0 < l.length))]) (by simp [results, Tryz.results267, go_sem, r0, r1, r2]) rfl ⟨rfl, BP.out⟩
  obtain ⟨b, o, rfl, hbl, hcell⟩ := HC.out (by omega)
  obtain ⟨a0, a1, a2⟩ := hcell k hlt
  have d0 := (I.out.b.cell (p := ⟨b, o + k * 3, none⟩) hbl).trans a0
  have d1 := (I.out.b.cell (p := ⟨b, o + k * 3 + 1, none⟩) hbl).trans a1
  have d2 := (I.out.b.cell (p := ⟨b, o + k * 3 + 2, none⟩) hbl).trans a2
  have k1 : (k : Int) < (l.length : Int) := by omega
  have CF1 := zaa (fun (e : k = 0) => show chO false (l.take (k + 1)) = l[k] by subst e; exact CF.out hlt)
  have CT1 := zaa (CT.out k hlt)
  clear a0 a1 a2 hcell
  generalize l[k] = x at *
  generalize chO false (l.take k) = c at *
  obtain ⟨nx, hnx⟩ : ∃ nx, chO false (l.take (k + 1)) = nx := ⟨_, rfl⟩
  have HN := zaa hnx
  rw [hnx] at CF1 CT1
  clear hnx CF CT
  obtain ⟨V, hV⟩ : ∃ V, V = wr.alloc (.cells #[.int .i64 x.kind, .int .i64 x.at_, .int .i64 x.val] 264) := ⟨_, rfl⟩
  have BV : Hid (Below wr.heap.size wr V) := by rw [hV]; exact (Below.refl _ _).alloc (Nat.le_refl _) _
  have XV : Hid (V.heap[wr.heap.size]? = some (.cells #[.int .i64 x.kind, .int .i64 x.at_, .int .i64 x.val] 264 (0, 0))) := by rw [hV]; exact zah rfl
  have IV := zaa (I.out.below BV.out)
  have hzl : wr.heap.size < V.heap.size := (Array.getElem?_eq_some_iff.1 XV.out).1
  by_cases ck : k = 0
  ·obtain rfl := CF1.out ck
   subst ck
   rw [Nat.zero_mul, Nat.add_zero] at d0 d1 d2
   clear CT1 CF1
   go_upto_region 5 with fail
   rw [← hV]
   clear hV
   have SQ : Hid (∀ nq, ChI w (V.drewN nq) c ∧ (V.drewN nq).heap[wr.heap.size]? = some (.cells #[.int .i64 nx.kind, .int .i64 nx.at_, .int .i64 nx.val] 264 (0, 0))) := fun nq => ⟨IV.out.below (zbh (Below.refl _ _) nq), ((zbh (Below.refl V.heap.size V) nq).block _ hzl).trans XV.out⟩
   go_wp2_with fail
   go_quiet (fail)
   generalize hVn : V.drewN nq = Vn
   have S1 := zaa (SQ.out nq).1
   have S2 := zaa (SQ.out nq).2
   rw [hVn] at S1 S2
   clear hVn
   obtain ⟨c0, c1, c2⟩ := zbw S2.out
   obtain ⟨g0, g1, g2⟩ := zbw S1.out.box
   obtain ⟨f0, f1, f2⟩ := zfc S1.out.box
   have G := zaa (S1.out.put nx)
   go_wp2
   go_roundw
   case rel => exact ⟨0 + 1, by omega, by go_num, by rw [HN.out]; exact G⟩
   case measure => simp [intOf]; omega
  ·have q0 : ((k : Int) == 0) = false := by rw [beq_eq_false_iff_ne]; omega
   have CT2 : Hid (nx = chT false c x) := CT1.out (by omega)
   obtain ⟨mm, hmm⟩ : ∃ mm : Int, mm = min c.val x.val := ⟨_, rfl⟩
   have LB : Hid (∀ w1, Calls Tryz.prog 205 #[.int .i64 c.val, .int .i64 x.val] w1 fun e w' => e = .returned (.int .i64 mm) ∧ w' = w1) := fun w1 => by rw [hmm]; exact colder_wp _ _ w1
   have WAY : Hid (((mm != c.val) = true ∧ nx = x) ∨ ((mm != c.val) = false ∧ nx = c)) := by
    unfold Hid
    rw [CT2.out, hmm]
    unfold chT
    by_cases q : x.val < c.val
    ·rw [if_pos (.inr ⟨rfl, q⟩)]
     exact .inl ⟨by rw [bne_iff_ne]; omega, rfl⟩
    ·rw [if_neg (by simp; omega)]
     exact .inr ⟨by rw [bne_eq_false_iff_eq]; omega, rfl⟩
   have SK : Hid (∀ w', Below V.heap.size V w' → (w'.cell? ⟨w.heap.size + 1, 0, none⟩ = some (.int .i64 c.kind) ∧ w'.cell? ⟨w.heap.size + 1, 1, none⟩ = some (.int .i64 c.at_) ∧ w'.cell? ⟨w.heap.size + 1, 2, none⟩ = some (.int .i64 c.val)) ∧ w'.cell? ⟨wr.heap.size, 0, none⟩ = some (.int .i64 x.kind) ∧ w'.cell? ⟨wr.heap.size, 1, none⟩ = some (.int .i64 x.at_) ∧ w'.cell? ⟨wr.heap.size, 2, none⟩ = some (.int .i64 x.val)) := fun w' hb => ⟨zbw (IV.out.below hb).box, zbw ((hb.block _ hzl).trans XV.out)⟩
   clear CT1 CF1 CT2 hmm ck I
   go_upto_region 5 with fail
   rw [← hV]
   clear hV d0 d1 d2
   go_cut [33] (fun s wx => s = .bool (mm != c.val) ∧ Below V.heap.size V wx)
   case first =>
    go_region_held3 (fun w' => (w'.cell? ⟨w.heap.size + 1, 0, none⟩ = some (.int .i64 c.kind) ∧ w'.cell? ⟨w.heap.size + 1, 1, none⟩ = some (.int .i64 c.at_) ∧ w'.cell? ⟨w.heap.size + 1, 2, none⟩ = some (.int .i64 c.val)) ∧ w'.cell? ⟨wr.heap.size, 0, none⟩ = some (.int .i64 x.kind) ∧ w'.cell? ⟨wr.heap.size, 1, none⟩ = some (.int .i64 x.at_) ∧ w'.cell? ⟨wr.heap.size, 2, none⟩ = some (.int .i64 x.val))
     (exact SK.out _ (by repeat (first | with_reducible exact BF.out | with_reducible exact Below.refl _ _ | with_reducible refine Below.drew ?_)))
     (first
      | (go_at_call 269; (first | refine (zih c _).mono ?_ | refine (zih x _).mono ?_); rintro e w1 ⟨rfl, hb1⟩; have BF : Hid (Below V.heap.size V w1) := belW (by repeat (first | with_reducible exact BF.out | with_reducible exact Below.refl _ _ | with_reducible refine Below.drew ?_)) hb1; clear hb1)
      | (go_at_call 205; refine (LB.out _).mono ?_; rintro e w' ⟨rfl, hw'⟩; subst w'))
    all_goals
     go_wp2_with fail
     go_meet
     exact ⟨rfl, (by repeat (first | with_reducible exact BF.out | with_reducible refine Below.drew ?_))⟩
   case rest =>
   obtain ⟨rfl, hb5⟩ := hcut
   rename World => w5
   have I5 := zaa (IV.out.below hb5)
   obtain ⟨⟨g0, g1, g2⟩, c0, c1, c2⟩ := SK.out _ hb5
   obtain ⟨f0, f1, f2⟩ := zfc I5.out.box
   clear hb5 SK LB IV XV BV
   rcases WAY.out with ⟨q, rfl⟩ | ⟨q, rfl⟩
   ·have G := zaa (I5.out.put nx)
    clear WAY
    go_wp2
    go_roundw
    case rel => exact ⟨k + 1, by omega, by go_num, by rw [HN.out]; exact G⟩
    case measure => simp [intOf]; omega
   ·clear WAY
    go_wp2
    go_roundw
    case rel => exact ⟨k + 1, by omega, by go_num, by rw [HN.out]; exact I5⟩
    case measure => simp [intOf]; omega

set_option maxRecDepth 100000 in
set_option maxHeartbeats 16000000 in
theorem zpa (v : Value) (l : List Mi) (w : World) (h : RdM w v l) (hn : l.length ≤ 128) :
  Calls Tryz.prog 267 #[v, .func (.func 269) #[] #[], .func (.func 207) #[] #[]] w fun e w' => e = .returned (.tuple #[(.agg #[.int .i64 (chO true l).kind, .int .i64 (chO true l).at_, .int .i64 (chO true l).val]), .bool (decide (0 < l.length))]) ∧ Below w.heap.size w w' := by
 obtain ⟨aL, cL, rfl, _, hc⟩ := h.shape
 have HC := zaa hc
 clear h hc
 obtain ⟨W, hW⟩ : ∃ W, W = (w.alloc (.cells #[.int .i64 0, .int .i64 0, .int .i64 0] 264)).alloc (.cells #[.int .i64 0, .int .i64 0, .int .i64 0] 264) := ⟨_, rfl⟩
 have ST : Hid (ChI w W (chO true (l.take 0))) := by
  rw [hW]
  refine ⟨?_, ?_, ((Below.refl _ _).alloc (Nat.le_refl _) _).alloc (by simp) _⟩
  ·have := zah (w := w) (o := .cells #[.int .i64 0, .int .i64 0, .int .i64 0] 264) rfl
   exact (((Below.refl _ _).alloc (Nat.le_refl _) _).block _ (by simp)).trans this
  ·have := zah (w := w.alloc (.cells #[.int .i64 0, .int .i64 0, .int .i64 0] 264)) (o := .cells #[.int .i64 0, .int .i64 0, .int .i64 0] 264) rfl
   rw [World.size_alloc] at this
   exact this
 have CF := zaa (fun hk => zua true l hk)
 have CT := zaa (fun k hk h0 => chO_take true l k hk h0)
 have CE := zaa (show chO true (l.take l.length) = chO true l by rw [List.take_length])
 go_enter Tryz.func267, Tryz.ntmps267
 go_upto_region 3 with fail
 rw [← hW]
 clear hW
 go_loopw [13] (fun i wr => ∃ k : Nat, k ≤ l.length ∧ i = .int .i64 (k : Int) ∧ Hid (ChI w wr (chO true (l.take k)))) (fun i _ => l.length - (intOf i).toNat)
 case atStart => exact ⟨0, by omega, rfl, ST⟩
 case round =>
  obtain ⟨k, hk, rfl, I⟩ := hrel
  clear ST
  have k0 : (0 : Int) ≤ (k : Int) := by omega
  by_cases hlt : k < l.length
  case neg =>
   obtain rfl : k = l.length := by omega
   rw [CE.out] at I
   obtain ⟨c0, c1, c2⟩ := zbw I.out.box
   obtain ⟨f0, f1, f2⟩ := zfc I.out.res
   obtain ⟨r0, r1, r2⟩ := zbw I.out.res
   have BP : Hid (Below w.heap.size w (((wr.setCell ⟨w.heap.size, 0, none⟩ (.int .i64 (chO true l).kind)).setCell ⟨w.heap.size, 1, none⟩ (.int .i64 (chO true l).at_)).setCell ⟨w.heap.size, 2, none⟩ (.int .i64 (chO true l).val))) := ((I.out.b.setCell (Nat.le_refl _) _).setCell (Nat.le_refl _) _).setCell (Nat.le_refl _) _
   have EV : Hid ((0 < l.length) = (0 < (l.length : Int))) := by unfold Hid; rw [eq_iff_iff]; omega
   clear I CF CT
   go_wp2
   refine bodyPost_ret (v := .tuple #[.agg #[.int .i64 (chO true l).kind, .int .i64 (chO true l).at_, .int .i64 (chO true l).val], .bool (decide (0 < l.length))]) (by simp [results, Tryz.results267, go_sem, r0, r1, r2]) rfl ⟨rfl, BP.out⟩
  obtain ⟨b, o, rfl, hbl, hcell⟩ := HC.out (by omega)
  obtain ⟨a0, a1, a2⟩ := hcell k hlt
  have d0 := (I.out.b.cell (p := ⟨b, o + k * 3, none⟩) hbl).trans a0
  have d1 := (I.out.b.cell (p := ⟨b, o + k * 3 + 1, none⟩) hbl).trans a1
  have d2 := (I.out.b.cell (p := ⟨b, o + k * 3 + 2, none⟩) hbl).trans a2
  have k1 : (k : Int) < (l.length : Int) := by omega
  have CF1 := zaa (fun (e : k = 0) => show chO true (l.take (k + 1)) = l[k] by subst e; exact CF.out hlt)
  have CT1 := zaa (CT.out k hlt)
  clear a0 a1 a2 hcell
  generalize l[k] = x at *
  generalize chO true (l.take k) = c at *
  obtain ⟨nx, hnx⟩ : ∃ nx, chO true (l.take (k + 1)) = nx := ⟨_, rfl⟩
  have HN := zaa hnx
  rw [hnx] at CF1 CT1
  clear hnx CF CT
  obtain ⟨V, hV⟩ : ∃ V, V = wr.alloc (.cells #[.int .i64 x.kind, .int .i64 x.at_, .int .i64 x.val] 264) := ⟨_, rfl⟩
  have BV : Hid (Below wr.heap.size wr V) := by rw [hV]; exact (Below.refl _ _).alloc (Nat.le_refl _) _
  have XV : Hid (V.heap[wr.heap.size]? = some (.cells #[.int .i64 x.kind, .int .i64 x.at_, .int .i64 x.val] 264 (0, 0))) := by rw [hV]; exact zah rfl
  have IV := zaa (I.out.below BV.out)
  have hzl : wr.heap.size < V.heap.size := (Array.getElem?_eq_some_iff.1 XV.out).1
  by_cases ck : k = 0
  ·obtain rfl := CF1.out ck
   subst ck
   rw [Nat.zero_mul, Nat.add_zero] at d0 d1 d2
   clear CT1 CF1
   go_upto_region 5 with fail
   rw [← hV]
   clear hV
   have SQ : Hid (∀ nq, ChI w (V.drewN nq) c ∧ (V.drewN nq).heap[wr.heap.size]? = some (.cells #[.int .i64 nx.kind, .int .i64 nx.at_, .int .i64 nx.val] 264 (0, 0))) := fun nq => ⟨IV.out.below (zbh (Below.refl _ _) nq), ((zbh (Below.refl V.heap.size V) nq).block _ hzl).trans XV.out⟩
   go_wp2_with fail
   go_quiet (fail)
   generalize hVn : V.drewN nq = Vn
   have S1 := zaa (SQ.out nq).1
   have S2 := zaa (SQ.out nq).2
   rw [hVn] at S1 S2
   clear hVn
   obtain ⟨c0, c1, c2⟩ := zbw S2.out
   obtain ⟨g0, g1, g2⟩ := zbw S1.out.box
   obtain ⟨f0, f1, f2⟩ := zfc S1.out.box
   have G := zaa (S1.out.put nx)
   go_wp2
   go_roundw
   case rel => exact ⟨0 + 1, by omega, by go_num, by rw [HN.out]; exact G⟩
   case measure => simp [intOf]; omega
  ·have q0 : ((k : Int) == 0) = false := by rw [beq_eq_false_iff_ne]; omega
   have CT2 : Hid (nx = chT true c x) := CT1.out (by omega)
   obtain ⟨mm, hmm⟩ : ∃ mm : Int, mm = max c.val x.val := ⟨_, rfl⟩
   have LB : Hid (∀ w1, Calls Tryz.prog 207 #[.int .i64 c.val, .int .i64 x.val] w1 fun e w' => e = .returned (.int .i64 mm) ∧ w' = w1) := fun w1 => by rw [hmm]; exact hotter_wp _ _ w1
   have WAY : Hid (((mm != c.val) = true ∧ nx = x) ∨ ((mm != c.val) = false ∧ nx = c)) := by
    unfold Hid
    rw [CT2.out, hmm]
    unfold chT
    by_cases q : c.val < x.val
    ·rw [if_pos (.inl ⟨rfl, q⟩)]
     exact .inl ⟨by rw [bne_iff_ne]; omega, rfl⟩
    ·rw [if_neg (by simp; omega)]
     exact .inr ⟨by rw [bne_eq_false_iff_eq]; omega, rfl⟩
   have SK : Hid (∀ w', Below V.heap.size V w' → (w'.cell? ⟨w.heap.size + 1, 0, none⟩ = some (.int .i64 c.kind) ∧ w'.cell? ⟨w.heap.size + 1, 1, none⟩ = some (.int .i64 c.at_) ∧ w'.cell? ⟨w.heap.size + 1, 2, none⟩ = some (.int .i64 c.val)) ∧ w'.cell? ⟨wr.heap.size, 0, none⟩ = some (.int .i64 x.kind) ∧ w'.cell? ⟨wr.heap.size, 1, none⟩ = some (.int .i64 x.at_) ∧ w'.cell? ⟨wr.heap.size, 2, none⟩ = some (.int .i64 x.val)) := fun w' hb => ⟨zbw (IV.out.below hb).box, zbw ((hb.block _ hzl).trans XV.out)⟩
   clear CT1 CF1 CT2 hmm ck I
   go_upto_region 5 with fail
   rw [← hV]
   clear hV d0 d1 d2
   go_cut [33] (fun s wx => s = .bool (mm != c.val) ∧ Below V.heap.size V wx)
   case first =>
    go_region_held3 (fun w' => (w'.cell? ⟨w.heap.size + 1, 0, none⟩ = some (.int .i64 c.kind) ∧ w'.cell? ⟨w.heap.size + 1, 1, none⟩ = some (.int .i64 c.at_) ∧ w'.cell? ⟨w.heap.size + 1, 2, none⟩ = some (.int .i64 c.val)) ∧ w'.cell? ⟨wr.heap.size, 0, none⟩ = some (.int .i64 x.kind) ∧ w'.cell? ⟨wr.heap.size, 1, none⟩ = some (.int .i64 x.at_) ∧ w'.cell? ⟨wr.heap.size, 2, none⟩ = some (.int .i64 x.val))
     (exact SK.out _ (by repeat (first | with_reducible exact BF.out | with_reducible exact Below.refl _ _ | with_reducible refine Below.drew ?_)))
     (first
      | (go_at_call 269; (first | refine (zih c _).mono ?_ | refine (zih x _).mono ?_); rintro e w1 ⟨rfl, hb1⟩; have BF : Hid (Below V.heap.size V w1) := belW (by repeat (first | with_reducible exact BF.out | with_reducible exact Below.refl _ _ | with_reducible refine Below.drew ?_)) hb1; clear hb1)
      | (go_at_call 207; refine (LB.out _).mono ?_; rintro e w' ⟨rfl, hw'⟩; subst w'))
    all_goals
     go_wp2_with fail
     go_meet
     exact ⟨rfl, (by repeat (first | with_reducible exact BF.out | with_reducible refine Below.drew ?_))⟩
   case rest =>
   obtain ⟨rfl, hb5⟩ := hcut
   rename World => w5
   have I5 := zaa (IV.out.below hb5)
   obtain ⟨⟨g0, g1, g2⟩, c0, c1, c2⟩ := SK.out _ hb5
   obtain ⟨f0, f1, f2⟩ := zfc I5.out.box
   clear hb5 SK LB IV XV BV
   rcases WAY.out with ⟨q, rfl⟩ | ⟨q, rfl⟩
   ·have G := zaa (I5.out.put nx)
    clear WAY
    go_wp2
    go_roundw
    case rel => exact ⟨k + 1, by omega, by go_num, by rw [HN.out]; exact G⟩
    case measure => simp [intOf]; omega
   ·clear WAY
    go_wp2
    go_roundw
    case rel => exact ⟨k + 1, by omega, by go_num, by rw [HN.out]; exact I5⟩
    case measure => simp [intOf]; omega
end Go.Proofs.YtipklbnfobckaaaGreatDoor
