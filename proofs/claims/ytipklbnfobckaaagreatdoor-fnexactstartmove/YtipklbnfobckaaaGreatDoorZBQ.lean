/- Several texts laid together: TrI, TrJ. -/
import Derived.Test.YtipklbnfobckaaaGreatDoorZBN
import Derived.Test.YtipklbnfobckaaaGreatDoorZAI
import Derived.Test.YtipklbnfobckaaaGreatDoorZBL
import Derived.Deep.RegionHeld3
import Derived.Deep.DeepCutAuto
namespace Go.Proofs.YtipklbnfobckaaaGreatDoor
open Go.RowKit

/-- A page with its heat: inode, page, heat. -/
def wpM (hs : List Int) (k : Nat) : Mi := ⟨((k / 8 : Nat) : Int), ((k % 8 : Nat) : Int), hs.getD k 0⟩
/-- The pages of a tier among the first ones. -/
def wpL (ns : List Ino) (hs : List Int) (t : Int) : Nat → List Mi
 | 0 => []
 | n + 1 => if pgE ns n = 0 ∨ ¬ pgE ns n % 4 = t then wpL ns hs t n else wpL ns hs t n ++ [wpM hs n]
theorem zwn (ns : List Ino) (hs : List Int) (t : Int) (n : Nat) : (wpL ns hs t n).length ≤ n := by
 induction n with
 | zero => exact Nat.le_refl _
 | succ n ih =>
  unfold wpL
  split
  ·omega
  ·rw [List.length_append, List.length_singleton]; omega
/-- One more is held against the best so far. -/
def chT (hot : Bool) (c x : Mi) : Mi := if (hot = true ∧ c.val < x.val) ∨ (hot = false ∧ x.val < c.val) then x else c
def zeroMi : Mi := ⟨0, 0, 0⟩
def chO (hot : Bool) : List Mi → Mi
 | [] => zeroMi
 | x :: xs => xs.foldl (chT hot) x
theorem chO_snoc (hot : Bool) (l : List Mi) (x : Mi) (h : ¬ l = []) : chO hot (l ++ [x]) = chT hot (chO hot l) x := by
 cases l with
 | nil => exact absurd rfl h
 | cons y ys =>
  show (ys ++ [x]).foldl (chT hot) y = _
  rw [List.foldl_append]
  rfl
theorem zvu (ns : List Ino) (hs : List Int) (t : Int) (hot : Bool) (n : Nat) : (wpL ns hs t n = [] ∧ pkN ns hs t hot n = -1) ∨ (¬ wpL ns hs t n = [] ∧ ∃ q : Nat, pkN ns hs t hot n = (q : Int) ∧ chO hot (wpL ns hs t n) = wpM hs q) := by
 induction n with
 | zero => exact .inl ⟨rfl, rfl⟩
 | succ n ih =>
  have e1 : pkN ns hs t hot (n + 1) = pkS ns hs t hot (pkN ns hs t hot n) n := rfl
  rw [e1]
  by_cases c : pgE ns n = 0 ∨ ¬ pgE ns n % 4 = t
  ·have e2 : wpL ns hs t (n + 1) = wpL ns hs t n := by rw [wpL, if_pos c]
   rw [e2, pkS_no c]
   exact ih
  ·have e2 : wpL ns hs t (n + 1) = wpL ns hs t n ++ [wpM hs n] := by rw [wpL, if_neg c]
   rw [e2]
   have ne : ¬ wpL ns hs t n ++ [wpM hs n] = [] := by simp
   rcases ih with ⟨h1, h2⟩ | ⟨h1, q, h2, h3⟩
   ·rw [h2, zox c (.inl (by decide)), h1]
    exact .inr ⟨by simp, n, rfl, rfl⟩
   ·refine .inr ⟨ne, ?_⟩
    rw [h2, chO_snoc hot _ _ h1, h3]
    have tq : ((q : Int)).toNat = q := Int.toNat_natCast q
    by_cases d : (hot = true ∧ hs.getD q 0 < hs.getD n 0) ∨ (hot = false ∧ hs.getD n 0 < hs.getD q 0)
    ·rw [zox c (.inr (by rw [tq]; exact d))]
     exact ⟨n, rfl, if_pos d⟩
    ·rw [pkS_not c (by rw [tq]; exact fun x => x.elim (by omega) d)]
     exact ⟨q, rfl, if_neg d⟩
theorem wpL_inode (ns : List Ino) (hs : List Int) (t : Int) (a b : Nat) (hb : b < 8) : wpL ns hs t (8 * a + (b + 1)) = if (zar ns a).map.getD b 0 = 0 ∨ ¬ (zar ns a).map.getD b 0 % 4 = t then wpL ns hs t (8 * a + b) else wpL ns hs t (8 * a + b) ++ [⟨(a : Int), (b : Int), hs.getD (8 * a + b) 0⟩] := by
 have e : pgE ns (8 * a + b) = (zar ns a).map.getD b 0 := by
  unfold pgE
  rw [show (8 * a + b) / 8 = a by omega, show (8 * a + b) % 8 = b by omega]
 have m : wpM hs (8 * a + b) = ⟨(a : Int), (b : Int), hs.getD (8 * a + b) 0⟩ := by
  unfold wpM
  rw [show (8 * a + b) / 8 = a by omega, show (8 * a + b) % 8 = b by omega]
 show wpL ns hs t ((8 * a + b) + 1) = _
 rw [wpL, e, m]
/-- What the program's choice answers is what the model's answers. -/
theorem zry (ns : List Ino) (ds : List Den) (hs : List Int) (t : Int) (hot : Bool) (hi : zdm ns ds = true) (hh : zcn hs = true) : pcR ns ds hs t hot = if wpL ns hs t 128 = [] then (0, 0, 5) else ((chO hot (wpL ns hs t 128)).kind, (chO hot (wpL ns hs t 128)).at_, 0) := by
 unfold pcR pcI
 rw [if_neg (by have := (zeb hh).1; omega), if_pos ⟨hi, hh⟩]
 rcases zvu ns hs t hot 128 with ⟨h1, h2⟩ | ⟨h1, q, h2, h3⟩
 ·rw [h2, if_pos (by decide), if_pos h1]
 ·rw [h2, if_neg (by omega), if_neg h1, h3]
  unfold wpM
  rw [show ((q / 8 : Nat) : Int) = (q : Int) / 8 by omega, show ((q % 8 : Nat) : Int) = (q : Int) % 8 by omega]
end Go.Proofs.YtipklbnfobckaaaGreatDoor

namespace Go.Proofs.YtipklbnfobckaaaGreatDoor
open Go.RowKit

theorem infoWp : (Tryz.prog.info? 264).map (fun i => (i.zero, i.size, i.bytes)) = some (some (.agg #[.int .i64 0, .int .i64 0, .int .i64 0]), 3, 24) := by kernel_rfl
/-- A row of pages with their heat that grows. -/
structure WpI (W w : World) (vL : Value) (ms : List Mi) : Prop where
 l : w.ownsRow W.heap.size 264 3 vL ms.length (mis ms)
 b : Below W.heap.size W w
theorem WpI.z {W w : World} {vL : Value} {ms : List Mi} (h : WpI W w vL ms) : W.heap.size ≤ w.heap.size := h.b.size
theorem WpI.below {W w w' : World} {vL : Value} {ms : List Mi} (h : WpI W w vL ms) (hb : Below w.heap.size w w') : WpI W w' vL ms :=
 ⟨((zaf h.l).below hb (Nat.le_refl _)).1, zab h.b hb h.z⟩
theorem WpI.grow {W w w' : World} {vL v' : Value} {ms : List Mi} (h : WpI W w vL ms) (x : Mi) (ho : w'.ownsRow W.heap.size 264 3 v' (ms.length + 1) (mis ms ++ x.cells)) (hg : w.grownBy w' vL.ownBlock) : WpI W w' v' (ms ++ [x]) :=
 ⟨by unfold mis; rw [List.flatMap_append, List.length_append, List.flatMap_singleton]; exact ho, h.b.grown hg h.z (fun q hq => (h.l.lt q hq).1)⟩
theorem zbw {w : World} {b : Nat} {x y z : Value} {t : TypeId} (q : w.heap[b]? = some (.cells #[x, y, z] t (0, 0))) : w.cell? ⟨b, 0, none⟩ = some x ∧ w.cell? ⟨b, 1, none⟩ = some y ∧ w.cell? ⟨b, 2, none⟩ = some z := by simp [World.cell?, q]
theorem rd_wp (w1 : World) (x : Mi) : Rd (w1.alloc (.cells #[.int .i64 x.kind, .int .i64 x.at_, .int .i64 x.val] 264)) 3 (.slice (some ⟨w1.heap.size, 0, none⟩) 1 1) 1 x.cells := by
 refine ⟨rfl, some ⟨w1.heap.size, 0, none⟩, 1, rfl, ⟨Nat.le_refl _, fun e => by cases e⟩, fun _ => ⟨_, 0, rfl, by simp, fun j hj => ?_⟩⟩
 have q : (w1.alloc (.cells #[.int .i64 x.kind, .int .i64 x.at_, .int .i64 x.val] 264)).heap[w1.heap.size]? = some (.cells #[.int .i64 x.kind, .int .i64 x.at_, .int .i64 x.val] 264 (0, 0)) := zah rfl
 rcases (show j = 0 ∨ j = 1 ∨ j = 2 by omega) with rfl | rfl | rfl
 ·exact (zbw q).1
 ·exact (zbw q).2.1
 ·exact (zbw q).2.2
theorem wp_ones (x : Mi) : ∀ u ∈ x.cells, u.oneCell' = true := by
 intro u hu
 simp only [Mi.cells, List.mem_cons, List.mem_nil_iff, or_false] at hu
 rcases hu with rfl | rfl | rfl <;> rfl

set_option maxRecDepth 100000 in
set_option maxHeartbeats 8000000 in
theorem zfv (v vh : Value) (ns : List Ino) (ds : List Den) (hs : List Int) (t : Int) (w : World) (h : RdIm w v ns ds) (hi : zdm ns ds = true) (hh : RdI w vh hs) (hb : zcn hs = true) (ht : t = 1 ∨ t = 2) (hT : TS w) :
  Calls Tryz.prog 268 #[v, vh, .int .i64 t] w fun e w' => ∃ v', e = .returned v' ∧ Row w' 264 3 w.heap.size w'.heap.size v' (wpL ns hs t 128).length (mis (wpL ns hs t 128)) ∧ Below w.heap.size w w' := by
 have TI := zaa (fun k (hk : k < 16) j => znz hi hk j)
 obtain ⟨l16, l24, _⟩ := zdv hi
 have L16 := zaa l16
 have L128 := zaa (zeb hb).1
 obtain ⟨vW, vP, rfl, h1, h2⟩ := h
 obtain ⟨aW, cW, rfl, _, hcW⟩ := h1.shape
 obtain ⟨aP, cP, rfl, _, hcP⟩ := h2.shape
 obtain ⟨aH, cH, rfl, _, hcH⟩ := hh.shape
 obtain ⟨bW, oW, rfl, hblW, hcellW⟩ := hcW (by omega)
 obtain ⟨bH, oH, rfl, hblH, hcellH⟩ := hcH (by have := L128.out; omega)
 have HCW := zaa hcellW
 have HH : Hid (∀ k, k < 128 → ∀ w', Below w.heap.size w w' → w'.cell? ⟨bH, oH + k, none⟩ = some (.int .i64 (hs.getD k 0))) := fun k hk w' hb => by
  have q : k < hs.length := by have := L128.out; omega
  rw [List.getD_eq_getElem?_getD, List.getElem?_eq_getElem q]
  exact (hb.cell (p := ⟨bH, oH + k, none⟩) hblH).trans (hcellH k q)
 have HTT := zaa hT
 clear h1 h2 hi hcW hcP hcellW hcH hcellH l16 l24 hh hb hT
 obtain ⟨W, hW⟩ : ∃ W, W = w.alloc (.cells #[.slice (some ⟨bW, oW, none⟩) ns.length cW, .slice aP ds.length cP] 83) := ⟨_, rfl⟩
 have BW : Hid (Below w.heap.size w W) := by rw [hW]; exact (Below.refl _ _).alloc (Nat.le_refl _) _
 obtain ⟨x0, x1, -, -⟩ := zad (zah (w := w) (o := .cells #[.slice (some ⟨bW, oW, none⟩) ns.length cW, .slice aP ds.length cP] 83) rfl)
 have hn16 : ns.length ≤ 16 := by have := L16.out; omega
 have HN16 := zaa (show 16 ≤ ns.length by have := L16.out; omega)
 go_enter Tryz.func268, Tryz.ntmps268
 go_upto_region 3 with fail
 rw [← hW]
 clear hW x0 x1 L16
 go_loopw [7, 18] (fun vL i wr => ∃ k : Nat, k ≤ 16 ∧ i = .int .i64 k ∧ Hid (WpI W wr vL (wpL ns hs t (8 * k)))) (fun _ i _ => 16 - (intOf i).toNat)
 case atStart => exact ⟨0, by omega, rfl, ⟨World.ownsRow_nil _ _ _ _, Below.refl _ _⟩⟩
 case round =>
  obtain ⟨k, hk, rfl, I⟩ := hrel
  have k0 : (0 : Int) ≤ (k : Int) := by omega
  by_cases hlt : k < 16
  case neg =>
   obtain rfl : k = 16 := by omega
   have k1 : ¬ ((16 : Nat) : Int) < (ns.length : Int) := by omega
   have E := zaa (show wpL ns hs t (8 * 16) = wpL ns hs t 128 from rfl)
   rw [E.out] at I
   obtain ⟨-, aL, cL, hvL, -⟩ := (zaf I.out.l).rd
   subst hvL
   have R := zaa ((zaf I.out.l).wide (lo' := w.heap.size) BW.out.size (Nat.le_refl _))
   have B := zaa (zab BW.out I.out.b BW.out.size)
   go_wp2
   go_ret
   exact ⟨_, rfl, R.out, B.out⟩
  have hkl : k < ns.length := by have := HN16.out; omega
  have IB := zaa (zab BW.out I.out.b BW.out.size)
  obtain ⟨a0, a1, a2, a3, a4, a5, a6, a7, a8, a9, a10⟩ := HCW.out k hkl
  have d0 := (IB.out.cell (p := ⟨bW, oW + k * 11, none⟩) hblW).trans a0
  have d1 := (IB.out.cell (p := ⟨bW, oW + k * 11 + 1, none⟩) hblW).trans a1
  have d2 := (IB.out.cell (p := ⟨bW, oW + k * 11 + 2, none⟩) hblW).trans a2
  have d3 := (IB.out.cell (p := ⟨bW, oW + k * 11 + 3, none⟩) hblW).trans a3
  have d4 := (IB.out.cell (p := ⟨bW, oW + k * 11 + 4, none⟩) hblW).trans a4
  have d5 := (IB.out.cell (p := ⟨bW, oW + k * 11 + 5, none⟩) hblW).trans a5
  have d6 := (IB.out.cell (p := ⟨bW, oW + k * 11 + 6, none⟩) hblW).trans a6
  have d7 := (IB.out.cell (p := ⟨bW, oW + k * 11 + 7, none⟩) hblW).trans a7
  have d8 := (IB.out.cell (p := ⟨bW, oW + k * 11 + 8, none⟩) hblW).trans a8
  have d9 := (IB.out.cell (p := ⟨bW, oW + k * 11 + 9, none⟩) hblW).trans a9
  have d10 := (IB.out.cell (p := ⟨bW, oW + k * 11 + 10, none⟩) hblW).trans a10
  have k1 : (k : Int) < (ns.length : Int) := by omega
  have MS := zaa (fun j (hj : j < 8) => wpL_inode ns hs t k j hj)
  have TK := zaa (fun j => TI.out k hlt j)
  rw [zbq hkl] at MS TK
  clear a0 a1 a2 a3 a4 a5 a6 a7 a8 a9 a10
  generalize ns[k] = x at *
  have START : Hid (WpI W (wr.alloc (.cells x.cs.toArray 171)) u7 (wpL ns hs t (8 * k + 0))) := I.out.below ((Below.refl wr.heap.size wr).alloc (Nat.le_refl _) (.cells x.cs.toArray 171))
  unfold Ino.cs at START
  clear I IB
  go_wp2
  go_loopw [7, 25] (fun vL i wq => ∃ j : Nat, j ≤ 8 ∧ i = .int .i64 j ∧ Hid (WpI W wq vL (wpL ns hs t (8 * k + j)))) (fun _ i _ => 8 - (intOf i).toNat)
  case atStart => exact ⟨0, by omega, rfl, START⟩
  case round =>
   obtain ⟨j, hj, rfl, J⟩ := hrel
   clear START d0 d1 d2 d3 d4 d5 d6 d7 d8 d9 d10
   have j0 : (0 : Int) ≤ (j : Int) := by omega
   by_cases hlj : j < 8
   case neg =>
    obtain rfl : j = 8 := by omega
    have E := zaa (show wpL ns hs t (8 * k + 8) = wpL ns hs t (8 * (k + 1)) from rfl)
    rw [E.out] at J
    go_wp2
    go_roundw
    case rel => exact ⟨k + 1, by omega, by go_num, J⟩
    case measure => simp [intOf]; omega
   have j1 : (j : Int) < 8 := by omega
   have ix := idx8 x j hlj
   have MJ := zaa (MS.out j hlj)
   have TJ := zaa (TK.out j)
   have hlen : (wpL ns hs t (8 * k + j)).length ≤ 128 := by have := zwn ns hs t (8 * k + j); omega
   have JB := zaa (zab BW.out J.out.b BW.out.size)
   generalize x.map.getD j 0 = z at ix MJ TJ
   obtain ⟨z0, z1⟩ := zcc TJ.out
   have LT := zaa (zbm z wr (HTT.out.below JB.out) (by omega) (by omega))
   have TE := zaa (zwr TJ.out ht)
   by_cases q : z = 0 ∨ ¬ z % 4 = t
   ·have q' : (znx z == t) = false := by
     cases c : (znx z == t) with
     | false => rfl
     | true => exact absurd q (TE.out.1 c)
    have G : Hid (WpI W wr u7 (wpL ns hs t (8 * k + (j + 1)))) := by unfold Hid; rw [MJ.out, if_pos q]; exact J.out
    generalize znx z = tz at *
    generalize tieA z = ta at *
    generalize tieC z = tc at *
    clear q J MJ TE TJ
    go_wp2_with fail
    refine LT.out.mono ?_
    rintro e w' ⟨rfl, hw'⟩
    subst w'
    go_wp2
    go_roundw
    case rel => exact ⟨j + 1, by omega, by go_num, G⟩
    case measure => simp [intOf]; omega
   ·have q' : (znx z == t) = true := TE.out.2 q
    have MN : Hid (wpL ns hs t (8 * k + (j + 1)) = wpL ns hs t (8 * k + j) ++ [⟨(k : Int), (j : Int), hs.getD (8 * k + j) 0⟩]) := by unfold Hid; rw [MJ.out, if_neg q]
    have LA := zaa (heatAt_any k j · hlt hlj)
    have e1 := HH.out (8 * k + j) (by omega) wr JB.out
    obtain ⟨p, hp⟩ : ∃ p : Nat, p = 8 * k + j := ⟨_, rfl⟩
    rw [← hp] at LA e1 MN J hlen
    have p0 : (0 : Int) ≤ (p : Int) := by omega
    have p1 : (p : Int) < (hs.length : Int) := by have := L128.out; omega
    generalize hs.getD p 0 = hz at *
    generalize znx z = tz at *
    generalize tieA z = ta at *
    generalize tieC z = tc at *
    have JA : Hid (WpI W (wr.alloc (.cells #[.int .i64 (k : Int), .int .i64 (j : Int), .int .i64 hz] 264)) u7 (wpL ns hs t p)) := J.out.below ((Below.refl _ _).alloc (Nat.le_refl _) _)
    have RB := zaa (rd_wp wr ⟨(k : Int), (j : Int), hz⟩)
    have hzb := JA.out.z
    clear q J MJ TE TJ hp L128
    go_wp2_with fail
    refine LT.out.mono ?_
    rintro e w' ⟨rfl, hw'⟩
    subst w'
    go_wp2_with fail
    refine (LA.out _).mono ?_
    rintro e w' ⟨rfl, hw'⟩
    subst w'
    go_wp2_with (at_builtin; refine zai _ rfl (.tmp 38) (.tmp 48) 267 rfl W.heap.size 264 (.agg #[.int .i64 0, .int .i64 0, .int .i64 0]) 3 24 Tryz.underlying267 infoWp rfl (by decide) _ _ _ rfl JA.out.l _ 1 _ rfl RB.out (wp_ones _) (by simp [maxLen]; omega) (by omega) hzb ?_)
    intro vN wN hownN hgrN
    have G := zaa (JA.out.grow _ hownN hgrN)
    rw [← MN.out] at G
    clear hownN hgrN JA RB
    go_wp2
    go_roundw
    case rel => exact ⟨j + 1, by omega, by go_num, G⟩
    case measure => simp [intOf]; omega
end Go.Proofs.YtipklbnfobckaaaGreatDoor
