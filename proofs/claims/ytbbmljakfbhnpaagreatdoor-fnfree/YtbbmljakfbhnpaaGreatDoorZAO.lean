/- Several texts laid together: PiH, PiJ. -/
import Derived.Test.YtbbmljakfbhnpaaGreatDoorZAN
import Derived.Test.YtbbmljakfbhnpaaGreatDoorZAJ
namespace Go.Proofs.YtbbmljakfbhnpaaGreatDoor
open Go.RowKit

/-- A row of numbers that grows. -/
structure InI (W w : World) (vL : Value) (zs : List Int) : Prop where
 l : w.ownsRow W.heap.size 3 1 vL zs.length (zcv zs)
 b : Below W.heap.size W w
theorem InI.z {W w : World} {vL : Value} {zs : List Int} (h : InI W w vL zs) : W.heap.size ≤ w.heap.size := h.b.size
theorem InI.below {W w w' : World} {vL : Value} {zs : List Int} (h : InI W w vL zs) (hb : Below w.heap.size w w') : InI W w' vL zs :=
 ⟨((zad h.l).below hb (Nat.le_refl _)).1, zab h.b hb h.z⟩
theorem InI.grow {W w w' : World} {vL v' : Value} {zs : List Int} (h : InI W w vL zs) (x : Int) (ho : w'.ownsRow W.heap.size 3 1 v' (zs.length + 1) (zcv zs ++ [.int .i64 x])) (hg : w.grownBy w' vL.ownBlock) : InI W w' v' (zs ++ [x]) :=
 ⟨by rw [ints_snoc, List.length_append]; exact ho, h.b.grown hg h.z (fun q hq => (h.l.lt q hq).1)⟩
theorem zry (x : Int) : ∀ u ∈ [Value.int .i64 x], u.oneCell' = true := by
 intro u hu
 rw [List.mem_singleton.1 hu]
 rfl
/-- The entries that are somewhere, of a map and of inodes. -/
def zda (zs : List Int) : List Int := zs.filter fun z => z != 0
def zai (ws : List Ino) : List Int := ws.flatMap fun x => zda x.map
/-- So far: some inodes, and some pages of the next one. -/
def zsf (ws : List Ino) (k : Nat) (j : Nat) : List Int := zai (ws.take k) ++ zda (((ws[k]?).map Ino.map).getD [] |>.take j)
theorem zsr (ws : List Ino) (k : Nat) : zsf ws k 0 = zai (ws.take k) := by simp [zsf, zda]
theorem zuo {ws : List Ino} {k : Nat} (hk : k < ws.length) {j : Nat} (hj : j < 8) : zsf ws k (j + 1) = if ws[k].map.getD j 0 = 0 then zsf ws k j else zsf ws k j ++ [ws[k].map.getD j 0] := by
 have hl : j < ws[k].map.length := hj
 have e : ws[k].map.getD j 0 = ws[k].map[j] := by rw [List.getD_eq_getElem?_getD, List.getElem?_eq_getElem hl]; rfl
 unfold zsf zda
 rw [List.getElem?_eq_getElem hk]
 simp only [Option.map_some, Option.getD_some]
 rw [List.take_succ_eq_append_getElem hl, List.filter_append, e]
 by_cases h : ws[k].map[j] = 0
 ·rw [if_pos h, h]; simp
 ·rw [if_neg h]; simp [h]
theorem ztp {ws : List Ino} {k : Nat} (hk : k < ws.length) : zsf ws k 8 = zai (ws.take (k + 1)) := by
 unfold zsf zai
 rw [List.getElem?_eq_getElem hk, List.take_succ_eq_append_getElem hk, List.flatMap_append]
 simp [Ino.map]
theorem ztt (zs : List Int) : (zda zs).length ≤ zs.length := List.length_filter_le _ _
theorem zdx (ws : List Ino) : (zai ws).length ≤ 8 * ws.length := by
 induction ws with
 | nil => simp [zai]
 | cons x ws ih =>
  have h1 := ztt x.map
  have h2 : x.map.length = 8 := rfl
  unfold zai at *
  rw [List.flatMap_cons, List.length_append, List.length_cons]
  omega
theorem mapd_len (ws : List Ino) (k j : Nat) (hk : k < ws.length) (hj : j ≤ 8) : (zsf ws k j).length ≤ 8 * ws.length := by
 have h1 := zdx (ws.take k)
 have h2 := ztt (((ws[k]?).map Ino.map).getD [] |>.take j)
 have h3 : (((ws[k]?).map Ino.map).getD [] |>.take j).length ≤ j := by rw [List.length_take]; omega
 unfold zsf
 rw [List.length_append]
 rw [List.length_take] at h1
 omega

set_option maxRecDepth 100000 in
theorem idx8 (x : Ino) (j : Nat) (hj : j < 8) (w : World) : (Instr.index 42 (.agg #[.int .i64 x.m0, .int .i64 x.m1, .int .i64 x.m2, .int .i64 x.m3, .int .i64 x.m4, .int .i64 x.m5, .int .i64 x.m6, .int .i64 x.m7]) (.int .i64 (j : Int))).run Tryz.prog w = .ok (.int .i64 (x.map.getD j 0)) w := by
 rcases (show j = 0 ∨ j = 1 ∨ j = 2 ∨ j = 3 ∨ j = 4 ∨ j = 5 ∨ j = 6 ∨ j = 7 by omega) with rfl | rfl | rfl | rfl | rfl | rfl | rfl | rfl <;> simp [Instr.index, run_underlying Tryz.underlying42, asIntOf, Ino.map, go_sem]

set_option maxRecDepth 100000 in
set_option maxHeartbeats 4000000 in
theorem zfs (v : Value) (ws : List Ino) (w : World) (h : RdN w v ws) (hn : ws.length ≤ 4096) :
  Calls Tryz.prog 41 #[v] w fun e w' => ∃ v', e = .returned v' ∧ Row w' 3 1 w.heap.size w'.heap.size v' (zai ws).length (zcv (zai ws)) ∧ Below w.heap.size w w' := by
 obtain ⟨aW, cW, rfl, _, hcW⟩ := h.shape
 have HW := zaa hcW
 clear h hcW
 go_enter Tryz.func41, Tryz.ntmps41
 go_wp2
 go_loopw [3, 5, 7, 10] (fun vL _ _ i wr => ∃ k : Nat, k ≤ ws.length ∧ i = .int .i64 k ∧ Hid (InI w wr vL (zai (ws.take k))) ∧ w.heap.size ≤ wr.heap.size) (fun _ _ _ i _ => ws.length - (intOf i).toNat)
 case atStart => exact ⟨0, by omega, rfl, ⟨World.ownsRow_nil _ _ _ _, Below.refl _ _⟩, Nat.le_refl _⟩
 case round =>
  obtain ⟨k, hk, rfl, I, hz⟩ := hrel
  by_cases hlt : k < ws.length
  ·obtain ⟨b, o, rfl, hbl, hcell⟩ := HW.out (by omega)
   obtain ⟨a0, a1, a2, a3, a4, a5, a6, a7, a8, a9, a10⟩ := hcell k hlt
   have d0 := (I.out.b.cell (p := ⟨b, o + k * 11, none⟩) hbl).trans a0
   have d1 := (I.out.b.cell (p := ⟨b, o + k * 11 + 1, none⟩) hbl).trans a1
   have d2 := (I.out.b.cell (p := ⟨b, o + k * 11 + 2, none⟩) hbl).trans a2
   have d3 := (I.out.b.cell (p := ⟨b, o + k * 11 + 3, none⟩) hbl).trans a3
   have d4 := (I.out.b.cell (p := ⟨b, o + k * 11 + 4, none⟩) hbl).trans a4
   have d5 := (I.out.b.cell (p := ⟨b, o + k * 11 + 5, none⟩) hbl).trans a5
   have d6 := (I.out.b.cell (p := ⟨b, o + k * 11 + 6, none⟩) hbl).trans a6
   have d7 := (I.out.b.cell (p := ⟨b, o + k * 11 + 7, none⟩) hbl).trans a7
   have d8 := (I.out.b.cell (p := ⟨b, o + k * 11 + 8, none⟩) hbl).trans a8
   have d9 := (I.out.b.cell (p := ⟨b, o + k * 11 + 9, none⟩) hbl).trans a9
   have d10 := (I.out.b.cell (p := ⟨b, o + k * 11 + 10, none⟩) hbl).trans a10
   have k0 : (0 : Int) ≤ (k : Int) := by omega
   have k1 : (k : Int) < (ws.length : Int) := by omega
   have MZ := zaa (zsr ws k)
   have MF := zaa (ztp hlt)
   have MS := zaa (fun j (hj : j < 8) => zuo hlt hj)
   have ML := zaa (fun j (hj : j ≤ 8) => mapd_len ws k j hlt hj)
   have HM := zaa (fun j (hj : j < 8) => ws[k].at j hj)
   clear a0 a1 a2 a3 a4 a5 a6 a7 a8 a9 a10 hcell
   generalize ws[k] = x at *
   have START : Hid (InI w (wr.alloc (.cells x.cs.toArray 44)) u3 (zsf ws k 0)) := by
    have := I.out.below ((Below.refl wr.heap.size wr).alloc (Nat.le_refl _) (.cells x.cs.toArray 44))
    unfold Hid
    rw [MZ.out]
    exact this
   unfold Ino.cs at START
   have hz0 := START.out.z
   clear I
   go_wp2
   go_loopw [3, 7, 16] (fun vL _ i wq => ∃ j : Nat, j ≤ 8 ∧ i = .int .i64 j ∧ Hid (InI w wq vL (zsf ws k j)) ∧ w.heap.size ≤ wq.heap.size) (fun _ _ i _ => 8 - (intOf i).toNat)
   case atStart => exact ⟨0, by omega, rfl, START, hz0⟩
   case round =>
    obtain ⟨j, hj, rfl, J, hzj⟩ := hrel
    clear START hz0 d0 d1 d2 d3 d4 d5 d6 d7 d8 d9 d10
    have j0 : (0 : Int) ≤ (j : Int) := by omega
    by_cases hlj : j < 8
    ·have j1 : (j : Int) < 8 := by omega
     have ix := idx8 x j hlj
     have MJ := zaa (MS.out j hlj)
     have hlen := ML.out j (by omega)
     generalize x.map.getD j 0 = z at ix MJ
     by_cases q : z = 0
     ·have q' : (z != 0) = false := by rw [q]; rfl
      have G : Hid (InI w wr u3 (zsf ws k (j + 1))) := by unfold Hid; rw [MJ.out, if_pos q]; exact J.out
      clear q J MJ
      go_wp2
      go_roundw
      case rel => exact ⟨j + 1, by omega, by go_num, G, hzj⟩
      case measure => simp [intOf]; omega
     ·have q' : (z != 0) = true := by rw [bne_iff_ne]; exact q
      have JB : Hid (InI w (wr.alloc (.cells #[.int .i64 z] 3)) u3 (zsf ws k j)) := J.out.below ((Below.refl _ _).alloc (Nat.le_refl _) _)
      have RB := zaa (rd_int wr z)
      have hzb := JB.out.z
      have MN : Hid (zsf ws k (j + 1) = zsf ws k j ++ [z]) := by unfold Hid; rw [MJ.out, if_neg q]
      clear q J MJ
      go_wp2_with (at_builtin; refine zae _ rfl (.tmp 21) (.tmp 23) 28 rfl w.heap.size 3 (.int .i64 0) 1 8 Tryz.underlying28 zjv rfl (by decide) _ _ _ rfl JB.out.l _ 1 _ rfl RB.out (zry _) (by simp [maxLen]; omega) (by omega) (by omega) ?_)
      intro vN wN hownN hgrN
      have G := zaa (JB.out.grow z hownN hgrN)
      rw [← MN.out] at G
      have hzN := G.out.z
      clear hownN hgrN JB RB
      go_wp2
      go_roundw
      case rel => exact ⟨j + 1, by omega, by go_num, G, hzN⟩
      case measure => simp [intOf]; omega
    ·obtain rfl : j = 8 := by omega
     have G : Hid (InI w wr u3 (zai (ws.take (k + 1)))) := by unfold Hid; rw [← MF.out]; exact J.out
     clear J
     go_wp2
     go_roundw
     case rel => exact ⟨k + 1, by omega, by go_num, G, hzj⟩
     case measure => simp [intOf]; omega
  ·obtain rfl : k = ws.length := by omega
   have E := zaa (show zai (ws.take ws.length) = zai ws by rw [List.take_length])
   rw [E.out] at I
   obtain ⟨-, aL, cL, hvL, -⟩ := (zad I.out.l).rd
   subst hvL
   go_wp2
   go_ret
   exact ⟨_, rfl, zad I.out.l, I.out.b⟩
end Go.Proofs.YtbbmljakfbhnpaaGreatDoor

namespace Go.Proofs.YtbbmljakfbhnpaaGreatDoor
open Go.RowKit

/-- An entry without its inode. -/
def zhr (x : Den) : Den := ⟨x.dir, x.name, -1⟩
/-- An entry stands in a list; none stands twice. -/
def hasD (ps : List Den) (x : Den) : Bool := ps.any fun y => zlb x.dir x.name x.child y.dir y.name y.child
def zon (ps : List Den) : Bool := decide (∀ k (h : k < ps.length), hasD (ps.take k) ps[k] = false)
theorem hasD_at {ps : List Den} {x : Den} {k : Nat} (hk : k < ps.length) (h : zlb x.dir x.name x.child ps[k].dir ps[k].name ps[k].child = true) : hasD ps x = true := by
 unfold hasD
 rw [List.any_eq_true]
 exact ⟨ps[k], List.getElem_mem _, h⟩
theorem hasD_not {ps : List Den} {x : Den} (h : ∀ j (h : j < ps.length), zlb x.dir x.name x.child ps[j].dir ps[j].name ps[j].child = false) : hasD ps x = false := by
 unfold hasD
 rw [List.any_eq_false]
 intro y hy
 obtain ⟨j, hj, rfl⟩ := List.getElem_of_mem hy
 rw [h j hj]
 decide
theorem onceD_mk {ps : List Den} (h : ∀ k (h : k < ps.length), hasD (ps.take k) ps[k] = false) : zon ps = true := decide_eq_true h
theorem onceD_not {ps : List Den} {k : Nat} (hk : k < ps.length) (h : hasD (ps.take k) ps[k] = true) : zon ps = false := decide_eq_false (fun x => by have := x k hk; rw [h] at this; cases this)
theorem RdD.take {w : World} {ao : Option Addr} {c : Nat} {ps : List Den} {m : Nat} (h : RdD w (.slice ao ps.length c) ps) (hm : m ≤ ps.length) : RdD w (.slice ao m c) (ps.take m) := by
 have := Rd.take h hm
 unfold RdD
 have e : (ps.take m).length = m := by rw [List.length_take]; omega
 have e2 : dens (ps.take m) = (dens ps).take (m * 3) := by
  have hl := dens_len (ps.take m)
  have e3 : dens ps = dens (ps.take m) ++ dens (ps.drop m) := by
   unfold dens
   rw [← List.flatMap_append, List.take_append_drop]
  rw [e3]
  exact (List.take_left' (by rw [hl, e])).symm
 rw [e, e2]
 exact this

theorem below_drewN {B : Nat} {a w : World} (h : Below B a w) (n : Nat) : Below B a (w.drewN n) := by
 induction n with
 | zero => exact h
 | succ n ih => exact ⟨ih.os, ih.tape, ih.output, ih.size, ih.block⟩

set_option maxRecDepth 100000 in
set_option maxHeartbeats 4000000 in
theorem zsh (v : Value) (ps : List Den) (x : Den) (w : World) (h : RdD w v ps) (hn : ps.length ≤ 1048576) :
  Calls Tryz.prog 167 #[v, x.v] w fun e w' => ∃ r : Int, e = .returned (.int .i64 r) ∧ (decide (0 ≤ r) = hasD ps x) ∧ Below w.heap.size w w' := by
 obtain ⟨aZ, cZ, rfl, _, hcZ⟩ := h.shape
 have HZ := zaa hcZ
 have BW := zaa ((Below.refl w.heap.size w).alloc (Nat.le_refl _) (.cells #[.int .i64 x.dir, .string x.name, .int .i64 x.child] 50))
 have CB : Hid (∀ w', Below (w.alloc (.cells #[.int .i64 x.dir, .string x.name, .int .i64 x.child] 50)).heap.size (w.alloc (.cells #[.int .i64 x.dir, .string x.name, .int .i64 x.child] 50)) w' → w'.cell? ⟨w.heap.size, 0, none⟩ = some (.int .i64 x.dir) ∧ w'.cell? ⟨w.heap.size, 1, none⟩ = some (.string x.name) ∧ w'.cell? ⟨w.heap.size, 2, none⟩ = some (.int .i64 x.child)) := fun w' hb => zbb ((hb.block _ (by simp)).trans (zah rfl))
 have hz : w.heap.size ≤ (w.alloc (.cells #[.int .i64 x.dir, .string x.name, .int .i64 x.child] 50)).heap.size := BW.out.size
 obtain ⟨W, hW⟩ : ∃ W, W = w.alloc (.cells #[.int .i64 x.dir, .string x.name, .int .i64 x.child] 50) := ⟨_, rfl⟩
 rw [← hW] at BW CB hz
 rw [show x.v = .agg #[.int .i64 x.dir, .string x.name, .int .i64 x.child] from rfl]
 clear h hcZ
 go_enter Tryz.func167, Tryz.ntmps167
 go_wp2
 rw [← hW]
 clear hW
 go_loopw [5, 8] (fun _ i wr => ∃ k : Nat, k ≤ ps.length ∧ i = .int .i64 k ∧ Hid (Below W.heap.size W wr ∧ ∀ j (h : j < ps.length), j < k → zlb x.dir x.name x.child ps[j].dir ps[j].name ps[j].child = false)) (fun _ i _ => ps.length - (intOf i).toNat)
 case atStart => exact ⟨0, by omega, rfl, Below.refl _ _, fun j h a => absurd a (by omega)⟩
 case round =>
  obtain ⟨k, hk, rfl, H⟩ := hrel
  by_cases hlt : k < ps.length
  ·obtain ⟨b, o, rfl, hbl, hcell⟩ := HZ.out (by omega)
   obtain ⟨x0, x1, x2⟩ := CB.out wr H.out.1
   have B0 := zaa (zab BW.out H.out.1 hz)
   obtain ⟨a0, a1, a2⟩ := hcell k hlt
   have d0 := (B0.out.cell (p := ⟨b, o + k * 3, none⟩) hbl).trans a0
   have d1 := (B0.out.cell (p := ⟨b, o + k * 3 + 1, none⟩) hbl).trans a1
   have d2 := (B0.out.cell (p := ⟨b, o + k * 3 + 2, none⟩) hbl).trans a2
   have k0 : (0 : Int) ≤ (k : Int) := by omega
   have k1 : (k : Int) < (ps.length : Int) := by omega
   clear hcell a0 a1 a2
   cases q : zlb x.dir x.name x.child ps[k].dir ps[k].name ps[k].child with
   | true =>
    have E := zaa (hasD_at hlt q)
    clear H
    generalize ps[k] = y at *
    go_wp2
    go_quiet (fail)
    go_wp2
    go_ret
    exact ⟨_, rfl, by rw [E.out]; exact decide_eq_true (by omega), below_drewN B0.out _⟩
   | false =>
    have H' : Hid (∀ j (h : j < ps.length), j < k + 1 → zlb x.dir x.name x.child ps[j].dir ps[j].name ps[j].child = false) := fun j h a => by
     by_cases e : j = k
     ·subst e; exact q
     ·exact H.out.2 j h (by omega)
    have H1 := zaa H.out.1
    clear H
    generalize ps[k] = y at d0 d1 d2 q
    go_wp2
    go_quiet (fail)
    go_wp2
    go_roundw
    case rel => exact ⟨k + 1, by omega, by go_num, below_drewN H1.out _, H'.out⟩
    case measure => simp [intOf]; omega
  ·have E := zaa (hasD_not (fun j h => H.out.2 j h (by omega)))
   have B0 := zaa (zab BW.out H.out.1 hz)
   clear H
   go_wp2
   go_ret
   exact ⟨_, rfl, by rw [E.out]; rfl, B0.out⟩

set_option maxRecDepth 100000 in
set_option maxHeartbeats 4000000 in
theorem zhc (v : Value) (ps : List Den) (x : Den) (w : World) (h : RdD w v ps) (hn : ps.length ≤ 1048576) :
  Calls Tryz.prog 120 #[v, x.v] w fun e w' => e = .returned (.bool (hasD ps x)) ∧ Below w.heap.size w w' := by
 have HZ := zaa h
 obtain ⟨aZ, cZ, rfl, _, _⟩ := h.shape
 have BW := zaa ((Below.refl w.heap.size w).alloc (Nat.le_refl _) (.cells #[.int .i64 x.dir, .string x.name, .int .i64 x.child] 50))
 have LI := zaa (fun w1 h => zsh (.slice aZ ps.length cZ) ps x w1 h hn)
 obtain ⟨x0, x1, x2⟩ := zbb (zah (w := w) (o := .cells #[.int .i64 x.dir, .string x.name, .int .i64 x.child] 50) rfl)
 rw [show x.v = .agg #[.int .i64 x.dir, .string x.name, .int .i64 x.child] from rfl]
 clear h
 go_enter Tryz.func120, Tryz.ntmps120
 go_wp2_with fail
 refine (LI.out _ (Rd.below HZ.out BW.out)).mono ?_
 rintro e w1 ⟨r, rfl, hr, hb⟩
 have R := zaa hr
 have B1 := zaa (zab BW.out hb BW.out.size)
 clear hr hb x0 x1 x2
 go_wp2
 go_ret
 exact ⟨zag R.out, B1.out⟩

set_option maxRecDepth 100000 in
set_option maxHeartbeats 4000000 in
theorem zlf (v : Value) (ps : List Den) (w : World) (h : RdD w v ps) (hn : ps.length ≤ 1048576) :
  Calls Tryz.prog 82 #[v] w fun e w' => e = .returned (.bool (zon ps)) ∧ Below w.heap.size w w' := by
 have HR := zaa h
 obtain ⟨aZ, cZ, rfl, hcap, hcZ⟩ := h.shape
 have HZ := zaa hcZ
 clear h hcZ
 go_enter Tryz.func82, Tryz.ntmps82
 go_wp2
 go_loopw [3, 4, 7] (fun _ _ i wr => ∃ k : Nat, k ≤ ps.length ∧ i = .int .i64 k ∧ Hid (Below w.heap.size w wr ∧ ∀ j (h : j < ps.length), j < k → hasD (ps.take j) ps[j] = false)) (fun _ _ i _ => ps.length - (intOf i).toNat)
 case atStart => exact ⟨0, by omega, rfl, Below.refl _ _, fun j h a => absurd a (by omega)⟩
 case round =>
  obtain ⟨k, hk, rfl, H⟩ := hrel
  by_cases hlt : k < ps.length
  ·obtain ⟨b, o, rfl, hbl, hcell⟩ := HZ.out (by omega)
   obtain ⟨a0, a1, a2⟩ := hcell k hlt
   have d0 := (H.out.1.cell (p := ⟨b, o + k * 3, none⟩) hbl).trans a0
   have d1 := (H.out.1.cell (p := ⟨b, o + k * 3 + 1, none⟩) hbl).trans a1
   have d2 := (H.out.1.cell (p := ⟨b, o + k * 3 + 2, none⟩) hbl).trans a2
   have k0 : (0 : Int) ≤ (k : Int) := by omega
   have k1 : (k : Int) < (ps.length : Int) := by omega
   have k2 : (k : Int) ≤ (cZ : Int) := by omega
   have RT := zaa (RdD.take HR.out hk)
   have LT := zaa (show (ps.take k).length ≤ 1048576 by rw [List.length_take]; omega)
   have hz : w.heap.size ≤ wr.heap.size := H.out.1.size
   have H1 := zaa H.out.1
   clear hcell a0 a1 a2
   obtain ⟨wb, hwb⟩ : ∃ wb : World, wb = wr.alloc (.cells #[.int .i64 ps[k].dir, .string ps[k].name, .int .i64 ps[k].child] 50) := ⟨_, rfl⟩
   have B2 : Hid (Below w.heap.size w wb) := by rw [hwb]; exact H1.out.alloc hz _
   have SK : Hid (∀ w', Below wb.heap.size wb w' → w'.cell? ⟨wr.heap.size, 0, none⟩ = some (.int .i64 ps[k].dir) ∧ w'.cell? ⟨wr.heap.size, 1, none⟩ = some (.string ps[k].name) ∧ w'.cell? ⟨wr.heap.size, 2, none⟩ = some (.int .i64 ps[k].child)) := fun w' hb => zbb ((hb.block _ (by rw [hwb]; simp)).trans (by rw [hwb]; exact zah rfl))
   cases q : hasD (ps.take k) ps[k] with
   | false =>
    have H' : Hid (∀ j (h : j < ps.length), j < k + 1 → hasD (ps.take j) ps[j] = false) := fun j h a => by
     by_cases e : j = k
     ·subst e; exact q
     ·exact H.out.2 j h (by omega)
    have Q := zaa q
    clear q H
    generalize ps[k] = x at d0 d1 d2 Q hwb SK
    go_wp2_with fail
    rw [← hwb]
    clear hwb
    go_region_held3 (fun w' => w'.cell? ⟨wr.heap.size, 0, none⟩ = some (.int .i64 x.dir) ∧ w'.cell? ⟨wr.heap.size, 1, none⟩ = some (.string x.name) ∧ w'.cell? ⟨wr.heap.size, 2, none⟩ = some (.int .i64 x.child))
     (exact SK.out _ (by repeat (first | exact BF.out | exact Below.refl _ _ | refine Below.drew ?_)))
     (first
      | (go_at_call 120; refine (zhc _ (ps.take k) x _ (Rd.below RT.out (zab B2.out (by repeat (first | exact Below.refl _ _ | refine Below.drew ?_)) B2.out.size)) LT.out).mono ?_; rw [Q.out]; rintro e w1 ⟨rfl, hb1⟩; have BF : Hid (Below wb.heap.size wb w1) := (by first | exact hb1 | exact zab (by repeat (first | exact Below.refl _ _ | refine Below.drew ?_)) hb1 (Nat.le_refl _))))
    all_goals
     have B3 := zaa (zab B2.out BF.out B2.out.size)
     clear hb1 BF SK d0 d1 d2
     go_wp2
     go_roundw
     case rel => exact ⟨k + 1, by omega, by go_num, (by repeat (first | exact B3.out | refine Below.drew ?_)), H'.out⟩
     case measure => simp [intOf]; omega
   | true =>
    have E := zaa (onceD_not hlt q)
    have Q := zaa q
    clear q H
    generalize ps[k] = x at d0 d1 d2 Q hwb SK
    go_wp2_with fail
    rw [← hwb]
    clear hwb
    go_region_held3 (fun w' => w'.cell? ⟨wr.heap.size, 0, none⟩ = some (.int .i64 x.dir) ∧ w'.cell? ⟨wr.heap.size, 1, none⟩ = some (.string x.name) ∧ w'.cell? ⟨wr.heap.size, 2, none⟩ = some (.int .i64 x.child))
     (exact SK.out _ (by repeat (first | exact BF.out | exact Below.refl _ _ | refine Below.drew ?_)))
     (first
      | (go_at_call 120; refine (zhc _ (ps.take k) x _ (Rd.below RT.out (zab B2.out (by repeat (first | exact Below.refl _ _ | refine Below.drew ?_)) B2.out.size)) LT.out).mono ?_; rw [Q.out]; rintro e w1 ⟨rfl, hb1⟩; have BF : Hid (Below wb.heap.size wb w1) := (by first | exact hb1 | exact zab (by repeat (first | exact Below.refl _ _ | refine Below.drew ?_)) hb1 (Nat.le_refl _))))
    all_goals
     have B3 := zaa (zab B2.out BF.out B2.out.size)
     clear hb1 BF SK d0 d1 d2
     go_wp2
     go_ret
     exact ⟨zag E.out.symm, (by repeat (first | exact B3.out | refine Below.drew ?_))⟩
  ·have E := zaa (onceD_mk (fun j h => H.out.2 j h (by omega)))
   have H1 := zaa H.out.1
   clear H
   go_wp2
   go_ret
   exact ⟨zag E.out.symm, H1.out⟩
end Go.Proofs.YtbbmljakfbhnpaaGreatDoor
