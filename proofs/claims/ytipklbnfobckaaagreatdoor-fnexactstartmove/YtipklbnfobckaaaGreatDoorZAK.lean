/- Several texts laid together: ImF, ImJ, PiA, PiB, PiD. -/
import Derived.Test.YtipklbnfobckaaaGreatDoorZAB
import Derived.Test.YtipklbnfobckaaaGreatDoorZAJ
import Derived.Deep.RegionWith
import Derived.Test.YtipklbnfobckaaaGreatDoorZAD
import Derived.Laws.CopyRow
import Derived.Laws.CopyOwn
namespace Go.Proofs.YtipklbnfobckaaaGreatDoor
open Go.RowKit

def Den.cells (s : Den) : List Value := [.int .i64 s.dir, .string s.name, .int .i64 s.child]
def dens (ps : List Den) : List Value := ps.flatMap Den.cells

theorem Den.cells_len (s : Den) : s.cells.length = 3 := rfl
theorem zxd (ps : List Den) : (dens ps).length = ps.length * 3 := zfh _ 3 Den.cells_len ps
theorem dens_at0 (ps : List Den) (k : Nat) (h : k < ps.length) : (dens ps)[k * 3]? = some (.int .i64 ps[k].dir) := zbc _ 3 Den.cells_len ps k 0 h (by omega)
theorem dens_at1 (ps : List Den) (k : Nat) (h : k < ps.length) : (dens ps)[k * 3 + 1]? = some (.string ps[k].name) := zbc _ 3 Den.cells_len ps k 1 h (by omega)
theorem dens_at2 (ps : List Den) (k : Nat) (h : k < ps.length) : (dens ps)[k * 3 + 2]? = some (.int .i64 ps[k].child) := zbc _ 3 Den.cells_len ps k 2 h (by omega)

/-- A slice of steps that can be read. -/
def RdD (w : World) (v : Value) (ps : List Den) : Prop := Rd w 3 v ps.length (dens ps)
theorem RdD.shape {w : World} {v : Value} {ps : List Den} (h : RdD w v ps) : ∃ ao cap, v = .slice ao ps.length cap ∧ ps.length ≤ cap ∧ (0 < ps.length → ∃ b o, ao = some ⟨b, o, none⟩ ∧ b < w.heap.size ∧
  ∀ k (h : k < ps.length), w.cell? ⟨b, o + k * 3, none⟩ = some (.int .i64 ps[k].dir) ∧ w.cell? ⟨b, o + k * 3 + 1, none⟩ = some (.string ps[k].name) ∧ w.cell? ⟨b, o + k * 3 + 2, none⟩ = some (.int .i64 ps[k].child)) := by
 obtain ⟨_, ao, cap, rfl, h2, h3⟩ := h
 refine ⟨ao, cap, rfl, h2.1, fun hn => ?_⟩
 obtain ⟨b, o, rfl, hb, hc⟩ := h3 hn
 exact ⟨b, o, rfl, hb, fun k hk => ⟨(hc (k * 3) (by omega)).trans (dens_at0 ps k hk), (hc (k * 3 + 1) (by omega)).trans (dens_at1 ps k hk), (hc (k * 3 + 2) (by omega)).trans (dens_at2 ps k hk)⟩⟩

theorem zmk : (Tryz.prog.info? 173).map (fun i => (i.zero, i.size, i.bytes)) = some (some (.agg #[.int .i64 0, .string ⟨#[]⟩, .int .i64 0]), 3, 32) := by kernel_rfl

end Go.Proofs.YtipklbnfobckaaaGreatDoor

namespace Go.Proofs.YtipklbnfobckaaaGreatDoor
open Go.RowKit

/-- An image that can be read: its words, and its stores. -/
def RdIm (w : World) (v : Value) (ws : List Ino) (ps : List Den) : Prop := ∃ vW vP, v = .agg #[vW, vP] ∧ RdN w vW ws ∧ RdD w vP ps
/-- An image of a call's own. -/
def RowIm (w : World) (lo hi : Nat) (v : Value) (ws : List Ino) (ps : List Den) : Prop := ∃ vW vP, v = .agg #[vW, vP] ∧ Row w 171 11 lo hi vW ws.length (inos ws) ∧ Row w 173 3 lo hi vP ps.length (dens ps)

theorem RowIm.rd {w : World} {lo hi : Nat} {v : Value} {ws : List Ino} {ps : List Den} (h : RowIm w lo hi v ws ps) : RdIm w v ws ps := by
 obtain ⟨vW, vP, rfl, h1, h2⟩ := h
 exact ⟨vW, vP, rfl, h1.rd, h2.rd⟩
theorem RdIm.below {w w' : World} {v : Value} {ws : List Ino} {ps : List Den} (h : RdIm w v ws ps) (hb : Below w.heap.size w w') : RdIm w' v ws ps := by
 obtain ⟨vW, vP, rfl, h1, h2⟩ := h
 exact ⟨vW, vP, rfl, Rd.below h1 hb, Rd.below h2 hb⟩
theorem RowIm.below {w w' : World} {lo hi : Nat} {v : Value} {ws : List Ino} {ps : List Den} (h : RowIm w lo hi v ws ps) {B : Nat} (hb : Below B w w') (hB : hi ≤ B) : RowIm w' lo hi v ws ps := by
 obtain ⟨vW, vP, rfl, h1, h2⟩ := h
 exact ⟨vW, vP, rfl, h1.below hb hB, h2.below hb hB⟩
theorem RowIm.outside {w w' : World} {lo hi : Nat} {v : Value} {ws : List Ino} {ps : List Den} (h : RowIm w lo hi v ws ps) {lo' hi' : Nat} (ho : Outside lo' hi' w w') (hd : hi ≤ lo' ∨ hi' ≤ lo) (hz : hi ≤ w.heap.size) : RowIm w' lo hi v ws ps := by
 obtain ⟨vW, vP, rfl, h1, h2⟩ := h
 exact ⟨vW, vP, rfl, h1.outside ho hd hz, h2.outside ho hd hz⟩
theorem RowIm.wide {w : World} {lo hi : Nat} {v : Value} {ws : List Ino} {ps : List Den} (h : RowIm w lo hi v ws ps) {lo' hi' : Nat} (h1 : lo' ≤ lo) (h2 : hi ≤ hi') : RowIm w lo' hi' v ws ps := by
 obtain ⟨vW, vP, rfl, a, b⟩ := h
 exact ⟨vW, vP, rfl, a.wide h1 h2, b.wide h1 h2⟩

end Go.Proofs.YtipklbnfobckaaaGreatDoor

namespace Go.Proofs.YtipklbnfobckaaaGreatDoor
open Go.RowKit

/-- An inode's eleven numbers. -/
def Ino.ns (x : Ino) : List Int := [x.kind, x.size, x.links, x.m0, x.m1, x.m2, x.m3, x.m4, x.m5, x.m6, x.m7]
/-- All numbers are entries; all are nought. -/
def zvu (zs : List Int) : Bool := decide (∀ k (h : k < zs.length), zdl zs[k] = true)
def nowsB (zs : List Int) : Bool := decide (∀ k (h : k < zs.length), (zs[k] == 0) = true)
/-- A file's inode, as the program asks it. -/
def zhj (x : Ino) : Bool := decide (x.kind = 1) && (decide (1 ≤ x.links ∧ x.links ≤ 24) && (decide (0 ≤ x.size ∧ x.size < 9) && (zvu (x.map.take x.size.toNat) && nowsB (x.map.drop x.size.toNat))))
theorem zth : zdl 0 = true := by decide
theorem ino_empty {x : Ino} (h : x.ns = [0, 0, 0, 0, 0, 0, 0, 0, 0, 0, 0]) : zei x = true := by
 obtain ⟨k, s, l, m0, m1, m2, m3, m4, m5, m6, m7⟩ := x
 simp only [Ino.ns, List.cons.injEq, and_true] at h
 obtain ⟨rfl, rfl, rfl, rfl, rfl, rfl, rfl, rfl, rfl, rfl, rfl⟩ := h
 decide
theorem ino_dir {x : Ino} (h : x.ns = [2, 0, 1, 0, 0, 0, 0, 0, 0, 0, 0]) : zei x = true := by
 obtain ⟨k, s, l, m0, m1, m2, m3, m4, m5, m6, m7⟩ := x
 simp only [Ino.ns, List.cons.injEq, and_true] at h
 obtain ⟨rfl, rfl, rfl, rfl, rfl, rfl, rfl, rfl, rfl, rfl, rfl⟩ := h
 decide
theorem map_parts {x : Ino} (h0 : 0 ≤ x.size) (h8 : x.size ≤ 8) : mapB x.map x.size = (zvu (x.map.take x.size.toNat) && nowsB (x.map.drop x.size.toNat)) := by
 rw [Bool.eq_iff_iff, Bool.and_eq_true]
 have hl : x.map.length = 8 := rfl
 have hg : ∀ i (h : i < 8), x.map.getD i 0 = x.map[i]'(by rw [hl]; exact h) := fun i h => by
  rw [List.getD_eq_getElem?_getD, List.getElem?_eq_getElem (by rw [hl]; exact h)]; rfl
 constructor
 ·intro h
  have h := zio h
  refine ⟨decide_eq_true fun k hk => ?_, decide_eq_true fun k hk => ?_⟩
  ·rw [List.length_take, hl] at hk
   have := h k (by omega)
   rw [hg k (by omega)] at this
   rw [List.getElem_take]
   unfold zqz at this
   exact (Bool.and_eq_true _ _ ▸ this : _ ∧ _).1
  ·rw [List.length_drop, hl] at hk
   have := h (x.size.toNat + k) (by omega)
   rw [hg _ (by omega)] at this
   rw [List.getElem_drop]
   unfold zqz at this
   have := (Bool.and_eq_true _ _ ▸ this : _ ∧ _).2
   rw [Bool.or_eq_true] at this
   rcases this with h1 | h1
   ·exact h1
   ·have := of_decide_eq_true h1
    omega
 ·rintro ⟨h1, h2⟩
  have h1 := of_decide_eq_true h1
  have h2 := of_decide_eq_true h2
  refine zwm fun i hi => ?_
  rw [hg i hi]
  unfold zqz
  rw [Bool.and_eq_true, Bool.or_eq_true]
  by_cases hs : i < x.size.toNat
  ·have := h1 i (by rw [List.length_take, hl]; omega)
   rw [List.getElem_take] at this
   exact ⟨this, .inr (decide_eq_true (by omega))⟩
  ·have := h2 (i - x.size.toNat) (by rw [List.length_drop, hl]; omega)
   rw [List.getElem_drop] at this
   have e : x.size.toNat + (i - x.size.toNat) = i := by omega
   simp only [e] at this
   exact ⟨by rw [eq_of_beq this]; exact zth, .inl this⟩
theorem map_nought {x : Ino} (h0 : x.size = 0) (h : mapB x.map x.size = true) : x.map = [0, 0, 0, 0, 0, 0, 0, 0] := by
 have h := zio h
 have g : ∀ i, i < 8 → x.map.getD i 0 = 0 := fun i hi => by
  have := h i hi
  unfold zqz at this
  have := (Bool.and_eq_true _ _ ▸ this : _ ∧ _).2
  rw [Bool.or_eq_true] at this
  rcases this with h1 | h1
  ·exact eq_of_beq h1
  ·have := of_decide_eq_true h1; omega
 have a0 := g 0 (by omega); have a1 := g 1 (by omega); have a2 := g 2 (by omega); have a3 := g 3 (by omega); have a4 := g 4 (by omega); have a5 := g 5 (by omega); have a6 := g 6 (by omega); have a7 := g 7 (by omega)
 simp [Ino.map] at *
 exact ⟨a0, a1, a2, a3, a4, a5, a6, a7⟩
theorem ino_file {x : Ino} (h0 : ¬ x.ns = [0, 0, 0, 0, 0, 0, 0, 0, 0, 0, 0]) (h1 : ¬ x.ns = [2, 0, 1, 0, 0, 0, 0, 0, 0, 0, 0]) : zhj x = zei x := by
 by_cases hk : x.kind = 1
 ·unfold zhj zei
  rw [decide_eq_true hk, decide_eq_true (show 0 ≤ x.kind ∧ x.kind ≤ 2 by omega)]
  simp only [Bool.true_and]
  by_cases hs : 0 ≤ x.size ∧ x.size ≤ 8
  ·rw [decide_eq_true hs, decide_eq_true (show 0 ≤ x.size ∧ x.size < 9 by omega), ← map_parts hs.1 hs.2]
   have e : zga x = decide (0 < x.links) := by unfold zga; rw [if_neg (by omega), if_neg (by omega)]
   rw [e]
   by_cases hl : 1 ≤ x.links ∧ x.links ≤ 24
   ·rw [decide_eq_true hl, decide_eq_true (show 0 ≤ x.links ∧ x.links ≤ 24 by omega), decide_eq_true (show 0 < x.links by omega)]; simp
   ·rw [decide_eq_false hl]
    by_cases h3 : 0 < x.links
    ·rw [decide_eq_false (show ¬ (0 ≤ x.links ∧ x.links ≤ 24) by omega)]; simp
    ·rw [decide_eq_false h3]; simp
  ·rw [decide_eq_false hs, decide_eq_false (show ¬ (0 ≤ x.size ∧ x.size < 9) by omega)]; simp
 ·have e1 : zhj x = false := by unfold zhj; rw [decide_eq_false hk]; rfl
  rw [e1, eq_comm, Bool.eq_false_iff]
  intro e
  unfold zei at e
  simp only [Bool.and_eq_true, decide_eq_true_eq] at e
  obtain ⟨a, b, c, d, f⟩ := e
  unfold zga at f
  by_cases k0 : x.kind = 0
  ·rw [if_pos k0] at f
   obtain ⟨f1, f2, f3⟩ := of_decide_eq_true f
   apply h0
   simp only [Ino.map, List.cons.injEq, and_true] at f3
   simp [Ino.ns, k0, f1, f2, f3]
  ·rw [if_neg k0, if_pos (by omega)] at f
   simp only [Bool.and_eq_true, beq_iff_eq] at f
   have f3 := map_nought f.1 d
   apply h1
   simp only [Ino.map, List.cons.injEq, and_true] at f3
   have k2 : x.kind = 2 := by omega
   simp [Ino.ns, k2, f.1, f.2, f3]

/-- The variable of an empty directory lies as the program's start has laid it. -/
def ED (w : World) : Prop := ∃ t fr, w.heap[2]? = some (.cells #[.int .i64 2, .int .i64 0, .int .i64 1, .int .i64 0, .int .i64 0, .int .i64 0, .int .i64 0, .int .i64 0, .int .i64 0, .int .i64 0, .int .i64 0] t fr)
theorem ED.lt {w : World} (h : ED w) : 2 < w.heap.size := by
 obtain ⟨t, fr, h⟩ := h
 exact (Array.getElem?_eq_some_iff.1 h).1
theorem ED.below {w w' : World} (h : ED w) (hb : Below w.heap.size w w') : ED w' := by
 have hl := h.lt
 obtain ⟨t, fr, h⟩ := h
 exact ⟨t, fr, (hb.block _ hl).trans h⟩
theorem ED.cells {w : World} (h : ED w) : w.cell? ⟨2, 0, none⟩ = some (.int .i64 2) ∧ w.cell? ⟨2, 1, none⟩ = some (.int .i64 0) ∧ w.cell? ⟨2, 2, none⟩ = some (.int .i64 1) ∧ w.cell? ⟨2, 3, none⟩ = some (.int .i64 0) ∧ w.cell? ⟨2, 4, none⟩ = some (.int .i64 0) ∧ w.cell? ⟨2, 5, none⟩ = some (.int .i64 0) ∧ w.cell? ⟨2, 6, none⟩ = some (.int .i64 0) ∧ w.cell? ⟨2, 7, none⟩ = some (.int .i64 0) ∧ w.cell? ⟨2, 8, none⟩ = some (.int .i64 0) ∧ w.cell? ⟨2, 9, none⟩ = some (.int .i64 0) ∧ w.cell? ⟨2, 10, none⟩ = some (.int .i64 0) := by
 obtain ⟨t, fr, h⟩ := h
 simp [World.cell?, h]

theorem zlb (n : Int) (w : World) (hT : TS w) (h0 : -9223372036854775808 ≤ n) (h1 : n ≤ 9223372036854775807) : Calls Tryz.prog 320 #[.int .i64 n] w fun e w' => e = .returned (.bool (zdl n)) ∧ w' = w := by
 have T := zaa hT
 clear hT
 cases c : zdl n with
 | true =>
  have E := zaa (zoc c).2.2
  clear c
  go_enter Tryz.func320, Tryz.ntmps320
  go_wp2_with (go_at_call 247; refine (zbm _ _ T.out h0 h1).mono ?_; rw [E.out]; rintro e w' ⟨rfl, rfl⟩)
  go_ret
  exact ⟨rfl, rfl⟩
 | false =>
  have E := zaa (zuq c).2.2
  clear c
  go_enter Tryz.func320, Tryz.ntmps320
  go_wp2_with (go_at_call 247; refine (zbm _ _ T.out h0 h1).mono ?_; rw [E.out]; rintro e w' ⟨rfl, rfl⟩)
  go_ret
  exact ⟨rfl, rfl⟩

theorem zho (n : Int) (w : World) : Calls Tryz.prog 321 #[.int .i64 n] w fun e w' => e = .returned (.bool (n == 0)) ∧ w' = w := by
 go_enter Tryz.func321, Tryz.ntmps321
 go_wp2
 go_ret
 exact ⟨rfl, rfl⟩

theorem tiesB_mk {zs : List Int} (h : ∀ k (h : k < zs.length), zdl zs[k] = true) : zvu zs = true := decide_eq_true h
theorem tiesB_not {zs : List Int} {k : Nat} (hk : k < zs.length) (h : zdl zs[k] = false) : zvu zs = false := decide_eq_false (fun x => by have := x k hk; rw [h] at this; cases this)
theorem nowsB_mk {zs : List Int} (h : ∀ k (h : k < zs.length), (zs[k] == 0) = true) : nowsB zs = true := decide_eq_true h
theorem nowsB_not {zs : List Int} {k : Nat} (hk : k < zs.length) (h : (zs[k] == 0) = false) : nowsB zs = false := decide_eq_false (fun x => by have := x k hk; rw [h] at this; cases this)

set_option maxHeartbeats 2000000 in
theorem zgu (v : Value) (zs : List Int) (w : World) (h : RdI w v zs) (hn : zs.length ≤ 2147483648) (hT : TS w) (hr : ∀ k (h : k < zs.length), -9223372036854775808 ≤ zs[k] ∧ zs[k] ≤ 9223372036854775807) :
  Calls Tryz.prog 105 #[v, .func (.func 320) #[] #[]] w fun e w' => e = .returned (.bool (zvu zs)) ∧ w' = w := by
 have T := zaa hT
 have HR := zaa hr
 clear hT hr
 obtain ⟨ao, cap, rfl, _, hc⟩ := h.shape
 clear h
 go_enter Tryz.func105, Tryz.ntmps105
 go_wp2
 go_loop [6, 9] (fun _ i => ∃ k : Nat, k ≤ zs.length ∧ i = .int .i64 k ∧ Hid (∀ j (h : j < zs.length), j < k → zdl zs[j] = true)) (fun _ i => zs.length - (intOf i).toNat)
 case atStart => exact ⟨0, by omega, rfl, fun j h a => absurd a (by omega)⟩
 case round =>
  obtain ⟨k, hk, rfl, H⟩ := hrel
  by_cases hlt : k < zs.length
  ·obtain ⟨b, o, rfl, hbl, hcell⟩ := hc (by omega)
   have hck := hcell k hlt
   obtain ⟨r0, r1⟩ := HR.out k hlt
   clear hcell hc
   by_cases q : zdl zs[k] = true
   ·go_wp2_with (go_at_call 320; refine (zlb _ _ T.out r0 r1).mono ?_; rintro e w' ⟨rfl, rfl⟩)
    go_round
    case rel =>
     refine ⟨k + 1, by omega, by go_num, fun j h a => ?_⟩
     by_cases e : j = k
     ·subst e; exact q
     ·exact H.out j h (by omega)
    case measure => simp [intOf]; omega
   ·have q' : zdl zs[k] = false := by simpa using q
    have E := zaa (tiesB_not hlt q')
    go_wp2_with (go_at_call 320; refine (zlb _ _ T.out r0 r1).mono ?_; rintro e w' ⟨rfl, rfl⟩)
    go_ret
    exact ⟨zac E.out.symm, rfl⟩
  ·have E := zaa (tiesB_mk (fun j h => H.out j h (by omega)))
   clear H
   go_wp2
   go_ret
   exact ⟨zac E.out.symm, rfl⟩

set_option maxHeartbeats 2000000 in
theorem zkj (v : Value) (zs : List Int) (w : World) (h : RdI w v zs) (hn : zs.length ≤ 2147483648) :
  Calls Tryz.prog 105 #[v, .func (.func 321) #[] #[]] w fun e w' => e = .returned (.bool (nowsB zs)) ∧ w' = w := by
 obtain ⟨ao, cap, rfl, _, hc⟩ := h.shape
 clear h
 go_enter Tryz.func105, Tryz.ntmps105
 go_wp2
 go_loop [6, 9] (fun _ i => ∃ k : Nat, k ≤ zs.length ∧ i = .int .i64 k ∧ Hid (∀ j (h : j < zs.length), j < k → (zs[j] == 0) = true)) (fun _ i => zs.length - (intOf i).toNat)
 case atStart => exact ⟨0, by omega, rfl, fun j h a => absurd a (by omega)⟩
 case round =>
  obtain ⟨k, hk, rfl, H⟩ := hrel
  by_cases hlt : k < zs.length
  ·obtain ⟨b, o, rfl, hbl, hcell⟩ := hc (by omega)
   have hck := hcell k hlt
   clear hcell hc
   by_cases q : (zs[k] == 0) = true
   ·go_wp2_with (go_at_call 321; refine (zho _ _).mono ?_; rintro e w' ⟨rfl, rfl⟩)
    go_round
    case rel =>
     refine ⟨k + 1, by omega, by go_num, fun j h a => ?_⟩
     by_cases e : j = k
     ·subst e; exact q
     ·exact H.out j h (by omega)
    case measure => simp [intOf]; omega
   ·have q' : (zs[k] == 0) = false := by simpa using q
    have E := zaa (nowsB_not hlt q')
    go_wp2_with (go_at_call 321; refine (zho _ _).mono ?_; rintro e w' ⟨rfl, rfl⟩)
    go_ret
    exact ⟨zac E.out.symm, rfl⟩
  ·have E := zaa (nowsB_mk (fun j h => H.out j h (by omega)))
   clear H
   go_wp2
   go_ret
   exact ⟨zac E.out.symm, rfl⟩
end Go.Proofs.YtipklbnfobckaaaGreatDoor

namespace Go.Proofs.YtipklbnfobckaaaGreatDoor
open Go.RowKit

/-- A part of an inode's map, as a slice. -/
theorem mapHead (w : World) (b n : Nat) (hn : n ≤ 8) : (Instr.sliceAt 169 (.pointer (some ⟨b, 3, none⟩)) none (some (.int .i64 (n : Int))) none).run Tryz.prog w = .ok (.slice (some ⟨b, 3, none⟩) n 8) w := by
 have al : Tryz.prog.arrayLen 169 = 8 := by kernel_rfl
 rw [run_sliceAt_array_h w 169 ⟨b, 3, none⟩ (by kernel_rfl) .i64 (n : Int) (by omega) (by rw [al]; omega), al]
 have sz : (sizeOf (Tryz.prog.elem 169)).run Tryz.prog w = .ok 1 w := by kernel_rfl
 rw [sz]
 simp [Result.andThen, slicedAt, Addr.add]
theorem mapTail (w : World) (b n : Nat) (hn : n ≤ 8) : (Instr.sliceAt 169 (.pointer (some ⟨b, 3, none⟩)) (some (.int .i64 (n : Int))) none none).run Tryz.prog w = .ok (.slice (some (if n = 8 then ⟨b, 3, none⟩ else ⟨b, 3 + n, none⟩)) (8 - n) (8 - n)) w := by
 have al : Tryz.prog.arrayLen 169 = 8 := by kernel_rfl
 rw [run_sliceAt_array_l w 169 ⟨b, 3, none⟩ (by kernel_rfl) .i64 (n : Int) (by omega) (by rw [al]; omega), al]
 have sz : (sizeOf (Tryz.prog.elem 169)).run Tryz.prog w = .ok 1 w := by kernel_rfl
 rw [sz]
 by_cases h : n = 8
 ·subst h
  simp [Result.andThen, slicedAt]
 ·have h' : ¬ 8 = n := by omega
  simp only [Result.andThen, slicedAt]
  rw [if_neg (by omega), if_neg h]
  simp [Addr.add]
theorem Ino.cs_map (x : Ino) (k : Nat) (hk : k < 8) : x.cs[3 + k]? = some (.int .i64 (x.map[k]'(by rw [x.len]; exact hk))) := by
 rcases (show k = 0 ∨ k = 1 ∨ k = 2 ∨ k = 3 ∨ k = 4 ∨ k = 5 ∨ k = 6 ∨ k = 7 by omega) with rfl | rfl | rfl | rfl | rfl | rfl | rfl | rfl <;> rfl
theorem map_head {x : Ino} {w : World} {b n : Nat} (hn : n ≤ 8) (hb : b < w.heap.size) (h : ∀ j, w.cell? ⟨b, j, none⟩ = x.cs[j]?) : RdI w (.slice (some ⟨b, 3, none⟩) n 8) (x.map.take n) := by
 have hl : (x.map.take n).length = n := by rw [List.length_take, x.len]; omega
 refine ⟨by rw [zow, Nat.mul_one], some ⟨b, 3, none⟩, 8, by rw [hl], ⟨by omega, fun e => by cases e⟩, fun _ => ⟨b, 3, rfl, hb, fun j hj => ?_⟩⟩
 rw [hl, Nat.mul_one] at hj
 rw [h, x.cs_map j (by omega), zck _ _ (by omega), List.getElem_take]
theorem map_tail {x : Ino} {w : World} {b n : Nat} (hn : n ≤ 8) (hb : b < w.heap.size) (h : ∀ j, w.cell? ⟨b, j, none⟩ = x.cs[j]?) : RdI w (.slice (some (if n = 8 then ⟨b, 3, none⟩ else ⟨b, 3 + n, none⟩)) (8 - n) (8 - n)) (x.map.drop n) := by
 have hl : (x.map.drop n).length = 8 - n := by rw [List.length_drop, x.len]
 refine ⟨by rw [zow, Nat.mul_one], some (if n = 8 then ⟨b, 3, none⟩ else ⟨b, 3 + n, none⟩), 8 - n, by rw [hl], ⟨by omega, fun e => by cases e⟩, fun hp => ?_⟩
 rw [hl] at hp
 refine ⟨b, 3 + n, by rw [if_neg (by omega)], hb, fun j hj => ?_⟩
 rw [hl, Nat.mul_one] at hj
 rw [h, Nat.add_assoc, x.cs_map (n + j) (by omega), zck _ _ (by omega), List.getElem_drop]
theorem Ino.R.at' {x : Ino} (h : x.R) (k : Nat) (hk : k < x.map.length) : -9223372036854775808 ≤ x.map[k] ∧ x.map[k] ≤ 9223372036854775807 := h _ (List.getElem_mem _)

set_option maxRecDepth 100000 in
set_option maxHeartbeats 2000000 in
theorem isFile_any (x : Ino) (w : World) (hT : TS w) (hr : x.R) : Calls Tryz.prog 281 #[x.v] w fun e w' => e = .returned (.bool (zhj x)) ∧ Below w.heap.size w w' := by
 have hv : x.v = .agg x.cs.toArray := rfl
 obtain ⟨W, hW⟩ : ∃ W, W = w.alloc (.cells x.cs.toArray 171) := ⟨_, rfl⟩
 have CA : Hid (∀ j, W.cell? ⟨w.heap.size, j, none⟩ = x.cs[j]?) := fun j => by rw [hW]; exact (zay (xs := x.cs) (zah rfl) j).1
 have BW : Hid (Below w.heap.size w W) := by rw [hW]; exact (Below.refl _ _).alloc (Nat.le_refl _) _
 have T : Hid (TS W) := hT.below BW.out
 have hWz : w.heap.size < W.heap.size := by rw [hW]; simp
 have c0 : W.cell? ⟨w.heap.size, 0, none⟩ = some (.int .i64 x.kind) := CA.out 0
 have c1 : W.cell? ⟨w.heap.size, 1, none⟩ = some (.int .i64 x.size) := CA.out 1
 have c2 : W.cell? ⟨w.heap.size, 2, none⟩ = some (.int .i64 x.links) := CA.out 2
 have HR := zaa hr
 subst hW
 rw [hv]
 clear hT hr
 by_cases h0 : x.kind = 1
 case neg =>
  have E := zaa (show zhj x = false by unfold zhj; rw [decide_eq_false h0]; rfl)
  have q : (x.kind != 1) = true := by rw [bne_iff_ne]; exact h0
  go_enter Tryz.func281, Tryz.ntmps281
  go_wp2
  go_ret
  exact ⟨zac E.out.symm, BW.out⟩
 have q : (x.kind != 1) = false := by rw [h0]; rfl
 by_cases h1 : 1 ≤ x.links
 case neg =>
  have E := zaa (show zhj x = false by unfold zhj; rw [decide_eq_true h0, decide_eq_false (show ¬ (1 ≤ x.links ∧ x.links ≤ 24) by omega)]; rfl)
  have q2 : x.links < 1 := by omega
  go_enter Tryz.func281, Tryz.ntmps281
  go_wp2
  go_ret
  exact ⟨zac E.out.symm, BW.out⟩
 have q2 : ¬ x.links < 1 := by omega
 by_cases h2 : x.links ≤ 24
 case neg =>
  have E := zaa (show zhj x = false by unfold zhj; rw [decide_eq_true h0, decide_eq_false (show ¬ (1 ≤ x.links ∧ x.links ≤ 24) by omega)]; rfl)
  have q3 : 24 < x.links := by omega
  go_enter Tryz.func281, Tryz.ntmps281
  go_wp2
  go_ret
  exact ⟨zac E.out.symm, BW.out⟩
 have q3 : ¬ 24 < x.links := by omega
 by_cases h3 : 0 ≤ x.size ∧ x.size < 9
 case neg =>
  have E := zaa (show zhj x = false by unfold zhj; rw [decide_eq_true h0, decide_eq_true (show 1 ≤ x.links ∧ x.links ≤ 24 by omega), decide_eq_false h3]; rfl)
  have H3 := zaa h3
  clear h3
  go_enter Tryz.func281, Tryz.ntmps281
  go_wp2_with (go_at_call 161; refine (zaq _ _ _ H3.out).mono ?_; rintro e w' ⟨rfl, rfl⟩)
  go_ret
  exact ⟨zac E.out.symm, BW.out⟩
 have E := zaa (show zhj x = (zvu (x.map.take x.size.toNat) && nowsB (x.map.drop x.size.toNat)) by unfold zhj; rw [decide_eq_true h0, decide_eq_true (show 1 ≤ x.links ∧ x.links ≤ 24 by omega), decide_eq_true h3]; rfl)
 obtain ⟨n, hn⟩ : ∃ n : Nat, x.size = (n : Int) := ⟨x.size.toNat, by omega⟩
 have hn8 : n ≤ 8 := by omega
 rw [show x.size.toNat = n by omega] at E
 rw [hn] at c1 h3
 have R1 := zaa (map_head (x := x) hn8 hWz CA.out)
 have R2 := zaa (map_tail (x := x) hn8 hWz CA.out)
 have s1 := mapHead (w.alloc (.cells x.cs.toArray 171)) w.heap.size n hn8
 have s2 := mapTail (w.alloc (.cells x.cs.toArray 171)) w.heap.size n hn8
 have L1 := zaa (show (x.map.take n).length ≤ 2147483648 by rw [List.length_take]; omega)
 have L2 := zaa (show (x.map.drop n).length ≤ 2147483648 by rw [List.length_drop, x.len]; omega)
 have RR := zaa (show ∀ k (h : k < (x.map.take n).length), -9223372036854775808 ≤ (x.map.take n)[k] ∧ (x.map.take n)[k] ≤ 9223372036854775807 from fun k h => by rw [List.getElem_take]; exact HR.out.at' k _)
 have H3 := zaa h3
 generalize (if n = 8 then (⟨w.heap.size, 3, none⟩ : Addr) else ⟨w.heap.size, 3 + n, none⟩) = aT at s2 R2
 cases hq : zvu (x.map.take n) with
 | false =>
  have TQ := zaa hq
  rw [hq] at E
  clear h3 hn hq
  go_enter Tryz.func281, Tryz.ntmps281
  go_wp2_with fail
  refine (zal _ _ _ H3.out).mono ?_
  rintro e w' ⟨rfl, rfl⟩
  go_wp2_with fail
  refine (zgu _ _ _ R1.out L1.out T.out RR.out).mono ?_
  rw [TQ.out]
  rintro e w' ⟨rfl, rfl⟩
  go_wp2
  go_ret
  exact ⟨zac (by rw [E.out]; rfl), BW.out⟩
 | true =>
  have TQ := zaa hq
  rw [hq] at E
  clear h3 hn hq
  go_enter Tryz.func281, Tryz.ntmps281
  go_wp2_with fail
  refine (zal _ _ _ H3.out).mono ?_
  rintro e w' ⟨rfl, rfl⟩
  go_wp2_with fail
  refine (zgu _ _ _ R1.out L1.out T.out RR.out).mono ?_
  rw [TQ.out]
  rintro e w' ⟨rfl, rfl⟩
  go_wp2_with fail
  refine (zkj _ _ _ R2.out L2.out).mono ?_
  rintro e w' ⟨rfl, rfl⟩
  go_wp2
  go_ret
  exact ⟨zac (by rw [E.out]; rfl), BW.out⟩
end Go.Proofs.YtipklbnfobckaaaGreatDoor

namespace Go.Proofs.YtipklbnfobckaaaGreatDoor
open Go.RowKit

set_option maxRecDepth 100000 in
set_option maxHeartbeats 2000000 in
theorem eq8 (a0 a1 a2 a3 a4 a5 a6 a7 b0 b1 b2 b3 b4 b5 b6 b7 : Int) (w : World) : (Op.equalIn 9999 169 (.agg #[.int .i64 a0, .int .i64 a1, .int .i64 a2, .int .i64 a3, .int .i64 a4, .int .i64 a5, .int .i64 a6, .int .i64 a7]) (.agg #[.int .i64 b0, .int .i64 b1, .int .i64 b2, .int .i64 b3, .int .i64 b4, .int .i64 b5, .int .i64 b6, .int .i64 b7])).run Tryz.prog w = .ok (decide ([a0, a1, a2, a3, a4, a5, a6, a7] = [b0, b1, b2, b3, b4, b5, b6, b7])) w := by
 have U3 := Tryz.underlying3
 have A3 := Tryz.isAgg3
 have Z3 := Tryz.sizeOf3
 rw [show (9999 : Nat) = 9998 + 1 from rfl, Op.equalIn]
 simp only [Sem.run_bind, run_underlying Tryz.underlying169, Result.andThen_ok]
 simp only [Std.Legacy.Range.forIn_eq_forIn_range', Std.Legacy.Range.size, Nat.sub_zero, Nat.add_sub_cancel, Nat.div_one, List.range'_succ, List.range'_zero, List.forIn_cons, List.forIn_nil]
 go_simp
 by_cases h0 : a0 = b0
 case neg => simp [h0]
 by_cases h1 : a1 = b1
 case neg => simp [h0, h1]
 by_cases h2 : a2 = b2
 case neg => simp [h0, h1, h2]
 by_cases h3 : a3 = b3
 case neg => simp [h0, h1, h2, h3]
 by_cases h4 : a4 = b4
 case neg => simp [h0, h1, h2, h3, h4]
 by_cases h5 : a5 = b5
 case neg => simp [h0, h1, h2, h3, h4, h5]
 by_cases h6 : a6 = b6
 case neg => simp [h0, h1, h2, h3, h4, h5, h6]
 by_cases h7 : a7 = b7
 case neg => simp [h0, h1, h2, h3, h4, h5, h6, h7]
 simp [h0, h1, h2, h3, h4, h5, h6, h7]

/-- Two rows of numbers are alike. -/
def zss (xs ys : List Int) : Bool := decide (xs = ys)
theorem inoEq_t {xs ys : List Int} (h : xs = ys) : zss xs ys = true := decide_eq_true h
theorem inoEq_f {xs ys : List Int} (h : ¬ xs = ys) : zss xs ys = false := decide_eq_false h

set_option maxRecDepth 100000 in
set_option maxHeartbeats 4000000 in
@[go_sem ↓] theorem eqIno (k s l a0 a1 a2 a3 a4 a5 a6 a7 k' s' l' b0 b1 b2 b3 b4 b5 b6 b7 : Int) (w : World) : (Op.equalIn 10000 171 (.agg #[.int .i64 k, .int .i64 s, .int .i64 l, .int .i64 a0, .int .i64 a1, .int .i64 a2, .int .i64 a3, .int .i64 a4, .int .i64 a5, .int .i64 a6, .int .i64 a7]) (.agg #[.int .i64 k', .int .i64 s', .int .i64 l', .int .i64 b0, .int .i64 b1, .int .i64 b2, .int .i64 b3, .int .i64 b4, .int .i64 b5, .int .i64 b6, .int .i64 b7])).run Tryz.prog w = .ok (zss [k, s, l, a0, a1, a2, a3, a4, a5, a6, a7] [k', s', l', b0, b1, b2, b3, b4, b5, b6, b7]) w := by
 have e8 := eq8 a0 a1 a2 a3 a4 a5 a6 a7 b0 b1 b2 b3 b4 b5 b6 b7 w
 unfold zss
 by_cases g0 : k = k'
 case neg => go_simp
 by_cases g1 : s = s'
 case neg => go_simp
 by_cases g2 : l = l'
 case neg => go_simp
 subst g0 g1 g2
 go_simp
 split
 ·rename_i h
  rw [h]
 ·rename_i h
  rw [Bool.not_eq_false] at h
  rw [h]

set_option maxRecDepth 100000 in
set_option maxHeartbeats 2000000 in
theorem zvr (x : Ino) (w : World) (hT : TS w) (hE : ED w) (hr : x.R) : Calls Tryz.prog 225 #[x.v] w fun e w' => e = .returned (.bool (zei x)) ∧ Below w.heap.size w w' := by
 have hv : x.v = .agg x.cs.toArray := rfl
 have BW : Hid (Below w.heap.size w (w.alloc (.cells x.cs.toArray 171))) := (Below.refl _ _).alloc (Nat.le_refl _) _
 have CA : Hid (∀ j, (w.alloc (.cells x.cs.toArray 171)).cell? ⟨w.heap.size, j, none⟩ = x.cs[j]?) := fun j => (zay (xs := x.cs) (zah rfl) j).1
 have T : Hid (TS (w.alloc (.cells x.cs.toArray 171))) := hT.below BW.out
 obtain ⟨d0, d1, d2, d3, d4, d5, d6, d7, d8, d9, d10⟩ := ED.cells (hE.below BW.out)
 obtain ⟨p0, p1, p2, p3, p4, p5, p6, p7, p8, p9, p10⟩ := Ino.all CA.out
 have LF := zaa (fun w1 (h : TS w1) => isFile_any x w1 h hr)
 rw [hv]
 clear hT hE hr CA
 by_cases h0 : x.ns = [0, 0, 0, 0, 0, 0, 0, 0, 0, 0, 0]
 ·have E := zaa (ino_empty h0)
  have q1 : zss [x.kind, x.size, x.links, x.m0, x.m1, x.m2, x.m3, x.m4, x.m5, x.m6, x.m7] [0, 0, 0, 0, 0, 0, 0, 0, 0, 0, 0] = true := inoEq_t h0
  clear h0
  go_enter Tryz.func225, Tryz.ntmps225
  go_wp2
  go_ret
  exact ⟨zac E.out.symm, BW.out⟩
 have q1 : zss [x.kind, x.size, x.links, x.m0, x.m1, x.m2, x.m3, x.m4, x.m5, x.m6, x.m7] [0, 0, 0, 0, 0, 0, 0, 0, 0, 0, 0] = false := inoEq_f h0
 by_cases h1 : x.ns = [2, 0, 1, 0, 0, 0, 0, 0, 0, 0, 0]
 ·have E := zaa (ino_dir h1)
  have q2 : zss [x.kind, x.size, x.links, x.m0, x.m1, x.m2, x.m3, x.m4, x.m5, x.m6, x.m7] [2, 0, 1, 0, 0, 0, 0, 0, 0, 0, 0] = true := inoEq_t h1
  clear h0 h1
  go_enter Tryz.func225, Tryz.ntmps225
  go_wp2
  go_ret
  exact ⟨zac E.out.symm, BW.out⟩
 have q2 : zss [x.kind, x.size, x.links, x.m0, x.m1, x.m2, x.m3, x.m4, x.m5, x.m6, x.m7] [2, 0, 1, 0, 0, 0, 0, 0, 0, 0, 0] = false := inoEq_f h1
 have E := zaa (ino_file h0 h1)
 clear h0 h1
 go_enter Tryz.func225, Tryz.ntmps225
 go_wp2_with fail
 refine (LF.out _ T.out).mono ?_
 rw [E.out]
 rintro e w1 ⟨rfl, hb1⟩
 have B1 := zaa (zab BW.out hb1 BW.out.size)
 clear hb1
 go_wp2
 go_ret
 exact ⟨rfl, B1.out⟩
end Go.Proofs.YtipklbnfobckaaaGreatDoor
