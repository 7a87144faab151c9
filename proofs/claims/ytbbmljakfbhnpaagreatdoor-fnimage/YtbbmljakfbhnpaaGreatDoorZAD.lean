/- Several texts laid together: ImH, StoreS, ImE, ImF, ImJ. -/
import Derived.Test.YtbbmljakfbhnpaaGreatDoorZAC
import Derived.Deep.RegionWith
import Derived.Test.YtbbmljakfbhnpaaGreatDoorZAA
namespace Go.Proofs.YtbbmljakfbhnpaaGreatDoor
open Go.RowKit

/-- The cells of inodes. -/
def inos (ps : List Ino) : List Value := ps.flatMap Ino.cs
theorem Ino.cs_len (x : Ino) : x.cs.length = 11 := rfl
theorem zdf (ps : List Ino) (k i : Nat) (h : k < ps.length) (hi : i < 11) : (inos ps)[k * 11 + i]? = ps[k].cs[i]? := (zbk _ 11 Ino.cs_len ps k i h hi).trans (by rw [List.getElem?_eq_getElem (show i < ps[k].cs.length by rw [Ino.cs_len]; exact hi)])
/-- A slice of inodes that can be read. -/
def RdN (w : World) (v : Value) (ps : List Ino) : Prop := Rd w 11 v ps.length (inos ps)
theorem RdN.shape {w : World} {v : Value} {ps : List Ino} (h : RdN w v ps) : ∃ ao cap, v = .slice ao ps.length cap ∧ ps.length ≤ cap ∧ (0 < ps.length → ∃ b o, ao = some ⟨b, o, none⟩ ∧ b < w.heap.size ∧
  ∀ k (h : k < ps.length), w.cell? ⟨b, o + k * 11, none⟩ = some (.int .i64 ps[k].kind) ∧ w.cell? ⟨b, o + k * 11 + 1, none⟩ = some (.int .i64 ps[k].size) ∧ w.cell? ⟨b, o + k * 11 + 2, none⟩ = some (.int .i64 ps[k].links) ∧ w.cell? ⟨b, o + k * 11 + 3, none⟩ = some (.int .i64 ps[k].m0) ∧ w.cell? ⟨b, o + k * 11 + 4, none⟩ = some (.int .i64 ps[k].m1) ∧ w.cell? ⟨b, o + k * 11 + 5, none⟩ = some (.int .i64 ps[k].m2) ∧ w.cell? ⟨b, o + k * 11 + 6, none⟩ = some (.int .i64 ps[k].m3) ∧ w.cell? ⟨b, o + k * 11 + 7, none⟩ = some (.int .i64 ps[k].m4) ∧ w.cell? ⟨b, o + k * 11 + 8, none⟩ = some (.int .i64 ps[k].m5) ∧ w.cell? ⟨b, o + k * 11 + 9, none⟩ = some (.int .i64 ps[k].m6) ∧ w.cell? ⟨b, o + k * 11 + 10, none⟩ = some (.int .i64 ps[k].m7)) := by
 obtain ⟨_, ao, cap, rfl, h2, h3⟩ := h
 refine ⟨ao, cap, rfl, h2.1, fun hn => ?_⟩
 obtain ⟨b, o, rfl, hb, hc⟩ := h3 hn
 exact ⟨b, o, rfl, hb, fun k hk => ⟨(hc (k * 11) (by omega)).trans (zdf ps k 0 hk (by omega)), (hc (k * 11 + 1) (by omega)).trans (zdf ps k 1 hk (by omega)), (hc (k * 11 + 2) (by omega)).trans (zdf ps k 2 hk (by omega)), (hc (k * 11 + 3) (by omega)).trans (zdf ps k 3 hk (by omega)), (hc (k * 11 + 4) (by omega)).trans (zdf ps k 4 hk (by omega)), (hc (k * 11 + 5) (by omega)).trans (zdf ps k 5 hk (by omega)), (hc (k * 11 + 6) (by omega)).trans (zdf ps k 6 hk (by omega)), (hc (k * 11 + 7) (by omega)).trans (zdf ps k 7 hk (by omega)), (hc (k * 11 + 8) (by omega)).trans (zdf ps k 8 hk (by omega)), (hc (k * 11 + 9) (by omega)).trans (zdf ps k 9 hk (by omega)), (hc (k * 11 + 10) (by omega)).trans (zdf ps k 10 hk (by omega))⟩⟩

theorem infoIno : (Tryz.prog.info? 44).map (fun i => (i.zero, i.size, i.bytes)) = some (some (.agg #[.int .i64 0, .int .i64 0, .int .i64 0, .int .i64 0, .int .i64 0, .int .i64 0, .int .i64 0, .int .i64 0, .int .i64 0, .int .i64 0, .int .i64 0]), 11, 88) := by kernel_rfl

end Go.Proofs.YtbbmljakfbhnpaaGreatDoor

namespace Go.Proofs.YtbbmljakfbhnpaaGreatDoor
open Go.RowKit

/-- A store that is not sure: where, what, and whether it is flushed. -/
structure St where
 at_ : Int
 val : Int
 fl : Bool
deriving DecidableEq

def St.cells (s : St) : List Value := [.int .i64 s.at_, .int .i64 s.val, .bool s.fl]
def sts (ps : List St) : List Value := ps.flatMap St.cells

theorem St.cells_len (s : St) : s.cells.length = 3 := rfl
theorem zuw (ps : List St) : (sts ps).length = ps.length * 3 := zns _ 3 St.cells_len ps
theorem znl (ps : List St) (k : Nat) (h : k < ps.length) : (sts ps)[k * 3]? = some (.int .i64 ps[k].at_) := zbk _ 3 St.cells_len ps k 0 h (by omega)
theorem sts_at1 (ps : List St) (k : Nat) (h : k < ps.length) : (sts ps)[k * 3 + 1]? = some (.int .i64 ps[k].val) := zbk _ 3 St.cells_len ps k 1 h (by omega)
theorem zrh (ps : List St) (k : Nat) (h : k < ps.length) : (sts ps)[k * 3 + 2]? = some (.bool ps[k].fl) := zbk _ 3 St.cells_len ps k 2 h (by omega)

/-- A slice of stores that can be read. -/
def RdS (w : World) (v : Value) (ps : List St) : Prop := Rd w 3 v ps.length (sts ps)
theorem RdS.shape {w : World} {v : Value} {ps : List St} (h : RdS w v ps) : ∃ ao cap, v = .slice ao ps.length cap ∧ ps.length ≤ cap ∧ (0 < ps.length → ∃ b o, ao = some ⟨b, o, none⟩ ∧ b < w.heap.size ∧
  ∀ k (h : k < ps.length), w.cell? ⟨b, o + k * 3, none⟩ = some (.int .i64 ps[k].at_) ∧ w.cell? ⟨b, o + k * 3 + 1, none⟩ = some (.int .i64 ps[k].val) ∧ w.cell? ⟨b, o + k * 3 + 2, none⟩ = some (.bool ps[k].fl)) := by
 obtain ⟨_, ao, cap, rfl, h2, h3⟩ := h
 refine ⟨ao, cap, rfl, h2.1, fun hn => ?_⟩
 obtain ⟨b, o, rfl, hb, hc⟩ := h3 hn
 exact ⟨b, o, rfl, hb, fun k hk => ⟨(hc (k * 3) (by omega)).trans (znl ps k hk), (hc (k * 3 + 1) (by omega)).trans (sts_at1 ps k hk), (hc (k * 3 + 2) (by omega)).trans (zrh ps k hk)⟩⟩

theorem zsr : (Tryz.prog.info? 136).map (fun i => (i.zero, i.size, i.bytes)) = some (some (.agg #[.int .i64 0, .int .i64 0, .bool false]), 3, 24) := by kernel_rfl

/-- Three cells laid at element k. -/
def put3 (ys : List Value) (k : Nat) (a b c : Value) : List Value := ((ys.set (k * 3) a).set (k * 3 + 1) b).set (k * 3 + 2) c
theorem zwq {ys : List Value} {k : Nat} {a b c : Value} {j : Nat} (hj : j < ys.length) : (put3 ys k a b c)[j]? = if j = k * 3 + 2 then some c else if j = k * 3 + 1 then some b else if j = k * 3 then some a else ys[j]? := by
 unfold put3
 rw [zpd (by simpa using hj), zpd (by simpa using hj), zpd hj]
theorem Row.put3 {w : World} {e : TypeId} {lo hi : Nat} {b n cap : Nat} {ys : List Value} (h : Row w e 3 lo hi (.slice (some ⟨b, 0, none⟩) n cap) n ys) (k : Nat) (x y z : Value) :
  Row (((w.setCell ⟨b, k * 3, none⟩ x).setCell ⟨b, k * 3 + 1, none⟩ y).setCell ⟨b, k * 3 + 2, none⟩ z) e 3 lo hi (.slice (some ⟨b, 0, none⟩) n cap) n (put3 ys k x y z) :=
 ((h.stored (k * 3) x).stored (k * 3 + 1) y).stored (k * 3 + 2) z

end Go.Proofs.YtbbmljakfbhnpaaGreatDoor

namespace Go.Proofs.YtbbmljakfbhnpaaGreatDoor
open Go.RowKit

/-- An entry. -/
structure Den where
 dir : Int
 name : ByteArray
 child : Int
/-- An entry as a value. -/
def Den.v (x : Den) : Value := .agg #[.int .i64 x.dir, .string x.name, .int .i64 x.child]

/-- A free entry. -/
def Den.freeB (x : Den) : Bool := x.dir == 0 && (x.name.size == 0 && x.child == -1)
/-- An entry that can be written. -/
def Den.okB (x : Den) : Bool := x.freeB || (decide (1 ≤ x.child ∧ x.child ≤ 15) && (decide (0 ≤ x.dir ∧ x.dir ≤ 15) && nmB x.name))
/-- Its words. -/
def enL (k : Int) (x : Den) : List Se := [⟨240 + 3 * k, x.dir⟩, ⟨240 + 3 * k + 1, ((pk x.name x.name.size : Nat) : Int)⟩, ⟨240 + 3 * k + 2, x.child + 1⟩]

set_option maxRecDepth 100000 in
set_option maxHeartbeats 2000000 in
theorem zsx (s : ByteArray) (w : World) (hs : s.size = 0) : Calls Tryz.prog 89 #[.string s] w fun e w' => e = .returned (.int .i64 ((pk s s.size : Nat) : Int)) ∧ w' = w := by
 have E := zaa (show ((pk s s.size : Nat) : Int) = 0 by rw [hs, zqi]; rfl)
 rw [E.out]
 go_enter Tryz.func89, Tryz.ntmps89
 go_wp2
 go_loop [3, 4] (fun n i => i = .int .i64 0 ∧ n = .int .i64 0) (fun _ i => 0)
 case atStart => exact ⟨rfl, rfl⟩
 case round =>
  obtain ⟨rfl, rfl⟩ := hrel
  go_wp2
  go_ret
  exact ⟨rfl, rfl⟩

set_option maxRecDepth 100000 in
set_option maxHeartbeats 2000000 in
theorem zdy (k : Int) (x : Den) (w : World) (hk : 0 ≤ k ∧ k < 24) (hc : -1 ≤ x.child ∧ x.child ≤ 15) (hn : x.name.size = 0 ∨ nmB x.name = true) :
  Calls Tryz.prog 52 #[.int .i64 k, x.v] w fun e w' => ∃ v', e = .returned v' ∧ Row w' 47 2 w.heap.size w'.heap.size v' (enL k x).length (ses (enL k x)) ∧ Below w.heap.size w w' := by
 have LP := zaa (fun w1 => show Calls Tryz.prog 89 #[.string x.name] w1 fun e w' => e = .returned (.int .i64 ((pk x.name x.name.size : Nat) : Int)) ∧ w' = w1 by
  rcases hn with h | h
  ·exact zsx _ _ h
  ·exact zvt _ _ h)
 clear hn
 have EL := zaa (show enL k x = [⟨240 + 3 * k, x.dir⟩, ⟨240 + 3 * k + 1, ((pk x.name x.name.size : Nat) : Int)⟩, ⟨240 + 3 * k + 2, x.child + 1⟩] from rfl)
 generalize ((pk x.name x.name.size : Nat) : Int) = p at LP EL
 obtain ⟨W, hW⟩ : ∃ W, W = w.alloc (.cells #[.int .i64 x.dir, .string x.name, .int .i64 x.child] 50) := ⟨_, rfl⟩
 have SK : Hid (∀ w', Below W.heap.size W w' → w'.cell? ⟨w.heap.size, 0, none⟩ = some (.int .i64 x.dir) ∧ w'.cell? ⟨w.heap.size, 1, none⟩ = some (.string x.name) ∧ w'.cell? ⟨w.heap.size, 2, none⟩ = some (.int .i64 x.child)) := fun w' hb => by
  have : w'.heap[w.heap.size]? = some (.cells #[.int .i64 x.dir, .string x.name, .int .i64 x.child] 50 (0, 0)) := (hb.block _ (by rw [hW]; simp)).trans (by rw [hW]; exact zag rfl)
  exact zba this
 have BW : Hid (Below w.heap.size w W) := by rw [hW]; exact (Below.refl _ _).alloc (Nat.le_refl _) _
 have hz : w.heap.size ≤ W.heap.size := BW.out.size
 unfold Den.v
 go_enter Tryz.func52, Tryz.ntmps52
 go_wp2_with fail
 rw [← hW]
 clear hW
 go_region_held3 (fun w' => w'.cell? ⟨w.heap.size, 0, none⟩ = some (.int .i64 x.dir) ∧ w'.cell? ⟨w.heap.size, 1, none⟩ = some (.string x.name) ∧ w'.cell? ⟨w.heap.size, 2, none⟩ = some (.int .i64 x.child))
  (exact SK.out _ (by repeat (first | exact Below.refl _ _ | refine Below.drew ?_ | refine Below.alloc ?_ (by simp) _)))
  (first | (go_at_call 88; refine (zdj _ _ _ hk (by omega)).mono ?_; rintro e w' ⟨rfl, hw'⟩; subst w') | (go_at_call 89; refine (LP.out _).mono ?_; rintro e w' ⟨rfl, hw'⟩; subst w'))
 have wp1 : IntKind.i64.wrap (x.child + 1) = x.child + 1 := by rw [IntKind.wrap_i64]; omega
 rw [wp1]
 have R : Hid (UpI W (W.alloc (.cells #[.int .i64 (240 + 3 * k), .int .i64 x.dir, .int .i64 (240 + 3 * k + 1), .int .i64 p, .int .i64 (240 + 3 * k + 2), .int .i64 (x.child + 1)] 47)).drew (.slice (some ⟨W.heap.size, 0, none⟩) 3 3) (enL k x)) := by
  show UpI _ _ _ _
  rw [EL.out]
  exact UpI.below (w := W.alloc (.cells #[.int .i64 (240 + 3 * k), .int .i64 x.dir, .int .i64 (240 + 3 * k + 1), .int .i64 p, .int .i64 (240 + 3 * k + 2), .int .i64 (x.child + 1)] 47)) ⟨World.ownsRow_lit W _ 3 (Nat.le_refl _) (by simp [maxLen]) rfl, (Below.refl _ _).alloc (Nat.le_refl _) _⟩ ((Below.refl _ _).drew)
 go_wp2
 go_ret
 exact ⟨_, rfl, (zac R.out.l).wide hz (Nat.le_refl _), zab BW.out R.out.b hz⟩

theorem zvp (s : ByteArray) : s.toList = [] ↔ s.size = 0 := by
 rw [ByteArray.toList_eq]
 obtain ⟨⟨x⟩⟩ := s
 show x = [] ↔ x.length = 0
 exact List.length_eq_zero_iff.symm
/-- The updates of an entry: the code, and the list. -/
def duC (k : Int) (x : Den) : Int := if 0 ≤ k ∧ k ≤ 23 then (if x.okB = true then 0 else 1) else 4
def duL (k : Int) (x : Den) : List Se := if 0 ≤ k ∧ k ≤ 23 then (if x.okB = true then enL k x else []) else []
theorem du_cases (k : Int) (x : Den) : (¬ (0 ≤ k ∧ k ≤ 23) ∧ duC k x = 4 ∧ duL k x = []) ∨ ((0 ≤ k ∧ k ≤ 23) ∧ x.okB = false ∧ duC k x = 1 ∧ duL k x = []) ∨ ((0 ≤ k ∧ k ≤ 23) ∧ x.okB = true ∧ duC k x = 0 ∧ duL k x = enL k x) := by
 unfold duC duL
 by_cases h : 0 ≤ k ∧ k ≤ 23
 ·cases q : x.okB
  ·exact .inr (.inl ⟨h, rfl, by rw [if_pos h, if_neg (by decide)], by rw [if_pos h, if_neg (by decide)]⟩)
  ·exact .inr (.inr ⟨h, rfl, by rw [if_pos h, if_pos rfl], by rw [if_pos h, if_pos rfl]⟩)
 ·exact .inl ⟨h, by rw [if_neg h], by rw [if_neg h]⟩
set_option maxRecDepth 100000 in
set_option maxHeartbeats 2000000 in
theorem zgw (k : Int) (x : Den) (w : World) (hs : x.name.size ≤ maxLen) :
  Calls Tryz.prog 13 #[.int .i64 k, x.v] w fun e w' => ∃ v', e = .returned (.tuple #[v', .int .i64 (duC k x)]) ∧ Row w' 47 2 w.heap.size w'.heap.size v' (duL k x).length (ses (duL k x)) ∧ Below w.heap.size w w' := by
 have RE := zaa (fun w1 : World => And.intro (zhc w1 47 2) ((Below.refl w1.heap.size w1).alloc (Nat.le_refl _) (.cells #[] 47)))
 obtain ⟨d, s, c⟩ := x
 have BW := zaa ((Below.refl w.heap.size w).alloc (Nat.le_refl _) (.cells #[.int .i64 d, .string s, .int .i64 c] 50))
 have LE := zaa (fun w1 => zdy k ⟨d, s, c⟩ w1)
 have LN := zaa (fun w1 => zhy s w1 hs)
 have EF : (Den.mk d s c).freeB = (d == 0 && (s.size == 0 && c == -1)) := rfl
 have EO : (Den.mk d s c).okB = ((Den.mk d s c).freeB || (decide (1 ≤ c ∧ c ≤ 15) && (decide (0 ≤ d ∧ d ≤ 15) && nmB s))) := rfl
 have ES : s.toList = [] ↔ s.size = 0 := zvp s
 have DC := du_cases k ⟨d, s, c⟩
 obtain ⟨W, hW⟩ : ∃ W, W = w.alloc (.cells #[.int .i64 d, .string s, .int .i64 c] 50) := ⟨_, rfl⟩
 rw [← hW] at BW
 have hz : w.heap.size ≤ W.heap.size := BW.out.size
 obtain ⟨x0, x1, x2⟩ : W.cell? ⟨w.heap.size, 0, none⟩ = some (.int .i64 d) ∧ W.cell? ⟨w.heap.size, 1, none⟩ = some (.string s) ∧ W.cell? ⟨w.heap.size, 2, none⟩ = some (.int .i64 c) := zba (by rw [hW]; exact zag rfl)
 unfold Den.v at *
 simp only at LE hs ⊢
 by_cases c1 : 0 ≤ k ∧ k ≤ 23
 ·rcases (show (d = 0 ∧ s.toList = [] ∧ c = -1) ∨ ¬ d = 0 ∨ (d = 0 ∧ ¬ s.toList = []) ∨ (d = 0 ∧ s.toList = [] ∧ ¬ c = -1) by
   by_cases a : d = 0 <;> by_cases b : s.toList = [] <;> by_cases e : c = -1 <;> simp [a, b, e]) with ⟨rfl, f2, rfl⟩ | f1 | ⟨rfl, f2⟩ | ⟨rfl, f2, f3⟩
  ·have OK : (Den.mk 0 s (-1)).okB = true := by rw [EO, EF, ES.1 f2]; rfl
   rcases DC with ⟨n, _, _⟩ | ⟨_, n, _, _⟩ | ⟨_, _, e1, e2⟩
   ·exact absurd c1 n
   ·rw [OK] at n; cases n
   rw [e1, e2]
   have LE' := zaa (fun w1 => LE.out w1 (by omega) (by omega) (.inl (ES.1 f2)))
   clear e1 e2 OK LE ES EO EF
   go_enter Tryz.func13, Tryz.ntmps13
   go_wp2_with fail
   rw [← hW]
   clear hW
   refine (zas _ _ _ _ c1).mono ?_
   rintro e w' ⟨rfl, hw'⟩
   subst w'
   go_wp2_with fail
   refine (LE'.out _).mono ?_
   rintro e w2 ⟨v2, rfl, hr2, hb2⟩
   have R2 := zaa (hr2.wide BW.out.size (Nat.le_refl _))
   have B2 := zaa (zab BW.out hb2 BW.out.size)
   obtain ⟨-, aL, cL, hvL, -⟩ := hr2.rd
   subst hvL
   clear hr2 hb2
   go_wp2
   go_ret2
   exact ⟨_, rfl, R2.out, B2.out⟩
  ·have FF : (Den.mk d s c).freeB = false := by
    rw [EF, Bool.eq_false_iff]
    simp only [ne_eq, Bool.and_eq_true, beq_iff_eq, ← ES]
    exact fun h => f1 h.1
   have OK : (Den.mk d s c).okB = (decide (1 ≤ c ∧ c ≤ 15) && (decide (0 ≤ d ∧ d ≤ 15) && nmB s)) := by rw [EO, FF, Bool.false_or]
   clear FF EO EF ES
   by_cases g1 : 1 ≤ c ∧ c ≤ 15
   ·by_cases g2 : (0 : Int) ≤ d ∧ d ≤ 15
    ·cases g3 : nmB s with
     | true =>
      rw [decide_eq_true g1, decide_eq_true g2, g3] at OK
      rcases DC with ⟨n, _, _⟩ | ⟨_, n, _, _⟩ | ⟨_, _, e1, e2⟩
      ·exact absurd c1 n
      ·rw [OK] at n; cases n
      rw [e1, e2]
      have LE' := zaa (fun w1 => LE.out w1 (by omega) (by omega) (.inr g3))
      have G3 := zaa g3
      clear e1 e2 OK LE g3
      go_enter Tryz.func13, Tryz.ntmps13
      go_wp2_with fail
      rw [← hW]
      clear hW
      refine (zas _ _ _ _ c1).mono ?_
      rintro e w' ⟨rfl, hw'⟩
      subst w'
      go_wp2_with fail
      refine (zas _ _ _ _ g1).mono ?_
      rintro e w' ⟨rfl, hw'⟩
      subst w'
      go_wp2_with fail
      refine (zas _ _ _ _ g2).mono ?_
      rintro e w' ⟨rfl, hw'⟩
      subst w'
      go_wp2_with fail
      refine (LN.out _).mono ?_
      rw [G3.out]
      rintro e w' ⟨rfl, hw'⟩
      subst w'
      go_wp2_with fail
      refine (LE'.out _).mono ?_
      rintro e w2 ⟨v2, rfl, hr2, hb2⟩
      have R2 := zaa (hr2.wide BW.out.size (Nat.le_refl _))
      have B2 := zaa (zab BW.out hb2 BW.out.size)
      obtain ⟨-, aL, cL, hvL, -⟩ := hr2.rd
      subst hvL
      clear hr2 hb2
      go_wp2
      go_ret2
      exact ⟨_, rfl, R2.out, B2.out⟩
     | false =>
      rw [g3, Bool.and_false, Bool.and_false] at OK
      rcases DC with ⟨n, _, _⟩ | ⟨_, _, e1, e2⟩ | ⟨_, n, _, _⟩
      ·exact absurd c1 n
      case inr.inr => rw [OK] at n; cases n
      rw [e1, e2]
      have G3 := zaa g3
      clear e1 e2 OK LE g3
      go_enter Tryz.func13, Tryz.ntmps13
      go_wp2_with fail
      rw [← hW]
      clear hW
      refine (zas _ _ _ _ c1).mono ?_
      rintro e w' ⟨rfl, hw'⟩
      subst w'
      go_wp2_with fail
      refine (zas _ _ _ _ g1).mono ?_
      rintro e w' ⟨rfl, hw'⟩
      subst w'
      go_wp2_with fail
      refine (zas _ _ _ _ g2).mono ?_
      rintro e w' ⟨rfl, hw'⟩
      subst w'
      go_wp2_with fail
      refine (LN.out _).mono ?_
      rw [G3.out]
      rintro e w' ⟨rfl, hw'⟩
      subst w'
      go_wp2
      go_ret2
      exact ⟨_, rfl, (RE.out _).1.wide hz (Nat.le_refl _), zab BW.out (RE.out _).2 hz⟩
    ·rw [decide_eq_false g2, Bool.false_and, Bool.and_false] at OK
     rcases DC with ⟨n, _, _⟩ | ⟨_, _, e1, e2⟩ | ⟨_, n, _, _⟩
     ·exact absurd c1 n
     case inr.inr => rw [OK] at n; cases n
     rw [e1, e2]
     clear e1 e2 OK LE
     go_enter Tryz.func13, Tryz.ntmps13
     go_wp2_with fail
     rw [← hW]
     clear hW
     refine (zas _ _ _ _ c1).mono ?_
     rintro e w' ⟨rfl, hw'⟩
     subst w'
     go_wp2_with fail
     refine (zas _ _ _ _ g1).mono ?_
     rintro e w' ⟨rfl, hw'⟩
     subst w'
     go_wp2_with fail
     refine (zdb _ _ _ _ g2).mono ?_
     rintro e w' ⟨rfl, hw'⟩
     subst w'
     go_wp2
     go_ret2
     exact ⟨_, rfl, (RE.out _).1.wide hz (Nat.le_refl _), zab BW.out (RE.out _).2 hz⟩
   ·rw [decide_eq_false g1, Bool.false_and] at OK
    rcases DC with ⟨n, _, _⟩ | ⟨_, _, e1, e2⟩ | ⟨_, n, _, _⟩
    ·exact absurd c1 n
    case inr.inr => rw [OK] at n; cases n
    rw [e1, e2]
    clear e1 e2 OK LE
    go_enter Tryz.func13, Tryz.ntmps13
    go_wp2_with fail
    rw [← hW]
    clear hW
    refine (zas _ _ _ _ c1).mono ?_
    rintro e w' ⟨rfl, hw'⟩
    subst w'
    go_wp2_with fail
    refine (zdb _ _ _ _ g1).mono ?_
    rintro e w' ⟨rfl, hw'⟩
    subst w'
    go_wp2
    go_ret2
    exact ⟨_, rfl, (RE.out _).1.wide hz (Nat.le_refl _), zab BW.out (RE.out _).2 hz⟩
  ·have FF : (Den.mk 0 s c).freeB = false := by
    rw [EF, Bool.eq_false_iff]
    simp only [ne_eq, Bool.and_eq_true, beq_iff_eq, ← ES]
    exact fun h => f2 h.2.1
   have OK : (Den.mk 0 s c).okB = (decide (1 ≤ c ∧ c ≤ 15) && (decide ((0 : Int) ≤ 0 ∧ (0 : Int) ≤ 15) && nmB s)) := by rw [EO, FF, Bool.false_or]
   clear FF EO EF ES
   by_cases g1 : 1 ≤ c ∧ c ≤ 15
   ·by_cases g2 : (0 : Int) ≤ 0 ∧ (0 : Int) ≤ 15
    ·cases g3 : nmB s with
     | true =>
      rw [decide_eq_true g1, decide_eq_true g2, g3] at OK
      rcases DC with ⟨n, _, _⟩ | ⟨_, n, _, _⟩ | ⟨_, _, e1, e2⟩
      ·exact absurd c1 n
      ·rw [OK] at n; cases n
      rw [e1, e2]
      have LE' := zaa (fun w1 => LE.out w1 (by omega) (by omega) (.inr g3))
      have G3 := zaa g3
      clear e1 e2 OK LE g3
      go_enter Tryz.func13, Tryz.ntmps13
      go_wp2_with fail
      rw [← hW]
      clear hW
      refine (zas _ _ _ _ c1).mono ?_
      rintro e w' ⟨rfl, hw'⟩
      subst w'
      go_wp2_with fail
      refine (zas _ _ _ _ g1).mono ?_
      rintro e w' ⟨rfl, hw'⟩
      subst w'
      go_wp2_with fail
      refine (zas _ _ _ _ g2).mono ?_
      rintro e w' ⟨rfl, hw'⟩
      subst w'
      go_wp2_with fail
      refine (LN.out _).mono ?_
      rw [G3.out]
      rintro e w' ⟨rfl, hw'⟩
      subst w'
      go_wp2_with fail
      refine (LE'.out _).mono ?_
      rintro e w2 ⟨v2, rfl, hr2, hb2⟩
      have R2 := zaa (hr2.wide BW.out.size (Nat.le_refl _))
      have B2 := zaa (zab BW.out hb2 BW.out.size)
      obtain ⟨-, aL, cL, hvL, -⟩ := hr2.rd
      subst hvL
      clear hr2 hb2
      go_wp2
      go_ret2
      exact ⟨_, rfl, R2.out, B2.out⟩
     | false =>
      rw [g3, Bool.and_false, Bool.and_false] at OK
      rcases DC with ⟨n, _, _⟩ | ⟨_, _, e1, e2⟩ | ⟨_, n, _, _⟩
      ·exact absurd c1 n
      case inr.inr => rw [OK] at n; cases n
      rw [e1, e2]
      have G3 := zaa g3
      clear e1 e2 OK LE g3
      go_enter Tryz.func13, Tryz.ntmps13
      go_wp2_with fail
      rw [← hW]
      clear hW
      refine (zas _ _ _ _ c1).mono ?_
      rintro e w' ⟨rfl, hw'⟩
      subst w'
      go_wp2_with fail
      refine (zas _ _ _ _ g1).mono ?_
      rintro e w' ⟨rfl, hw'⟩
      subst w'
      go_wp2_with fail
      refine (zas _ _ _ _ g2).mono ?_
      rintro e w' ⟨rfl, hw'⟩
      subst w'
      go_wp2_with fail
      refine (LN.out _).mono ?_
      rw [G3.out]
      rintro e w' ⟨rfl, hw'⟩
      subst w'
      go_wp2
      go_ret2
      exact ⟨_, rfl, (RE.out _).1.wide hz (Nat.le_refl _), zab BW.out (RE.out _).2 hz⟩
    ·exact absurd (by omega) g2
   ·rw [decide_eq_false g1, Bool.false_and] at OK
    rcases DC with ⟨n, _, _⟩ | ⟨_, _, e1, e2⟩ | ⟨_, n, _, _⟩
    ·exact absurd c1 n
    case inr.inr => rw [OK] at n; cases n
    rw [e1, e2]
    clear e1 e2 OK LE
    go_enter Tryz.func13, Tryz.ntmps13
    go_wp2_with fail
    rw [← hW]
    clear hW
    refine (zas _ _ _ _ c1).mono ?_
    rintro e w' ⟨rfl, hw'⟩
    subst w'
    go_wp2_with fail
    refine (zdb _ _ _ _ g1).mono ?_
    rintro e w' ⟨rfl, hw'⟩
    subst w'
    go_wp2
    go_ret2
    exact ⟨_, rfl, (RE.out _).1.wide hz (Nat.le_refl _), zab BW.out (RE.out _).2 hz⟩
  ·have FF : (Den.mk 0 s c).freeB = false := by
    rw [EF, Bool.eq_false_iff]
    simp only [ne_eq, Bool.and_eq_true, beq_iff_eq, ← ES]
    exact fun h => f3 h.2.2
   have OK : (Den.mk 0 s c).okB = (decide (1 ≤ c ∧ c ≤ 15) && (decide ((0 : Int) ≤ 0 ∧ (0 : Int) ≤ 15) && nmB s)) := by rw [EO, FF, Bool.false_or]
   clear FF EO EF ES
   by_cases g1 : 1 ≤ c ∧ c ≤ 15
   ·by_cases g2 : (0 : Int) ≤ 0 ∧ (0 : Int) ≤ 15
    ·cases g3 : nmB s with
     | true =>
      rw [decide_eq_true g1, decide_eq_true g2, g3] at OK
      rcases DC with ⟨n, _, _⟩ | ⟨_, n, _, _⟩ | ⟨_, _, e1, e2⟩
      ·exact absurd c1 n
      ·rw [OK] at n; cases n
      rw [e1, e2]
      have LE' := zaa (fun w1 => LE.out w1 (by omega) (by omega) (.inr g3))
      have G3 := zaa g3
      clear e1 e2 OK LE g3
      go_enter Tryz.func13, Tryz.ntmps13
      go_wp2_with fail
      rw [← hW]
      clear hW
      refine (zas _ _ _ _ c1).mono ?_
      rintro e w' ⟨rfl, hw'⟩
      subst w'
      go_wp2_with fail
      refine (zas _ _ _ _ g1).mono ?_
      rintro e w' ⟨rfl, hw'⟩
      subst w'
      go_wp2_with fail
      refine (zas _ _ _ _ g2).mono ?_
      rintro e w' ⟨rfl, hw'⟩
      subst w'
      go_wp2_with fail
      refine (LN.out _).mono ?_
      rw [G3.out]
      rintro e w' ⟨rfl, hw'⟩
      subst w'
      go_wp2_with fail
      refine (LE'.out _).mono ?_
      rintro e w2 ⟨v2, rfl, hr2, hb2⟩
      have R2 := zaa (hr2.wide BW.out.size (Nat.le_refl _))
      have B2 := zaa (zab BW.out hb2 BW.out.size)
      obtain ⟨-, aL, cL, hvL, -⟩ := hr2.rd
      subst hvL
      clear hr2 hb2
      go_wp2
      go_ret2
      exact ⟨_, rfl, R2.out, B2.out⟩
     | false =>
      rw [g3, Bool.and_false, Bool.and_false] at OK
      rcases DC with ⟨n, _, _⟩ | ⟨_, _, e1, e2⟩ | ⟨_, n, _, _⟩
      ·exact absurd c1 n
      case inr.inr => rw [OK] at n; cases n
      rw [e1, e2]
      have G3 := zaa g3
      clear e1 e2 OK LE g3
      go_enter Tryz.func13, Tryz.ntmps13
      go_wp2_with fail
      rw [← hW]
      clear hW
      refine (zas _ _ _ _ c1).mono ?_
      rintro e w' ⟨rfl, hw'⟩
      subst w'
      go_wp2_with fail
      refine (zas _ _ _ _ g1).mono ?_
      rintro e w' ⟨rfl, hw'⟩
      subst w'
      go_wp2_with fail
      refine (zas _ _ _ _ g2).mono ?_
      rintro e w' ⟨rfl, hw'⟩
      subst w'
      go_wp2_with fail
      refine (LN.out _).mono ?_
      rw [G3.out]
      rintro e w' ⟨rfl, hw'⟩
      subst w'
      go_wp2
      go_ret2
      exact ⟨_, rfl, (RE.out _).1.wide hz (Nat.le_refl _), zab BW.out (RE.out _).2 hz⟩
    ·exact absurd (by omega) g2
   ·rw [decide_eq_false g1, Bool.false_and] at OK
    rcases DC with ⟨n, _, _⟩ | ⟨_, _, e1, e2⟩ | ⟨_, n, _, _⟩
    ·exact absurd c1 n
    case inr.inr => rw [OK] at n; cases n
    rw [e1, e2]
    clear e1 e2 OK LE
    go_enter Tryz.func13, Tryz.ntmps13
    go_wp2_with fail
    rw [← hW]
    clear hW
    refine (zas _ _ _ _ c1).mono ?_
    rintro e w' ⟨rfl, hw'⟩
    subst w'
    go_wp2_with fail
    refine (zdb _ _ _ _ g1).mono ?_
    rintro e w' ⟨rfl, hw'⟩
    subst w'
    go_wp2
    go_ret2
    exact ⟨_, rfl, (RE.out _).1.wide hz (Nat.le_refl _), zab BW.out (RE.out _).2 hz⟩
 ·rcases DC with ⟨_, e1, e2⟩ | ⟨n, _, _, _⟩ | ⟨n, _, _, _⟩
  ·rw [e1, e2]
   clear e1 e2 LE ES EO EF
   go_enter Tryz.func13, Tryz.ntmps13
   go_wp2_with fail
   rw [← hW]
   clear hW
   refine (zdb _ _ _ _ c1).mono ?_
   rintro e w' ⟨rfl, hw'⟩
   subst w'
   go_wp2
   go_ret2
   exact ⟨_, rfl, (RE.out _).1.wide BW.out.size (Nat.le_refl _), zab BW.out (RE.out _).2 BW.out.size⟩
  ·exact absurd n c1
  ·exact absurd n c1
end Go.Proofs.YtbbmljakfbhnpaaGreatDoor

namespace Go.Proofs.YtbbmljakfbhnpaaGreatDoor
open Go.RowKit

def Den.cells (s : Den) : List Value := [.int .i64 s.dir, .string s.name, .int .i64 s.child]
def dens (ps : List Den) : List Value := ps.flatMap Den.cells

theorem Den.cells_len (s : Den) : s.cells.length = 3 := rfl
theorem dens_len (ps : List Den) : (dens ps).length = ps.length * 3 := zns _ 3 Den.cells_len ps
theorem dens_at0 (ps : List Den) (k : Nat) (h : k < ps.length) : (dens ps)[k * 3]? = some (.int .i64 ps[k].dir) := zbk _ 3 Den.cells_len ps k 0 h (by omega)
theorem dens_at1 (ps : List Den) (k : Nat) (h : k < ps.length) : (dens ps)[k * 3 + 1]? = some (.string ps[k].name) := zbk _ 3 Den.cells_len ps k 1 h (by omega)
theorem dens_at2 (ps : List Den) (k : Nat) (h : k < ps.length) : (dens ps)[k * 3 + 2]? = some (.int .i64 ps[k].child) := zbk _ 3 Den.cells_len ps k 2 h (by omega)

/-- A slice of steps that can be read. -/
def RdD (w : World) (v : Value) (ps : List Den) : Prop := Rd w 3 v ps.length (dens ps)
theorem RdD.shape {w : World} {v : Value} {ps : List Den} (h : RdD w v ps) : ∃ ao cap, v = .slice ao ps.length cap ∧ ps.length ≤ cap ∧ (0 < ps.length → ∃ b o, ao = some ⟨b, o, none⟩ ∧ b < w.heap.size ∧
  ∀ k (h : k < ps.length), w.cell? ⟨b, o + k * 3, none⟩ = some (.int .i64 ps[k].dir) ∧ w.cell? ⟨b, o + k * 3 + 1, none⟩ = some (.string ps[k].name) ∧ w.cell? ⟨b, o + k * 3 + 2, none⟩ = some (.int .i64 ps[k].child)) := by
 obtain ⟨_, ao, cap, rfl, h2, h3⟩ := h
 refine ⟨ao, cap, rfl, h2.1, fun hn => ?_⟩
 obtain ⟨b, o, rfl, hb, hc⟩ := h3 hn
 exact ⟨b, o, rfl, hb, fun k hk => ⟨(hc (k * 3) (by omega)).trans (dens_at0 ps k hk), (hc (k * 3 + 1) (by omega)).trans (dens_at1 ps k hk), (hc (k * 3 + 2) (by omega)).trans (dens_at2 ps k hk)⟩⟩

theorem zmt : (Tryz.prog.info? 50).map (fun i => (i.zero, i.size, i.bytes)) = some (some (.agg #[.int .i64 0, .string ⟨#[]⟩, .int .i64 0]), 3, 32) := by kernel_rfl

end Go.Proofs.YtbbmljakfbhnpaaGreatDoor

namespace Go.Proofs.YtbbmljakfbhnpaaGreatDoor
open Go.RowKit

/-- An image that can be read: its words, and its stores. -/
def RdIm (w : World) (v : Value) (ws : List Ino) (ps : List Den) : Prop := ∃ vW vP, v = .agg #[vW, vP] ∧ RdN w vW ws ∧ RdD w vP ps
/-- An image of a call's own. -/
def RowIm (w : World) (lo hi : Nat) (v : Value) (ws : List Ino) (ps : List Den) : Prop := ∃ vW vP, v = .agg #[vW, vP] ∧ Row w 44 11 lo hi vW ws.length (inos ws) ∧ Row w 50 3 lo hi vP ps.length (dens ps)

theorem RowIm.rd {w : World} {lo hi : Nat} {v : Value} {ws : List Ino} {ps : List Den} (h : RowIm w lo hi v ws ps) : RdIm w v ws ps := by
 obtain ⟨vW, vP, rfl, h1, h2⟩ := h
 exact ⟨vW, vP, rfl, h1.rd, h2.rd⟩
theorem RdIm.below {w w' : World} {v : Value} {ws : List Ino} {ps : List Den} (h : RdIm w v ws ps) (hb : Below w.heap.size w w') : RdIm w' v ws ps := by
 obtain ⟨vW, vP, rfl, h1, h2⟩ := h
 exact ⟨vW, vP, rfl, Rd.below h1 hb, Rd.below h2 hb⟩
theorem RowIm.below {w w' : World} {lo hi : Nat} {v : Value} {ws : List Ino} {ps : List Den} (h : RowIm w lo hi v ws ps) {B : Nat} (hb : Below B w w') (hB : hi ≤ B) : RowIm w' lo hi v ws ps := by
 obtain ⟨vW, vP, rfl, h1, h2⟩ := h
 exact ⟨vW, vP, rfl, h1.below hb hB, h2.below hb hB⟩
theorem RowIm.outside {w w' : World} {lo hi : Nat} {v : Value} {ws : List Ino} {ps : List Den} (h : RowIm w lo hi v ws ps) {lo' hi' : Nat} (ho : Outside lo' hi' w w') (hd : hi ≤ lo' ∨ hi' ≤ lo) (hz : hi ≤ w.heap.size) : RowIm w' lo hi v ws ps := by
 obtain ⟨vW, vP, rfl, h1, h2⟩ := h
 exact ⟨vW, vP, rfl, h1.outside ho hd hz, h2.outside ho hd hz⟩
theorem RowIm.wide {w : World} {lo hi : Nat} {v : Value} {ws : List Ino} {ps : List Den} (h : RowIm w lo hi v ws ps) {lo' hi' : Nat} (h1 : lo' ≤ lo) (h2 : hi ≤ hi') : RowIm w lo' hi' v ws ps := by
 obtain ⟨vW, vP, rfl, a, b⟩ := h
 exact ⟨vW, vP, rfl, a.wide h1 h2, b.wide h1 h2⟩

end Go.Proofs.YtbbmljakfbhnpaaGreatDoor
