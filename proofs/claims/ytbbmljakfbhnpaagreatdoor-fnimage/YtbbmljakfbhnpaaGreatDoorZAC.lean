/- Several texts laid together: ImC, WdM, Nm, ImD. -/
import Derived.Test.YtbbmljakfbhnpaaGreatDoorZAB
import Derived.Deep.RegionHeld3
import Derived.Laws.OwnMore
import Derived.WalkKit
import Derived.Test.YtbbmljakfbhnpaaGreatDoorZAA
import Derived.Laws.IdiomStrings
import Derived.Laws.BytesArg
import Derived.Deep.OwnRows
namespace Go.Proofs.YtbbmljakfbhnpaaGreatDoor
open Go.RowKit

theorem zhm (w1 : World) (x y : Int) : Rd (w1.alloc (.cells #[.int .i64 x, .int .i64 y] 47)) 2 (.slice (some ⟨w1.heap.size, 0, none⟩) 1 1) 1 (ses [⟨x, y⟩]) := by
 refine ⟨rfl, _, _, rfl, ⟨Nat.le_refl _, fun e => by cases e⟩, fun _ => ⟨w1.heap.size, 0, rfl, by simp, fun j hj => ?_⟩⟩
 obtain ⟨e0, e1, _, _⟩ := zad (zag (w := w1) (o := .cells #[.int .i64 x, .int .i64 y] 47) rfl)
 rcases (show j = 0 ∨ j = 1 by omega) with rfl | rfl
 ·exact e0
 ·exact e1
theorem zef (l : List Se) : ∀ u ∈ ses l, u.oneCell' = true := by
 intro u hu
 simp only [ses, List.mem_flatMap] at hu
 obtain ⟨m, _, hm⟩ := hu
 simp [Se.cells] at hm
 rcases hm with rfl | rfl <;> rfl
theorem ses_app (l l' : List Se) : ses (l ++ l') = ses l ++ ses l' := by simp [ses]
/-- A row of updates that grows. -/
structure UpI (W w : World) (vL : Value) (ls : List Se) : Prop where
 l : w.ownsRow W.heap.size 47 2 vL ls.length (ses ls)
 b : Below W.heap.size W w
theorem UpI.z {W w : World} {vL : Value} {ls : List Se} (h : UpI W w vL ls) : W.heap.size ≤ w.heap.size := h.b.size
theorem UpI.below {W w w' : World} {vL : Value} {ls : List Se} (h : UpI W w vL ls) (hb : Below w.heap.size w w') : UpI W w' vL ls :=
 ⟨((zac h.l).below hb (Nat.le_refl _)).1, zab h.b hb h.z⟩
theorem UpI.grow {W w w' : World} {vL v' : Value} {ls : List Se} (h : UpI W w vL ls) (ms : List Se) (ho : w'.ownsRow W.heap.size 47 2 v' (ls.length + ms.length) (ses ls ++ ses ms)) (hg : w.grownBy w' vL.ownBlock) : UpI W w' v' (ls ++ ms) :=
 ⟨by rw [ses_app, List.length_append]; exact ho, h.b.grown hg h.z (fun q hq => (h.l.lt q hq).1)⟩
/-- The first words of an inode: three, and k of its map. -/
def wrL (i : Int) (x : Ino) (k : Nat) : List Se := [⟨48 + 12 * i, x.kind⟩, ⟨48 + 12 * i + 1, x.size⟩, ⟨48 + 12 * i + 2, x.links⟩] ++ (List.range k).map (fun j => ⟨48 + 12 * i + (3 + (j : Int)), x.map.getD j 0⟩)
theorem zob (i : Int) (x : Ino) (k : Nat) : (wrL i x k).length = 3 + k := by simp [wrL]; omega
theorem wrL_succ (i : Int) (x : Ino) (k : Nat) : wrL i x (k + 1) = wrL i x k ++ [⟨48 + 12 * i + (3 + (k : Int)), x.map.getD k 0⟩] := by
 unfold wrL; rw [List.range_succ, List.map_append, List.append_assoc]; rfl

set_option maxRecDepth 100000 in
set_option maxHeartbeats 2000000 in
theorem zkl (i : Int) (x : Ino) (w : World) (hi : 0 ≤ i ∧ i < 16) :
  Calls Tryz.prog 47 #[.int .i64 i, x.v] w fun e w' => ∃ v', e = .returned v' ∧ Row w' 47 2 w.heap.size w'.heap.size v' (wrL i x 8).length (ses (wrL i x 8)) ∧ Below w.heap.size w w' := by
 have hv : x.v = .agg x.cs.toArray := rfl
 obtain ⟨W, hW⟩ : ∃ W, W = w.alloc (.cells x.cs.toArray 44) := ⟨_, rfl⟩
 have CA : Hid (∀ w', Below W.heap.size W w' → ∀ j, w'.cell? ⟨w.heap.size, j, none⟩ = x.cs[j]?) := fun w' hb j => by
  have : w'.heap[w.heap.size]? = some (.cells x.cs.toArray 44 (0, 0)) := (hb.block _ (by rw [hW]; simp)).trans (by rw [hW]; exact zag rfl)
  exact (zao (xs := x.cs) this j).1
 have BW : Hid (Below w.heap.size w W) := by rw [hW]; exact (Below.refl _ _).alloc (Nat.le_refl _) _
 have c0 : W.cell? ⟨w.heap.size, 0, none⟩ = some (.int .i64 x.kind) := CA.out W (Below.refl _ _) 0
 have c1 : W.cell? ⟨w.heap.size, 1, none⟩ = some (.int .i64 x.size) := CA.out W (Below.refl _ _) 1
 have c2 : W.cell? ⟨w.heap.size, 2, none⟩ = some (.int .i64 x.links) := CA.out W (Below.refl _ _) 2
 have hWz : w.heap.size < W.heap.size := by rw [hW]; simp
 rw [hv]
 go_enter Tryz.func47, Tryz.ntmps47
 have SK : Hid (∀ w', Below W.heap.size W w' → w'.cell? ⟨w.heap.size, 0, none⟩ = some (.int .i64 x.kind) ∧ w'.cell? ⟨w.heap.size, 1, none⟩ = some (.int .i64 x.size) ∧ w'.cell? ⟨w.heap.size, 2, none⟩ = some (.int .i64 x.links)) := fun w' hb => ⟨CA.out w' hb 0, CA.out w' hb 1, CA.out w' hb 2⟩
 go_wp2_with fail
 rw [← hW]
 clear hW c0 c1 c2
 go_region_held3 (fun w' => w'.cell? ⟨w.heap.size, 0, none⟩ = some (.int .i64 x.kind) ∧ w'.cell? ⟨w.heap.size, 1, none⟩ = some (.int .i64 x.size) ∧ w'.cell? ⟨w.heap.size, 2, none⟩ = some (.int .i64 x.links))
  (exact SK.out _ (by repeat (first | exact Below.refl _ _ | refine Below.drew ?_ | refine Below.alloc ?_ (by simp) _)))
  (first | (go_at_call 87; refine (zaz _ _ _ hi (by omega)).mono ?_; rintro e w' ⟨rfl, hw'⟩; subst w'))
 have START : Hid (UpI W (W.alloc (.cells #[.int .i64 (48 + 12 * i), .int .i64 x.kind, .int .i64 (48 + 12 * i + 1), .int .i64 x.size, .int .i64 (48 + 12 * i + 2), .int .i64 x.links] 47)).drew (.slice (some ⟨W.heap.size, 0, none⟩) 3 3) (wrL i x 0)) :=
  UpI.below (w := W.alloc (.cells #[.int .i64 (48 + 12 * i), .int .i64 x.kind, .int .i64 (48 + 12 * i + 1), .int .i64 x.size, .int .i64 (48 + 12 * i + 2), .int .i64 x.links] 47)) ⟨World.ownsRow_lit W _ 3 (Nat.le_refl _) (by simp [maxLen]) rfl, (Below.refl _ _).alloc (Nat.le_refl _) _⟩ ((Below.refl _ _).drew)
 clear SK
 go_wp2
 go_loopw [5, 6] (fun vL i' wr => ∃ m : Nat, m ≤ 8 ∧ i' = .int .i64 m ∧ Hid (UpI W wr vL (wrL i x m))) (fun _ i' _ => 8 - (intOf i').toNat)
 case atStart => exact ⟨0, by omega, rfl, START⟩
 case round =>
  obtain ⟨m, hm, rfl, J⟩ := hrel
  clear START
  have m0 : (0 : Int) ≤ (m : Int) := by omega
  by_cases hlt : m < 8
  ·have m1 : (m : Int) < 8 := by omega
   have SK : Hid (∀ w', Below W.heap.size W w' → w'.cell? ⟨w.heap.size, 3 + m, none⟩ = some (.int .i64 (x.map.getD m 0))) := fun w' hb => (CA.out w' hb (3 + m)).trans (x.at m hlt)
   have x1 := SK.out wr J.out.b
   have EM := zaa (wrL_succ i x m)
   have l1 := zob i x m
   have l2 : (wrL i x m).length ≤ 11 := by omega
   have li := hi.1
   have lj := hi.2
   have wp1 : IntKind.i64.wrap (3 + (m : Int)) = 3 + (m : Int) := by rw [IntKind.wrap_i64]; omega
   generalize x.map.getD m 0 = y at *
   have J4 := zaa (J.out.below ((Below.refl _ _).alloc (Nat.le_refl _) (.cells #[.int .i64 (48 + 12 * i + (3 + (m : Int))), .int .i64 y] 47)))
   have J4d := zaa ((J.out.below ((Below.refl wr.heap.size wr).drew)).below ((Below.refl _ _).alloc (Nat.le_refl _) (.cells #[.int .i64 (48 + 12 * i + (3 + (m : Int))), .int .i64 y] 47)))
   have HRD := zaa (zhm wr (48 + 12 * i + (3 + (m : Int))) y)
   have HRDd := zaa (zhm wr.drew (48 + 12 * i + (3 + (m : Int))) y)
   clear l1
   go_wp2_with fail
   go_region_held3 (fun w' => w'.cell? ⟨w.heap.size, 3 + m, none⟩ = some (.int .i64 y))
    (first | exact SK.out _ G.out.b | exact SK.out _ J.out.b | exact SK.out _ J.out.b.drew | exact SK.out _ J4.out.b | exact SK.out _ J4d.out.b)
    (first
     | (go_at_call 87; refine (zaz _ _ _ hi (by omega)).mono ?_; rintro e w' ⟨rfl, hw'⟩; subst w')
     | (refine zam rfl (.tmp 27) (.tmp 37) 39 rfl W.heap.size 47 (.agg #[.int .i64 0, .int .i64 0]) 2 16 Tryz.underlying39 zjg rfl (by decide) _ (wrL i x m).length (ses (wrL i x m)) rfl (by first | exact J4.out.l | exact J4d.out.l) _ 1 (ses [⟨48 + 12 * i + (3 + (m : Int)), y⟩]) rfl (by first | exact HRD.out | exact HRDd.out) (zef _) (by simp [maxLen]; omega) (by omega) (by first | exact J4.out.z | exact J4d.out.z) ?_; intro vN wN hownN hgrN; have G := (by first | exact zaa (J4.out.grow [⟨48 + 12 * i + (3 + (m : Int)), y⟩] hownN hgrN) | exact zaa (J4d.out.grow [⟨48 + 12 * i + (3 + (m : Int)), y⟩] hownN hgrN) : Hid (UpI W wN vN (wrL i x m ++ [⟨48 + 12 * i + (3 + (m : Int)), y⟩]))); clear hownN hgrN))
   all_goals
    rw [← EM.out] at G
    clear J J4 J4d HRD HRDd x1 SK
    go_wp2
    go_roundw
    case rel => exact ⟨m + 1, by omega, by go_num, G⟩
    case measure => simp [intOf]; omega
  ·obtain rfl : m = 8 := by omega
   obtain ⟨-, aL, cL, hvL, -⟩ := (zac J.out.l).rd
   subst hvL
   go_wp2
   go_ret
   exact ⟨_, rfl, (zac J.out.l).wide (by omega) (Nat.le_refl _), zab BW.out (J.out.b) (by omega)⟩
end Go.Proofs.YtbbmljakfbhnpaaGreatDoor

namespace Go.Proofs.YtbbmljakfbhnpaaGreatDoor

/-- The digits of a number base 27, the first one first. -/
def zof (n : Nat) : List Nat := if _h : n = 0 then [] else zof (n / 27) ++ [n % 27]
termination_by n
decreasing_by omega
theorem zif : zof 0 = [] := by rw [zof]; simp
theorem zgy {n : Nat} (h : 0 < n) : zof n = zof (n / 27) ++ [n % 27] := by rw [zof]; simp [show n ≠ 0 by omega]

def val (ds : List Nat) : Nat := ds.foldl (fun a d => 27 * a + d) 0
theorem zlw (ds : List Nat) (d : Nat) : val (ds ++ [d]) = 27 * val ds + d := by simp [val]
theorem digs_ne {n : Nat} (h : 0 < n) : 1 ≤ (zof n).length := by rw [zgy h]; simp
theorem snoc_ind {α : Type} {P : List α → Prop} (h0 : P []) (h1 : ∀ l x, P l → P (l ++ [x])) : ∀ l, P l := by
 intro l
 have : ∀ n (l : List α), l.length = n → P l := by
  intro n
  induction n with
  | zero => intro l hl; rw [List.length_eq_zero_iff.1 hl]; exact h0
  | succ n ih =>
   intro l hl
   have hne : l ≠ [] := by intro h; subst h; simp at hl
   rw [← List.dropLast_concat_getLast hne]
   exact h1 _ _ (ih _ (by simp [hl]))
 exact this _ l rfl
theorem val_pos {ds : List Nat} (h : ∀ d ∈ ds, 1 ≤ d ∧ d < 27) (hn : ds ≠ []) : 0 < val ds := by
 rw [← List.dropLast_concat_getLast hn, zlw]
 have := (h _ (List.getLast_mem hn)).1
 omega
theorem digs_val (ds : List Nat) : (∀ d ∈ ds, 1 ≤ d ∧ d < 27) → zof (val ds) = ds := by
 refine snoc_ind (P := fun ds => (∀ d ∈ ds, 1 ≤ d ∧ d < 27) → zof (val ds) = ds) (fun _ => zif) (fun l x ih h => ?_) ds
 have hx := h x (by simp)
 rw [zlw, zgy (by omega), show (27 * val l + x) / 27 = val l by omega, show (27 * val l + x) % 27 = x by omega, ih (fun d hd => h d (by simp [hd]))]
theorem val_lt (ds : List Nat) : (∀ d ∈ ds, d < 27) → val ds < 27 ^ ds.length := by
 refine snoc_ind (P := fun ds => (∀ d ∈ ds, d < 27) → val ds < 27 ^ ds.length) (fun _ => by simp [val]) (fun l x ih h => ?_) ds
 have hx := h x (by simp)
 have := ih (fun d hd => h d (by simp [hd]))
 rw [zlw, List.length_append, List.length_singleton, Nat.pow_succ]
 omega
theorem digs_len (k : Nat) : ∀ n, n < 27 ^ k → (zof n).length ≤ k := by
 induction k with
 | zero =>
  intro n h
  have : n = 0 := by simpa using h
  subst this
  rw [zif]
  simp
 | succ k ih =>
  intro n h
  by_cases h0 : n = 0
  ·subst h0; rw [zif]; simp
  ·rw [zgy (by omega), List.length_append, List.length_singleton]
   have := ih (n / 27) (by rw [Nat.pow_succ] at h; omega)
   omega
/-- In the midst of reading digits: m is left, ds are read. -/
structure Dg (n m : Nat) (ds : List Nat) : Prop where
 eq : zof n = zof m ++ ds
 ok : ∀ d ∈ ds, 1 ≤ d ∧ d < 27
theorem Dg.start (n : Nat) : Dg n n [] := ⟨by simp, fun d h => by cases h⟩
theorem Dg.step {n m : Nat} {ds : List Nat} (h : Dg n m ds) (hm : 0 < m) (h1 : m % 27 ≠ 0) : Dg n (m / 27) (m % 27 :: ds) :=
 ⟨by rw [h.eq, zgy hm]; simp, fun d hd => by
  rcases List.mem_cons.1 hd with rfl | hd
  ·omega
  ·exact h.ok d hd⟩
theorem Dg.zero {n m : Nat} {ds : List Nat} (h : Dg n m ds) (hm : 0 < m) (h0 : m % 27 = 0) : ¬ ∀ d ∈ zof n, 1 ≤ d := fun x => by
 have := x (m % 27) (by rw [h.eq, zgy hm]; simp)
 omega
theorem Dg.many {n m : Nat} {ds : List Nat} (h : Dg n m ds) (hm : 0 < m) : ds.length < (zof n).length := by
 rw [h.eq, zgy hm]; simp; omega
theorem Dg.len {n m : Nat} {ds : List Nat} (h : Dg n m ds) : ds.length ≤ (zof n).length := by rw [h.eq]; simp
theorem Dg.done {n : Nat} {ds : List Nat} (h : Dg n 0 ds) : zof n = ds := by rw [h.eq, zif]; simp

def nmB (s : ByteArray) : Bool := decide (1 ≤ s.size ∧ s.size ≤ 6 ∧ ∀ j (h : j < s.size), 97 ≤ s[j].toNat ∧ s[j].toNat ≤ 122)
theorem zue {s : ByteArray} (h : s.size < 1) : nmB s = false := decide_eq_false (fun x => by omega)
theorem zrf {s : ByteArray} (h : 6 < s.size) : nmB s = false := decide_eq_false (fun x => by omega)
theorem zmm {s : ByteArray} {k : Nat} (h : k < s.size) (hb : ¬ (97 ≤ s[k].toNat ∧ s[k].toNat ≤ 122)) : nmB s = false := decide_eq_false (fun x => hb (x.2.2 k h))
theorem zwy {s : ByteArray} (h0 : 1 ≤ s.size) (h6 : s.size ≤ 6) (h : ∀ j (h : j < s.size), 97 ≤ s[j].toNat ∧ s[j].toNat ≤ 122) : nmB s = true := decide_eq_true ⟨h0, h6, h⟩
theorem zey {s : ByteArray} (h : nmB s = true) : 1 ≤ s.size ∧ s.size ≤ 6 ∧ ∀ j (h : j < s.size), 97 ≤ s[j].toNat ∧ s[j].toNat ≤ 122 := of_decide_eq_true h

/-- The number of the first k bytes. -/
def letD (b : UInt8) : Nat := b.toNat - 96
def zuq (s : ByteArray) : List Nat := s.data.toList.map letD
def pk (s : ByteArray) (k : Nat) : Nat := val ((zuq s).take k)
theorem zfp (s : ByteArray) : (zuq s).length = s.size := by unfold zuq; rw [List.length_map, Array.length_toList]; rfl
theorem zvq (s : ByteArray) (j : Nat) (h : j < s.size) : (zuq s)[j]'(by rw [zfp]; exact h) = s[j].toNat - 96 := by
 simp only [zuq, List.getElem_map, letD, Array.getElem_toList]
 rfl
theorem zqi (s : ByteArray) : pk s 0 = 0 := by simp [pk, val]
theorem pk_succ (s : ByteArray) (k : Nat) (h : k < s.size) : pk s (k + 1) = 27 * pk s k + (s[k].toNat - 96) := by
 unfold pk
 rw [List.take_succ_eq_append_getElem (by rw [zfp]; exact h), zlw, zvq s k h]
theorem ltrs_ok {s : ByteArray} (h : nmB s = true) : ∀ d ∈ zuq s, 1 ≤ d ∧ d < 27 := by
 intro d hd
 obtain ⟨i, hi, rfl⟩ := List.getElem_of_mem hd
 rw [zfp] at hi
 rw [zvq s i hi]
 have := (zey h).2.2 i hi
 omega
theorem pk_all {s : ByteArray} : pk s s.size = val (zuq s) := by unfold pk; rw [← zfp, List.take_length]
theorem pk_lt {s : ByteArray} {k : Nat} (hl : ∀ j (h : j < s.size), j < k → 97 ≤ s[j].toNat ∧ s[j].toNat ≤ 122) (h6 : k ≤ 6) : pk s k < 387420489 := by
 have h1 : pk s k < 27 ^ ((zuq s).take k).length := by
  unfold pk
  apply val_lt
  intro d hd
  obtain ⟨i, hi, rfl⟩ := List.getElem_of_mem hd
  simp only [List.length_take, zfp] at hi
  rw [List.getElem_take, zvq s i (by omega)]
  have := hl i (by omega) (by omega)
  omega
 have h2 : ((zuq s).take k).length ≤ 6 := by simp only [List.length_take]; omega
 have h3 : 27 ^ ((zuq s).take k).length ≤ 27 ^ 6 := Nat.pow_le_pow_right (by omega) h2
 omega

/-- The bytes of digits. -/
def zcg (ds : List Nat) : ByteArray := ⟨(ds.map fun d => UInt8.ofNat (96 + d)).toArray⟩
theorem zcd (ds : List Nat) : (zcg ds).size = ds.length := by simp [zcg, ByteArray.size]
theorem bytesOf_at (ds : List Nat) (j : Nat) (h : j < (zcg ds).size) (hd : ∀ d ∈ ds, d < 27) : (zcg ds)[j].toNat = 96 + ds[j]'(by rw [zcd] at h; exact h) := by
 have hj : j < ds.length := by rw [zcd] at h; exact h
 have := hd _ (List.getElem_mem hj)
 have e : (zcg ds)[j] = UInt8.ofNat (96 + ds[j]) := by
  have e1 : (zcg ds)[j] = ((ds.map fun d => UInt8.ofNat (96 + d)).toArray)[j]'(by simpa using hj) := rfl
  rw [e1, List.getElem_toArray, List.getElem_map]
 rw [e, UInt8.toNat_ofNat']
 omega
theorem zsv {s : ByteArray} (h : nmB s = true) : zcg (zuq s) = s := by
 obtain ⟨⟨l⟩⟩ := s
 simp only [zcg, zuq, List.map_map]
 congr 2
 have hh := (zey h).2.2
 apply List.ext_getElem
 ·simp
 ·intro i h1 h2
  simp only [List.getElem_map, Function.comp, letD]
  have := hh i h2
  have e : (ByteArray.mk ⟨l⟩)[i]'h2 = l[i]'h2 := rfl
  rw [e] at this
  have e2 : 96 + (l[i].toNat - 96) = l[i].toNat := by omega
  rw [e2, UInt8.ofNat_toNat]
theorem zsb (d : Nat) (ds : List Nat) : (⟨#[UInt8.ofNat (96 + d)]⟩ : ByteArray) ++ zcg ds = zcg (d :: ds) := by
 apply ByteArray.ext
 simp [zcg]
theorem zvr {ds : List Nat} (hd : ∀ d ∈ ds, 1 ≤ d ∧ d < 27) (h1 : 1 ≤ ds.length) (h6 : ds.length ≤ 6) : nmB (zcg ds) = true := by
 refine zwy (by rw [zcd]; exact h1) (by rw [zcd]; exact h6) (fun j h => ?_)
 rw [bytesOf_at ds j h (fun d x => (hd d x).2)]
 have := hd _ (List.getElem_mem (by rw [zcd] at h; exact h))
 omega

/-- What a number is the name of. -/
def zfb (n : Int) : Bool := decide (0 < n ∧ (∀ d ∈ zof n.toNat, 1 ≤ d) ∧ (zof n.toNat).length ≤ 6)
def zrt (n : Int) : ByteArray := if zfb n = true then zcg (zof n.toNat) else ⟨#[]⟩
def unpC (n : Int) : Int := if zfb n = true then 0 else 3
def zhw (s : ByteArray) : Int := if nmB s = true then (pk s s.size : Nat) else 0
def zog (s : ByteArray) : Int := if 65536 < s.size then 2 else if nmB s = true then 0 else 12
theorem zvk {n : Int} (h : zfb n = false) : zrt n = ⟨#[]⟩ ∧ unpC n = 3 := by unfold zrt unpC; rw [h]; exact ⟨rfl, rfl⟩
theorem zvb {n : Int} (h : ¬ 0 < n) : zfb n = false := decide_eq_false (fun x => h x.1)
theorem unp_zero {n : Nat} {m : Nat} {ds : List Nat} (h : Dg n m ds) (hm : 0 < m) (h0 : m % 27 = 0) : zfb (n : Int) = false := decide_eq_false (fun x => h.zero hm h0 x.2.1)
theorem unp_many {n : Nat} {m : Nat} {ds : List Nat} (h : Dg n m ds) (hm : 0 < m) (h6 : 6 ≤ ds.length) : zfb (n : Int) = false := decide_eq_false (fun x => by have := h.many hm; have := x.2.2; simp only [Int.toNat_natCast] at this; omega)
theorem unp_done {n : Nat} {ds : List Nat} (h : Dg n 0 ds) (hn : 0 < n) (h6 : ds.length ≤ 6) : zrt (n : Int) = zcg ds ∧ unpC (n : Int) = 0 := by
 have g : zfb (n : Int) = true := decide_eq_true ⟨by omega, by rw [Int.toNat_natCast, h.done]; exact fun d x => (h.ok d x).1, by rw [Int.toNat_natCast, h.done]; exact h6⟩
 unfold zrt unpC
 rw [if_pos g, if_pos g, Int.toNat_natCast, h.done]
 exact ⟨rfl, rfl⟩
theorem unp_pack {s : ByteArray} (h : nmB s = true) : zfb (zhw s) = true ∧ zrt (zhw s) = s := by
 have e : zhw s = ((val (zuq s) : Nat) : Int) := by unfold zhw; rw [if_pos h, pk_all]
 have hl := ltrs_ok h
 have hd : zof (val (zuq s)) = zuq s := digs_val _ hl
 have hn := zey h
 have hne : zuq s ≠ [] := by intro x; have := zfp s; rw [x] at this; simp at this; omega
 have hp := val_pos hl hne
 have g : zfb (zhw s) = true := by
  rw [e]
  refine decide_eq_true ⟨by omega, ?_, ?_⟩
  ·rw [Int.toNat_natCast, hd]; exact fun d x => (hl d x).1
  ·rw [Int.toNat_natCast, hd, zfp]; exact hn.2.1
 refine ⟨g, ?_⟩
 unfold zrt
 rw [if_pos g, e, Int.toNat_natCast, hd, zsv h]
end Go.Proofs.YtbbmljakfbhnpaaGreatDoor

namespace Go.Proofs.YtbbmljakfbhnpaaGreatDoor
open Go.RowKit

theorem ret_si {a b : ByteArray} {c d : Int} (h : a = b) (k : c = d) : Ending.returned (.tuple #[.string a, .int .i64 c]) = .returned (.tuple #[.string b, .int .i64 d]) := by rw [h, k]
theorem ret_sb {a b : ByteArray} {c d : Bool} (h : a = b) (k : c = d) : Ending.returned (.tuple #[.string a, .bool c]) = .returned (.tuple #[.string b, .bool d]) := by rw [h, k]

theorem l01Six_yes (n : Int) (w : World) (h : 1 ≤ n ∧ n ≤ 6) : Calls Tryz.prog 45 #[.int .i64 n, .int .i64 1, .int .i64 6] w fun e w' => e = .returned (.bool true) ∧ w' = w := by
 obtain ⟨h1, h2⟩ := h
 go_enter Tryz.func45, Tryz.ntmps45
 go_wp2
 go_ret
 exact ⟨rfl, rfl⟩

theorem l01Six_no (n : Int) (w : World) (h : ¬ (1 ≤ n ∧ n ≤ 6)) : Calls Tryz.prog 45 #[.int .i64 n, .int .i64 1, .int .i64 6] w fun e w' => e = .returned (.bool false) ∧ w' = w := by
 rcases (show ¬ 1 ≤ n ∨ (1 ≤ n ∧ ¬ n ≤ 6) by omega) with h1 | ⟨h1, h2⟩
 all_goals
  clear h
  go_enter Tryz.func45, Tryz.ntmps45
  go_wp2
  go_ret
  exact ⟨rfl, rfl⟩

set_option maxHeartbeats 1000000 in
theorem zhy (s : ByteArray) (w : World) (hs : s.size ≤ maxLen) : Calls Tryz.prog 51 #[.string s] w fun e w' => e = .returned (.bool (nmB s)) ∧ w' = w := by
 unfold maxLen at hs
 by_cases c : 1 ≤ s.size ∧ s.size ≤ 6
 ·have c' : 1 ≤ (s.size : Int) ∧ (s.size : Int) ≤ 6 := by omega
  have C := zaa c'
  obtain ⟨c1, c2⟩ := c
  clear c'
  go_enter Tryz.func51, Tryz.ntmps51
  go_wp2_with (go_at_call 45; refine (l01Six_yes _ _ C.out).mono ?_; rintro e w' ⟨rfl, rfl⟩)
  go_loop [3] (fun i => ∃ k : Nat, k ≤ s.size ∧ i = .int .i64 k ∧ Hid (∀ j (h : j < s.size), j < k → 97 ≤ s[j].toNat ∧ s[j].toNat ≤ 122)) (fun i => s.size - (intOf i).toNat)
  case atStart => exact ⟨0, by omega, rfl, fun j h b => absurd b (by omega)⟩
  case round =>
   obtain ⟨k, hk, rfl, H⟩ := hrel
   by_cases hlt : k < s.size
   ·rcases (show ((s[k].toNat : Int) < 97) ∨ (¬ ((s[k].toNat : Int) < 97) ∧ (122 : Int) < (s[k].toNat : Int)) ∨ (¬ ((s[k].toNat : Int) < 97) ∧ ¬ (122 : Int) < (s[k].toNat : Int)) by omega) with d | ⟨d, d'⟩ | ⟨d, d'⟩
    ·have E := zaa (zmm hlt (by omega))
     go_wp2
     go_ret
     exact ⟨zah E.out.symm, rfl⟩
    ·have E := zaa (zmm hlt (by omega))
     go_wp2
     go_ret
     exact ⟨zah E.out.symm, rfl⟩
    ·go_wp2
     go_round
     case rel =>
      refine ⟨k + 1, by omega, by go_num, fun j h b => ?_⟩
      by_cases e : j = k
      ·subst e; omega
      ·exact H.out j h (by omega)
     case measure => simp [intOf]; omega
   ·have E := zaa (zwy c1 c2 (fun j h => H.out j h (by omega)))
    go_wp2
    go_ret
    exact ⟨zah E.out.symm, rfl⟩
 ·have c' : ¬ (1 ≤ (s.size : Int) ∧ (s.size : Int) ≤ 6) := by omega
  have C := zaa c'
  have E := zaa (show nmB s = false from decide_eq_false (fun x => c ⟨x.1, x.2.1⟩))
  clear c c'
  go_enter Tryz.func51, Tryz.ntmps51
  go_wp2_with (go_at_call 45; refine (l01Six_no _ _ C.out).mono ?_; rintro e w' ⟨rfl, rfl⟩)
  go_ret
  exact ⟨zah E.out.symm, rfl⟩

theorem pack_long {s : ByteArray} (h : 65536 < s.size) : zhw s = 0 ∧ zog s = 2 := by
 unfold zhw zog
 rw [if_neg (by rw [zrf (by omega)]; simp), if_pos h]
 exact ⟨rfl, rfl⟩
theorem zlo {s : ByteArray} (h : ¬ 65536 < s.size) (h2 : nmB s = false) : zhw s = 0 ∧ zog s = 12 := by
 unfold zhw zog
 rw [h2, if_neg h]
 exact ⟨rfl, rfl⟩
theorem zrj {s : ByteArray} (h : nmB s = true) : zhw s = ((pk s s.size : Nat) : Int) ∧ zog s = 0 := by
 unfold zhw zog
 have := (zey h).2.1
 rw [if_pos h, if_neg (by omega), if_pos h]
 exact ⟨rfl, rfl⟩

set_option maxRecDepth 100000 in
set_option maxHeartbeats 4000000 in
theorem zgf (s : ByteArray) (w : World) (hs : s.size ≤ maxLen) : Calls Tryz.prog 50 #[.string s] w fun e w' => e = .returned (.tuple #[.int .i64 (zhw s), .int .i64 (zog s)]) ∧ Below w.heap.size w w' := by
 unfold maxLen at hs
 by_cases c0 : 65536 < s.size
 ·have E := zaa (pack_long c0)
  go_enter Tryz.func50, Tryz.ntmps50
  go_wp2
  go_ret2
  exact ⟨zea E.out.1.symm E.out.2.symm, Below.refl _ _⟩
 by_cases c1 : s.size < 1
 ·have E := zaa (zlo c0 (zue c1))
  go_enter Tryz.func50, Tryz.ntmps50
  go_wp2
  go_ret2
  exact ⟨zea E.out.1.symm E.out.2.symm, Below.refl _ _⟩
 by_cases c2 : 6 < s.size
 ·have E := zaa (zlo c0 (zrf c2))
  go_enter Tryz.func50, Tryz.ntmps50
  go_wp2
  go_ret2
  exact ⟨zea E.out.1.symm E.out.2.symm, Below.refl _ _⟩
 have hconv := run_bytes_of_string (P := Tryz.prog) w 9 22 5 s Tryz.underlying9 Tryz.underlying22 Tryz.underlying5
 generalize hcap : grownCap w s.size 0 5 = cap at hconv
 have CELL : Hid (∀ k (h : k < s.size), (w.drew.alloc (.cells (bytesRow s cap) 5 ((bytesRow s cap).size, (bytesRow s cap).size + 1))).cell? ⟨w.heap.size, k, none⟩ = some (.int .u8 (s[k].toNat : Int))) := fun k h => by
  have e := World.cell?_alloc_mark w.drew (bytesRow s cap) 5 ((bytesRow s cap).size, (bytesRow s cap).size + 1) k
  rw [bytesRow_at s cap k h] at e
  exact e
 have BB : Hid (Below w.heap.size w (w.drew.alloc (.cells (bytesRow s cap) 5 ((bytesRow s cap).size, (bytesRow s cap).size + 1)))) := ((Below.refl _ _).drew).alloc (Nat.le_refl _) _
 clear hcap
 generalize w.drew.alloc (.cells (bytesRow s cap) 5 ((bytesRow s cap).size, (bytesRow s cap).size + 1)) = w1 at hconv CELL BB
 go_enter Tryz.func50, Tryz.ntmps50
 go_wp2
 go_loop [4, 6, 21] (fun n _ i => ∃ k : Nat, k ≤ s.size ∧ i = .int .i64 k ∧ n = .int .i64 ((pk s k : Nat) : Int) ∧ Hid (∀ j (h : j < s.size), j < k → 97 ≤ s[j].toNat ∧ s[j].toNat ≤ 122)) (fun _ _ i => s.size - (intOf i).toNat)
 case atStart => exact ⟨0, by omega, rfl, by rw [zqi]; rfl, fun j h b => absurd b (by omega)⟩
 case round =>
  obtain ⟨k, hk, rfl, rfl, H⟩ := hrel
  by_cases hlt : k < s.size
  ·have x0 := CELL.out k hlt
   have bd : pk s k < 387420489 := pk_lt H.out (by omega)
   have SU := zaa (pk_succ s k hlt)
   have b255 : s[k].toNat < 256 := s[k].toNat_lt
   have NO := zaa (zmm (s := s) hlt)
   have NX : Hid (97 ≤ s[k].toNat ∧ s[k].toNat ≤ 122 → ∀ j (h : j < s.size), j < k + 1 → 97 ≤ s[j].toNat ∧ s[j].toNat ≤ 122) := fun hx j h b => by
    by_cases e : j = k
    ·subst e; exact hx
    ·exact H.out j h (by omega)
   generalize s[k].toNat = x at x0 SU b255 NO NX
   rcases (show ((x : Int) < 97) ∨ (¬ ((x : Int) < 97) ∧ (122 : Int) < (x : Int)) ∨ (¬ ((x : Int) < 97) ∧ ¬ (122 : Int) < (x : Int)) by omega) with d | ⟨d, d'⟩ | ⟨d, d'⟩
   ·have E := zaa (zlo c0 (NO.out (by omega)))
    go_wp2
    go_ret2
    exact ⟨zea E.out.1.symm E.out.2.symm, BB.out⟩
   ·have E := zaa (zlo c0 (NO.out (by omega)))
    go_wp2
    go_ret2
    exact ⟨zea E.out.1.symm E.out.2.symm, BB.out⟩
   ·go_wp2
    go_round
    case rel => exact ⟨k + 1, by omega, by go_num, by rw [SU.out]; congr 1; omega, NX.out (by omega)⟩
    case measure => simp [intOf]; omega
  ·have ek : k = s.size := by omega
   subst ek
   have E := zaa (zrj (zwy (s := s) (by omega) (by omega) (fun j h => H.out j h h)))
   go_wp2
   go_ret2
   exact ⟨zea E.out.1.symm E.out.2.symm, BB.out⟩

set_option maxRecDepth 100000 in
set_option maxHeartbeats 4000000 in
theorem zvt (s : ByteArray) (w : World) (hs : nmB s = true) : Calls Tryz.prog 89 #[.string s] w fun e w' => e = .returned (.int .i64 ((pk s s.size : Nat) : Int)) ∧ w' = w := by
 have N := zaa (zey hs)
 have h6 : s.size ≤ 6 := (zey hs).2.1
 clear hs
 go_enter Tryz.func89, Tryz.ntmps89
 go_wp2
 go_loop [3, 4] (fun n i => ∃ k : Nat, k ≤ s.size ∧ i = .int .i64 k ∧ n = .int .i64 ((pk s k : Nat) : Int)) (fun _ i => s.size - (intOf i).toNat)
 case atStart => exact ⟨0, by omega, rfl, by rw [zqi]; rfl⟩
 case round =>
  obtain ⟨k, hk, rfl, rfl⟩ := hrel
  by_cases hlt : k < s.size
  ·have bd : pk s k < 387420489 := pk_lt (fun j h _ => N.out.2.2 j h) (by omega)
   have SU := zaa (pk_succ s k hlt)
   have b1 := N.out.2.2 k hlt
   go_wp2
   go_round
   case rel => exact ⟨k + 1, by omega, by go_num, by rw [SU.out]; congr 1; omega⟩
   case measure => simp [intOf]; omega
  ·have ek : k = s.size := by omega
   subst ek
   go_wp2
   go_ret
   exact ⟨rfl, rfl⟩

end Go.Proofs.YtbbmljakfbhnpaaGreatDoor

namespace Go.Proofs.YtbbmljakfbhnpaaGreatDoor
open Go.RowKit

/-- The updates of an inode: the code, and the list. -/
def iuC (i : Int) (x : Ino) : Int := if 0 ≤ i ∧ i ≤ 15 then (if zdm x = true then 0 else 1) else 4
def iuL (i : Int) (x : Ino) : List Se := if 0 ≤ i ∧ i ≤ 15 then (if zdm x = true then wrL i x 8 else []) else []
theorem iu_cases (i : Int) (x : Ino) : (¬ (0 ≤ i ∧ i ≤ 15) ∧ iuC i x = 4 ∧ iuL i x = []) ∨ ((0 ≤ i ∧ i ≤ 15) ∧ zdm x = false ∧ iuC i x = 1 ∧ iuL i x = []) ∨ ((0 ≤ i ∧ i ≤ 15) ∧ zdm x = true ∧ iuC i x = 0 ∧ iuL i x = wrL i x 8) := by
 unfold iuC iuL
 by_cases h : 0 ≤ i ∧ i ≤ 15
 ·cases q : zdm x
  ·exact .inr (.inl ⟨h, rfl, by rw [if_pos h, if_neg (by decide)], by rw [if_pos h, if_neg (by decide)]⟩)
  ·exact .inr (.inr ⟨h, rfl, by rw [if_pos h, if_pos rfl], by rw [if_pos h, if_pos rfl]⟩)
 ·exact .inl ⟨h, by rw [if_neg h], by rw [if_neg h]⟩
theorem zhc (w : World) (t : TypeId) (size : Nat) : Row (w.alloc (.cells #[] t)) t size w.heap.size (w.alloc (.cells #[] t)).heap.size (.slice (some ⟨w.heap.size, 0, none⟩) 0 0) 0 [] :=
 zac (World.ownsRow_lit w #[] 0 (Nat.le_refl _) (by simp [maxLen]) (by simp))
theorem Ino.all {x : Ino} {w' : World} {b : Nat} (h : ∀ j, w'.cell? ⟨b, j, none⟩ = x.cs[j]?) : w'.cell? ⟨b, 0, none⟩ = some (.int .i64 x.kind) ∧ w'.cell? ⟨b, 1, none⟩ = some (.int .i64 x.size) ∧ w'.cell? ⟨b, 2, none⟩ = some (.int .i64 x.links) ∧ w'.cell? ⟨b, 3, none⟩ = some (.int .i64 x.m0) ∧ w'.cell? ⟨b, 4, none⟩ = some (.int .i64 x.m1) ∧ w'.cell? ⟨b, 5, none⟩ = some (.int .i64 x.m2) ∧ w'.cell? ⟨b, 6, none⟩ = some (.int .i64 x.m3) ∧ w'.cell? ⟨b, 7, none⟩ = some (.int .i64 x.m4) ∧ w'.cell? ⟨b, 8, none⟩ = some (.int .i64 x.m5) ∧ w'.cell? ⟨b, 9, none⟩ = some (.int .i64 x.m6) ∧ w'.cell? ⟨b, 10, none⟩ = some (.int .i64 x.m7) := ⟨h 0, h 1, h 2, h 3, h 4, h 5, h 6, h 7, h 8, h 9, h 10⟩

set_option maxRecDepth 100000 in
set_option maxHeartbeats 2000000 in
theorem zhe (i : Int) (x : Ino) (w : World) (hr : x.R) :
  Calls Tryz.prog 10 #[.int .i64 i, x.v] w fun e w' => ∃ v', e = .returned (.tuple #[v', .int .i64 (iuC i x)]) ∧ Row w' 47 2 w.heap.size w'.heap.size v' (iuL i x).length (ses (iuL i x)) ∧ Below w.heap.size w w' := by
 have RE := zaa (fun w1 : World => And.intro (zhc w1 47 2) ((Below.refl w1.heap.size w1).alloc (Nat.le_refl _) (.cells #[] 47)))
 have LI := zaa (fun w1 => zts x w1 hr)
 have LW := zaa (fun w1 => zkl i x w1)
 have LL := zob i x 8
 have hv : x.v = .agg x.cs.toArray := rfl
 obtain ⟨W, hW⟩ : ∃ W, W = w.alloc (.cells x.cs.toArray 44) := ⟨_, rfl⟩
 have CA : Hid (∀ w', Below W.heap.size W w' → ∀ j, w'.cell? ⟨w.heap.size, j, none⟩ = x.cs[j]?) := fun w' hb j => by
  have : w'.heap[w.heap.size]? = some (.cells x.cs.toArray 44 (0, 0)) := (hb.block _ (by rw [hW]; simp)).trans (by rw [hW]; exact zag rfl)
  exact (zao (xs := x.cs) this j).1
 have BW : Hid (Below w.heap.size w W) := by rw [hW]; exact (Below.refl _ _).alloc (Nat.le_refl _) _
 have hz : w.heap.size ≤ W.heap.size := BW.out.size
 rw [hv]
 rcases iu_cases i x with ⟨c1, e1, e2⟩ | ⟨c1, c2, e1, e2⟩ | ⟨c1, c2, e1, e2⟩
 ·rw [e1, e2]
  clear e1 e2
  go_enter Tryz.func10, Tryz.ntmps10
  go_wp2_with fail
  rw [← hW]
  clear hW
  refine (zdb _ _ _ _ c1).mono ?_
  rintro e w' ⟨rfl, hw'⟩
  subst w'
  go_wp2
  go_ret2
  exact ⟨_, rfl, (RE.out _).1.wide hz (Nat.le_refl _), zab BW.out (RE.out _).2 hz⟩
 ·rw [e1, e2]
  have C1 := zaa c1
  have C2 := zaa c2
  clear e1 e2 c1 c2
  go_enter Tryz.func10, Tryz.ntmps10
  go_wp2_with fail
  rw [← hW]
  clear hW
  refine (zas _ _ _ _ C1.out).mono ?_
  rintro e w' ⟨rfl, hw'⟩
  subst w'
  obtain ⟨p0, p1, p2, p3, p4, p5, p6, p7, p8, p9, p10⟩ := Ino.all (CA.out W (Below.refl _ _))
  go_wp2_with fail
  refine (LI.out _).mono ?_
  rw [C2.out]
  rintro e w1 ⟨rfl, hb⟩
  have B1 := zaa (zab BW.out hb hz)
  clear hb p0 p1 p2 p3 p4 p5 p6 p7 p8 p9 p10
  go_wp2
  go_ret2
  exact ⟨_, rfl, (RE.out _).1.wide B1.out.size (Nat.le_refl _), zab B1.out (RE.out _).2 B1.out.size⟩
 ·rw [e1, e2]
  have C1 := zaa c1
  have C2 := zaa c2
  clear e1 e2 c1 c2
  go_enter Tryz.func10, Tryz.ntmps10
  go_wp2_with fail
  rw [← hW]
  clear hW
  refine (zas _ _ _ _ C1.out).mono ?_
  rintro e w' ⟨rfl, hw'⟩
  subst w'
  obtain ⟨p0, p1, p2, p3, p4, p5, p6, p7, p8, p9, p10⟩ := Ino.all (CA.out W (Below.refl _ _))
  go_wp2_with fail
  refine (LI.out _).mono ?_
  rw [C2.out]
  rintro e w1 ⟨rfl, hb⟩
  have B1 := zaa (zab BW.out hb hz)
  obtain ⟨d0, d1, d2, d3, d4, d5, d6, d7, d8, d9, d10⟩ := Ino.all (CA.out w1 hb)
  clear hb p0 p1 p2 p3 p4 p5 p6 p7 p8 p9 p10
  go_wp2_with fail
  refine (LW.out _ (by have := C1.out; omega)).mono ?_
  rintro e w2 ⟨v2, rfl, hr2, hb2⟩
  have R2 := zaa (hr2.wide B1.out.size (Nat.le_refl _))
  have B2 := zaa (zab B1.out hb2 B1.out.size)
  obtain ⟨-, aL, cL, hvL, -⟩ := hr2.rd
  subst hvL
  clear hr2 hb2
  go_wp2
  go_ret2
  exact ⟨_, rfl, R2.out, B2.out⟩
end Go.Proofs.YtbbmljakfbhnpaaGreatDoor
