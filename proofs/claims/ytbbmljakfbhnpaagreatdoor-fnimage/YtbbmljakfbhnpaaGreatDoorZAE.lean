/- Several texts laid together: ImK, ImL, Word, PiA, PiB. -/
import Derived.Test.YtbbmljakfbhnpaaGreatDoorZAD
import Derived.Test.YtbbmljakfbhnpaaGreatDoorZAA
import Derived.Test.YtbbmljakfbhnpaaGreatDoorZAC
import Derived.Test.YtbbmljakfbhnpaaGreatDoorZAB
namespace Go.Proofs.YtbbmljakfbhnpaaGreatDoor
open Go.RowKit

/-- A number stands in a list. -/
def zho (zs : List Int) (n : Int) : Bool := zs.contains n
theorem has_not {zs : List Int} {n : Int} (h : ∀ j (h : j < zs.length), ¬ zs[j] = n) : zho zs n = false := by
 unfold zho
 rw [List.contains_eq_any_beq, List.any_eq_false]
 intro z hz
 obtain ⟨j, hj, rfl⟩ := List.getElem_of_mem hz
 simp only [beq_iff_eq]
 exact fun e => h j hj e.symm

set_option maxRecDepth 100000 in
set_option maxHeartbeats 2000000 in
theorem l05Has_any (v : Value) (zs : List Int) (n : Int) (w : World) (h : RdI w v zs) (hn : zs.length ≤ 1048576) :
  Calls Tryz.prog 127 #[v, .int .i64 n] w fun e w' => e = .returned (.bool (zho zs n)) ∧ w' = w := by
 obtain ⟨aZ, cZ, rfl, _, hcZ⟩ := h.shape
 have HZ := zaa hcZ
 clear h hcZ
 go_enter Tryz.func127, Tryz.ntmps127
 go_wp2
 go_loop [5] (fun i => ∃ k : Nat, k ≤ zs.length ∧ i = .int .i64 k ∧ Hid (∀ j (h : j < zs.length), j < k → ¬ zs[j] = n)) (fun i => zs.length - (intOf i).toNat)
 case atStart => exact ⟨0, by omega, rfl, fun j h a => absurd a (by omega)⟩
 case round =>
  obtain ⟨k, hk, rfl, H⟩ := hrel
  by_cases hlt : k < zs.length
  ·obtain ⟨b, o, rfl, hbl, hcell⟩ := HZ.out (by omega)
   have d0 := hcell k hlt
   have k0 : (0 : Int) ≤ (k : Int) := by omega
   have k1 : (k : Int) < (zs.length : Int) := by omega
   have HY := zaa (fun e : zs[k] = n => show zho zs n = true by unfold zho; rw [← e]; exact List.contains_iff_mem.2 (List.getElem_mem hlt))
   have HX := zaa (fun (e : ¬ zs[k] = n) j (h : j < zs.length) (a : j < k + 1) => show ¬ zs[j] = n by
    by_cases q : j = k
    ·subst q; exact e
    ·exact H.out j h (by omega))
   clear hcell
   generalize zs[k] = z at *
   by_cases q : z = n
   ·have q1 : (z == n) = true := beq_iff_eq.2 q
    have E := zaa (HY.out q)
    clear q HX HY
    go_wp2
    go_ret
    exact ⟨zah E.out.symm, rfl⟩
   ·have q1 : (z == n) = false := beq_eq_false_iff_ne.2 q
    have E := zaa (HX.out q)
    clear q HX HY
    go_wp2
    go_round
    case rel => exact ⟨k + 1, by omega, by go_num, E⟩
    case measure => simp [intOf]; omega
  ·obtain rfl : k = zs.length := by omega
   have E := zaa (has_not (fun j h => H.out j h h))
   go_wp2
   go_ret
   exact ⟨zah E.out.symm, rfl⟩

/-- The directory that one stands in, -1 of one that stands in none. -/
def upD (ds : List Den) (c : Int) : Int := ((ds.find? fun x => x.child == c).map Den.dir).getD (-1)
theorem upD_no {ds : List Den} {c : Int} (h : ∀ j (h : j < ds.length), ¬ ds[j].child = c) : upD ds c = -1 := by
 unfold upD
 rw [List.find?_eq_none.2]
 ·rfl
 ·intro x hx
  obtain ⟨j, hj, rfl⟩ := List.getElem_of_mem hx
  simp only [beq_iff_eq]
  exact h j hj
theorem upD_yes {ds : List Den} {c : Int} {k : Nat} (hk : k < ds.length) (h : ∀ j (h : j < ds.length), j < k → ¬ ds[j].child = c) (e : ds[k].child = c) : upD ds c = ds[k].dir := by
 unfold upD
 have : ds.find? (fun x => x.child == c) = some ds[k] := List.find?_eq_some_iff_getElem.2 ⟨beq_iff_eq.2 e, k, hk, rfl, fun j hj => by
  have := h j (by omega) hj
  simp [this]⟩
 rw [this]
 rfl

set_option maxRecDepth 100000 in
set_option maxHeartbeats 2000000 in
theorem l05Up_any (v : Value) (ws : List Ino) (ps : List Den) (c : Int) (w : World) (h : RdIm w v ws ps) (hn : ps.length ≤ 1048576) :
  Calls Tryz.prog 168 #[v, .int .i64 c] w fun e w' => e = .returned (.int .i64 (upD ps c)) ∧ Below w.heap.size w w' := by
 obtain ⟨vW, vP, rfl, h1, h2⟩ := h
 obtain ⟨aW, cW, rfl, _⟩ := h1.shape
 obtain ⟨aP, cP, rfl, _, hcP⟩ := h2.shape
 have HZ := zaa hcP
 clear h1 h2 hcP
 obtain ⟨W, hW⟩ : ∃ W, W = w.alloc (.cells #[.slice aW ws.length cW, .slice aP ps.length cP] 26) := ⟨_, rfl⟩
 have CA : Hid (∀ w', Below W.heap.size W w' → w'.cell? ⟨w.heap.size, 1, none⟩ = some (.slice aP ps.length cP)) := fun w' hb => by
  have : w'.heap[w.heap.size]? = some (.cells #[.slice aW ws.length cW, .slice aP ps.length cP] 26 (0, 0)) := (hb.block _ (by rw [hW]; simp)).trans (by rw [hW]; exact zag rfl)
  exact (zad this).2.1
 have BW : Hid (Below w.heap.size w W) := by rw [hW]; exact (Below.refl _ _).alloc (Nat.le_refl _) _
 have hz : w.heap.size ≤ W.heap.size := BW.out.size
 go_enter Tryz.func168, Tryz.ntmps168
 go_wp2
 rw [← hW]
 clear hW
 go_loopw [5] (fun i wr => ∃ k : Nat, k ≤ ps.length ∧ i = .int .i64 k ∧ Hid (Below W.heap.size W wr ∧ ∀ j (h : j < ps.length), j < k → ¬ ps[j].child = c)) (fun i _ => ps.length - (intOf i).toNat)
 case atStart => exact ⟨0, by omega, rfl, Below.refl _ _, fun j h a => absurd a (by omega)⟩
 case round =>
  obtain ⟨k, hk, rfl, J⟩ := hrel
  have x1 := CA.out wr J.out.1
  by_cases hlt : k < ps.length
  ·obtain ⟨b, o, rfl, hbl, hcell⟩ := HZ.out (by omega)
   have BR := zab BW.out J.out.1 hz
   obtain ⟨c0, c1, c2⟩ := hcell k hlt
   have d0 := (BR.cell (p := ⟨b, o + k * 3, none⟩) hbl).trans c0
   have d2 := (BR.cell (p := ⟨b, o + k * 3 + 2, none⟩) hbl).trans c2
   have B := zaa BR
   have k0 : (0 : Int) ≤ (k : Int) := by omega
   have k1 : (k : Int) < (ps.length : Int) := by omega
   have HY := zaa (fun e : ps[k].child = c => upD_yes hlt J.out.2 e)
   have HX := zaa (fun (e : ¬ ps[k].child = c) j (h : j < ps.length) (a : j < k + 1) => show ¬ ps[j].child = c by
    by_cases q : j = k
    ·subst q; exact e
    ·exact J.out.2 j h (by omega))
   clear hcell c0 c1 c2 BR
   generalize ps[k].child = z at *
   generalize ps[k].dir = y at *
   by_cases q : z = c
   ·have q1 : (z == c) = true := beq_iff_eq.2 q
    have E := zaa (HY.out q)
    clear q HX HY
    go_wp2
    go_ret
    exact ⟨zcw E.out.symm, B.out⟩
   ·have q1 : (z == c) = false := beq_eq_false_iff_ne.2 q
    have E : Hid (Below W.heap.size W wr ∧ ∀ j (h : j < ps.length), j < k + 1 → ¬ ps[j].child = c) := ⟨J.out.1, HX.out q⟩
    clear q HX HY
    go_wp2
    go_roundw
    case rel => exact ⟨k + 1, by omega, by go_num, E⟩
    case measure => simp [intOf]; omega
  ·obtain rfl : k = ps.length := by omega
   have E := zaa (upD_no (fun j h => J.out.2 j h h))
   go_wp2
   go_ret
   exact ⟨zcw E.out.symm, zab BW.out J.out.1 hz⟩

/-- One hangs on the root within n steps up. -/
def hangs (ds : List Den) : Nat → Int → Bool
 | 0, _ => false
 | n + 1, d => if d = 0 then true else if upD ds d < 0 then false else hangs ds n (upD ds d)

end Go.Proofs.YtbbmljakfbhnpaaGreatDoor

namespace Go.Proofs.YtbbmljakfbhnpaaGreatDoor
open Go.RowKit

/-- How many of the first entries lead to an inode. -/
def zvf (ds : List Den) (c : Int) (k : Nat) : Nat := ((ds.take k).filter fun x => x.child == c).length
theorem zsm {ds : List Den} {c : Int} {k : Nat} (h : k < ds.length) : zvf ds c (k + 1) = zvf ds c k + (if (ds[k].child == c) = true then 1 else 0) := by
 unfold zvf
 rw [List.take_succ_eq_append_getElem h, List.filter_append, List.length_append]
 congr 1
 cases q : ds[k].child == c <;> simp [List.filter, q]
theorem cntD_le (ds : List Den) (c : Int) (k : Nat) : zvf ds c k ≤ k := by
 unfold zvf
 exact Nat.le_trans (List.length_filter_le _ _) (by simp; omega)
/-- The links of one inode are right. -/
def zqd (ps : List Den) (i : Nat) (x : Ino) : Bool := decide ((if i = 0 then 1 else 0) + (zvf ps i ps.length : Int) = x.links) && (decide (¬ x.kind = 2) || hangs ps 16 i)
/-- The links are right. -/
def zsu (ws : List Ino) (ps : List Den) : Bool := decide (∀ i (h : i < ws.length), zqd ps i ws[i] = true)
end Go.Proofs.YtbbmljakfbhnpaaGreatDoor

namespace Go.Proofs.YtbbmljakfbhnpaaGreatDoor
open Go.RowKit

def zbb (n : Int) : Bool := decide (0 ≤ n ∧ n < 1099511627776)
def zer (n : Int) : Bool := decide (0 ≤ n ∧ n < 336)
def secB (n : Int) : Bool := decide (0 ≤ n ∧ n < 32)
theorem secB_true {n : Int} (h : secB n = true) : 0 ≤ n ∧ n < 32 := of_decide_eq_true h
theorem zni {n : Int} (h : zer n = true) : 0 ≤ n ∧ n < 336 := of_decide_eq_true h

theorem zjj (n : Int) (w : World) : Calls Tryz.prog 98 #[.int .i64 n] w fun e w' => e = .returned (.bool (zbb n)) ∧ w' = w := by
 by_cases h0 : 0 ≤ n
 ·by_cases h1 : n < 1099511627776
  ·have e : zbb n = true := decide_eq_true ⟨h0, h1⟩
   rw [e]; clear e
   go_enter Tryz.func98, Tryz.ntmps98
   go_wp2
   go_ret
   exact ⟨rfl, rfl⟩
  ·have e : zbb n = false := decide_eq_false (fun h => h1 h.2)
   rw [e]; clear e
   go_enter Tryz.func98, Tryz.ntmps98
   go_wp2
   go_ret
   exact ⟨rfl, rfl⟩
 ·have e : zbb n = false := decide_eq_false (fun h => h0 h.1)
  rw [e]; clear e
  go_enter Tryz.func98, Tryz.ntmps98
  go_wp2
  go_ret
  exact ⟨rfl, rfl⟩

theorem zmi (n : Int) (w : World) : Calls Tryz.prog 139 #[.int .i64 n] w fun e w' => e = .returned (.bool (zer n)) ∧ w' = w := by
 by_cases h0 : 0 ≤ n
 ·by_cases h1 : n < 336
  ·have e : zer n = true := decide_eq_true ⟨h0, h1⟩
   rw [e]; clear e
   go_enter Tryz.func139, Tryz.ntmps139
   go_wp2
   go_ret
   exact ⟨rfl, rfl⟩
  ·have e : zer n = false := decide_eq_false (fun h => h1 h.2)
   rw [e]; clear e
   go_enter Tryz.func139, Tryz.ntmps139
   go_wp2
   go_ret
   exact ⟨rfl, rfl⟩
 ·have e : zer n = false := decide_eq_false (fun h => h0 h.1)
  rw [e]; clear e
  go_enter Tryz.func139, Tryz.ntmps139
  go_wp2
  go_ret
  exact ⟨rfl, rfl⟩

def inB (n lo hi : Int) : Bool := decide (lo ≤ n ∧ n ≤ hi)
theorem l01In_any (n lo hi : Int) (w : World) : Calls Tryz.prog 45 #[.int .i64 n, .int .i64 lo, .int .i64 hi] w fun e w' => e = .returned (.bool (inB n lo hi)) ∧ w' = w := by
 by_cases h0 : lo ≤ n
 ·by_cases h1 : n ≤ hi
  ·have e : inB n lo hi = true := decide_eq_true ⟨h0, h1⟩
   rw [e]; clear e
   go_enter Tryz.func45, Tryz.ntmps45
   go_wp2
   go_ret
   exact ⟨rfl, rfl⟩
  ·have e : inB n lo hi = false := decide_eq_false (fun h => h1 h.2)
   rw [e]; clear e
   go_enter Tryz.func45, Tryz.ntmps45
   go_wp2
   go_ret
   exact ⟨rfl, rfl⟩
 ·have e : inB n lo hi = false := decide_eq_false (fun h => h0 h.1)
  rw [e]; clear e
  go_enter Tryz.func45, Tryz.ntmps45
  go_wp2
  go_ret
  exact ⟨rfl, rfl⟩
theorem inB_word (n : Int) : inB n 0 1099511627775 = zbb n := by
 unfold inB zbb
 rw [decide_eq_decide]
 omega
theorem zwi (n : Int) (w : World) : Calls Tryz.prog 217 #[.int .i64 n] w fun e w' => e = .returned (.bool (zbb n)) ∧ w' = w := by
 have E := zaa (inB_word n)
 go_enter Tryz.func217, Tryz.ntmps217
 go_wp2_with fail
 refine (l01In_any n 0 1099511627775 _).mono ?_
 rw [E.out]
 rintro e w' ⟨rfl, rfl⟩
 go_wp2
 go_ret
 exact ⟨rfl, rfl⟩

/-- All are words. -/
def zke (zs : List Int) : Bool := decide (∀ k (h : k < zs.length), zbb zs[k] = true)
theorem zwa {zs : List Int} (h : zke zs = true) : ∀ k (h : k < zs.length), zbb zs[k] = true := of_decide_eq_true h
theorem zua {zs : List Int} (h : ∀ k (h : k < zs.length), zbb zs[k] = true) : zke zs = true := decide_eq_true h
theorem wordsB_not {zs : List Int} {k : Nat} (hk : k < zs.length) (h : zbb zs[k] = false) : zke zs = false := decide_eq_false (fun x => by have := x k hk; rw [h] at this; cases this)
theorem wordsB_ex {zs : List Int} (h : zke zs = false) : ∃ k, ∃ h : k < zs.length, zbb zs[k] = false := by
 apply Classical.byContradiction
 intro hn
 have : zke zs = true := zua (fun k hk => by
  cases e : zbb zs[k] with
  | true => rfl
  | false => exact absurd ⟨k, hk, e⟩ hn)
 rw [h] at this
 cases this

end Go.Proofs.YtbbmljakfbhnpaaGreatDoor

namespace Go.Proofs.YtbbmljakfbhnpaaGreatDoor
open Go.RowKit

/-- An inode's eleven numbers. -/
def Ino.ns (x : Ino) : List Int := [x.kind, x.size, x.links, x.m0, x.m1, x.m2, x.m3, x.m4, x.m5, x.m6, x.m7]
/-- All numbers are entries; all are nought. -/
def zvg (zs : List Int) : Bool := decide (∀ k (h : k < zs.length), zdz zs[k] = true)
def nowsB (zs : List Int) : Bool := decide (∀ k (h : k < zs.length), (zs[k] == 0) = true)
/-- A file's inode, as the program asks it. -/
def zhx (x : Ino) : Bool := decide (x.kind = 1) && (decide (1 ≤ x.links ∧ x.links ≤ 24) && (decide (0 ≤ x.size ∧ x.size < 9) && (zvg (x.map.take x.size.toNat) && nowsB (x.map.drop x.size.toNat))))
theorem zul : zdz 0 = true := by decide
theorem ino_empty {x : Ino} (h : x.ns = [0, 0, 0, 0, 0, 0, 0, 0, 0, 0, 0]) : zdm x = true := by
 obtain ⟨k, s, l, m0, m1, m2, m3, m4, m5, m6, m7⟩ := x
 simp only [Ino.ns, List.cons.injEq, and_true] at h
 obtain ⟨rfl, rfl, rfl, rfl, rfl, rfl, rfl, rfl, rfl, rfl, rfl⟩ := h
 decide
theorem ino_dir {x : Ino} (h : x.ns = [2, 0, 1, 0, 0, 0, 0, 0, 0, 0, 0]) : zdm x = true := by
 obtain ⟨k, s, l, m0, m1, m2, m3, m4, m5, m6, m7⟩ := x
 simp only [Ino.ns, List.cons.injEq, and_true] at h
 obtain ⟨rfl, rfl, rfl, rfl, rfl, rfl, rfl, rfl, rfl, rfl, rfl⟩ := h
 decide
theorem map_parts {x : Ino} (h0 : 0 ≤ x.size) (h8 : x.size ≤ 8) : mapB x.map x.size = (zvg (x.map.take x.size.toNat) && nowsB (x.map.drop x.size.toNat)) := by
 rw [Bool.eq_iff_iff, Bool.and_eq_true]
 have hl : x.map.length = 8 := rfl
 have hg : ∀ i (h : i < 8), x.map.getD i 0 = x.map[i]'(by rw [hl]; exact h) := fun i h => by
  rw [List.getD_eq_getElem?_getD, List.getElem?_eq_getElem (by rw [hl]; exact h)]; rfl
 constructor
 ·intro h
  have h := zia h
  refine ⟨decide_eq_true fun k hk => ?_, decide_eq_true fun k hk => ?_⟩
  ·rw [List.length_take, hl] at hk
   have := h k (by omega)
   rw [hg k (by omega)] at this
   rw [List.getElem_take]
   unfold zoy at this
   exact (Bool.and_eq_true _ _ ▸ this : _ ∧ _).1
  ·rw [List.length_drop, hl] at hk
   have := h (x.size.toNat + k) (by omega)
   rw [hg _ (by omega)] at this
   rw [List.getElem_drop]
   unfold zoy at this
   have := (Bool.and_eq_true _ _ ▸ this : _ ∧ _).2
   rw [Bool.or_eq_true] at this
   rcases this with h1 | h1
   ·exact h1
   ·have := of_decide_eq_true h1
    omega
 ·rintro ⟨h1, h2⟩
  have h1 := of_decide_eq_true h1
  have h2 := of_decide_eq_true h2
  refine zrc fun i hi => ?_
  rw [hg i hi]
  unfold zoy
  rw [Bool.and_eq_true, Bool.or_eq_true]
  by_cases hs : i < x.size.toNat
  ·have := h1 i (by rw [List.length_take, hl]; omega)
   rw [List.getElem_take] at this
   exact ⟨this, .inr (decide_eq_true (by omega))⟩
  ·have := h2 (i - x.size.toNat) (by rw [List.length_drop, hl]; omega)
   rw [List.getElem_drop] at this
   have e : x.size.toNat + (i - x.size.toNat) = i := by omega
   simp only [e] at this
   exact ⟨by rw [eq_of_beq this]; exact zul, .inl this⟩
theorem map_nought {x : Ino} (h0 : x.size = 0) (h : mapB x.map x.size = true) : x.map = [0, 0, 0, 0, 0, 0, 0, 0] := by
 have h := zia h
 have g : ∀ i, i < 8 → x.map.getD i 0 = 0 := fun i hi => by
  have := h i hi
  unfold zoy at this
  have := (Bool.and_eq_true _ _ ▸ this : _ ∧ _).2
  rw [Bool.or_eq_true] at this
  rcases this with h1 | h1
  ·exact eq_of_beq h1
  ·have := of_decide_eq_true h1; omega
 have a0 := g 0 (by omega); have a1 := g 1 (by omega); have a2 := g 2 (by omega); have a3 := g 3 (by omega); have a4 := g 4 (by omega); have a5 := g 5 (by omega); have a6 := g 6 (by omega); have a7 := g 7 (by omega)
 simp [Ino.map] at *
 exact ⟨a0, a1, a2, a3, a4, a5, a6, a7⟩
theorem ino_file {x : Ino} (h0 : ¬ x.ns = [0, 0, 0, 0, 0, 0, 0, 0, 0, 0, 0]) (h1 : ¬ x.ns = [2, 0, 1, 0, 0, 0, 0, 0, 0, 0, 0]) : zhx x = zdm x := by
 by_cases hk : x.kind = 1
 ·unfold zhx zdm
  rw [decide_eq_true hk, decide_eq_true (show 0 ≤ x.kind ∧ x.kind ≤ 2 by omega)]
  simp only [Bool.true_and]
  by_cases hs : 0 ≤ x.size ∧ x.size ≤ 8
  ·rw [decide_eq_true hs, decide_eq_true (show 0 ≤ x.size ∧ x.size < 9 by omega), ← map_parts hs.1 hs.2]
   have e : zej x = decide (0 < x.links) := by unfold zej; rw [if_neg (by omega), if_neg (by omega)]
   rw [e]
   by_cases hl : 1 ≤ x.links ∧ x.links ≤ 24
   ·rw [decide_eq_true hl, decide_eq_true (show 0 ≤ x.links ∧ x.links ≤ 24 by omega), decide_eq_true (show 0 < x.links by omega)]; simp
   ·rw [decide_eq_false hl]
    by_cases h3 : 0 < x.links
    ·rw [decide_eq_false (show ¬ (0 ≤ x.links ∧ x.links ≤ 24) by omega)]; simp
    ·rw [decide_eq_false h3]; simp
  ·rw [decide_eq_false hs, decide_eq_false (show ¬ (0 ≤ x.size ∧ x.size < 9) by omega)]; simp
 ·have e1 : zhx x = false := by unfold zhx; rw [decide_eq_false hk]; rfl
  rw [e1, eq_comm, Bool.eq_false_iff]
  intro e
  unfold zdm at e
  simp only [Bool.and_eq_true, decide_eq_true_eq] at e
  obtain ⟨a, b, c, d, f⟩ := e
  unfold zej at f
  by_cases k0 : x.kind = 0
  ·rw [if_pos k0] at f
   obtain ⟨f1, f2, f3⟩ := of_decide_eq_true f
   apply h0
   simp only [Ino.map, List.cons.injEq, and_true] at f3
   simp [Ino.ns, k0, f1, f2, f3]
  ·rw [if_neg k0, if_pos (by omega)] at f
   simp only [Bool.and_eq_true, beq_iff_eq] at f
   have f3 := map_nought f.1 d
   apply h1
   simp only [Ino.map, List.cons.injEq, and_true] at f3
   have k2 : x.kind = 2 := by omega
   simp [Ino.ns, k2, f.1, f.2, f3]

/-- The variable of an empty directory lies as the program's start has laid it. -/
def ED (w : World) : Prop := ∃ t fr, w.heap[0]? = some (.cells #[.int .i64 2, .int .i64 0, .int .i64 1, .int .i64 0, .int .i64 0, .int .i64 0, .int .i64 0, .int .i64 0, .int .i64 0, .int .i64 0, .int .i64 0] t fr)
theorem ED.lt {w : World} (h : ED w) : 0 < w.heap.size := by
 obtain ⟨t, fr, h⟩ := h
 exact (Array.getElem?_eq_some_iff.1 h).1
theorem ED.below {w w' : World} (h : ED w) (hb : Below w.heap.size w w') : ED w' := by
 have hl := h.lt
 obtain ⟨t, fr, h⟩ := h
 exact ⟨t, fr, (hb.block _ hl).trans h⟩
theorem ED.cells {w : World} (h : ED w) : w.cell? ⟨0, 0, none⟩ = some (.int .i64 2) ∧ w.cell? ⟨0, 1, none⟩ = some (.int .i64 0) ∧ w.cell? ⟨0, 2, none⟩ = some (.int .i64 1) ∧ w.cell? ⟨0, 3, none⟩ = some (.int .i64 0) ∧ w.cell? ⟨0, 4, none⟩ = some (.int .i64 0) ∧ w.cell? ⟨0, 5, none⟩ = some (.int .i64 0) ∧ w.cell? ⟨0, 6, none⟩ = some (.int .i64 0) ∧ w.cell? ⟨0, 7, none⟩ = some (.int .i64 0) ∧ w.cell? ⟨0, 8, none⟩ = some (.int .i64 0) ∧ w.cell? ⟨0, 9, none⟩ = some (.int .i64 0) ∧ w.cell? ⟨0, 10, none⟩ = some (.int .i64 0) := by
 obtain ⟨t, fr, h⟩ := h
 simp [World.cell?, h]

theorem zmo (n : Int) (w : World) (hT : TS w) (h0 : -9223372036854775808 ≤ n) (h1 : n ≤ 9223372036854775807) : Calls Tryz.prog 122 #[.int .i64 n] w fun e w' => e = .returned (.bool (zdz n)) ∧ w' = w := by
 have T := zaa hT
 clear hT
 cases c : zdz n with
 | true =>
  have E := zaa (tie_in c).2.2
  clear c
  go_enter Tryz.func122, Tryz.ntmps122
  go_wp2_with (go_at_call 56; refine (zhk _ _ T.out h0 h1).mono ?_; rw [E.out]; rintro e w' ⟨rfl, rfl⟩)
  go_ret
  exact ⟨rfl, rfl⟩
 | false =>
  have E := zaa (zvv c).2.2
  clear c
  go_enter Tryz.func122, Tryz.ntmps122
  go_wp2_with (go_at_call 56; refine (zhk _ _ T.out h0 h1).mono ?_; rw [E.out]; rintro e w' ⟨rfl, rfl⟩)
  go_ret
  exact ⟨rfl, rfl⟩

theorem zih (n : Int) (w : World) : Calls Tryz.prog 123 #[.int .i64 n] w fun e w' => e = .returned (.bool (n == 0)) ∧ w' = w := by
 go_enter Tryz.func123, Tryz.ntmps123
 go_wp2
 go_ret
 exact ⟨rfl, rfl⟩

theorem tiesB_mk {zs : List Int} (h : ∀ k (h : k < zs.length), zdz zs[k] = true) : zvg zs = true := decide_eq_true h
theorem tiesB_not {zs : List Int} {k : Nat} (hk : k < zs.length) (h : zdz zs[k] = false) : zvg zs = false := decide_eq_false (fun x => by have := x k hk; rw [h] at this; cases this)
theorem nowsB_mk {zs : List Int} (h : ∀ k (h : k < zs.length), (zs[k] == 0) = true) : nowsB zs = true := decide_eq_true h
theorem nowsB_not {zs : List Int} {k : Nat} (hk : k < zs.length) (h : (zs[k] == 0) = false) : nowsB zs = false := decide_eq_false (fun x => by have := x k hk; rw [h] at this; cases this)

set_option maxHeartbeats 2000000 in
theorem zhh (v : Value) (zs : List Int) (w : World) (h : RdI w v zs) (hn : zs.length ≤ 2147483648) (hT : TS w) (hr : ∀ k (h : k < zs.length), -9223372036854775808 ≤ zs[k] ∧ zs[k] ≤ 9223372036854775807) :
  Calls Tryz.prog 97 #[v, .func (.func 122) #[] #[]] w fun e w' => e = .returned (.bool (zvg zs)) ∧ w' = w := by
 have T := zaa hT
 have HR := zaa hr
 clear hT hr
 obtain ⟨ao, cap, rfl, _, hc⟩ := h.shape
 clear h
 go_enter Tryz.func97, Tryz.ntmps97
 go_wp2
 go_loop [6, 9] (fun _ i => ∃ k : Nat, k ≤ zs.length ∧ i = .int .i64 k ∧ Hid (∀ j (h : j < zs.length), j < k → zdz zs[j] = true)) (fun _ i => zs.length - (intOf i).toNat)
 case atStart => exact ⟨0, by omega, rfl, fun j h a => absurd a (by omega)⟩
 case round =>
  obtain ⟨k, hk, rfl, H⟩ := hrel
  by_cases hlt : k < zs.length
  ·obtain ⟨b, o, rfl, hbl, hcell⟩ := hc (by omega)
   have hck := hcell k hlt
   obtain ⟨r0, r1⟩ := HR.out k hlt
   clear hcell hc
   by_cases q : zdz zs[k] = true
   ·go_wp2_with (go_at_call 122; refine (zmo _ _ T.out r0 r1).mono ?_; rintro e w' ⟨rfl, rfl⟩)
    go_round
    case rel =>
     refine ⟨k + 1, by omega, by go_num, fun j h a => ?_⟩
     by_cases e : j = k
     ·subst e; exact q
     ·exact H.out j h (by omega)
    case measure => simp [intOf]; omega
   ·have q' : zdz zs[k] = false := by simpa using q
    have E := zaa (tiesB_not hlt q')
    go_wp2_with (go_at_call 122; refine (zmo _ _ T.out r0 r1).mono ?_; rintro e w' ⟨rfl, rfl⟩)
    go_ret
    exact ⟨zah E.out.symm, rfl⟩
  ·have E := zaa (tiesB_mk (fun j h => H.out j h (by omega)))
   clear H
   go_wp2
   go_ret
   exact ⟨zah E.out.symm, rfl⟩

set_option maxHeartbeats 2000000 in
theorem zkz (v : Value) (zs : List Int) (w : World) (h : RdI w v zs) (hn : zs.length ≤ 2147483648) :
  Calls Tryz.prog 97 #[v, .func (.func 123) #[] #[]] w fun e w' => e = .returned (.bool (nowsB zs)) ∧ w' = w := by
 obtain ⟨ao, cap, rfl, _, hc⟩ := h.shape
 clear h
 go_enter Tryz.func97, Tryz.ntmps97
 go_wp2
 go_loop [6, 9] (fun _ i => ∃ k : Nat, k ≤ zs.length ∧ i = .int .i64 k ∧ Hid (∀ j (h : j < zs.length), j < k → (zs[j] == 0) = true)) (fun _ i => zs.length - (intOf i).toNat)
 case atStart => exact ⟨0, by omega, rfl, fun j h a => absurd a (by omega)⟩
 case round =>
  obtain ⟨k, hk, rfl, H⟩ := hrel
  by_cases hlt : k < zs.length
  ·obtain ⟨b, o, rfl, hbl, hcell⟩ := hc (by omega)
   have hck := hcell k hlt
   clear hcell hc
   by_cases q : (zs[k] == 0) = true
   ·go_wp2_with (go_at_call 123; refine (zih _ _).mono ?_; rintro e w' ⟨rfl, rfl⟩)
    go_round
    case rel =>
     refine ⟨k + 1, by omega, by go_num, fun j h a => ?_⟩
     by_cases e : j = k
     ·subst e; exact q
     ·exact H.out j h (by omega)
    case measure => simp [intOf]; omega
   ·have q' : (zs[k] == 0) = false := by simpa using q
    have E := zaa (nowsB_not hlt q')
    go_wp2_with (go_at_call 123; refine (zih _ _).mono ?_; rintro e w' ⟨rfl, rfl⟩)
    go_ret
    exact ⟨zah E.out.symm, rfl⟩
  ·have E := zaa (nowsB_mk (fun j h => H.out j h (by omega)))
   clear H
   go_wp2
   go_ret
   exact ⟨zah E.out.symm, rfl⟩
end Go.Proofs.YtbbmljakfbhnpaaGreatDoor

namespace Go.Proofs.YtbbmljakfbhnpaaGreatDoor
open Go.RowKit

/-- A part of an inode's map, as a slice. -/
theorem mapHead (w : World) (b n : Nat) (hn : n ≤ 8) : (Instr.sliceAt 42 (.pointer (some ⟨b, 3, none⟩)) none (some (.int .i64 (n : Int))) none).run Tryz.prog w = .ok (.slice (some ⟨b, 3, none⟩) n 8) w := by
 have al : Tryz.prog.arrayLen 42 = 8 := by kernel_rfl
 rw [run_sliceAt_array_h w 42 ⟨b, 3, none⟩ (by kernel_rfl) .i64 (n : Int) (by omega) (by rw [al]; omega), al]
 have sz : (sizeOf (Tryz.prog.elem 42)).run Tryz.prog w = .ok 1 w := by kernel_rfl
 rw [sz]
 simp [Result.andThen, slicedAt, Addr.add]
theorem mapTail (w : World) (b n : Nat) (hn : n ≤ 8) : (Instr.sliceAt 42 (.pointer (some ⟨b, 3, none⟩)) (some (.int .i64 (n : Int))) none none).run Tryz.prog w = .ok (.slice (some (if n = 8 then ⟨b, 3, none⟩ else ⟨b, 3 + n, none⟩)) (8 - n) (8 - n)) w := by
 have al : Tryz.prog.arrayLen 42 = 8 := by kernel_rfl
 rw [run_sliceAt_array_l w 42 ⟨b, 3, none⟩ (by kernel_rfl) .i64 (n : Int) (by omega) (by rw [al]; omega), al]
 have sz : (sizeOf (Tryz.prog.elem 42)).run Tryz.prog w = .ok 1 w := by kernel_rfl
 rw [sz]
 by_cases h : n = 8
 ·subst h
  simp [Result.andThen, slicedAt]
 ·have h' : ¬ 8 = n := by omega
  simp only [Result.andThen, slicedAt]
  rw [if_neg (by omega), if_neg h]
  simp [Addr.add]
theorem Ino.cs_map (x : Ino) (k : Nat) (hk : k < 8) : x.cs[3 + k]? = some (.int .i64 (x.map[k]'(by rw [x.len]; exact hk))) := by
 rcases (show k = 0 ∨ k = 1 ∨ k = 2 ∨ k = 3 ∨ k = 4 ∨ k = 5 ∨ k = 6 ∨ k = 7 by omega) with rfl | rfl | rfl | rfl | rfl | rfl | rfl | rfl <;> rfl
theorem map_head {x : Ino} {w : World} {b n : Nat} (hn : n ≤ 8) (hb : b < w.heap.size) (h : ∀ j, w.cell? ⟨b, j, none⟩ = x.cs[j]?) : RdI w (.slice (some ⟨b, 3, none⟩) n 8) (x.map.take n) := by
 have hl : (x.map.take n).length = n := by rw [List.length_take, x.len]; omega
 refine ⟨by rw [zda, Nat.mul_one], some ⟨b, 3, none⟩, 8, by rw [hl], ⟨by omega, fun e => by cases e⟩, fun _ => ⟨b, 3, rfl, hb, fun j hj => ?_⟩⟩
 rw [hl, Nat.mul_one] at hj
 rw [h, x.cs_map j (by omega), zcq _ _ (by omega), List.getElem_take]
theorem map_tail {x : Ino} {w : World} {b n : Nat} (hn : n ≤ 8) (hb : b < w.heap.size) (h : ∀ j, w.cell? ⟨b, j, none⟩ = x.cs[j]?) : RdI w (.slice (some (if n = 8 then ⟨b, 3, none⟩ else ⟨b, 3 + n, none⟩)) (8 - n) (8 - n)) (x.map.drop n) := by
 have hl : (x.map.drop n).length = 8 - n := by rw [List.length_drop, x.len]
 refine ⟨by rw [zda, Nat.mul_one], some (if n = 8 then ⟨b, 3, none⟩ else ⟨b, 3 + n, none⟩), 8 - n, by rw [hl], ⟨by omega, fun e => by cases e⟩, fun hp => ?_⟩
 rw [hl] at hp
 refine ⟨b, 3 + n, by rw [if_neg (by omega)], hb, fun j hj => ?_⟩
 rw [hl, Nat.mul_one] at hj
 rw [h, Nat.add_assoc, x.cs_map (n + j) (by omega), zcq _ _ (by omega), List.getElem_drop]
theorem Ino.R.at' {x : Ino} (h : x.R) (k : Nat) (hk : k < x.map.length) : -9223372036854775808 ≤ x.map[k] ∧ x.map[k] ≤ 9223372036854775807 := h _ (List.getElem_mem _)

set_option maxRecDepth 100000 in
set_option maxHeartbeats 2000000 in
theorem isFile_any (x : Ino) (w : World) (hT : TS w) (hr : x.R) : Calls Tryz.prog 85 #[x.v] w fun e w' => e = .returned (.bool (zhx x)) ∧ Below w.heap.size w w' := by
 have hv : x.v = .agg x.cs.toArray := rfl
 obtain ⟨W, hW⟩ : ∃ W, W = w.alloc (.cells x.cs.toArray 44) := ⟨_, rfl⟩
 have CA : Hid (∀ j, W.cell? ⟨w.heap.size, j, none⟩ = x.cs[j]?) := fun j => by rw [hW]; exact (zao (xs := x.cs) (zag rfl) j).1
 have BW : Hid (Below w.heap.size w W) := by rw [hW]; exact (Below.refl _ _).alloc (Nat.le_refl _) _
 have T : Hid (TS W) := hT.below BW.out
 have hWz : w.heap.size < W.heap.size := by rw [hW]; simp
 have c0 : W.cell? ⟨w.heap.size, 0, none⟩ = some (.int .i64 x.kind) := CA.out 0
 have c1 : W.cell? ⟨w.heap.size, 1, none⟩ = some (.int .i64 x.size) := CA.out 1
 have c2 : W.cell? ⟨w.heap.size, 2, none⟩ = some (.int .i64 x.links) := CA.out 2
 have HR := zaa hr
 subst hW
 rw [hv]
 clear hT hr
 by_cases h0 : x.kind = 1
 case neg =>
  have E := zaa (show zhx x = false by unfold zhx; rw [decide_eq_false h0]; rfl)
  have q : (x.kind != 1) = true := by rw [bne_iff_ne]; exact h0
  go_enter Tryz.func85, Tryz.ntmps85
  go_wp2
  go_ret
  exact ⟨zah E.out.symm, BW.out⟩
 have q : (x.kind != 1) = false := by rw [h0]; rfl
 by_cases h1 : 1 ≤ x.links
 case neg =>
  have E := zaa (show zhx x = false by unfold zhx; rw [decide_eq_true h0, decide_eq_false (show ¬ (1 ≤ x.links ∧ x.links ≤ 24) by omega)]; rfl)
  have q2 : x.links < 1 := by omega
  go_enter Tryz.func85, Tryz.ntmps85
  go_wp2
  go_ret
  exact ⟨zah E.out.symm, BW.out⟩
 have q2 : ¬ x.links < 1 := by omega
 by_cases h2 : x.links ≤ 24
 case neg =>
  have E := zaa (show zhx x = false by unfold zhx; rw [decide_eq_true h0, decide_eq_false (show ¬ (1 ≤ x.links ∧ x.links ≤ 24) by omega)]; rfl)
  have q3 : 24 < x.links := by omega
  go_enter Tryz.func85, Tryz.ntmps85
  go_wp2
  go_ret
  exact ⟨zah E.out.symm, BW.out⟩
 have q3 : ¬ 24 < x.links := by omega
 by_cases h3 : 0 ≤ x.size ∧ x.size < 9
 case neg =>
  have E := zaa (show zhx x = false by unfold zhx; rw [decide_eq_true h0, decide_eq_true (show 1 ≤ x.links ∧ x.links ≤ 24 by omega), decide_eq_false h3]; rfl)
  have H3 := zaa h3
  clear h3
  go_enter Tryz.func85, Tryz.ntmps85
  go_wp2_with (go_at_call 61; refine (zcn _ _ _ H3.out).mono ?_; rintro e w' ⟨rfl, rfl⟩)
  go_ret
  exact ⟨zah E.out.symm, BW.out⟩
 have E := zaa (show zhx x = (zvg (x.map.take x.size.toNat) && nowsB (x.map.drop x.size.toNat)) by unfold zhx; rw [decide_eq_true h0, decide_eq_true (show 1 ≤ x.links ∧ x.links ≤ 24 by omega), decide_eq_true h3]; rfl)
 obtain ⟨n, hn⟩ : ∃ n : Nat, x.size = (n : Int) := ⟨x.size.toNat, by omega⟩
 have hn8 : n ≤ 8 := by omega
 rw [show x.size.toNat = n by omega] at E
 rw [hn] at c1 h3
 have R1 := zaa (map_head (x := x) hn8 hWz CA.out)
 have R2 := zaa (map_tail (x := x) hn8 hWz CA.out)
 have s1 := mapHead (w.alloc (.cells x.cs.toArray 44)) w.heap.size n hn8
 have s2 := mapTail (w.alloc (.cells x.cs.toArray 44)) w.heap.size n hn8
 have L1 := zaa (show (x.map.take n).length ≤ 2147483648 by rw [List.length_take]; omega)
 have L2 := zaa (show (x.map.drop n).length ≤ 2147483648 by rw [List.length_drop, x.len]; omega)
 have RR := zaa (show ∀ k (h : k < (x.map.take n).length), -9223372036854775808 ≤ (x.map.take n)[k] ∧ (x.map.take n)[k] ≤ 9223372036854775807 from fun k h => by rw [List.getElem_take]; exact HR.out.at' k _)
 have H3 := zaa h3
 generalize (if n = 8 then (⟨w.heap.size, 3, none⟩ : Addr) else ⟨w.heap.size, 3 + n, none⟩) = aT at s2 R2
 cases hq : zvg (x.map.take n) with
 | false =>
  have TQ := zaa hq
  rw [hq] at E
  clear h3 hn hq
  go_enter Tryz.func85, Tryz.ntmps85
  go_wp2_with fail
  refine (zbi _ _ _ H3.out).mono ?_
  rintro e w' ⟨rfl, rfl⟩
  go_wp2_with fail
  refine (zhh _ _ _ R1.out L1.out T.out RR.out).mono ?_
  rw [TQ.out]
  rintro e w' ⟨rfl, rfl⟩
  go_wp2
  go_ret
  exact ⟨zah (by rw [E.out]; rfl), BW.out⟩
 | true =>
  have TQ := zaa hq
  rw [hq] at E
  clear h3 hn hq
  go_enter Tryz.func85, Tryz.ntmps85
  go_wp2_with fail
  refine (zbi _ _ _ H3.out).mono ?_
  rintro e w' ⟨rfl, rfl⟩
  go_wp2_with fail
  refine (zhh _ _ _ R1.out L1.out T.out RR.out).mono ?_
  rw [TQ.out]
  rintro e w' ⟨rfl, rfl⟩
  go_wp2_with fail
  refine (zkz _ _ _ R2.out L2.out).mono ?_
  rintro e w' ⟨rfl, rfl⟩
  go_wp2
  go_ret
  exact ⟨zah (by rw [E.out]; rfl), BW.out⟩
end Go.Proofs.YtbbmljakfbhnpaaGreatDoor
