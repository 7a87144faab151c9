/- Several texts laid together: RdA, IgF, IgG. -/
import Derived.Test.YtpakbbdlhlkogaaGreatDoorZAP
import Derived.Test.YtpakbbdlhlkogaaGreatDoorZAJ
import Derived.Test.YtpakbbdlhlkogaaGreatDoorZAA
import Derived.Test.YtpakbbdlhlkogaaGreatDoorZAO
namespace Go.Proofs.YtpakbbdlhlkogaaGreatDoor
open Go.RowKit
def wdI (ls : List Int) (z : Int) : Int := ls.getD z.toNat 0
theorem yaph {ls : List Int} {n : Nat} (h : n < ls.length) : wdI ls (n : Int) = ls[n] := by
 unfold wdI
 rw [Int.toNat_natCast, List.getD_eq_getElem?_getD, List.getElem?_eq_getElem h]; rfl
def zdk (ls : List Int) (i : Nat) : Ino := ⟨wdI ls (48 + 12 * (i : Int)), wdI ls (48 + 12 * (i : Int) + 1), wdI ls (48 + 12 * (i : Int) + 2), wdI ls (48 + 12 * (i : Int) + 3), wdI ls (48 + 12 * (i : Int) + 4), wdI ls (48 + 12 * (i : Int) + 5), wdI ls (48 + 12 * (i : Int) + 6), wdI ls (48 + 12 * (i : Int) + 7), wdI ls (48 + 12 * (i : Int) + 8), wdI ls (48 + 12 * (i : Int) + 9), wdI ls (48 + 12 * (i : Int) + 10)⟩
def zfh (ls : List Int) (k : Nat) : Den := if wdI ls (240 + 3 * (k : Int) + 2) = 0 then ⟨0, ⟨#[]⟩, -1⟩ else ⟨wdI ls (240 + 3 * (k : Int)), ztq (wdI ls (240 + 3 * (k : Int) + 1)), wdI ls (240 + 3 * (k : Int) + 2) - 1⟩
def zbv (ls : List Int) (k : Nat) : Bool := if wdI ls (240 + 3 * (k : Int) + 2) = 0 then wdI ls (240 + 3 * (k : Int)) == 0 && wdI ls (240 + 3 * (k : Int) + 1) == 0 else zfv (wdI ls (240 + 3 * (k : Int) + 1))
def zbi (ls : List Int) (n : Nat) : List Ino := (List.range n).map (zdk ls)
def zbp (ls : List Int) (n : Nat) : List Den := (List.range n).map (zfh ls)
def zcn (ls : List Int) (n : Nat) : Bool := (List.range n).all (zbv ls)
theorem znt (ls : List Int) (n : Nat) : zbi ls (n + 1) = zbi ls n ++ [zdk ls n] := by unfold zbi; rw [List.range_succ, List.map_append]; rfl
theorem zix (ls : List Int) (n : Nat) : zbp ls (n + 1) = zbp ls n ++ [zfh ls n] := by unfold zbp; rw [List.range_succ, List.map_append]; rfl
theorem zcq (ls : List Int) (n : Nat) : (zbi ls n).length = n := by simp [zbi]
theorem zcd (ls : List Int) (n : Nat) : (zbp ls n).length = n := by simp [zbp]
theorem zib {ls : List Int} {n k : Nat} (hk : k < n) (h : zbv ls k = false) : zcn ls n = false := by
 unfold zcn
 rw [List.all_eq_false]
 exact ⟨k, List.mem_range.2 hk, by rw [h]; simp⟩
theorem zgv {ls : List Int} {n : Nat} (h : ∀ k, k < n → zbv ls k = true) : zcn ls n = true := by
 unfold zcn
 rw [List.all_eq_true]
 intro k hk
 exact h k (List.mem_range.1 hk)
def riB (ls : List Int) : Bool := wdI ls 0 == 7 && (zcn ls 24 && zcb (zbi ls 16) (zbp ls 24))
def riC (ws : List Int) (ps : List St) : Int := if pmB ws ps = true then (if riB (zcr ws ps) = true then 0 else 3) else 1
def riN (ws : List Int) (ps : List St) : List Ino := if riC ws ps = 0 then zbi (zcr ws ps) 16 else []
def riD (ws : List Int) (ps : List St) : List Den := if riC ws ps = 0 then zbp (zcr ws ps) 24 else []
theorem yanz {ws : List Int} {ps : List St} (h : pmB ws ps = true) : ∀ k (h : k < (zcr ws ps).length), zbc (zcr ws ps)[k] = true := by
 have h1 := yaab h
 have h2 : ∀ p ∈ ps, zbc p.val = true := fun p hp => by
  obtain ⟨i, hi, rfl⟩ := List.getElem_of_mem hp
  exact (zjt h i hi).2
 clear h
 have gen : ∀ (ps : List St) (ws : List Int), (∀ x ∈ ws, zbc x = true) → (∀ p ∈ ps, zbc p.val = true) → ∀ x ∈ zcr ws ps, zbc x = true := by
  intro ps
  induction ps with
  | nil => intro ws h _ x hx; exact h x hx
  | cons p ps ih =>
   intro ws h1 h2 x hx
   refine ih (ws.set p.at_.toNat p.val) (fun y hy => ?_) (fun q hq => h2 q (List.mem_cons_of_mem _ hq)) x hx
   rcases List.mem_or_eq_of_mem_set hy with hy | hy
   ·exact h1 y hy
   ·rw [hy]; exact h2 p (List.mem_cons_self ..)
 intro k hk
 exact gen ps ws (fun x hx => by obtain ⟨i, hi, rfl⟩ := List.getElem_of_mem hx; exact h1 i hi) h2 _ (List.getElem_mem hk)
theorem zod {ws : List Int} {ps : List St} (h : pmB ws ps = true) (z : Int) : 0 ≤ wdI (zcr ws ps) z ∧ wdI (zcr ws ps) z < 1099511627776 := by
 unfold wdI
 rw [List.getD_eq_getElem?_getD]
 by_cases c : z.toNat < (zcr ws ps).length
 ·rw [List.getElem?_eq_getElem c]
  have := yanz h _ c
  unfold zbc at this
  simp at this
  simpa using this
 ·rw [List.getElem?_eq_none (by omega)]
  exact ⟨by simp, by simp⟩
theorem yasg {ws : List Int} {ps : List St} (h : pmB ws ps = true) (i : Nat) : (zdk (zcr ws ps) i).R := by
 intro z hz
 have all : ∀ y, -9223372036854775808 ≤ wdI (zcr ws ps) y ∧ wdI (zcr ws ps) y ≤ 9223372036854775807 := fun y => by have := zod h y; omega
 simp only [Ino.map, zdk, List.mem_cons, List.not_mem_nil, or_false] at hz
 rcases hz with rfl | rfl | rfl | rfl | rfl | rfl | rfl | rfl <;> exact all _
theorem yano (n : Int) : (ztq n).size ≤ 6 := by
 unfold ztq
 split
 ·rename_i h
  have := (of_decide_eq_true h).2.2
  show ((zpn n.toNat).map fun d => UInt8.ofNat (96 + d)).toArray.size ≤ 6
  simpa using this
 ·exact Nat.zero_le _
theorem yadn (ls : List Int) (k : Nat) : (zfh ls k).name.size ≤ maxLen := by
 unfold zfh
 split
 ·exact Nat.zero_le _
 ·have := yano (wdI ls (240 + 3 * (k : Int) + 1))
  show (ztq _).size ≤ maxLen
  unfold maxLen
  omega
theorem yata (v : Value) (ws : List Int) (ps : List St) (z : Int) (w : World) (h : RdPm w v ws ps) (hp : pmB ws ps = true) (h0 : 0 ≤ z ∧ z < 336) :
  Calls Tryz.prog 132 #[v, .int .i64 z] w fun e w' => e = .returned (.int .i64 (wdI (zcr ws ps) z)) ∧ Below w.heap.size w w' := by
 obtain ⟨n, rfl⟩ : ∃ n : Nat, z = (n : Int) := ⟨z.toNat, by omega⟩
 obtain ⟨l1, l2⟩ := zfk hp
 have hn : n < ws.length := by omega
 rw [yaph (by rw [zcj]; exact hn), yafk ps ws n hn (fun p hq => by obtain ⟨i, hi, rfl⟩ := List.getElem_of_mem hq; exact (yaps hp i hi).1)]
 exact zpl v ws ps n w h (by omega) (by omega) hn
def zbe (ls : List Int) (us : List Se) : List Int := us.foldl (fun l u => l.set u.at_.toNat u.val) ls
theorem yals (ls : List Int) : zbe ls [] = ls := rfl
theorem zhl (ls : List Int) (u : Se) (us : List Se) : zbe ls (u :: us) = zbe (ls.set u.at_.toNat u.val) us := rfl
theorem zko (ls : List Int) (us vs : List Se) : zbe ls (us ++ vs) = zbe (zbe ls us) vs := by unfold zbe; rw [List.foldl_append]
theorem zdx (us : List Se) : ∀ (ls : List Int), (zbe ls us).length = ls.length := by
 induction us with
 | nil => intro ls; rfl
 | cons u us ih => intro ls; rw [zhl, ih, List.length_set]
theorem zeb {ls : List Int} {a z v : Int} (ha : 0 ≤ a) (hl : a < (ls.length : Int)) (hz : 0 ≤ z) : wdI (ls.set a.toNat v) z = if z = a then v else wdI ls z := by
 unfold wdI
 rw [List.getD_eq_getElem?_getD, List.getD_eq_getElem?_getD, List.getElem?_set]
 by_cases e : z = a
 ·rw [if_pos e, e, if_pos rfl, if_pos (by omega)]; rfl
 ·rw [if_neg e, if_neg (by omega)]
theorem zfi {z : Int} (hz : 0 ≤ z) : ∀ (us : List Se) (ls : List Int), (∀ u ∈ us, 0 ≤ u.at_ ∧ u.at_ < (ls.length : Int) ∧ ¬ u.at_ = z) → wdI (zbe ls us) z = wdI ls z := by
 intro us
 induction us with
 | nil => intro ls _; rfl
 | cons u us ih =>
  intro ls h
  rw [zhl, ih _ (fun v hv => by rw [List.length_set]; exact h v (List.mem_cons_of_mem _ hv))]
  obtain ⟨a, b, c⟩ := h u (List.mem_cons_self ..)
  rw [zeb a b hz, if_neg (fun e => c e.symm)]
def UpIn (us : List Se) : Prop := ∀ u ∈ us, 48 ≤ u.at_ ∧ u.at_ < 312
theorem UpIn.app {us vs : List Se} (h : UpIn us) (k : UpIn vs) : UpIn (us ++ vs) := fun u hu => by
 rcases List.mem_append.1 hu with q | q
 ·exact h u q
 ·exact k u q
theorem zrz {ls : List Int} {us : List Se} {i : Nat} {x : Ino} (hl : ls.length = 336) (ui : UpIn us) (hi : i < 16) (hx : zdk (zbe ls us) i = x) (ho : ∀ j : Nat, j < 16 → ¬ j = i → ∀ u ∈ us, ¬ (48 + 12 * (j : Int) ≤ u.at_ ∧ u.at_ < 48 + 12 * (j : Int) + 11)) : zbi (zbe ls us) 16 = (zbi ls 16).set i x := by
 apply List.ext_getElem?
 intro j
 rw [List.getElem?_set]
 unfold zbi
 rw [List.length_map, List.length_range, List.getElem?_map, List.getElem?_map]
 by_cases hj : j < 16
 ·rw [List.getElem?_range hj]
  by_cases e : i = j
  ·rw [if_pos e, if_pos (by omega), ← e]
   show some (zdk (zbe ls us) i) = some x
   rw [hx]
  ·rw [if_neg e]
   show some (zdk (zbe ls us) j) = some (zdk ls j)
   have W : ∀ z, 48 + 12 * (j : Int) ≤ z ∧ z < 48 + 12 * (j : Int) + 11 → wdI (zbe ls us) z = wdI ls z := fun z hz => zfi (by omega) us ls (fun u hu => by
    have a := ui u hu
    have b := ho j hj (fun q => e q.symm) u hu
    refine ⟨by omega, by omega, ?_⟩
    intro q
    exact b (by omega))
   unfold zdk
   rw [W _ (by omega), W _ (by omega), W _ (by omega), W _ (by omega), W _ (by omega), W _ (by omega), W _ (by omega), W _ (by omega), W _ (by omega), W _ (by omega), W _ (by omega)]
 ·rw [List.getElem?_eq_none (by simp; omega)]
  by_cases e : i = j
  ·omega
  ·rw [if_neg e]; rfl
theorem zte {ls : List Int} {us : List Se} {k : Nat} {x : Den} (hl : ls.length = 336) (ui : UpIn us) (hk : k < 24) (hx : zfh (zbe ls us) k = x) (ho : ∀ j : Nat, j < 24 → ¬ j = k → ∀ u ∈ us, ¬ (240 + 3 * (j : Int) ≤ u.at_ ∧ u.at_ < 240 + 3 * (j : Int) + 3)) : zbp (zbe ls us) 24 = (zbp ls 24).set k x := by
 apply List.ext_getElem?
 intro j
 rw [List.getElem?_set]
 unfold zbp
 rw [List.length_map, List.length_range, List.getElem?_map, List.getElem?_map]
 by_cases hj : j < 24
 ·rw [List.getElem?_range hj]
  by_cases e : k = j
  ·rw [if_pos e, if_pos (by omega), ← e]
   show some (zfh (zbe ls us) k) = some x
   rw [hx]
  ·rw [if_neg e]
   show some (zfh (zbe ls us) j) = some (zfh ls j)
   have W : ∀ z, 240 + 3 * (j : Int) ≤ z ∧ z < 240 + 3 * (j : Int) + 3 → wdI (zbe ls us) z = wdI ls z := fun z hz => zfi (by omega) us ls (fun u hu => by
    have a := ui u hu
    have b := ho j hj (fun q => e q.symm) u hu
    refine ⟨by omega, by omega, ?_⟩
    intro q
    exact b (by omega))
   unfold zfh
   rw [W _ (by omega), W _ (by omega), W _ (by omega)]
 ·rw [List.getElem?_eq_none (by simp; omega)]
  by_cases e : k = j
  ·omega
  ·rw [if_neg e]; rfl
theorem yadz {ls : List Int} {us : List Se} (hl : ls.length = 336) (ui : UpIn us) (ho : ∀ u ∈ us, u.at_ < 240) : zbp (zbe ls us) 24 = zbp ls 24 := by
 have q := zte (k := 0) (x := zfh (zbe ls us) 0) hl ui (by omega) rfl (fun j _ _ u hu => by have := ho u hu; omega)
 rw [q]
 have W : ∀ z, 240 ≤ z → wdI (zbe ls us) z = wdI ls z := fun z hz => zfi (by omega) us ls (fun u hu => by
  have a := ui u hu
  have b := ho u hu
  exact ⟨by omega, by omega, by omega⟩)
 have e : zfh (zbe ls us) 0 = zfh ls 0 := by
  unfold zfh
  rw [W _ (by omega), W _ (by omega), W _ (by omega)]
 rw [e]
 rfl
theorem yafs {ls : List Int} {us : List Se} (hl : ls.length = 336) (ui : UpIn us) (ho : ∀ u ∈ us, 240 ≤ u.at_) : zbi (zbe ls us) 16 = zbi ls 16 := by
 have q := zrz (i := 0) (x := zdk (zbe ls us) 0) hl ui (by omega) rfl (fun j _ _ u hu => by have := ho u hu; omega)
 rw [q]
 have W : ∀ z, 48 ≤ z ∧ z < 240 → wdI (zbe ls us) z = wdI ls z := fun z hz => zfi (by omega) us ls (fun u hu => by
  have a := ui u hu
  have b := ho u hu
  exact ⟨by omega, by omega, by omega⟩)
 have e : zdk (zbe ls us) 0 = zdk ls 0 := by
  unfold zdk
  rw [W _ (by omega), W _ (by omega), W _ (by omega), W _ (by omega), W _ (by omega), W _ (by omega), W _ (by omega), W _ (by omega), W _ (by omega), W _ (by omega), W _ (by omega)]
 rw [e]
 rfl
theorem yaau {ls : List Int} {us : List Se} {k : Nat} (hl : ls.length = 336) (ui : UpIn us) (h : zcn ls 24 = true) (hk : zbv (zbe ls us) k = true) (ho : ∀ j : Nat, j < 24 → ¬ j = k → ∀ u ∈ us, ¬ (240 + 3 * (j : Int) ≤ u.at_ ∧ u.at_ < 240 + 3 * (j : Int) + 3)) : zcn (zbe ls us) 24 = true := by
 unfold zcn at h
 rw [List.all_eq_true] at h
 refine zgv fun j hj => ?_
 by_cases e : j = k
 ·rw [e]; exact hk
 ·have g := h j (List.mem_range.2 hj)
  have W : ∀ z, 240 + 3 * (j : Int) ≤ z ∧ z < 240 + 3 * (j : Int) + 3 → wdI (zbe ls us) z = wdI ls z := fun z hz => zfi (by omega) us ls (fun u hu => by
   have a := ui u hu
   have b := ho j hj e u hu
   refine ⟨by omega, by omega, ?_⟩
   intro q
   exact b (by omega))
  unfold zbv at g ⊢
  rw [W _ (by omega), W _ (by omega), W _ (by omega)]
  exact g
theorem yafe {ls : List Int} {us : List Se} (hl : ls.length = 336) (ui : UpIn us) (h : zcn ls 24 = true) (ho : ∀ u ∈ us, u.at_ < 240) : zcn (zbe ls us) 24 = true := by
 unfold zcn at h
 rw [List.all_eq_true] at h
 refine zgv fun j hj => ?_
 have g := h j (List.mem_range.2 hj)
 have W : ∀ z, 240 ≤ z → wdI (zbe ls us) z = wdI ls z := fun z hz => zfi (by omega) us ls (fun u hu => by
  have a := ui u hu
  have b := ho u hu
  exact ⟨by omega, by omega, by omega⟩)
 unfold zbv at g ⊢
 rw [W _ (by omega), W _ (by omega), W _ (by omega)]
 exact g
theorem yamx {ls : List Int} {k : Nat} {x : Den} {us : List Se} (hl : ls.length = 336) (hk : k < 24) (ui : UpIn us) (ho : ∀ u ∈ us, ¬ (240 + 3 * (k : Int) ≤ u.at_ ∧ u.at_ < 240 + 3 * (k : Int) + 3)) :
  wdI (zbe ls (enL (k : Int) x ++ us)) (240 + 3 * (k : Int)) = x.dir ∧ wdI (zbe ls (enL (k : Int) x ++ us)) (240 + 3 * (k : Int) + 1) = ((pk x.name x.name.size : Nat) : Int) ∧ wdI (zbe ls (enL (k : Int) x ++ us)) (240 + 3 * (k : Int) + 2) = x.child + 1 := by
 have W : ∀ z, 240 + 3 * (k : Int) ≤ z ∧ z < 240 + 3 * (k : Int) + 3 → wdI (zbe ls (enL (k : Int) x ++ us)) z = wdI (zbe ls (enL (k : Int) x)) z := fun z hz => by
  rw [zko]
  refine zfi (by omega) us _ (fun u hu => ?_)
  have a := ui u hu
  have b := ho u hu
  rw [zdx]
  refine ⟨by omega, by omega, ?_⟩
  intro q
  exact b (by omega)
 rw [W _ (by omega), W _ (by omega), W _ (by omega)]
 unfold enL
 simp only [zhl, yals]
 have l2 : (240 + 3 * (k : Int) + 2) < (336 : Int) := by omega
 refine ⟨?_, ?_, ?_⟩
 ·rw [zeb (by omega) (by simp only [List.length_set]; omega) (by omega), if_neg (by omega), zeb (by omega) (by simp only [List.length_set]; omega) (by omega), if_neg (by omega), zeb (by omega) (by omega) (by omega), if_pos rfl]
 ·rw [zeb (by omega) (by simp only [List.length_set]; omega) (by omega), if_neg (by omega), zeb (by omega) (by simp only [List.length_set]; omega) (by omega), if_pos rfl]
 ·rw [zeb (by omega) (by simp only [List.length_set]; omega) (by omega), if_pos rfl]
theorem zsb {ls : List Int} {k : Nat} {x : Den} {us : List Se} (hl : ls.length = 336) (hk : k < 24) (ui : UpIn us) (ho : ∀ u ∈ us, ¬ (240 + 3 * (k : Int) ≤ u.at_ ∧ u.at_ < 240 + 3 * (k : Int) + 3)) (hx : x = freeD ∨ (0 ≤ x.child ∧ nmB x.name = true)) :
  zfh (zbe ls (enL (k : Int) x ++ us)) k = x ∧ zbv (zbe ls (enL (k : Int) x ++ us)) k = true := by
 obtain ⟨a, b, c⟩ := yamx (x := x) hl hk ui ho
 unfold zfh zbv
 rw [a, b, c]
 rcases hx with rfl | ⟨h0, hn⟩
 ·exact ⟨rfl, rfl⟩
 ·have p := (ztg hn).1
  obtain ⟨g, s⟩ := yamz hn
  rw [p] at g s
  rw [if_neg (by omega), if_neg (by omega), s]
  refine ⟨?_, g⟩
  obtain ⟨d, n, ch⟩ := x
  show Den.mk d n (ch + 1 - 1) = _
  congr 1
  omega
theorem znr {k : Nat} (hk : k < 24) (x : Den) : UpIn (enL (k : Int) x) := fun u hu => by
 simp only [enL, List.mem_cons, List.not_mem_nil, or_false] at hu
 rcases hu with rfl | rfl | rfl
 ·exact ⟨by show 48 ≤ 240 + 3 * (k : Int); omega, by show 240 + 3 * (k : Int) < 312; omega⟩
 ·exact ⟨by show 48 ≤ 240 + 3 * (k : Int) + 1; omega, by show 240 + 3 * (k : Int) + 1 < 312; omega⟩
 ·exact ⟨by show 48 ≤ 240 + 3 * (k : Int) + 2; omega, by show 240 + 3 * (k : Int) + 2 < 312; omega⟩
structure Wi (ls : List Int) (ws : List Ino) (ps : List Den) : Prop where
 len : ls.length = 336
 mark : wdI ls 0 = 7
 good : zcn ls 24 = true
 inos : zbi ls 16 = ws
 dens : zbp ls 24 = ps
 img : Img ws ps
theorem Wi.ri {ls : List Int} {ws : List Ino} {ps : List Den} (h : Wi ls ws ps) : riB ls = true := by
 unfold riB
 rw [h.mark, h.good, h.inos, h.dens, zca.2 h.img]
 rfl
theorem zsu {ls : List Int} {us : List Se} (hl : ls.length = 336) (ui : UpIn us) (h : wdI ls 0 = 7) : wdI (zbe ls us) 0 = 7 := by
 rw [zfi (by omega) us ls (fun u hu => by have := ui u hu; exact ⟨by omega, by omega, by omega⟩)]
 exact h
theorem znm {ls : List Int} {ws : List Ino} {ps : List Den} (h : Wi ls ws ps) {i : Nat} (hi : i < 16) : zal ws i = zdk ls i := by
 rw [← h.inos]
 unfold zal zbi
 rw [List.getD_eq_getElem?_getD, List.getElem?_map, List.getElem?_range hi]
 rfl
def zoa (i : Nat) (fs : List (Nat × Int)) : List Se := fs.map fun f => ⟨48 + 12 * (i : Int) + (f.1 : Int), f.2⟩
theorem ztc {i : Nat} {fs : List (Nat × Int)} (hi : i < 16) (hf : ∀ f ∈ fs, f.1 < 11) : UpIn (zoa i fs) := fun u hu => by
 obtain ⟨f, hm, rfl⟩ := List.mem_map.1 hu
 have := hf f hm
 exact ⟨by show 48 ≤ 48 + 12 * (i : Int) + (f.1 : Int); omega, by show 48 + 12 * (i : Int) + (f.1 : Int) < 312; omega⟩
theorem yaja {i : Nat} {fs : List (Nat × Int)} (hi : i < 16) (hf : ∀ f ∈ fs, f.1 < 11) : ∀ u ∈ zoa i fs, 48 + 12 * (i : Int) ≤ u.at_ ∧ u.at_ < 48 + 12 * (i : Int) + 11 ∧ u.at_ < 240 := fun u hu => by
 obtain ⟨f, hm, rfl⟩ := List.mem_map.1 hu
 have := hf f hm
 exact ⟨by show 48 + 12 * (i : Int) ≤ 48 + 12 * (i : Int) + (f.1 : Int); omega, by show 48 + 12 * (i : Int) + (f.1 : Int) < 48 + 12 * (i : Int) + 11; omega, by show 48 + 12 * (i : Int) + (f.1 : Int) < 240; omega⟩
def zpf (fs : List (Nat × Int)) (g : Nat) (z : Int) : Int := fs.foldl (fun a f => if f.1 = g then f.2 else a) z
theorem yars {i : Nat} (hi : i < 16) {g : Nat} (hg : g < 11) : ∀ (fs : List (Nat × Int)) (ls : List Int), ls.length = 336 → (∀ f ∈ fs, f.1 < 11) → wdI (zbe ls (zoa i fs)) (48 + 12 * (i : Int) + (g : Int)) = zpf fs g (wdI ls (48 + 12 * (i : Int) + (g : Int))) := by
 intro fs
 induction fs with
 | nil => intro ls _ _; rfl
 | cons f fs ih =>
  intro ls hl hf
  have h11 := hf f (List.mem_cons_self ..)
  show wdI (zbe (ls.set (48 + 12 * (i : Int) + (f.1 : Int)).toNat f.2) (zoa i fs)) _ = _
  rw [ih _ (by rw [List.length_set]; exact hl) (fun x hx => hf x (List.mem_cons_of_mem _ hx)), zeb (by omega) (by omega) (by omega)]
  unfold zpf
  rw [List.foldl_cons]
  by_cases e : f.1 = g
  ·rw [if_pos (by omega), if_pos e]
  ·rw [if_neg (by omega), if_neg e]
def zug (x : Ino) (fs : List (Nat × Int)) : Ino := ⟨zpf fs 0 x.kind, zpf fs 1 x.size, zpf fs 2 x.links, zpf fs 3 x.m0, zpf fs 4 x.m1, zpf fs 5 x.m2, zpf fs 6 x.m3, zpf fs 7 x.m4, zpf fs 8 x.m5, zpf fs 9 x.m6, zpf fs 10 x.m7⟩
theorem zyy {i : Nat} (hi : i < 16) {fs : List (Nat × Int)} {ls : List Int} (hl : ls.length = 336) (hf : ∀ f ∈ fs, f.1 < 11) : zdk (zbe ls (zoa i fs)) i = zug (zdk ls i) fs := by
 have W := fun g hg => yars (g := g) hi hg fs ls hl hf
 have w0 := W 0 (by omega)
 rw [show 48 + 12 * (i : Int) + ((0 : Nat) : Int) = 48 + 12 * (i : Int) by omega] at w0
 unfold zug zdk
 rw [w0]
 congr 1
 ·exact W 1 (by omega)
 ·exact W 2 (by omega)
 ·exact W 3 (by omega)
 ·exact W 4 (by omega)
 ·exact W 5 (by omega)
 ·exact W 6 (by omega)
 ·exact W 7 (by omega)
 ·exact W 8 (by omega)
 ·exact W 9 (by omega)
 ·exact W 10 (by omega)
theorem zzy {ls : List Int} {ws : List Ino} {ps : List Den} (h : Wi ls ws ps) {i k : Nat} (hi : i < 16) (hk : k < 24) {fs : List (Nat × Int)} (hf : ∀ f ∈ fs, f.1 < 11) {x : Den} (hx : x = freeD ∨ (0 ≤ x.child ∧ nmB x.name = true)) (img : Img (ws.set i (zug (zal ws i) fs)) (ps.set k x)) :
  Wi (zbe ls (zoa i fs ++ enL (k : Int) x)) (ws.set i (zug (zal ws i) fs)) (ps.set k x) ∧ Wi (zbe ls (enL (k : Int) x ++ zoa i fs)) (ws.set i (zug (zal ws i) fs)) (ps.set k x) := by
 have iu := ztc (fs := fs) hi hf
 have ia := yaja (fs := fs) hi hf
 have eu := znr hk x
 have ea : ∀ u ∈ enL (k : Int) x, 240 + 3 * (k : Int) ≤ u.at_ ∧ u.at_ < 240 + 3 * (k : Int) + 3 := fun u hu => by
  simp only [enL, List.mem_cons, List.not_mem_nil, or_false] at hu
  rcases hu with rfl | rfl | rfl
  ·exact ⟨Int.le_refl _, by show 240 + 3 * (k : Int) < 240 + 3 * (k : Int) + 3; omega⟩
  ·exact ⟨by show 240 + 3 * (k : Int) ≤ 240 + 3 * (k : Int) + 1; omega, by show 240 + 3 * (k : Int) + 1 < 240 + 3 * (k : Int) + 3; omega⟩
  ·exact ⟨by show 240 + 3 * (k : Int) ≤ 240 + 3 * (k : Int) + 2; omega, by show 240 + 3 * (k : Int) + 2 < 240 + 3 * (k : Int) + 3; omega⟩
 have xi := znm h hi
 have both : ∀ us, UpIn us → (∀ u ∈ us, u ∈ zoa i fs ∨ u ∈ enL (k : Int) x) → zdk (zbe ls us) i = zug (zdk ls i) fs → zfh (zbe ls us) k = x → zbv (zbe ls us) k = true → Wi (zbe ls us) (ws.set i (zug (zal ws i) fs)) (ps.set k x) := by
  intro us ui mem e1 e2 e3
  have oi : ∀ j : Nat, j < 16 → ¬ j = i → ∀ u ∈ us, ¬ (48 + 12 * (j : Int) ≤ u.at_ ∧ u.at_ < 48 + 12 * (j : Int) + 11) := by
   intro j hj ne u hu
   rcases mem u hu with q | q
   ·have := ia u q; omega
   ·have := ea u q; omega
  have ok : ∀ j : Nat, j < 24 → ¬ j = k → ∀ u ∈ us, ¬ (240 + 3 * (j : Int) ≤ u.at_ ∧ u.at_ < 240 + 3 * (j : Int) + 3) := by
   intro j hj ne u hu
   rcases mem u hu with q | q
   ·have := ia u q; omega
   ·have := ea u q; omega
  refine ⟨by rw [zdx]; exact h.len, zsu h.len ui h.mark, yaau h.len ui h.good e3 ok, ?_, ?_, img⟩
  ·rw [zrz h.len ui hi e1 oi, h.inos, xi]
  ·rw [zte h.len ui hk e2 ok, h.dens]
 constructor
 ·refine both _ (iu.app eu) (fun u hu => List.mem_append.1 hu) ?_ ?_ ?_
  ·rw [zko]
   have W : ∀ z, 48 + 12 * (i : Int) ≤ z ∧ z < 48 + 12 * (i : Int) + 11 → wdI (zbe (zbe ls (zoa i fs)) (enL (k : Int) x)) z = wdI (zbe ls (zoa i fs)) z := fun z hz => zfi (by omega) _ _ (fun u hu => by
    have := ea u hu
    rw [zdx, h.len]
    exact ⟨by omega, by omega, by omega⟩)
   rw [← zyy hi h.len hf]
   unfold zdk
   rw [W _ (by omega), W _ (by omega), W _ (by omega), W _ (by omega), W _ (by omega), W _ (by omega), W _ (by omega), W _ (by omega), W _ (by omega), W _ (by omega), W _ (by omega)]
  ·rw [zko]
   have := (zsb (ls := zbe ls (zoa i fs)) (x := x) (us := []) (by rw [zdx]; exact h.len) hk (fun _ q => by cases q) (fun _ q => by cases q) hx).1
   rw [List.append_nil] at this
   exact this
  ·rw [zko]
   have := (zsb (ls := zbe ls (zoa i fs)) (x := x) (us := []) (by rw [zdx]; exact h.len) hk (fun _ q => by cases q) (fun _ q => by cases q) hx).2
   rw [List.append_nil] at this
   exact this
 ·have oe : ∀ u ∈ zoa i fs, ¬ (240 + 3 * (k : Int) ≤ u.at_ ∧ u.at_ < 240 + 3 * (k : Int) + 3) := fun u hu => by have := ia u hu; omega
  have er := zsb (ls := ls) (x := x) (us := zoa i fs) h.len hk iu oe hx
  refine both _ (eu.app iu) (fun u hu => (List.mem_append.1 hu).symm) ?_ er.1 er.2
  rw [zko, zyy hi (by rw [zdx]; exact h.len) hf]
  have W : ∀ z, 48 + 12 * (i : Int) ≤ z ∧ z < 48 + 12 * (i : Int) + 11 → wdI (zbe ls (enL (k : Int) x)) z = wdI ls z := fun z hz => zfi (by omega) _ _ (fun u hu => by
   have := ea u hu
   rw [h.len]
   exact ⟨by omega, by omega, by omega⟩)
  congr 1
  unfold zdk
  rw [W _ (by omega), W _ (by omega), W _ (by omega), W _ (by omega), W _ (by omega), W _ (by omega), W _ (by omega), W _ (by omega), W _ (by omega), W _ (by omega), W _ (by omega)]
theorem yapl {ls : List Int} {ws : List Ino} {ps : List Den} (h : Wi ls ws ps) {i : Nat} (hi : i < 16) {fs : List (Nat × Int)} (hf : ∀ f ∈ fs, f.1 < 11) (img : Img (ws.set i (zug (zal ws i) fs)) ps) :
  Wi (zbe ls (zoa i fs)) (ws.set i (zug (zal ws i) fs)) ps := by
 have iu := ztc (fs := fs) hi hf
 have ia := yaja (fs := fs) hi hf
 refine ⟨by rw [zdx]; exact h.len, zsu h.len iu h.mark, yafe h.len iu h.good (fun u hu => (ia u hu).2.2), ?_, ?_, img⟩
 ·rw [zrz h.len iu hi (zyy hi h.len hf) (fun j _ _ u hu => by have := ia u hu; omega), h.inos, znm h hi]
 ·rw [yadz h.len iu (fun u hu => (ia u hu).2.2), h.dens]
theorem yast {ls : List Int} {ws : List Ino} {ps : List Den} (h : Wi ls ws ps) {k : Nat} (hk : k < 24) {x : Den} (hx : x = freeD ∨ (0 ≤ x.child ∧ nmB x.name = true)) (img : Img ws (ps.set k x)) :
  Wi (zbe ls (enL (k : Int) x)) ws (ps.set k x) := by
 have eu := znr hk x
 have ea : ∀ u ∈ enL (k : Int) x, 240 + 3 * (k : Int) ≤ u.at_ ∧ u.at_ < 240 + 3 * (k : Int) + 3 := fun u hu => by
  simp only [enL, List.mem_cons, List.not_mem_nil, or_false] at hu
  rcases hu with rfl | rfl | rfl
  ·exact ⟨Int.le_refl _, by show 240 + 3 * (k : Int) < 240 + 3 * (k : Int) + 3; omega⟩
  ·exact ⟨by show 240 + 3 * (k : Int) ≤ 240 + 3 * (k : Int) + 1; omega, by show 240 + 3 * (k : Int) + 1 < 240 + 3 * (k : Int) + 3; omega⟩
  ·exact ⟨by show 240 + 3 * (k : Int) ≤ 240 + 3 * (k : Int) + 2; omega, by show 240 + 3 * (k : Int) + 2 < 240 + 3 * (k : Int) + 3; omega⟩
 have er := zsb (ls := ls) (x := x) (us := []) h.len hk (fun _ q => by cases q) (fun _ q => by cases q) hx
 rw [List.append_nil] at er
 refine ⟨by rw [zdx]; exact h.len, zsu h.len eu h.mark, yaau h.len eu h.good er.2 (fun j _ ne u hu => by have := ea u hu; omega), ?_, ?_, img⟩
 ·rw [yafs h.len eu (fun u hu => by have := ea u hu; omega), h.inos]
 ·rw [zte h.len eu hk er.1 (fun j _ ne u hu => by have := ea u hu; omega), h.dens]
end Go.Proofs.YtpakbbdlhlkogaaGreatDoor
