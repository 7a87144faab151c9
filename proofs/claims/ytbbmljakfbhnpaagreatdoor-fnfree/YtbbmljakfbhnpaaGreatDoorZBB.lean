/- Several texts laid together: IgF, IgG. -/
import Derived.Test.YtbbmljakfbhnpaaGreatDoorZBA
namespace Go.Proofs.YtbbmljakfbhnpaaGreatDoor
open Go.RowKit

/-- The words behind updates. -/
def zco (ls : List Int) (us : List Se) : List Int := us.foldl (fun l u => l.set u.at_.toNat u.val) ls
theorem updL_nil (ls : List Int) : zco ls [] = ls := rfl
theorem znh (ls : List Int) (u : Se) (us : List Se) : zco ls (u :: us) = zco (ls.set u.at_.toNat u.val) us := rfl
theorem zjp (ls : List Int) (us vs : List Se) : zco ls (us ++ vs) = zco (zco ls us) vs := by unfold zco; rw [List.foldl_append]
theorem zfi (us : List Se) : ∀ (ls : List Int), (zco ls us).length = ls.length := by
 induction us with
 | nil => intro ls; rfl
 | cons u us ih => intro ls; rw [znh, ih, List.length_set]
theorem zdy {ls : List Int} {a z v : Int} (ha : 0 ≤ a) (hl : a < (ls.length : Int)) (hz : 0 ≤ z) : wdI (ls.set a.toNat v) z = if z = a then v else wdI ls z := by
 unfold wdI
 rw [List.getD_eq_getElem?_getD, List.getD_eq_getElem?_getD, List.getElem?_set]
 by_cases e : z = a
 ·rw [if_pos e, e, if_pos rfl, if_pos (by omega)]; rfl
 ·rw [if_neg e, if_neg (by omega)]
theorem zfb {z : Int} (hz : 0 ≤ z) : ∀ (us : List Se) (ls : List Int), (∀ u ∈ us, 0 ≤ u.at_ ∧ u.at_ < (ls.length : Int) ∧ ¬ u.at_ = z) → wdI (zco ls us) z = wdI ls z := by
 intro us
 induction us with
 | nil => intro ls _; rfl
 | cons u us ih =>
  intro ls h
  rw [znh, ih _ (fun v hv => by rw [List.length_set]; exact h v (List.mem_cons_of_mem _ hv))]
  obtain ⟨a, b, c⟩ := h u (List.mem_cons_self ..)
  rw [zdy a b hz, if_neg (fun e => c e.symm)]
/-- All words of updates that reach inodes and entries alone. -/
def UpIn (us : List Se) : Prop := ∀ u ∈ us, 48 ≤ u.at_ ∧ u.at_ < 312
theorem UpIn.app {us vs : List Se} (h : UpIn us) (k : UpIn vs) : UpIn (us ++ vs) := fun u hu => by
 rcases List.mem_append.1 hu with q | q
 ·exact h u q
 ·exact k u q
theorem zrg {ls : List Int} {us : List Se} {i : Nat} {x : Ino} (hl : ls.length = 336) (ui : UpIn us) (hi : i < 16) (hx : zdg (zco ls us) i = x) (ho : ∀ j : Nat, j < 16 → ¬ j = i → ∀ u ∈ us, ¬ (48 + 12 * (j : Int) ≤ u.at_ ∧ u.at_ < 48 + 12 * (j : Int) + 11)) : zbd (zco ls us) 16 = (zbd ls 16).set i x := by
 apply List.ext_getElem?
 intro j
 rw [List.getElem?_set]
 unfold zbd
 rw [List.length_map, List.length_range, List.getElem?_map, List.getElem?_map]
 by_cases hj : j < 16
 ·rw [List.getElem?_range hj]
  by_cases e : i = j
  ·rw [if_pos e, if_pos (by omega), ← e]
   show some (zdg (zco ls us) i) = some x
   rw [hx]
  ·rw [if_neg e]
   show some (zdg (zco ls us) j) = some (zdg ls j)
   have W : ∀ z, 48 + 12 * (j : Int) ≤ z ∧ z < 48 + 12 * (j : Int) + 11 → wdI (zco ls us) z = wdI ls z := fun z hz => zfb (by omega) us ls (fun u hu => by
    have a := ui u hu
    have b := ho j hj (fun q => e q.symm) u hu
    refine ⟨by omega, by omega, ?_⟩
    intro q
    exact b (by omega))
   unfold zdg
   rw [W _ (by omega), W _ (by omega), W _ (by omega), W _ (by omega), W _ (by omega), W _ (by omega), W _ (by omega), W _ (by omega), W _ (by omega), W _ (by omega), W _ (by omega)]
 ·rw [List.getElem?_eq_none (by simp; omega)]
  by_cases e : i = j
  ·omega
  ·rw [if_neg e]; rfl
theorem zqv {ls : List Int} {us : List Se} {k : Nat} {x : Den} (hl : ls.length = 336) (ui : UpIn us) (hk : k < 24) (hx : zez (zco ls us) k = x) (ho : ∀ j : Nat, j < 24 → ¬ j = k → ∀ u ∈ us, ¬ (240 + 3 * (j : Int) ≤ u.at_ ∧ u.at_ < 240 + 3 * (j : Int) + 3)) : zbg (zco ls us) 24 = (zbg ls 24).set k x := by
 apply List.ext_getElem?
 intro j
 rw [List.getElem?_set]
 unfold zbg
 rw [List.length_map, List.length_range, List.getElem?_map, List.getElem?_map]
 by_cases hj : j < 24
 ·rw [List.getElem?_range hj]
  by_cases e : k = j
  ·rw [if_pos e, if_pos (by omega), ← e]
   show some (zez (zco ls us) k) = some x
   rw [hx]
  ·rw [if_neg e]
   show some (zez (zco ls us) j) = some (zez ls j)
   have W : ∀ z, 240 + 3 * (j : Int) ≤ z ∧ z < 240 + 3 * (j : Int) + 3 → wdI (zco ls us) z = wdI ls z := fun z hz => zfb (by omega) us ls (fun u hu => by
    have a := ui u hu
    have b := ho j hj (fun q => e q.symm) u hu
    refine ⟨by omega, by omega, ?_⟩
    intro q
    exact b (by omega))
   unfold zez
   rw [W _ (by omega), W _ (by omega), W _ (by omega)]
 ·rw [List.getElem?_eq_none (by simp; omega)]
  by_cases e : k = j
  ·omega
  ·rw [if_neg e]; rfl
theorem dens_same {ls : List Int} {us : List Se} (hl : ls.length = 336) (ui : UpIn us) (ho : ∀ u ∈ us, u.at_ < 240) : zbg (zco ls us) 24 = zbg ls 24 := by
 have q := zqv (k := 0) (x := zez (zco ls us) 0) hl ui (by omega) rfl (fun j _ _ u hu => by have := ho u hu; omega)
 rw [q]
 have W : ∀ z, 240 ≤ z → wdI (zco ls us) z = wdI ls z := fun z hz => zfb (by omega) us ls (fun u hu => by
  have a := ui u hu
  have b := ho u hu
  exact ⟨by omega, by omega, by omega⟩)
 have e : zez (zco ls us) 0 = zez ls 0 := by
  unfold zez
  rw [W _ (by omega), W _ (by omega), W _ (by omega)]
 rw [e]
 rfl
theorem inos_same {ls : List Int} {us : List Se} (hl : ls.length = 336) (ui : UpIn us) (ho : ∀ u ∈ us, 240 ≤ u.at_) : zbd (zco ls us) 16 = zbd ls 16 := by
 have q := zrg (i := 0) (x := zdg (zco ls us) 0) hl ui (by omega) rfl (fun j _ _ u hu => by have := ho u hu; omega)
 rw [q]
 have W : ∀ z, 48 ≤ z ∧ z < 240 → wdI (zco ls us) z = wdI ls z := fun z hz => zfb (by omega) us ls (fun u hu => by
  have a := ui u hu
  have b := ho u hu
  exact ⟨by omega, by omega, by omega⟩)
 have e : zdg (zco ls us) 0 = zdg ls 0 := by
  unfold zdg
  rw [W _ (by omega), W _ (by omega), W _ (by omega), W _ (by omega), W _ (by omega), W _ (by omega), W _ (by omega), W _ (by omega), W _ (by omega), W _ (by omega), W _ (by omega)]
 rw [e]
 rfl
/-- The entries' words are right behind updates. -/
theorem good_upd {ls : List Int} {us : List Se} {k : Nat} (hl : ls.length = 336) (ui : UpIn us) (h : zbx ls 24 = true) (hk : zbr (zco ls us) k = true) (ho : ∀ j : Nat, j < 24 → ¬ j = k → ∀ u ∈ us, ¬ (240 + 3 * (j : Int) ≤ u.at_ ∧ u.at_ < 240 + 3 * (j : Int) + 3)) : zbx (zco ls us) 24 = true := by
 unfold zbx at h
 rw [List.all_eq_true] at h
 refine zgf fun j hj => ?_
 by_cases e : j = k
 ·rw [e]; exact hk
 ·have g := h j (List.mem_range.2 hj)
  have W : ∀ z, 240 + 3 * (j : Int) ≤ z ∧ z < 240 + 3 * (j : Int) + 3 → wdI (zco ls us) z = wdI ls z := fun z hz => zfb (by omega) us ls (fun u hu => by
   have a := ui u hu
   have b := ho j hj e u hu
   refine ⟨by omega, by omega, ?_⟩
   intro q
   exact b (by omega))
  unfold zbr at g ⊢
  rw [W _ (by omega), W _ (by omega), W _ (by omega)]
  exact g
theorem good_same {ls : List Int} {us : List Se} (hl : ls.length = 336) (ui : UpIn us) (h : zbx ls 24 = true) (ho : ∀ u ∈ us, u.at_ < 240) : zbx (zco ls us) 24 = true := by
 unfold zbx at h
 rw [List.all_eq_true] at h
 refine zgf fun j hj => ?_
 have g := h j (List.mem_range.2 hj)
 have W : ∀ z, 240 ≤ z → wdI (zco ls us) z = wdI ls z := fun z hz => zfb (by omega) us ls (fun u hu => by
  have a := ui u hu
  have b := ho u hu
  exact ⟨by omega, by omega, by omega⟩)
 unfold zbr at g ⊢
 rw [W _ (by omega), W _ (by omega), W _ (by omega)]
 exact g
/-- The entry that an entry's updates say. -/
theorem en_words {ls : List Int} {k : Nat} {x : Den} {us : List Se} (hl : ls.length = 336) (hk : k < 24) (ui : UpIn us) (ho : ∀ u ∈ us, ¬ (240 + 3 * (k : Int) ≤ u.at_ ∧ u.at_ < 240 + 3 * (k : Int) + 3)) :
  wdI (zco ls (enL (k : Int) x ++ us)) (240 + 3 * (k : Int)) = x.dir ∧ wdI (zco ls (enL (k : Int) x ++ us)) (240 + 3 * (k : Int) + 1) = ((pk x.name x.name.size : Nat) : Int) ∧ wdI (zco ls (enL (k : Int) x ++ us)) (240 + 3 * (k : Int) + 2) = x.child + 1 := by
 have W : ∀ z, 240 + 3 * (k : Int) ≤ z ∧ z < 240 + 3 * (k : Int) + 3 → wdI (zco ls (enL (k : Int) x ++ us)) z = wdI (zco ls (enL (k : Int) x)) z := fun z hz => by
  rw [zjp]
  refine zfb (by omega) us _ (fun u hu => ?_)
  have a := ui u hu
  have b := ho u hu
  rw [zfi]
  refine ⟨by omega, by omega, ?_⟩
  intro q
  exact b (by omega)
 rw [W _ (by omega), W _ (by omega), W _ (by omega)]
 unfold enL
 simp only [znh, updL_nil]
 have l2 : (240 + 3 * (k : Int) + 2) < (336 : Int) := by omega
 refine ⟨?_, ?_, ?_⟩
 ·rw [zdy (by omega) (by simp only [List.length_set]; omega) (by omega), if_neg (by omega), zdy (by omega) (by simp only [List.length_set]; omega) (by omega), if_neg (by omega), zdy (by omega) (by omega) (by omega), if_pos rfl]
 ·rw [zdy (by omega) (by simp only [List.length_set]; omega) (by omega), if_neg (by omega), zdy (by omega) (by simp only [List.length_set]; omega) (by omega), if_pos rfl]
 ·rw [zdy (by omega) (by simp only [List.length_set]; omega) (by omega), if_pos rfl]
theorem zqw {ls : List Int} {k : Nat} {x : Den} {us : List Se} (hl : ls.length = 336) (hk : k < 24) (ui : UpIn us) (ho : ∀ u ∈ us, ¬ (240 + 3 * (k : Int) ≤ u.at_ ∧ u.at_ < 240 + 3 * (k : Int) + 3)) (hx : x = freeD ∨ (0 ≤ x.child ∧ nmB x.name = true)) :
  zez (zco ls (enL (k : Int) x ++ us)) k = x ∧ zbr (zco ls (enL (k : Int) x ++ us)) k = true := by
 obtain ⟨a, b, c⟩ := en_words (x := x) hl hk ui ho
 unfold zez zbr
 rw [a, b, c]
 rcases hx with rfl | ⟨h0, hn⟩
 ·exact ⟨rfl, rfl⟩
 ·have p := (pack_yes hn).1
  obtain ⟨g, s⟩ := unp_pack hn
  rw [p] at g s
  rw [if_neg (by omega), if_neg (by omega), s]
  refine ⟨?_, g⟩
  obtain ⟨d, n, ch⟩ := x
  show Den.mk d n (ch + 1 - 1) = _
  congr 1
  omega
theorem zmi {k : Nat} (hk : k < 24) (x : Den) : UpIn (enL (k : Int) x) := fun u hu => by
 simp only [enL, List.mem_cons, List.not_mem_nil, or_false] at hu
 rcases hu with rfl | rfl | rfl
 ·exact ⟨by show 48 ≤ 240 + 3 * (k : Int); omega, by show 240 + 3 * (k : Int) < 312; omega⟩
 ·exact ⟨by show 48 ≤ 240 + 3 * (k : Int) + 1; omega, by show 240 + 3 * (k : Int) + 1 < 312; omega⟩
 ·exact ⟨by show 48 ≤ 240 + 3 * (k : Int) + 2; omega, by show 240 + 3 * (k : Int) + 2 < 312; omega⟩
end Go.Proofs.YtbbmljakfbhnpaaGreatDoor

namespace Go.Proofs.YtbbmljakfbhnpaaGreatDoor
open Go.RowKit

/-- Words that say a right image, and which. -/
structure Wi (ls : List Int) (ws : List Ino) (ps : List Den) : Prop where
 len : ls.length = 336
 mark : wdI ls 0 = 7
 good : zbx ls 24 = true
 inos : zbd ls 16 = ws
 dens : zbg ls 24 = ps
 img : Img ws ps
theorem zqt {ls : List Int} {us : List Se} (hl : ls.length = 336) (ui : UpIn us) (h : wdI ls 0 = 7) : wdI (zco ls us) 0 = 7 := by
 rw [zfb (by omega) us ls (fun u hu => by have := ui u hu; exact ⟨by omega, by omega, by omega⟩)]
 exact h
theorem zom {ls : List Int} {ws : List Ino} {ps : List Den} (h : Wi ls ws ps) {i : Nat} (hi : i < 16) : zam ws i = zdg ls i := by
 rw [← h.inos]
 unfold zam zbd
 rw [List.getD_eq_getElem?_getD, List.getElem?_map, List.getElem?_range hi]
 rfl
/-- Words of one inode, some of them updated. -/
def zoq (i : Nat) (fs : List (Nat × Int)) : List Se := fs.map fun f => ⟨48 + 12 * (i : Int) + (f.1 : Int), f.2⟩
theorem zrz {i : Nat} {fs : List (Nat × Int)} (hi : i < 16) (hf : ∀ f ∈ fs, f.1 < 11) : UpIn (zoq i fs) := fun u hu => by
 obtain ⟨f, hm, rfl⟩ := List.mem_map.1 hu
 have := hf f hm
 exact ⟨by show 48 ≤ 48 + 12 * (i : Int) + (f.1 : Int); omega, by show 48 + 12 * (i : Int) + (f.1 : Int) < 312; omega⟩
theorem inoU_at {i : Nat} {fs : List (Nat × Int)} (hi : i < 16) (hf : ∀ f ∈ fs, f.1 < 11) : ∀ u ∈ zoq i fs, 48 + 12 * (i : Int) ≤ u.at_ ∧ u.at_ < 48 + 12 * (i : Int) + 11 ∧ u.at_ < 240 := fun u hu => by
 obtain ⟨f, hm, rfl⟩ := List.mem_map.1 hu
 have := hf f hm
 exact ⟨by show 48 + 12 * (i : Int) ≤ 48 + 12 * (i : Int) + (f.1 : Int); omega, by show 48 + 12 * (i : Int) + (f.1 : Int) < 48 + 12 * (i : Int) + 11; omega, by show 48 + 12 * (i : Int) + (f.1 : Int) < 240; omega⟩
/-- One word of an inode behind such updates. -/
def zok (fs : List (Nat × Int)) (g : Nat) (z : Int) : Int := fs.foldl (fun a f => if f.1 = g then f.2 else a) z
theorem fld_upd {i : Nat} (hi : i < 16) {g : Nat} (hg : g < 11) : ∀ (fs : List (Nat × Int)) (ls : List Int), ls.length = 336 → (∀ f ∈ fs, f.1 < 11) → wdI (zco ls (zoq i fs)) (48 + 12 * (i : Int) + (g : Int)) = zok fs g (wdI ls (48 + 12 * (i : Int) + (g : Int))) := by
 intro fs
 induction fs with
 | nil => intro ls _ _; rfl
 | cons f fs ih =>
  intro ls hl hf
  have h11 := hf f (List.mem_cons_self ..)
  show wdI (zco (ls.set (48 + 12 * (i : Int) + (f.1 : Int)).toNat f.2) (zoq i fs)) _ = _
  rw [ih _ (by rw [List.length_set]; exact hl) (fun x hx => hf x (List.mem_cons_of_mem _ hx)), zdy (by omega) (by omega) (by omega)]
  unfold zok
  rw [List.foldl_cons]
  by_cases e : f.1 = g
  ·rw [if_pos (by omega), if_pos e]
  ·rw [if_neg (by omega), if_neg e]
/-- An inode, some of its words updated. -/
def zth (x : Ino) (fs : List (Nat × Int)) : Ino := ⟨zok fs 0 x.kind, zok fs 1 x.size, zok fs 2 x.links, zok fs 3 x.m0, zok fs 4 x.m1, zok fs 5 x.m2, zok fs 6 x.m3, zok fs 7 x.m4, zok fs 8 x.m5, zok fs 9 x.m6, zok fs 10 x.m7⟩
theorem zvl {i : Nat} (hi : i < 16) {fs : List (Nat × Int)} {ls : List Int} (hl : ls.length = 336) (hf : ∀ f ∈ fs, f.1 < 11) : zdg (zco ls (zoq i fs)) i = zth (zdg ls i) fs := by
 have W := fun g hg => fld_upd (g := g) hi hg fs ls hl hf
 have w0 := W 0 (by omega)
 rw [show 48 + 12 * (i : Int) + ((0 : Nat) : Int) = 48 + 12 * (i : Int) by omega] at w0
 unfold zth zdg
 rw [w0]
 congr 1
 ·exact W 1 (by omega)
 ·exact W 2 (by omega)
 ·exact W 3 (by omega)
 ·exact W 4 (by omega)
 ·exact W 5 (by omega)
 ·exact W 6 (by omega)
 ·exact W 7 (by omega)
 ·exact W 8 (by omega)
 ·exact W 9 (by omega)
 ·exact W 10 (by omega)
/-- Updates of one inode, and of one entry, in either order. -/
theorem wi_upd {ls : List Int} {ws : List Ino} {ps : List Den} (h : Wi ls ws ps) {i k : Nat} (hi : i < 16) (hk : k < 24) {fs : List (Nat × Int)} (hf : ∀ f ∈ fs, f.1 < 11) {x : Den} (hx : x = freeD ∨ (0 ≤ x.child ∧ nmB x.name = true)) (img : Img (ws.set i (zth (zam ws i) fs)) (ps.set k x)) :
  Wi (zco ls (zoq i fs ++ enL (k : Int) x)) (ws.set i (zth (zam ws i) fs)) (ps.set k x) ∧ Wi (zco ls (enL (k : Int) x ++ zoq i fs)) (ws.set i (zth (zam ws i) fs)) (ps.set k x) := by
 have iu := zrz (fs := fs) hi hf
 have ia := inoU_at (fs := fs) hi hf
 have eu := zmi hk x
 have ea : ∀ u ∈ enL (k : Int) x, 240 + 3 * (k : Int) ≤ u.at_ ∧ u.at_ < 240 + 3 * (k : Int) + 3 := fun u hu => by
  simp only [enL, List.mem_cons, List.not_mem_nil, or_false] at hu
  rcases hu with rfl | rfl | rfl
  ·exact ⟨Int.le_refl _, by show 240 + 3 * (k : Int) < 240 + 3 * (k : Int) + 3; omega⟩
  ·exact ⟨by show 240 + 3 * (k : Int) ≤ 240 + 3 * (k : Int) + 1; omega, by show 240 + 3 * (k : Int) + 1 < 240 + 3 * (k : Int) + 3; omega⟩
  ·exact ⟨by show 240 + 3 * (k : Int) ≤ 240 + 3 * (k : Int) + 2; omega, by show 240 + 3 * (k : Int) + 2 < 240 + 3 * (k : Int) + 3; omega⟩
 have xi := zom h hi
 have both : ∀ us, UpIn us → (∀ u ∈ us, u ∈ zoq i fs ∨ u ∈ enL (k : Int) x) → zdg (zco ls us) i = zth (zdg ls i) fs → zez (zco ls us) k = x → zbr (zco ls us) k = true → Wi (zco ls us) (ws.set i (zth (zam ws i) fs)) (ps.set k x) := by
  intro us ui mem e1 e2 e3
  have oi : ∀ j : Nat, j < 16 → ¬ j = i → ∀ u ∈ us, ¬ (48 + 12 * (j : Int) ≤ u.at_ ∧ u.at_ < 48 + 12 * (j : Int) + 11) := by
   intro j hj ne u hu
   rcases mem u hu with q | q
   ·have := ia u q; omega
   ·have := ea u q; omega
  have ok : ∀ j : Nat, j < 24 → ¬ j = k → ∀ u ∈ us, ¬ (240 + 3 * (j : Int) ≤ u.at_ ∧ u.at_ < 240 + 3 * (j : Int) + 3) := by
   intro j hj ne u hu
   rcases mem u hu with q | q
   ·have := ia u q; omega
   ·have := ea u q; omega
  refine ⟨by rw [zfi]; exact h.len, zqt h.len ui h.mark, good_upd h.len ui h.good e3 ok, ?_, ?_, img⟩
  ·rw [zrg h.len ui hi e1 oi, h.inos, xi]
  ·rw [zqv h.len ui hk e2 ok, h.dens]
 constructor
 ·refine both _ (iu.app eu) (fun u hu => List.mem_append.1 hu) ?_ ?_ ?_
  ·rw [zjp]
   have W : ∀ z, 48 + 12 * (i : Int) ≤ z ∧ z < 48 + 12 * (i : Int) + 11 → wdI (zco (zco ls (zoq i fs)) (enL (k : Int) x)) z = wdI (zco ls (zoq i fs)) z := fun z hz => zfb (by omega) _ _ (fun u hu => by
    have := ea u hu
    rw [zfi, h.len]
    exact ⟨by omega, by omega, by omega⟩)
   rw [← zvl hi h.len hf]
   unfold zdg
   rw [W _ (by omega), W _ (by omega), W _ (by omega), W _ (by omega), W _ (by omega), W _ (by omega), W _ (by omega), W _ (by omega), W _ (by omega), W _ (by omega), W _ (by omega)]
  ·rw [zjp]
   have := (zqw (ls := zco ls (zoq i fs)) (x := x) (us := []) (by rw [zfi]; exact h.len) hk (fun _ q => by cases q) (fun _ q => by cases q) hx).1
   rw [List.append_nil] at this
   exact this
  ·rw [zjp]
   have := (zqw (ls := zco ls (zoq i fs)) (x := x) (us := []) (by rw [zfi]; exact h.len) hk (fun _ q => by cases q) (fun _ q => by cases q) hx).2
   rw [List.append_nil] at this
   exact this
 ·have oe : ∀ u ∈ zoq i fs, ¬ (240 + 3 * (k : Int) ≤ u.at_ ∧ u.at_ < 240 + 3 * (k : Int) + 3) := fun u hu => by have := ia u hu; omega
  have er := zqw (ls := ls) (x := x) (us := zoq i fs) h.len hk iu oe hx
  refine both _ (eu.app iu) (fun u hu => (List.mem_append.1 hu).symm) ?_ er.1 er.2
  rw [zjp, zvl hi (by rw [zfi]; exact h.len) hf]
  have W : ∀ z, 48 + 12 * (i : Int) ≤ z ∧ z < 48 + 12 * (i : Int) + 11 → wdI (zco ls (enL (k : Int) x)) z = wdI ls z := fun z hz => zfb (by omega) _ _ (fun u hu => by
   have := ea u hu
   rw [h.len]
   exact ⟨by omega, by omega, by omega⟩)
  congr 1
  unfold zdg
  rw [W _ (by omega), W _ (by omega), W _ (by omega), W _ (by omega), W _ (by omega), W _ (by omega), W _ (by omega), W _ (by omega), W _ (by omega), W _ (by omega), W _ (by omega)]
/-- Updates of one inode alone. -/
theorem wi_ino {ls : List Int} {ws : List Ino} {ps : List Den} (h : Wi ls ws ps) {i : Nat} (hi : i < 16) {fs : List (Nat × Int)} (hf : ∀ f ∈ fs, f.1 < 11) (img : Img (ws.set i (zth (zam ws i) fs)) ps) :
  Wi (zco ls (zoq i fs)) (ws.set i (zth (zam ws i) fs)) ps := by
 have iu := zrz (fs := fs) hi hf
 have ia := inoU_at (fs := fs) hi hf
 refine ⟨by rw [zfi]; exact h.len, zqt h.len iu h.mark, good_same h.len iu h.good (fun u hu => (ia u hu).2.2), ?_, ?_, img⟩
 ·rw [zrg h.len iu hi (zvl hi h.len hf) (fun j _ _ u hu => by have := ia u hu; omega), h.inos, zom h hi]
 ·rw [dens_same h.len iu (fun u hu => (ia u hu).2.2), h.dens]
/-- Updates of one entry alone. -/
theorem wi_den {ls : List Int} {ws : List Ino} {ps : List Den} (h : Wi ls ws ps) {k : Nat} (hk : k < 24) {x : Den} (hx : x = freeD ∨ (0 ≤ x.child ∧ nmB x.name = true)) (img : Img ws (ps.set k x)) :
  Wi (zco ls (enL (k : Int) x)) ws (ps.set k x) := by
 have eu := zmi hk x
 have ea : ∀ u ∈ enL (k : Int) x, 240 + 3 * (k : Int) ≤ u.at_ ∧ u.at_ < 240 + 3 * (k : Int) + 3 := fun u hu => by
  simp only [enL, List.mem_cons, List.not_mem_nil, or_false] at hu
  rcases hu with rfl | rfl | rfl
  ·exact ⟨Int.le_refl _, by show 240 + 3 * (k : Int) < 240 + 3 * (k : Int) + 3; omega⟩
  ·exact ⟨by show 240 + 3 * (k : Int) ≤ 240 + 3 * (k : Int) + 1; omega, by show 240 + 3 * (k : Int) + 1 < 240 + 3 * (k : Int) + 3; omega⟩
  ·exact ⟨by show 240 + 3 * (k : Int) ≤ 240 + 3 * (k : Int) + 2; omega, by show 240 + 3 * (k : Int) + 2 < 240 + 3 * (k : Int) + 3; omega⟩
 have er := zqw (ls := ls) (x := x) (us := []) h.len hk (fun _ q => by cases q) (fun _ q => by cases q) hx
 rw [List.append_nil] at er
 refine ⟨by rw [zfi]; exact h.len, zqt h.len eu h.mark, good_upd h.len eu h.good er.2 (fun j _ ne u hu => by have := ea u hu; omega), ?_, ?_, img⟩
 ·rw [inos_same h.len eu (fun u hu => by have := ea u hu; omega), h.inos]
 ·rw [zqv h.len eu hk er.1 (fun j _ ne u hu => by have := ea u hu; omega), h.dens]
end Go.Proofs.YtbbmljakfbhnpaaGreatDoor
