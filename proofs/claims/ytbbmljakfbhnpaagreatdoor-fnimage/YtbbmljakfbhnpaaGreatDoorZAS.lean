/- Several texts laid together: IgF, IgG, Blk, BlkOK, Dev, MiS. -/
import Derived.Test.YtbbmljakfbhnpaaGreatDoorZAQ
import Derived.Test.YtbbmljakfbhnpaaGreatDoorZAR
import Derived.Test.YtbbmljakfbhnpaaGreatDoorZAB
import Derived.Deep.RegionWith
import Derived.Test.YtbbmljakfbhnpaaGreatDoorZAE
import Derived.Test.YtbbmljakfbhnpaaGreatDoorZAA
namespace Go.Proofs.YtbbmljakfbhnpaaGreatDoor
open Go.RowKit

/-- The words behind updates. -/
def zbx (ls : List Int) (us : List Se) : List Int := us.foldl (fun l u => l.set u.at_.toNat u.val) ls
theorem updL_nil (ls : List Int) : zbx ls [] = ls := rfl
theorem ziz (ls : List Int) (u : Se) (us : List Se) : zbx ls (u :: us) = zbx (ls.set u.at_.toNat u.val) us := rfl
theorem ziu (ls : List Int) (us vs : List Se) : zbx ls (us ++ vs) = zbx (zbx ls us) vs := by unfold zbx; rw [List.foldl_append]
theorem zdw (us : List Se) : ∀ (ls : List Int), (zbx ls us).length = ls.length := by
 induction us with
 | nil => intro ls; rfl
 | cons u us ih => intro ls; rw [ziz, ih, List.length_set]
theorem zdo {ls : List Int} {a z v : Int} (ha : 0 ≤ a) (hl : a < (ls.length : Int)) (hz : 0 ≤ z) : wdI (ls.set a.toNat v) z = if z = a then v else wdI ls z := by
 unfold wdI
 rw [List.getD_eq_getElem?_getD, List.getD_eq_getElem?_getD, List.getElem?_set]
 by_cases e : z = a
 ·rw [if_pos e, e, if_pos rfl, if_pos (by omega)]; rfl
 ·rw [if_neg e, if_neg (by omega)]
theorem zep {z : Int} (hz : 0 ≤ z) : ∀ (us : List Se) (ls : List Int), (∀ u ∈ us, 0 ≤ u.at_ ∧ u.at_ < (ls.length : Int) ∧ ¬ u.at_ = z) → wdI (zbx ls us) z = wdI ls z := by
 intro us
 induction us with
 | nil => intro ls _; rfl
 | cons u us ih =>
  intro ls h
  rw [ziz, ih _ (fun v hv => by rw [List.length_set]; exact h v (List.mem_cons_of_mem _ hv))]
  obtain ⟨a, b, c⟩ := h u (List.mem_cons_self ..)
  rw [zdo a b hz, if_neg (fun e => c e.symm)]
/-- All words of updates that reach inodes and entries alone. -/
def UpIn (us : List Se) : Prop := ∀ u ∈ us, 48 ≤ u.at_ ∧ u.at_ < 312
theorem UpIn.app {us vs : List Se} (h : UpIn us) (k : UpIn vs) : UpIn (us ++ vs) := fun u hu => by
 rcases List.mem_append.1 hu with q | q
 ·exact h u q
 ·exact k u q
theorem zla {ls : List Int} {us : List Se} {i : Nat} {x : Ino} (hl : ls.length = 336) (ui : UpIn us) (hi : i < 16) (hx : zdc (zbx ls us) i = x) (ho : ∀ j : Nat, j < 16 → ¬ j = i → ∀ u ∈ us, ¬ (48 + 12 * (j : Int) ≤ u.at_ ∧ u.at_ < 48 + 12 * (j : Int) + 11)) : zbc (zbx ls us) 16 = (zbc ls 16).set i x := by
 apply List.ext_getElem?
 intro j
 rw [List.getElem?_set]
 unfold zbc
 rw [List.length_map, List.length_range, List.getElem?_map, List.getElem?_map]
 by_cases hj : j < 16
 ·rw [List.getElem?_range hj]
  by_cases e : i = j
  ·rw [if_pos e, if_pos (by omega), ← e]
   show some (zdc (zbx ls us) i) = some x
   rw [hx]
  ·rw [if_neg e]
   show some (zdc (zbx ls us) j) = some (zdc ls j)
   have W : ∀ z, 48 + 12 * (j : Int) ≤ z ∧ z < 48 + 12 * (j : Int) + 11 → wdI (zbx ls us) z = wdI ls z := fun z hz => zep (by omega) us ls (fun u hu => by
    have a := ui u hu
    have b := ho j hj (fun q => e q.symm) u hu
    refine ⟨by omega, by omega, ?_⟩
    intro q
    exact b (by omega))
   unfold zdc
   rw [W _ (by omega), W _ (by omega), W _ (by omega), W _ (by omega), W _ (by omega), W _ (by omega), W _ (by omega), W _ (by omega), W _ (by omega), W _ (by omega), W _ (by omega)]
 ·rw [List.getElem?_eq_none (by simp; omega)]
  by_cases e : i = j
  ·omega
  ·rw [if_neg e]; rfl
theorem zlk {ls : List Int} {us : List Se} {k : Nat} {x : Den} (hl : ls.length = 336) (ui : UpIn us) (hk : k < 24) (hx : zem (zbx ls us) k = x) (ho : ∀ j : Nat, j < 24 → ¬ j = k → ∀ u ∈ us, ¬ (240 + 3 * (j : Int) ≤ u.at_ ∧ u.at_ < 240 + 3 * (j : Int) + 3)) : zbe (zbx ls us) 24 = (zbe ls 24).set k x := by
 apply List.ext_getElem?
 intro j
 rw [List.getElem?_set]
 unfold zbe
 rw [List.length_map, List.length_range, List.getElem?_map, List.getElem?_map]
 by_cases hj : j < 24
 ·rw [List.getElem?_range hj]
  by_cases e : k = j
  ·rw [if_pos e, if_pos (by omega), ← e]
   show some (zem (zbx ls us) k) = some x
   rw [hx]
  ·rw [if_neg e]
   show some (zem (zbx ls us) j) = some (zem ls j)
   have W : ∀ z, 240 + 3 * (j : Int) ≤ z ∧ z < 240 + 3 * (j : Int) + 3 → wdI (zbx ls us) z = wdI ls z := fun z hz => zep (by omega) us ls (fun u hu => by
    have a := ui u hu
    have b := ho j hj (fun q => e q.symm) u hu
    refine ⟨by omega, by omega, ?_⟩
    intro q
    exact b (by omega))
   unfold zem
   rw [W _ (by omega), W _ (by omega), W _ (by omega)]
 ·rw [List.getElem?_eq_none (by simp; omega)]
  by_cases e : k = j
  ·omega
  ·rw [if_neg e]; rfl
theorem ztn {ls : List Int} {us : List Se} (hl : ls.length = 336) (ui : UpIn us) (ho : ∀ u ∈ us, u.at_ < 240) : zbe (zbx ls us) 24 = zbe ls 24 := by
 have q := zlk (k := 0) (x := zem (zbx ls us) 0) hl ui (by omega) rfl (fun j _ _ u hu => by have := ho u hu; omega)
 rw [q]
 have W : ∀ z, 240 ≤ z → wdI (zbx ls us) z = wdI ls z := fun z hz => zep (by omega) us ls (fun u hu => by
  have a := ui u hu
  have b := ho u hu
  exact ⟨by omega, by omega, by omega⟩)
 have e : zem (zbx ls us) 0 = zem ls 0 := by
  unfold zem
  rw [W _ (by omega), W _ (by omega), W _ (by omega)]
 rw [e]
 rfl
theorem ztb {ls : List Int} {us : List Se} (hl : ls.length = 336) (ui : UpIn us) (ho : ∀ u ∈ us, 240 ≤ u.at_) : zbc (zbx ls us) 16 = zbc ls 16 := by
 have q := zla (i := 0) (x := zdc (zbx ls us) 0) hl ui (by omega) rfl (fun j _ _ u hu => by have := ho u hu; omega)
 rw [q]
 have W : ∀ z, 48 ≤ z ∧ z < 240 → wdI (zbx ls us) z = wdI ls z := fun z hz => zep (by omega) us ls (fun u hu => by
  have a := ui u hu
  have b := ho u hu
  exact ⟨by omega, by omega, by omega⟩)
 have e : zdc (zbx ls us) 0 = zdc ls 0 := by
  unfold zdc
  rw [W _ (by omega), W _ (by omega), W _ (by omega), W _ (by omega), W _ (by omega), W _ (by omega), W _ (by omega), W _ (by omega), W _ (by omega), W _ (by omega), W _ (by omega)]
 rw [e]
 rfl
/-- The entries' words are right behind updates. -/
theorem zqm {ls : List Int} {us : List Se} {k : Nat} (hl : ls.length = 336) (ui : UpIn us) (h : zbu ls 24 = true) (hk : zbm (zbx ls us) k = true) (ho : ∀ j : Nat, j < 24 → ¬ j = k → ∀ u ∈ us, ¬ (240 + 3 * (j : Int) ≤ u.at_ ∧ u.at_ < 240 + 3 * (j : Int) + 3)) : zbu (zbx ls us) 24 = true := by
 unfold zbu at h
 rw [List.all_eq_true] at h
 refine zfz fun j hj => ?_
 by_cases e : j = k
 ·rw [e]; exact hk
 ·have g := h j (List.mem_range.2 hj)
  have W : ∀ z, 240 + 3 * (j : Int) ≤ z ∧ z < 240 + 3 * (j : Int) + 3 → wdI (zbx ls us) z = wdI ls z := fun z hz => zep (by omega) us ls (fun u hu => by
   have a := ui u hu
   have b := ho j hj e u hu
   refine ⟨by omega, by omega, ?_⟩
   intro q
   exact b (by omega))
  unfold zbm at g ⊢
  rw [W _ (by omega), W _ (by omega), W _ (by omega)]
  exact g
theorem ztk {ls : List Int} {us : List Se} (hl : ls.length = 336) (ui : UpIn us) (h : zbu ls 24 = true) (ho : ∀ u ∈ us, u.at_ < 240) : zbu (zbx ls us) 24 = true := by
 unfold zbu at h
 rw [List.all_eq_true] at h
 refine zfz fun j hj => ?_
 have g := h j (List.mem_range.2 hj)
 have W : ∀ z, 240 ≤ z → wdI (zbx ls us) z = wdI ls z := fun z hz => zep (by omega) us ls (fun u hu => by
  have a := ui u hu
  have b := ho u hu
  exact ⟨by omega, by omega, by omega⟩)
 unfold zbm at g ⊢
 rw [W _ (by omega), W _ (by omega), W _ (by omega)]
 exact g
/-- The entry that an entry's updates say. -/
theorem en_words {ls : List Int} {k : Nat} {x : Den} {us : List Se} (hl : ls.length = 336) (hk : k < 24) (ui : UpIn us) (ho : ∀ u ∈ us, ¬ (240 + 3 * (k : Int) ≤ u.at_ ∧ u.at_ < 240 + 3 * (k : Int) + 3)) :
  wdI (zbx ls (enL (k : Int) x ++ us)) (240 + 3 * (k : Int)) = x.dir ∧ wdI (zbx ls (enL (k : Int) x ++ us)) (240 + 3 * (k : Int) + 1) = ((pk x.name x.name.size : Nat) : Int) ∧ wdI (zbx ls (enL (k : Int) x ++ us)) (240 + 3 * (k : Int) + 2) = x.child + 1 := by
 have W : ∀ z, 240 + 3 * (k : Int) ≤ z ∧ z < 240 + 3 * (k : Int) + 3 → wdI (zbx ls (enL (k : Int) x ++ us)) z = wdI (zbx ls (enL (k : Int) x)) z := fun z hz => by
  rw [ziu]
  refine zep (by omega) us _ (fun u hu => ?_)
  have a := ui u hu
  have b := ho u hu
  rw [zdw]
  refine ⟨by omega, by omega, ?_⟩
  intro q
  exact b (by omega)
 rw [W _ (by omega), W _ (by omega), W _ (by omega)]
 unfold enL
 simp only [ziz, updL_nil]
 have l2 : (240 + 3 * (k : Int) + 2) < (336 : Int) := by omega
 refine ⟨?_, ?_, ?_⟩
 ·rw [zdo (by omega) (by simp only [List.length_set]; omega) (by omega), if_neg (by omega), zdo (by omega) (by simp only [List.length_set]; omega) (by omega), if_neg (by omega), zdo (by omega) (by omega) (by omega), if_pos rfl]
 ·rw [zdo (by omega) (by simp only [List.length_set]; omega) (by omega), if_neg (by omega), zdo (by omega) (by simp only [List.length_set]; omega) (by omega), if_pos rfl]
 ·rw [zdo (by omega) (by simp only [List.length_set]; omega) (by omega), if_pos rfl]
theorem zme {ls : List Int} {k : Nat} {x : Den} {us : List Se} (hl : ls.length = 336) (hk : k < 24) (ui : UpIn us) (ho : ∀ u ∈ us, ¬ (240 + 3 * (k : Int) ≤ u.at_ ∧ u.at_ < 240 + 3 * (k : Int) + 3)) (hx : x = freeD ∨ (0 ≤ x.child ∧ nmB x.name = true)) :
  zem (zbx ls (enL (k : Int) x ++ us)) k = x ∧ zbm (zbx ls (enL (k : Int) x ++ us)) k = true := by
 obtain ⟨a, b, c⟩ := en_words (x := x) hl hk ui ho
 unfold zem zbm
 rw [a, b, c]
 rcases hx with rfl | ⟨h0, hn⟩
 ·exact ⟨rfl, rfl⟩
 ·have p := (zrj hn).1
  obtain ⟨g, s⟩ := unp_pack hn
  rw [p] at g s
  rw [if_neg (by omega), if_neg (by omega), s]
  refine ⟨?_, g⟩
  obtain ⟨d, n, ch⟩ := x
  show Den.mk d n (ch + 1 - 1) = _
  congr 1
  omega
theorem zkc {k : Nat} (hk : k < 24) (x : Den) : UpIn (enL (k : Int) x) := fun u hu => by
 simp only [enL, List.mem_cons, List.not_mem_nil, or_false] at hu
 rcases hu with rfl | rfl | rfl
 ·exact ⟨by show 48 ≤ 240 + 3 * (k : Int); omega, by show 240 + 3 * (k : Int) < 312; omega⟩
 ·exact ⟨by show 48 ≤ 240 + 3 * (k : Int) + 1; omega, by show 240 + 3 * (k : Int) + 1 < 312; omega⟩
 ·exact ⟨by show 48 ≤ 240 + 3 * (k : Int) + 2; omega, by show 240 + 3 * (k : Int) + 2 < 312; omega⟩
end Go.Proofs.YtbbmljakfbhnpaaGreatDoor

namespace Go.Proofs.YtbbmljakfbhnpaaGreatDoor
open Go.RowKit

/-- Words that say a right image, and which. -/
structure Wi (ls : List Int) (ws : List Ino) (ps : List Den) : Prop where
 len : ls.length = 336
 mark : wdI ls 0 = 7
 good : zbu ls 24 = true
 inos : zbc ls 16 = ws
 dens : zbe ls 24 = ps
 img : Img ws ps
theorem Wi.ri {ls : List Int} {ws : List Ino} {ps : List Den} (h : Wi ls ws ps) : riB ls = true := by
 unfold riB
 rw [h.mark, h.good, h.inos, h.dens, zbp.2 h.img]
 rfl
theorem ziq {ls : List Int} {us : List Se} (hl : ls.length = 336) (ui : UpIn us) (h : wdI ls 0 = 7) : wdI (zbx ls us) 0 = 7 := by
 rw [zep (by omega) us ls (fun u hu => by have := ui u hu; exact ⟨by omega, by omega, by omega⟩)]
 exact h
theorem zhu {ls : List Int} {ws : List Ino} {ps : List Den} (h : Wi ls ws ps) {i : Nat} (hi : i < 16) : zal ws i = zdc ls i := by
 rw [← h.inos]
 unfold zal zbc
 rw [List.getD_eq_getElem?_getD, List.getElem?_map, List.getElem?_range hi]
 rfl
/-- Words of one inode, some of them updated. -/
def zkh (i : Nat) (fs : List (Nat × Int)) : List Se := fs.map fun f => ⟨48 + 12 * (i : Int) + (f.1 : Int), f.2⟩
theorem znf {i : Nat} {fs : List (Nat × Int)} (hi : i < 16) (hf : ∀ f ∈ fs, f.1 < 11) : UpIn (zkh i fs) := fun u hu => by
 obtain ⟨f, hm, rfl⟩ := List.mem_map.1 hu
 have := hf f hm
 exact ⟨by show 48 ≤ 48 + 12 * (i : Int) + (f.1 : Int); omega, by show 48 + 12 * (i : Int) + (f.1 : Int) < 312; omega⟩
theorem zwu {i : Nat} {fs : List (Nat × Int)} (hi : i < 16) (hf : ∀ f ∈ fs, f.1 < 11) : ∀ u ∈ zkh i fs, 48 + 12 * (i : Int) ≤ u.at_ ∧ u.at_ < 48 + 12 * (i : Int) + 11 ∧ u.at_ < 240 := fun u hu => by
 obtain ⟨f, hm, rfl⟩ := List.mem_map.1 hu
 have := hf f hm
 exact ⟨by show 48 + 12 * (i : Int) ≤ 48 + 12 * (i : Int) + (f.1 : Int); omega, by show 48 + 12 * (i : Int) + (f.1 : Int) < 48 + 12 * (i : Int) + 11; omega, by show 48 + 12 * (i : Int) + (f.1 : Int) < 240; omega⟩
/-- One word of an inode behind such updates. -/
def zmd (fs : List (Nat × Int)) (g : Nat) (z : Int) : Int := fs.foldl (fun a f => if f.1 = g then f.2 else a) z
theorem fld_upd {i : Nat} (hi : i < 16) {g : Nat} (hg : g < 11) : ∀ (fs : List (Nat × Int)) (ls : List Int), ls.length = 336 → (∀ f ∈ fs, f.1 < 11) → wdI (zbx ls (zkh i fs)) (48 + 12 * (i : Int) + (g : Int)) = zmd fs g (wdI ls (48 + 12 * (i : Int) + (g : Int))) := by
 intro fs
 induction fs with
 | nil => intro ls _ _; rfl
 | cons f fs ih =>
  intro ls hl hf
  have h11 := hf f (List.mem_cons_self ..)
  show wdI (zbx (ls.set (48 + 12 * (i : Int) + (f.1 : Int)).toNat f.2) (zkh i fs)) _ = _
  rw [ih _ (by rw [List.length_set]; exact hl) (fun x hx => hf x (List.mem_cons_of_mem _ hx)), zdo (by omega) (by omega) (by omega)]
  unfold zmd
  rw [List.foldl_cons]
  by_cases e : f.1 = g
  ·rw [if_pos (by omega), if_pos e]
  ·rw [if_neg (by omega), if_neg e]
/-- An inode, some of its words updated. -/
def zrv (x : Ino) (fs : List (Nat × Int)) : Ino := ⟨zmd fs 0 x.kind, zmd fs 1 x.size, zmd fs 2 x.links, zmd fs 3 x.m0, zmd fs 4 x.m1, zmd fs 5 x.m2, zmd fs 6 x.m3, zmd fs 7 x.m4, zmd fs 8 x.m5, zmd fs 9 x.m6, zmd fs 10 x.m7⟩
theorem zqy {i : Nat} (hi : i < 16) {fs : List (Nat × Int)} {ls : List Int} (hl : ls.length = 336) (hf : ∀ f ∈ fs, f.1 < 11) : zdc (zbx ls (zkh i fs)) i = zrv (zdc ls i) fs := by
 have W := fun g hg => fld_upd (g := g) hi hg fs ls hl hf
 have w0 := W 0 (by omega)
 rw [show 48 + 12 * (i : Int) + ((0 : Nat) : Int) = 48 + 12 * (i : Int) by omega] at w0
 unfold zrv zdc
 rw [w0]
 congr 1
 ·exact W 1 (by omega)
 ·exact W 2 (by omega)
 ·exact W 3 (by omega)
 ·exact W 4 (by omega)
 ·exact W 5 (by omega)
 ·exact W 6 (by omega)
 ·exact W 7 (by omega)
 ·exact W 8 (by omega)
 ·exact W 9 (by omega)
 ·exact W 10 (by omega)
/-- Updates of one inode, and of one entry, in either order. -/
theorem wi_upd {ls : List Int} {ws : List Ino} {ps : List Den} (h : Wi ls ws ps) {i k : Nat} (hi : i < 16) (hk : k < 24) {fs : List (Nat × Int)} (hf : ∀ f ∈ fs, f.1 < 11) {x : Den} (hx : x = freeD ∨ (0 ≤ x.child ∧ nmB x.name = true)) (img : Img (ws.set i (zrv (zal ws i) fs)) (ps.set k x)) :
  Wi (zbx ls (zkh i fs ++ enL (k : Int) x)) (ws.set i (zrv (zal ws i) fs)) (ps.set k x) ∧ Wi (zbx ls (enL (k : Int) x ++ zkh i fs)) (ws.set i (zrv (zal ws i) fs)) (ps.set k x) := by
 have iu := znf (fs := fs) hi hf
 have ia := zwu (fs := fs) hi hf
 have eu := zkc hk x
 have ea : ∀ u ∈ enL (k : Int) x, 240 + 3 * (k : Int) ≤ u.at_ ∧ u.at_ < 240 + 3 * (k : Int) + 3 := fun u hu => by
  simp only [enL, List.mem_cons, List.not_mem_nil, or_false] at hu
  rcases hu with rfl | rfl | rfl
  ·exact ⟨Int.le_refl _, by show 240 + 3 * (k : Int) < 240 + 3 * (k : Int) + 3; omega⟩
  ·exact ⟨by show 240 + 3 * (k : Int) ≤ 240 + 3 * (k : Int) + 1; omega, by show 240 + 3 * (k : Int) + 1 < 240 + 3 * (k : Int) + 3; omega⟩
  ·exact ⟨by show 240 + 3 * (k : Int) ≤ 240 + 3 * (k : Int) + 2; omega, by show 240 + 3 * (k : Int) + 2 < 240 + 3 * (k : Int) + 3; omega⟩
 have xi := zhu h hi
 have both : ∀ us, UpIn us → (∀ u ∈ us, u ∈ zkh i fs ∨ u ∈ enL (k : Int) x) → zdc (zbx ls us) i = zrv (zdc ls i) fs → zem (zbx ls us) k = x → zbm (zbx ls us) k = true → Wi (zbx ls us) (ws.set i (zrv (zal ws i) fs)) (ps.set k x) := by
  intro us ui mem e1 e2 e3
  have oi : ∀ j : Nat, j < 16 → ¬ j = i → ∀ u ∈ us, ¬ (48 + 12 * (j : Int) ≤ u.at_ ∧ u.at_ < 48 + 12 * (j : Int) + 11) := by
   intro j hj ne u hu
   rcases mem u hu with q | q
   ·have := ia u q; omega
   ·have := ea u q; omega
  have ok : ∀ j : Nat, j < 24 → ¬ j = k → ∀ u ∈ us, ¬ (240 + 3 * (j : Int) ≤ u.at_ ∧ u.at_ < 240 + 3 * (j : Int) + 3) := by
   intro j hj ne u hu
   rcases mem u hu with q | q
   ·have := ia u q; omega
   ·have := ea u q; omega
  refine ⟨by rw [zdw]; exact h.len, ziq h.len ui h.mark, zqm h.len ui h.good e3 ok, ?_, ?_, img⟩
  ·rw [zla h.len ui hi e1 oi, h.inos, xi]
  ·rw [zlk h.len ui hk e2 ok, h.dens]
 constructor
 ·refine both _ (iu.app eu) (fun u hu => List.mem_append.1 hu) ?_ ?_ ?_
  ·rw [ziu]
   have W : ∀ z, 48 + 12 * (i : Int) ≤ z ∧ z < 48 + 12 * (i : Int) + 11 → wdI (zbx (zbx ls (zkh i fs)) (enL (k : Int) x)) z = wdI (zbx ls (zkh i fs)) z := fun z hz => zep (by omega) _ _ (fun u hu => by
    have := ea u hu
    rw [zdw, h.len]
    exact ⟨by omega, by omega, by omega⟩)
   rw [← zqy hi h.len hf]
   unfold zdc
   rw [W _ (by omega), W _ (by omega), W _ (by omega), W _ (by omega), W _ (by omega), W _ (by omega), W _ (by omega), W _ (by omega), W _ (by omega), W _ (by omega), W _ (by omega)]
  ·rw [ziu]
   have := (zme (ls := zbx ls (zkh i fs)) (x := x) (us := []) (by rw [zdw]; exact h.len) hk (fun _ q => by cases q) (fun _ q => by cases q) hx).1
   rw [List.append_nil] at this
   exact this
  ·rw [ziu]
   have := (zme (ls := zbx ls (zkh i fs)) (x := x) (us := []) (by rw [zdw]; exact h.len) hk (fun _ q => by cases q) (fun _ q => by cases q) hx).2
   rw [List.append_nil] at this
   exact this
 ·have oe : ∀ u ∈ zkh i fs, ¬ (240 + 3 * (k : Int) ≤ u.at_ ∧ u.at_ < 240 + 3 * (k : Int) + 3) := fun u hu => by have := ia u hu; omega
  have er := zme (ls := ls) (x := x) (us := zkh i fs) h.len hk iu oe hx
  refine both _ (eu.app iu) (fun u hu => (List.mem_append.1 hu).symm) ?_ er.1 er.2
  rw [ziu, zqy hi (by rw [zdw]; exact h.len) hf]
  have W : ∀ z, 48 + 12 * (i : Int) ≤ z ∧ z < 48 + 12 * (i : Int) + 11 → wdI (zbx ls (enL (k : Int) x)) z = wdI ls z := fun z hz => zep (by omega) _ _ (fun u hu => by
   have := ea u hu
   rw [h.len]
   exact ⟨by omega, by omega, by omega⟩)
  congr 1
  unfold zdc
  rw [W _ (by omega), W _ (by omega), W _ (by omega), W _ (by omega), W _ (by omega), W _ (by omega), W _ (by omega), W _ (by omega), W _ (by omega), W _ (by omega), W _ (by omega)]
/-- Updates of one inode alone. -/
theorem wi_ino {ls : List Int} {ws : List Ino} {ps : List Den} (h : Wi ls ws ps) {i : Nat} (hi : i < 16) {fs : List (Nat × Int)} (hf : ∀ f ∈ fs, f.1 < 11) (img : Img (ws.set i (zrv (zal ws i) fs)) ps) :
  Wi (zbx ls (zkh i fs)) (ws.set i (zrv (zal ws i) fs)) ps := by
 have iu := znf (fs := fs) hi hf
 have ia := zwu (fs := fs) hi hf
 refine ⟨by rw [zdw]; exact h.len, ziq h.len iu h.mark, ztk h.len iu h.good (fun u hu => (ia u hu).2.2), ?_, ?_, img⟩
 ·rw [zla h.len iu hi (zqy hi h.len hf) (fun j _ _ u hu => by have := ia u hu; omega), h.inos, zhu h hi]
 ·rw [ztn h.len iu (fun u hu => (ia u hu).2.2), h.dens]
/-- Updates of one entry alone. -/
theorem wi_den {ls : List Int} {ws : List Ino} {ps : List Den} (h : Wi ls ws ps) {k : Nat} (hk : k < 24) {x : Den} (hx : x = freeD ∨ (0 ≤ x.child ∧ nmB x.name = true)) (img : Img ws (ps.set k x)) :
  Wi (zbx ls (enL (k : Int) x)) ws (ps.set k x) := by
 have eu := zkc hk x
 have ea : ∀ u ∈ enL (k : Int) x, 240 + 3 * (k : Int) ≤ u.at_ ∧ u.at_ < 240 + 3 * (k : Int) + 3 := fun u hu => by
  simp only [enL, List.mem_cons, List.not_mem_nil, or_false] at hu
  rcases hu with rfl | rfl | rfl
  ·exact ⟨Int.le_refl _, by show 240 + 3 * (k : Int) < 240 + 3 * (k : Int) + 3; omega⟩
  ·exact ⟨by show 240 + 3 * (k : Int) ≤ 240 + 3 * (k : Int) + 1; omega, by show 240 + 3 * (k : Int) + 1 < 240 + 3 * (k : Int) + 3; omega⟩
  ·exact ⟨by show 240 + 3 * (k : Int) ≤ 240 + 3 * (k : Int) + 2; omega, by show 240 + 3 * (k : Int) + 2 < 240 + 3 * (k : Int) + 3; omega⟩
 have er := zme (ls := ls) (x := x) (us := []) h.len hk (fun _ q => by cases q) (fun _ q => by cases q) hx
 rw [List.append_nil] at er
 refine ⟨by rw [zdw]; exact h.len, ziq h.len eu h.mark, zqm h.len eu h.good er.2 (fun j _ ne u hu => by have := ea u hu; omega), ?_, ?_, img⟩
 ·rw [ztb h.len eu (fun u hu => by have := ea u hu; omega), h.inos]
 ·rw [zlk h.len eu hk er.1 (fun j _ ne u hu => by have := ea u hu; omega), h.dens]
end Go.Proofs.YtbbmljakfbhnpaaGreatDoor

namespace Go.Proofs.YtbbmljakfbhnpaaGreatDoor
open Go.RowKit

/-- A device that can be read: its words, and its writes. -/
def RdBlk (w : World) (v : Value) (ws : List Int) (ps : List Se) : Prop := ∃ vW vP, v = .agg #[vW, vP] ∧ RdI w vW ws ∧ RdE w vP ps
/-- A slice of numbers of a call's own, in a block of numbers or in an array's. -/
def RowZ (w : World) (lo hi : Nat) (v : Value) (n : Nat) (xs : List Value) : Prop := ∃ e, e ≠ 146 ∧ Row w e 1 lo hi v n xs
theorem RowZ.rd {w : World} {lo hi : Nat} {v : Value} {n : Nat} {xs : List Value} (h : RowZ w lo hi v n xs) : Rd w 1 v n xs := by
 obtain ⟨_, _, h⟩ := h
 exact h.rd
theorem RowZ.same {w w' : World} {lo hi : Nat} {v : Value} {n : Nat} {xs : List Value} (h : RowZ w lo hi v n xs) (hs : ∀ b, lo ≤ b → b < hi → w'.heap[b]? = w.heap[b]?) : RowZ w' lo hi v n xs := by
 obtain ⟨e, he, h⟩ := h
 exact ⟨e, he, h.same hs⟩
theorem RowZ.below {w w' : World} {lo hi : Nat} {v : Value} {n : Nat} {xs : List Value} (h : RowZ w lo hi v n xs) {B : Nat} (hb : Below B w w') (hB : hi ≤ B) : RowZ w' lo hi v n xs := by
 obtain ⟨e, he, h⟩ := h
 exact ⟨e, he, h.below hb hB⟩
theorem RowZ.outside {w w' : World} {lo hi : Nat} {v : Value} {n : Nat} {xs : List Value} (h : RowZ w lo hi v n xs) {lo' hi' : Nat} (ho : Outside lo' hi' w w') (hd : hi ≤ lo' ∨ hi' ≤ lo) (hz : hi ≤ w.heap.size) : RowZ w' lo hi v n xs := by
 obtain ⟨e, he, h⟩ := h
 exact ⟨e, he, h.outside ho hd hz⟩
theorem RowZ.wide {w : World} {lo hi : Nat} {v : Value} {n : Nat} {xs : List Value} (h : RowZ w lo hi v n xs) {lo' hi' : Nat} (h1 : lo' ≤ lo) (h2 : hi ≤ hi') : RowZ w lo' hi' v n xs := by
 obtain ⟨e, he, h⟩ := h
 exact ⟨e, he, h.wide h1 h2⟩
theorem RowZ.nil (w : World) (lo hi : Nat) : RowZ w lo hi (.slice none 0 0) 0 [] := ⟨3, by decide, Row.nil _ _ _ _ _⟩
theorem Row.z {w : World} {lo hi : Nat} {v : Value} {n : Nat} {xs : List Value} (h : Row w 3 1 lo hi v n xs) : RowZ w lo hi v n xs := ⟨3, by decide, h⟩
/-- A device of a call's own. -/
def RowBlk (w : World) (lo hi : Nat) (v : Value) (ws : List Int) (ps : List Se) : Prop := ∃ vW vP, v = .agg #[vW, vP] ∧ RowZ w lo hi vW ws.length (zco ws) ∧ Row w 146 2 lo hi vP ps.length (ses ps)

theorem RowBlk.rd {w : World} {lo hi : Nat} {v : Value} {ws : List Int} {ps : List Se} (h : RowBlk w lo hi v ws ps) : RdBlk w v ws ps := by
 obtain ⟨vW, vP, rfl, h1, h2⟩ := h
 exact ⟨vW, vP, rfl, h1.rd, h2.rd⟩
theorem RdBlk.below {w w' : World} {v : Value} {ws : List Int} {ps : List Se} (h : RdBlk w v ws ps) (hb : Below w.heap.size w w') : RdBlk w' v ws ps := by
 obtain ⟨vW, vP, rfl, h1, h2⟩ := h
 exact ⟨vW, vP, rfl, Rd.below h1 hb, Rd.below h2 hb⟩
theorem RowBlk.below {w w' : World} {lo hi : Nat} {v : Value} {ws : List Int} {ps : List Se} (h : RowBlk w lo hi v ws ps) {B : Nat} (hb : Below B w w') (hB : hi ≤ B) : RowBlk w' lo hi v ws ps := by
 obtain ⟨vW, vP, rfl, h1, h2⟩ := h
 exact ⟨vW, vP, rfl, h1.below hb hB, h2.below hb hB⟩
theorem RowBlk.outside {w w' : World} {lo hi : Nat} {v : Value} {ws : List Int} {ps : List Se} (h : RowBlk w lo hi v ws ps) {lo' hi' : Nat} (ho : Outside lo' hi' w w') (hd : hi ≤ lo' ∨ hi' ≤ lo) (hz : hi ≤ w.heap.size) : RowBlk w' lo hi v ws ps := by
 obtain ⟨vW, vP, rfl, h1, h2⟩ := h
 exact ⟨vW, vP, rfl, h1.outside ho hd hz, h2.outside ho hd hz⟩
theorem RowBlk.wide {w : World} {lo hi : Nat} {v : Value} {ws : List Int} {ps : List Se} (h : RowBlk w lo hi v ws ps) {lo' hi' : Nat} (h1 : lo' ≤ lo) (h2 : hi ≤ hi') : RowBlk w lo' hi' v ws ps := by
 obtain ⟨vW, vP, rfl, a, b⟩ := h
 exact ⟨vW, vP, rfl, a.wide h1 h2, b.wide h1 h2⟩

end Go.Proofs.YtbbmljakfbhnpaaGreatDoor

namespace Go.Proofs.YtbbmljakfbhnpaaGreatDoor
open Go.RowKit

/-- A right device. -/
def zoi (ws : List Int) (ps : List Se) : Bool := decide (ws.length = 32 ∧ ps.length ≤ 400 ∧ (∀ k (h : k < ws.length), zbb ws[k] = true) ∧ ∀ k (h : k < ps.length), secB ps[k].at_ = true ∧ zbb ps[k].val = true)
theorem blkB_mk {ws : List Int} {ps : List Se} (h1 : ws.length = 32) (h2 : ps.length ≤ 400) (h3 : ∀ k (h : k < ws.length), zbb ws[k] = true) (h4 : ∀ k (h : k < ps.length), secB ps[k].at_ = true ∧ zbb ps[k].val = true) : zoi ws ps = true := decide_eq_true ⟨h1, h2, h3, h4⟩
theorem zeg {ws : List Int} {ps : List Se} (h : zoi ws ps = true) : ws.length = 32 ∧ ps.length ≤ 400 := ⟨(of_decide_eq_true h).1, (of_decide_eq_true h).2.1⟩
theorem blkB_word {ws : List Int} {ps : List Se} (h : zoi ws ps = true) (k : Nat) (hk : k < ws.length) : zbb ws[k] = true := (of_decide_eq_true h).2.2.1 k hk
theorem zpb {ws : List Int} {ps : List Se} (h : zoi ws ps = true) (k : Nat) (hk : k < ps.length) : secB ps[k].at_ = true ∧ zbb ps[k].val = true := (of_decide_eq_true h).2.2.2 k hk
end Go.Proofs.YtbbmljakfbhnpaaGreatDoor

namespace Go.Proofs.YtbbmljakfbhnpaaGreatDoor
open Go.RowKit

theorem zan {w : World} {b : Nat} {t : TypeId} {x y z u : Value} (h : w.heap[b]? = some (.cells #[x, y, z, u] t (0, 0))) :
  w.cell? ⟨b, 0, none⟩ = some x ∧ w.cell? ⟨b, 1, none⟩ = some y ∧ w.cell? ⟨b, 2, none⟩ = some z ∧ w.cell? ⟨b, 3, none⟩ = some u ∧ w.frozen? ⟨b, 0, none⟩ = false ∧ w.frozen? ⟨b, 1, none⟩ = false ∧ w.frozen? ⟨b, 2, none⟩ = false ∧ w.frozen? ⟨b, 3, none⟩ = false := by
 simp [World.cell?, World.frozen?, h]
/-- The devices as they can be read. -/
def RdDev (w : World) (v : Value) (ws : List Int) (ps : List St) (es : List Int) (qs : List Se) : Prop := ∃ vW vP vS vQ, v = .agg #[vW, vP, vS, vQ] ∧ RdPm w (.agg #[vW, vP]) ws ps ∧ RdBlk w (.agg #[vS, vQ]) es qs
/-- The devices of a call's own: each lies in blocks of its own. -/
def RowDev (w : World) (lo hi : Nat) (v : Value) (ws : List Int) (ps : List St) (es : List Int) (qs : List Se) : Prop :=
 ∃ vW vP vS vQ l1 h1 l2 h2, v = .agg #[vW, vP, vS, vQ] ∧ RowPm w l1 h1 (.agg #[vW, vP]) ws ps ∧ RowBlk w l2 h2 (.agg #[vS, vQ]) es qs ∧ (lo ≤ l1 ∧ h1 ≤ hi ∧ lo ≤ l2 ∧ h2 ≤ hi ∧ (h1 ≤ l2 ∨ h2 ≤ l1))
theorem RowDev.rd {w : World} {lo hi : Nat} {v : Value} {ws : List Int} {ps : List St} {es : List Int} {qs : List Se} (h : RowDev w lo hi v ws ps es qs) : RdDev w v ws ps es qs := by
 obtain ⟨vW, vP, vS, vQ, _, _, _, _, e, h1, h2, _⟩ := h
 exact ⟨vW, vP, vS, vQ, e, h1.rd, h2.rd⟩
theorem RdDev.below {w w' : World} {v : Value} {ws : List Int} {ps : List St} {es : List Int} {qs : List Se} (h : RdDev w v ws ps es qs) (hb : Below w.heap.size w w') : RdDev w' v ws ps es qs := by
 obtain ⟨vW, vP, vS, vQ, e, h1, h2⟩ := h
 exact ⟨vW, vP, vS, vQ, e, h1.below hb, h2.below hb⟩
theorem RowDev.below {w w' : World} {lo hi : Nat} {v : Value} {ws : List Int} {ps : List St} {es : List Int} {qs : List Se} (h : RowDev w lo hi v ws ps es qs) {B : Nat} (hb : Below B w w') (hB : hi ≤ B) : RowDev w' lo hi v ws ps es qs := by
 obtain ⟨vW, vP, vS, vQ, l1, h1, l2, h2, e, r1, r2, c⟩ := h
 exact ⟨vW, vP, vS, vQ, l1, h1, l2, h2, e, r1.below hb (by omega), r2.below hb (by omega), c⟩
theorem RowDev.outside {w w' : World} {lo hi : Nat} {v : Value} {ws : List Int} {ps : List St} {es : List Int} {qs : List Se} (h : RowDev w lo hi v ws ps es qs) {lo' hi' : Nat} (ho : Outside lo' hi' w w') (hd : hi ≤ lo' ∨ hi' ≤ lo) (hz : hi ≤ w.heap.size) : RowDev w' lo hi v ws ps es qs := by
 obtain ⟨vW, vP, vS, vQ, l1, h1, l2, h2, e, r1, r2, c⟩ := h
 exact ⟨vW, vP, vS, vQ, l1, h1, l2, h2, e, r1.outside ho (by omega) (by omega), r2.outside ho (by omega) (by omega), c⟩
theorem RowDev.wide {w : World} {lo hi : Nat} {v : Value} {ws : List Int} {ps : List St} {es : List Int} {qs : List Se} (h : RowDev w lo hi v ws ps es qs) {lo' hi' : Nat} (a : lo' ≤ lo) (b : hi ≤ hi') : RowDev w lo' hi' v ws ps es qs := by
 obtain ⟨vW, vP, vS, vQ, l1, h1, l2, h2, e, r1, r2, c⟩ := h
 exact ⟨vW, vP, vS, vQ, l1, h1, l2, h2, e, r1, r2, by omega⟩
theorem RowDev.alloc {w : World} {lo hi : Nat} {v : Value} {ws : List Int} {ps : List St} {es : List Int} {qs : List Se} (h : RowDev w lo hi v ws ps es qs) (hz : hi ≤ w.heap.size) (o : Obj) : RowDev (w.alloc o) lo hi v ws ps es qs := h.below ((Below.refl _ _).alloc (Nat.le_refl _) o) hz
theorem RdDev.form {w : World} {v : Value} {ws : List Int} {ps : List St} {es : List Int} {qs : List Se} (h : RdDev w v ws ps es qs) : ∃ aW cW aP cP aS cS aQ cQ, v = .agg #[.slice aW ws.length cW, .slice aP ps.length cP, .slice aS es.length cS, .slice aQ qs.length cQ] ∧ RdPm w (.agg #[.slice aW ws.length cW, .slice aP ps.length cP]) ws ps ∧ RdBlk w (.agg #[.slice aS es.length cS, .slice aQ qs.length cQ]) es qs := by
 obtain ⟨vW, vP, vS, vQ, rfl, ⟨_, _, e1, h1, h2⟩, ⟨_, _, e2, h3, h4⟩⟩ := h
 cases e1
 cases e2
 obtain ⟨aW, cW, rfl, _⟩ := h1.shape
 obtain ⟨aP, cP, rfl, _⟩ := h2.shape
 obtain ⟨aS, cS, rfl, _⟩ := h3.shape
 obtain ⟨aQ, cQ, rfl, _⟩ := h4.shape
 exact ⟨aW, cW, aP, cP, aS, cS, aQ, cQ, rfl, ⟨_, _, rfl, h1, h2⟩, ⟨_, _, rfl, h3, h4⟩⟩
theorem RowPm.form {w : World} {lo hi : Nat} {v : Value} {ws : List Int} {ps : List St} (h : RowPm w lo hi v ws ps) : ∃ aW cW aP cP, v = .agg #[.slice aW ws.length cW, .slice aP ps.length cP] := by
 obtain ⟨vW, vP, rfl, h1, h2⟩ := h.rd
 obtain ⟨aW, cW, rfl, _⟩ := h1.shape
 obtain ⟨aP, cP, rfl, _⟩ := h2.shape
 exact ⟨aW, cW, aP, cP, rfl⟩
theorem RowBlk.form {w : World} {lo hi : Nat} {v : Value} {ws : List Int} {ps : List Se} (h : RowBlk w lo hi v ws ps) : ∃ aW cW aP cP, v = .agg #[.slice aW ws.length cW, .slice aP ps.length cP] := by
 obtain ⟨vW, vP, rfl, h1, h2⟩ := h.rd
 obtain ⟨aW, cW, rfl, _⟩ := h1.shape
 obtain ⟨aP, cP, rfl, _⟩ := h2.shape
 exact ⟨aW, cW, aP, cP, rfl⟩

end Go.Proofs.YtbbmljakfbhnpaaGreatDoor

namespace Go.Proofs.YtbbmljakfbhnpaaGreatDoor
open Go.RowKit

/-- A step. -/
structure Mi where
 kind : Int
 at_ : Int
 val : Int
/-- A step as a value. -/
def Mi.v (m : Mi) : Value := .agg #[.int .i64 m.kind, .int .i64 m.at_, .int .i64 m.val]
/-- A step that is right. -/
def miB (m : Mi) : Bool := decide ((m.kind = 1 ∧ (0 ≤ m.at_ ∧ m.at_ < 336) ∧ 0 ≤ m.val ∧ m.val < 1099511627776) ∨ (m.kind = 2 ∧ (0 ≤ m.at_ ∧ m.at_ < 336) ∧ m.val = 0) ∨ (m.kind = 4 ∧ (0 ≤ m.at_ ∧ m.at_ < 32) ∧ 0 ≤ m.val ∧ m.val < 1099511627776) ∨ ((m.kind = 3 ∨ m.kind = 5) ∧ m.at_ = 0 ∧ m.val = 0))
theorem miB_iff {m : Mi} : miB m = true ↔ ((m.kind = 1 ∧ (0 ≤ m.at_ ∧ m.at_ < 336) ∧ 0 ≤ m.val ∧ m.val < 1099511627776) ∨ (m.kind = 2 ∧ (0 ≤ m.at_ ∧ m.at_ < 336) ∧ m.val = 0) ∨ (m.kind = 4 ∧ (0 ≤ m.at_ ∧ m.at_ < 32) ∧ 0 ≤ m.val ∧ m.val < 1099511627776) ∨ ((m.kind = 3 ∨ m.kind = 5) ∧ m.at_ = 0 ∧ m.val = 0)) := by unfold miB; exact decide_eq_true_iff
theorem zkr (k a v : Int) : miB ⟨k, a, v⟩ = true ↔ ((k = 1 ∧ (0 ≤ a ∧ a < 336) ∧ 0 ≤ v ∧ v < 1099511627776) ∨ (k = 2 ∧ (0 ≤ a ∧ a < 336) ∧ v = 0) ∨ (k = 4 ∧ (0 ≤ a ∧ a < 32) ∧ 0 ≤ v ∧ v < 1099511627776) ∨ ((k = 3 ∨ k = 5) ∧ a = 0 ∧ v = 0)) := miB_iff
end Go.Proofs.YtbbmljakfbhnpaaGreatDoor
