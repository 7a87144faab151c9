/- Several texts laid together: IgF, IgG, Draw, CrashS, DrawP, OpenA, Open, SeenM, MemM, JrM, JrP. -/
import Derived.Test.YtipklbnfobckaaaGreatDoorZAZ
import Derived.Test.YtipklbnfobckaaaGreatDoorZAB
import Derived.BigRegion
import Derived.BigQuiet
import Derived.Deep.QuietTactic
import Derived.Test.YtipklbnfobckaaaGreatDoorZAD
import Derived.Test.YtipklbnfobckaaaGreatDoorZAG
import Derived.Deep.DeepCutAuto
import Derived.Deep.RegionWith
import Derived.ProofKit
import Derived.OpenShut
import Derived.ShutString
import Derived.ChangeOld
import Derived.Lib.SmallJoins
import Derived.Deep.Slices
import Derived.Deep.Strs
import Derived.Test.YtipklbnfobckaaaGreatDoorZAC
import Derived.Test.YtipklbnfobckaaaGreatDoorZAQ
import Derived.Deep.RegionHeld3
namespace Go.Proofs.YtipklbnfobckaaaGreatDoor
open Go.RowKit

/-- The words behind updates. -/
def zhl (ls : List Int) (us : List Se) : List Int := us.foldl (fun l u => l.set u.at_.toNat u.val) ls
theorem zrc (ls : List Int) (u : Se) (us : List Se) : zhl ls (u :: us) = zhl (ls.set u.at_.toNat u.val) us := rfl
theorem updL_len (us : List Se) : ∀ (ls : List Int), (zhl ls us).length = ls.length := by
 induction us with
 | nil => intro ls; rfl
 | cons u us ih => intro ls; rw [zrc, ih, List.length_set]
theorem wdI_set {ls : List Int} {a z v : Int} (ha : 0 ≤ a) (hl : a < (ls.length : Int)) (hz : 0 ≤ z) : wdI (ls.set a.toNat v) z = if z = a then v else wdI ls z := by
 unfold wdI
 rw [List.getD_eq_getElem?_getD, List.getD_eq_getElem?_getD, List.getElem?_set]
 by_cases e : z = a
 ·rw [if_pos e, e, if_pos rfl, if_pos (by omega)]; rfl
 ·rw [if_neg e, if_neg (by omega)]
theorem zja {z : Int} (hz : 0 ≤ z) : ∀ (us : List Se) (ls : List Int), (∀ u ∈ us, 0 ≤ u.at_ ∧ u.at_ < (ls.length : Int) ∧ ¬ u.at_ = z) → wdI (zhl ls us) z = wdI ls z := by
 intro us
 induction us with
 | nil => intro ls _; rfl
 | cons u us ih =>
  intro ls h
  rw [zrc, ih _ (fun v hv => by rw [List.length_set]; exact h v (List.mem_cons_of_mem _ hv))]
  obtain ⟨a, b, c⟩ := h u (List.mem_cons_self ..)
  rw [wdI_set a b hz, if_neg (fun e => c e.symm)]
/-- All words of updates that reach inodes and entries alone. -/
def UpIn (us : List Se) : Prop := ∀ u ∈ us, 48 ≤ u.at_ ∧ u.at_ < 312
theorem inos_upd {ls : List Int} {us : List Se} {i : Nat} {x : Ino} (hl : ls.length = 336) (ui : UpIn us) (hi : i < 16) (hx : zec (zhl ls us) i = x) (ho : ∀ j : Nat, j < 16 → ¬ j = i → ∀ u ∈ us, ¬ (48 + 12 * (j : Int) ≤ u.at_ ∧ u.at_ < 48 + 12 * (j : Int) + 11)) : zau (zhl ls us) 16 = (zau ls 16).set i x := by
 apply List.ext_getElem?
 intro j
 rw [List.getElem?_set]
 unfold zau
 rw [List.length_map, List.length_range, List.getElem?_map, List.getElem?_map]
 by_cases hj : j < 16
 ·rw [List.getElem?_range hj]
  by_cases e : i = j
  ·rw [if_pos e, if_pos (by omega), ← e]
   show some (zec (zhl ls us) i) = some x
   rw [hx]
  ·rw [if_neg e]
   show some (zec (zhl ls us) j) = some (zec ls j)
   have W : ∀ z, 48 + 12 * (j : Int) ≤ z ∧ z < 48 + 12 * (j : Int) + 11 → wdI (zhl ls us) z = wdI ls z := fun z hz => zja (by omega) us ls (fun u hu => by
    have a := ui u hu
    have b := ho j hj (fun q => e q.symm) u hu
    refine ⟨by omega, by omega, ?_⟩
    intro q
    exact b (by omega))
   unfold zec
   rw [W _ (by omega), W _ (by omega), W _ (by omega), W _ (by omega), W _ (by omega), W _ (by omega), W _ (by omega), W _ (by omega), W _ (by omega), W _ (by omega), W _ (by omega)]
 ·rw [List.getElem?_eq_none (by simp; omega)]
  by_cases e : i = j
  ·omega
  ·rw [if_neg e]; rfl
theorem dens_upd {ls : List Int} {us : List Se} {k : Nat} {x : Den} (hl : ls.length = 336) (ui : UpIn us) (hk : k < 24) (hx : zew (zhl ls us) k = x) (ho : ∀ j : Nat, j < 24 → ¬ j = k → ∀ u ∈ us, ¬ (240 + 3 * (j : Int) ≤ u.at_ ∧ u.at_ < 240 + 3 * (j : Int) + 3)) : zav (zhl ls us) 24 = (zav ls 24).set k x := by
 apply List.ext_getElem?
 intro j
 rw [List.getElem?_set]
 unfold zav
 rw [List.length_map, List.length_range, List.getElem?_map, List.getElem?_map]
 by_cases hj : j < 24
 ·rw [List.getElem?_range hj]
  by_cases e : k = j
  ·rw [if_pos e, if_pos (by omega), ← e]
   show some (zew (zhl ls us) k) = some x
   rw [hx]
  ·rw [if_neg e]
   show some (zew (zhl ls us) j) = some (zew ls j)
   have W : ∀ z, 240 + 3 * (j : Int) ≤ z ∧ z < 240 + 3 * (j : Int) + 3 → wdI (zhl ls us) z = wdI ls z := fun z hz => zja (by omega) us ls (fun u hu => by
    have a := ui u hu
    have b := ho j hj (fun q => e q.symm) u hu
    refine ⟨by omega, by omega, ?_⟩
    intro q
    exact b (by omega))
   unfold zew
   rw [W _ (by omega), W _ (by omega), W _ (by omega)]
 ·rw [List.getElem?_eq_none (by simp; omega)]
  by_cases e : k = j
  ·omega
  ·rw [if_neg e]; rfl
theorem dens_same {ls : List Int} {us : List Se} (hl : ls.length = 336) (ui : UpIn us) (ho : ∀ u ∈ us, u.at_ < 240) : zav (zhl ls us) 24 = zav ls 24 := by
 have q := dens_upd (k := 0) (x := zew (zhl ls us) 0) hl ui (by omega) rfl (fun j _ _ u hu => by have := ho u hu; omega)
 rw [q]
 have W : ∀ z, 240 ≤ z → wdI (zhl ls us) z = wdI ls z := fun z hz => zja (by omega) us ls (fun u hu => by
  have a := ui u hu
  have b := ho u hu
  exact ⟨by omega, by omega, by omega⟩)
 have e : zew (zhl ls us) 0 = zew ls 0 := by
  unfold zew
  rw [W _ (by omega), W _ (by omega), W _ (by omega)]
 rw [e]
 rfl
theorem good_same {ls : List Int} {us : List Se} (hl : ls.length = 336) (ui : UpIn us) (h : zbx ls 24 = true) (ho : ∀ u ∈ us, u.at_ < 240) : zbx (zhl ls us) 24 = true := by
 unfold zbx at h
 rw [List.all_eq_true] at h
 refine zhg fun j hj => ?_
 have g := h j (List.mem_range.2 hj)
 have W : ∀ z, 240 ≤ z → wdI (zhl ls us) z = wdI ls z := fun z hz => zja (by omega) us ls (fun u hu => by
  have a := ui u hu
  have b := ho u hu
  exact ⟨by omega, by omega, by omega⟩)
 unfold zbo at g ⊢
 rw [W _ (by omega), W _ (by omega), W _ (by omega)]
 exact g
end Go.Proofs.YtipklbnfobckaaaGreatDoor

namespace Go.Proofs.YtipklbnfobckaaaGreatDoor
open Go.RowKit

/-- Words that say a right image, and which. -/
structure Wi (ls : List Int) (ws : List Ino) (ps : List Den) : Prop where
 len : ls.length = 336
 mark : wdI ls 0 = 7
 good : zbx ls 24 = true
 inos : zau ls 16 = ws
 dens : zav ls 24 = ps
 img : Img ws ps
theorem wi_of {ls : List Int} (hl : ls.length = 336) (h : riB ls = true) : Wi ls (zau ls 16) (zav ls 24) := by
 unfold riB at h
 rw [Bool.and_eq_true, Bool.and_eq_true, beq_iff_eq] at h
 exact ⟨hl, h.1, h.2.1, rfl, rfl, zmq.1 h.2.2⟩
theorem mark_upd {ls : List Int} {us : List Se} (hl : ls.length = 336) (ui : UpIn us) (h : wdI ls 0 = 7) : wdI (zhl ls us) 0 = 7 := by
 rw [zja (by omega) us ls (fun u hu => by have := ui u hu; exact ⟨by omega, by omega, by omega⟩)]
 exact h
theorem zvg {ls : List Int} {ws : List Ino} {ps : List Den} (h : Wi ls ws ps) {i : Nat} (hi : i < 16) : zar ws i = zec ls i := by
 rw [← h.inos]
 unfold zar zau
 rw [List.getD_eq_getElem?_getD, List.getElem?_map, List.getElem?_range hi]
 rfl
/-- Words of one inode, some of them updated. -/
def inoU (i : Nat) (fs : List (Nat × Int)) : List Se := fs.map fun f => ⟨48 + 12 * (i : Int) + (f.1 : Int), f.2⟩
theorem inoU_in {i : Nat} {fs : List (Nat × Int)} (hi : i < 16) (hf : ∀ f ∈ fs, f.1 < 11) : UpIn (inoU i fs) := fun u hu => by
 obtain ⟨f, hm, rfl⟩ := List.mem_map.1 hu
 have := hf f hm
 exact ⟨by show 48 ≤ 48 + 12 * (i : Int) + (f.1 : Int); omega, by show 48 + 12 * (i : Int) + (f.1 : Int) < 312; omega⟩
theorem inoU_at {i : Nat} {fs : List (Nat × Int)} (hi : i < 16) (hf : ∀ f ∈ fs, f.1 < 11) : ∀ u ∈ inoU i fs, 48 + 12 * (i : Int) ≤ u.at_ ∧ u.at_ < 48 + 12 * (i : Int) + 11 ∧ u.at_ < 240 := fun u hu => by
 obtain ⟨f, hm, rfl⟩ := List.mem_map.1 hu
 have := hf f hm
 exact ⟨by show 48 + 12 * (i : Int) ≤ 48 + 12 * (i : Int) + (f.1 : Int); omega, by show 48 + 12 * (i : Int) + (f.1 : Int) < 48 + 12 * (i : Int) + 11; omega, by show 48 + 12 * (i : Int) + (f.1 : Int) < 240; omega⟩
/-- One word of an inode behind such updates. -/
def zus (fs : List (Nat × Int)) (g : Nat) (z : Int) : Int := fs.foldl (fun a f => if f.1 = g then f.2 else a) z
theorem fld_upd {i : Nat} (hi : i < 16) {g : Nat} (hg : g < 11) : ∀ (fs : List (Nat × Int)) (ls : List Int), ls.length = 336 → (∀ f ∈ fs, f.1 < 11) → wdI (zhl ls (inoU i fs)) (48 + 12 * (i : Int) + (g : Int)) = zus fs g (wdI ls (48 + 12 * (i : Int) + (g : Int))) := by
 intro fs
 induction fs with
 | nil => intro ls _ _; rfl
 | cons f fs ih =>
  intro ls hl hf
  have h11 := hf f (List.mem_cons_self ..)
  show wdI (zhl (ls.set (48 + 12 * (i : Int) + (f.1 : Int)).toNat f.2) (inoU i fs)) _ = _
  rw [ih _ (by rw [List.length_set]; exact hl) (fun x hx => hf x (List.mem_cons_of_mem _ hx)), wdI_set (by omega) (by omega) (by omega)]
  unfold zus
  rw [List.foldl_cons]
  by_cases e : f.1 = g
  ·rw [if_pos (by omega), if_pos e]
  ·rw [if_neg (by omega), if_neg e]
/-- An inode, some of its words updated. -/
def inoP (x : Ino) (fs : List (Nat × Int)) : Ino := ⟨zus fs 0 x.kind, zus fs 1 x.size, zus fs 2 x.links, zus fs 3 x.m0, zus fs 4 x.m1, zus fs 5 x.m2, zus fs 6 x.m3, zus fs 7 x.m4, zus fs 8 x.m5, zus fs 9 x.m6, zus fs 10 x.m7⟩
theorem ino_upd {i : Nat} (hi : i < 16) {fs : List (Nat × Int)} {ls : List Int} (hl : ls.length = 336) (hf : ∀ f ∈ fs, f.1 < 11) : zec (zhl ls (inoU i fs)) i = inoP (zec ls i) fs := by
 have W := fun g hg => fld_upd (g := g) hi hg fs ls hl hf
 have w0 := W 0 (by omega)
 rw [show 48 + 12 * (i : Int) + ((0 : Nat) : Int) = 48 + 12 * (i : Int) by omega] at w0
 unfold inoP zec
 rw [w0]
 congr 1
 ·exact W 1 (by omega)
 ·exact W 2 (by omega)
 ·exact W 3 (by omega)
 ·exact W 4 (by omega)
 ·exact W 5 (by omega)
 ·exact W 6 (by omega)
 ·exact W 7 (by omega)
 ·exact W 8 (by omega)
 ·exact W 9 (by omega)
 ·exact W 10 (by omega)
/-- Updates of one inode alone. -/
theorem wi_ino {ls : List Int} {ws : List Ino} {ps : List Den} (h : Wi ls ws ps) {i : Nat} (hi : i < 16) {fs : List (Nat × Int)} (hf : ∀ f ∈ fs, f.1 < 11) (img : Img (ws.set i (inoP (zar ws i) fs)) ps) :
  Wi (zhl ls (inoU i fs)) (ws.set i (inoP (zar ws i) fs)) ps := by
 have iu := inoU_in (fs := fs) hi hf
 have ia := inoU_at (fs := fs) hi hf
 refine ⟨by rw [updL_len]; exact h.len, mark_upd h.len iu h.mark, good_same h.len iu h.good (fun u hu => (ia u hu).2.2), ?_, ?_, img⟩
 ·rw [inos_upd h.len iu hi (ino_upd hi h.len hf) (fun j _ _ u hu => by have := ia u hu; omega), h.inos, zvg h hi]
 ·rw [dens_same h.len iu (fun u hu => (ia u hu).2.2), h.dens]
end Go.Proofs.YtipklbnfobckaaaGreatDoor

namespace Go.Proofs.YtipklbnfobckaaaGreatDoor
open Go.RowKit

/-- The cells of a list of bytes. -/
def bys (zs : List Int) : List Value := zs.map (Value.int .u8)
theorem bys_at (zs : List Int) (k : Nat) (h : k < zs.length) : (bys zs)[k]? = some (.int .u8 zs[k]) := by simp [bys, h]

/-- A slice of bytes that can be read. -/
def RdB (w : World) (v : Value) (zs : List Int) : Prop := Rd w 1 v zs.length (bys zs) ∧ ∀ k (h : k < zs.length), 0 ≤ zs[k] ∧ zs[k] < 256
theorem RdB.shape {w : World} {v : Value} {zs : List Int} (h : RdB w v zs) : ∃ ao cap, v = .slice ao zs.length cap ∧ zs.length ≤ cap ∧ (0 < zs.length → ∃ b o, ao = some ⟨b, o, none⟩ ∧ b < w.heap.size ∧ ∀ k (h : k < zs.length), w.cell? ⟨b, o + k, none⟩ = some (.int .u8 zs[k])) := by
 obtain ⟨⟨_, ao, cap, rfl, h2, h3⟩, _⟩ := h
 refine ⟨ao, cap, rfl, h2.1, fun hn => ?_⟩
 obtain ⟨b, o, rfl, hb, hc⟩ := h3 hn
 exact ⟨b, o, rfl, hb, fun k hk => (hc k (by omega)).trans (bys_at zs k hk)⟩
theorem RdB.below {w w' : World} {v : Value} {zs : List Int} (h : RdB w v zs) (hb : Below w.heap.size w w') : RdB w' v zs := ⟨h.1.below hb, h.2⟩

end Go.Proofs.YtipklbnfobckaaaGreatDoor

namespace Go.Proofs.YtipklbnfobckaaaGreatDoor
open Go.RowKit

/-- In the midst of the model's crash: the words so far, the stores, the places. -/
structure CrInv (w wr : World) (n : Nat) (X : List Int) (ps : List St) (us : List Int) (lo hi hi2 : Nat) (vW vP vU : Value) : Prop where
 words : Row wr 3 1 lo hi vW n (zca X)
 pend : Row wr 165 3 lo hi vP ps.length (sts ps)
 plc : Row wr 3 1 hi hi2 vU us.length (zca us)
 box : wr.heap[w.heap.size]? = some (.cells #[vW, vP] 41 (0, 0))
 res : wr.heap[w.heap.size + 1]? = some (.cells #[.slice none 0 0, .slice none 0 0] 41 (0, 0))
 below : Below w.heap.size w wr
 size : hi2 ≤ wr.heap.size

theorem CrInv.drew {w wr : World} {n : Nat} {X : List Int} {ps : List St} {us : List Int} {lo hi hi2 : Nat} {vW vP vU : Value} (h : CrInv w wr n X ps us lo hi hi2 vW vP vU) : CrInv w wr.drew n X ps us lo hi hi2 vW vP vU := by
 obtain ⟨h1, h2, h3, h4, h5, h6, h7⟩ := h
 exact ⟨h1.same (fun _ _ _ => rfl), h2.same (fun _ _ _ => rfl), h3.same (fun _ _ _ => rfl), h4, h5, h6.drew, h7⟩
theorem CrInv.store {w wr : World} {n : Nat} {X : List Int} {ps : List St} {us : List Int} {lo hi hi2 : Nat} {b cap : Nat} {vP vU : Value} (h : CrInv w wr n X ps us lo hi hi2 (.slice (some ⟨b, 0, none⟩) n cap) vP vU) (hlo : w.heap.size + 2 ≤ lo) (a : Nat) (x : Int) :
  CrInv w (wr.setCell ⟨b, a, none⟩ (.int .i64 x)) n (X.set a x) ps us lo hi hi2 (.slice (some ⟨b, 0, none⟩) n cap) vP vU := by
 obtain ⟨h1, h2, h3, h4, h5, h6, h7⟩ := h
 obtain ⟨_, hb1, hb2, _⟩ := h1.at
 refine ⟨?_, h2.apart h1 (by decide) (World.ownsRow.stored h1.1 _ _).2, h3.same (fun k hk _ => Below.heap_setCell _ _ _ _ (by simp only; omega)), ?_, ?_, h6.setCell (by simp only; omega) _, by simp; omega⟩
 ·rw [← zwx]; exact h1.stored _ _
 ·rw [Below.heap_setCell _ _ _ _ (by simp only; omega)]; exact h4
 ·rw [Below.heap_setCell _ _ _ _ (by simp only; omega)]; exact h5

end Go.Proofs.YtipklbnfobckaaaGreatDoor

namespace Go.Proofs.YtipklbnfobckaaaGreatDoor
open Go.RowKit

/-- A memory that the document allows, with at most n stores. -/
structure PmP (ws : List Int) (ps : List St) (n : Nat) : Prop where
 len : ws.length = 336
 few : ps.length ≤ n
 word : ∀ z ∈ ws, 0 ≤ z ∧ z < 1099511627776
 store : ∀ p ∈ ps, (0 ≤ p.at_ ∧ p.at_ < 336) ∧ 0 ≤ p.val ∧ p.val < 1099511627776
 ord : ps.Pairwise (fun p q => p.at_ = q.at_ → q.fl = true → p.fl = true)
theorem PmP.ok {ws : List Int} {ps : List St} {n : Nat} (h : PmP ws ps n) (hn : n ≤ 400) : pmB ws ps = true :=
 pmB_mk h.len (Nat.le_trans h.few hn) (fun _ hk => decide_eq_true (h.word _ (List.getElem_mem hk))) (fun _ hk => ⟨decide_eq_true (h.store _ (List.getElem_mem hk)).1, decide_eq_true (h.store _ (List.getElem_mem hk)).2⟩)
theorem PmP.at {ws : List Int} {ps : List St} {n : Nat} (h : PmP ws ps n) : ∀ j (hj : j < ps.length), 0 ≤ ps[j].at_ ∧ ps[j].at_ < 336 := fun _ hj => (h.store _ (List.getElem_mem hj)).1
theorem PmP.zero : PmP (List.replicate 336 0) [] 0 :=
 ⟨List.length_replicate .., Nat.le_refl _, fun z hz => by obtain ⟨_, rfl⟩ := List.mem_replicate.1 hz; omega, fun p hp => by simp at hp, List.Pairwise.nil⟩

end Go.Proofs.YtipklbnfobckaaaGreatDoor

namespace Go.Proofs.YtipklbnfobckaaaGreatDoor
open Go.ChangeShapes Go.WideShapes Go.ChangeAt Go.RowKit Go.Joins

theorem own : ownKnob Tryz.prog.godebug = none := by kernel_rfl
theorem zjl : laidOutB Tryz.prog = true := by kernel_rfl
theorem zhs : Tryz.prog.cellsOf 3 = 1 := by kernel_rfl
theorem cells4 : Tryz.prog.cellsOf 4 = 1 := by kernel_rfl

theorem zed {α : Type} {P : Nat → α → Prop} : ∀ (n : Nat), (∀ i, i < n → ∃ x, P i x) → ∃ l : List α, l.length = n ∧ ∀ i (hi : i < l.length), P i l[i]
 | 0, _ => ⟨[], rfl, fun i hi => absurd hi (by simp)⟩
 | n + 1, h => by
  obtain ⟨l, hl, hp⟩ := zed n (fun i hi => h i (by omega))
  obtain ⟨x, hx⟩ := h n (by omega)
  refine ⟨l ++ [x], by simp [hl], fun i hi => ?_⟩
  by_cases e : i < l.length
  ·rw [List.getElem_append_left e]; exact hp i e
  ·have e' : i = n := by simp at hi; omega
   subst e'
   rw [List.getElem_append_right (by omega)]
   simpa [hl] using hx

section

variable {H : Type} {enc : TypeId × Value → H} {W : World} {sp : Nat → Bool} {held : Bool} {fuel : Nat} {v : Value} {y : DataW H × List MemPlace}

theorem zqk (h : DataW.trod enc Tryz.prog W 0 sp held fuel 22 [v] = some y) : ∃ zs : List Int, RdI W v zs ∧ zs.length ≤ maxLen ∧ ∀ z ∈ zs, (Lit.int .i64 z).wf = true := by
 rcases open_ints Tryz.underlying22 Tryz.underlying3 zhs h with ⟨hcs, _⟩ | ⟨a, len, cap, zs, hcs, _, hl, hm, hz, _, hcell, hwz⟩
 ·simp only [List.cons.injEq, and_true] at hcs
  subst hcs
  exact ⟨[], ⟨rfl, none, 0, rfl, ⟨Nat.le_refl _, fun _ => rfl⟩, fun h => absurd h (by simp)⟩, by simp, fun z hz => by simp at hz⟩
 ·simp only [List.cons.injEq, and_true] at hcs
  subst hcs
  have hzl : len ≤ zs.length := by rw [hz]; split <;> omega
  have e : (zs.take len).length = len := by simp; omega
  refine ⟨zs.take len, ⟨by simp [zca], some a, cap, by rw [e], ⟨by rw [e]; exact hl, fun e => by cases e⟩, fun hn => ?_⟩, by rw [e]; omega, fun z hz => hwz z (List.mem_of_mem_take hz)⟩
  rw [e] at hn
  obtain ⟨b, off, spot⟩ := a
  have hc := hcell 0 (by omega)
  have hspot : spot = none := by simpa [Addr.add] using World.cell?_spot hc
  subst hspot
  refine ⟨b, off, rfl, World.block_lt_of_cell? W _ (by simpa [Addr.add] using hc), fun j hj => ?_⟩
  rw [e] at hj
  have hc := hcell j (by omega)
  rw [Addr.add_lit] at hc
  rw [hc, zck _ j (by rw [e]; omega)]
  simp [List.getD, show j < zs.length by omega]

end

end Go.Proofs.YtipklbnfobckaaaGreatDoor

namespace Go.Proofs.YtipklbnfobckaaaGreatDoor
open Go.ChangeShapes Go.WideShapes Go.ChangeAt Go.RowKit Go.Joins

theorem cellsStore : Tryz.prog.cellsOf 230 = 3 := by kernel_rfl
theorem cellsPm : Tryz.prog.cellsOf 25 = 2 := by kernel_rfl

section

variable {H : Type} {enc : TypeId × Value → H} {W : World} {sp : Nat → Bool} {held : Bool} {fuel : Nat} {v : Value} {y : DataW H × List MemPlace}

set_option maxRecDepth 100000 in
theorem open_RdS (h : DataW.trod enc Tryz.prog W 0 sp held fuel 23 [v] = some y) : ∃ ps : List St, RdS W v ps ∧ ps.length ≤ maxLen ∧ ∀ p ∈ ps, (Lit.int .i64 p.at_).wf = true ∧ (Lit.int .i64 p.val).wf = true := by
 rcases Deep.open_slice Tryz.underlying23 h with ⟨hcs, _⟩ | ⟨a, len, cap, m, n, D, Pl, hcs, _, hl, hm, hmm, _, hel⟩
 ·simp only [List.cons.injEq, and_true] at hcs
  subst hcs
  exact ⟨[], ⟨rfl, none, 0, rfl, ⟨Nat.le_refl _, fun _ => rfl⟩, fun h => absurd h (by simp)⟩, by simp, fun p hp => by simp at hp⟩
 ·simp only [List.cons.injEq, and_true] at hcs
  subst hcs
  have hlm : len ≤ m := by rw [hmm]; split <;> omega
  have one : ∀ i, i < len → ∃ s : St, (W.cell? ((a.add (i * 3)).add 0) = some (.int .i64 s.at_) ∧ W.cell? ((a.add (i * 3)).add 1) = some (.int .i64 s.val) ∧ W.cell? ((a.add (i * 3)).add 2) = some (.bool s.fl)) ∧ (Lit.int .i64 s.at_).wf = true ∧ (Lit.int .i64 s.val).wf = true := by
   intro i hi
   obtain ⟨cs, hcs, ht⟩ := hel i (by omega)
   rw [cellsStore] at hcs
   obtain ⟨_, hlen, hc⟩ := World.cells?_some hcs
   obtain ⟨y0, y1, y2, n', _, _, t0, t1, t2⟩ := Deep.trod_struct3 Tryz.underlying230 ht
   obtain ⟨z0, e0, _, w0⟩ := DataW.trod_int Tryz.underlying3 t0
   obtain ⟨z1, e1, _, w1⟩ := DataW.trod_int Tryz.underlying3 t1
   obtain ⟨z2, e2, _⟩ := DataW.trod_bool Tryz.underlying4 t2
   simp only [zhs, cells4] at e0 e1 e2
   match cs, hlen with
   | [c0, c1, c2], _ =>
    simp at e0 e1 e2
    subst e0 e1 e2
    exact ⟨⟨z0, z1, z2⟩, ⟨by simpa using hc 0 (by omega), by simpa using hc 1 (by omega), by simpa using hc 2 (by omega)⟩, w0, w1⟩
  obtain ⟨ps, hpl, hps⟩ := zed len one
  refine ⟨ps, ⟨sts_len ps, some a, cap, by rw [hpl], ⟨by rw [hpl]; exact hl, fun e => by cases e⟩, fun hn => ?_⟩, by rw [hpl]; omega, fun p hp => ?_⟩
  ·obtain ⟨b, off, spot⟩ := a
   have hc := (hps 0 hn).1.1
   have hspot : spot = none := by simpa [Addr.add] using World.cell?_spot hc
   subst hspot
   refine ⟨b, off, rfl, World.block_lt_of_cell? W _ (by simpa [Addr.add] using hc), fun j hj => ?_⟩
   have hk : j / 3 < ps.length := by omega
   obtain ⟨⟨q0, q1, q2⟩, _⟩ := hps (j / 3) hk
   simp only [Addr.add_lit, Nat.add_zero] at q0 q1 q2
   have hj3 : j = j / 3 * 3 + j % 3 := by omega
   rcases (show j % 3 = 0 ∨ j % 3 = 1 ∨ j % 3 = 2 from by omega) with r | r | r
   ·rw [hj3, r, Nat.add_zero, q0, zjm ps _ hk]
   ·rw [hj3, r, ← Nat.add_assoc, q1, zpp ps _ hk]
   ·rw [hj3, r, ← Nat.add_assoc, q2, zpx ps _ hk]
  ·obtain ⟨i, hi, rfl⟩ := List.getElem_of_mem hp
   exact (hps i hi).2

end

end Go.Proofs.YtipklbnfobckaaaGreatDoor

namespace Go.Proofs.YtipklbnfobckaaaGreatDoor
open Go.RowKit

theorem zjs {a w : World} (h : Below a.heap.size a w) (o : Obj) : Below a.heap.size a (w.alloc o) := h.alloc h.size o

/-- Behind the region that draws a place and flushes there. -/
structure CutF (w3 wx : World) (ws : List Int) (ps : List St) (k : Int) (aW aP : Option Addr) (cW cP bx : Nat) : Prop where
 k0 : 0 ≤ k
 k1 : k < 336
 lo : w3.heap.size ≤ bx
 hi : bx < wx.heap.size
 box : wx.heap[bx]? = some (.cells #[.slice aW 336 cW, .slice aP ps.length cP] 41 (0, 0))
 rd : RdPm wx (.agg #[.slice aW 336 cW, .slice aP ps.length cP]) ws (ps.map (fl1 k))
 below : Below w3.heap.size w3 wx
theorem CutF.drew {w3 wx : World} {ws : List Int} {ps : List St} {k : Int} {aW aP : Option Addr} {cW cP bx : Nat} (h : CutF w3 wx ws ps k aW aP cW cP bx) : CutF w3 wx.drew ws ps k aW aP cW cP bx :=
 ⟨h.k0, h.k1, h.lo, h.hi, h.box, h.rd.below ((Below.refl _ _).drew), h.below.drew⟩
theorem CutF.new {w3 wf : World} {ws : List Int} {ps : List St} {k : Int} {aW aP : Option Addr} {cW cP : Nat} (k0 : 0 ≤ k) (k1 : k < 336) (hr : RdPm wf (.agg #[.slice aW 336 cW, .slice aP ps.length cP]) ws (ps.map (fl1 k))) (hb : Below w3.heap.size w3 wf) : CutF w3 (wf.alloc (.cells #[.slice aW 336 cW, .slice aP ps.length cP] 41)) ws ps k aW aP cW cP wf.heap.size :=
 ⟨k0, k1, hb.size, by simp, zah rfl, hr.below ((Below.refl _ _).alloc (Nat.le_refl _) _), zjs hb _⟩
end Go.Proofs.YtipklbnfobckaaaGreatDoor

namespace Go.Proofs.YtipklbnfobckaaaGreatDoor
open Go.RowKit

/-- Behind a region that draws what is kept, and crashes. -/
structure CutC (w0 wx : World) (X : List Int) (aW aP : Option Addr) (cW cP bx : Nat) : Prop where
 lo : w0.heap.size ≤ bx
 hi : bx < wx.heap.size
 box : wx.heap[bx]? = some (.cells #[.slice aW 336 cW, .slice aP 0 cP] 41 (0, 0))
 rd : RdPm wx (.agg #[.slice aW 336 cW, .slice aP 0 cP]) X []
 below : Below w0.heap.size w0 wx
theorem CutC.drew {w0 wx : World} {X : List Int} {aW aP : Option Addr} {cW cP bx : Nat} (h : CutC w0 wx X aW aP cW cP bx) : CutC w0 wx.drew X aW aP cW cP bx :=
 ⟨h.lo, h.hi, h.box, h.rd.below ((Below.refl _ _).drew), h.below.drew⟩
theorem CutC.new {w0 wf : World} {X : List Int} {aW aP : Option Addr} {cW cP : Nat} (hr : RdPm wf (.agg #[.slice aW 336 cW, .slice aP 0 cP]) X []) (hb : Below w0.heap.size w0 wf) : CutC w0 (wf.alloc (.cells #[.slice aW 336 cW, .slice aP 0 cP] 41)) X aW aP cW cP wf.heap.size :=
 ⟨hb.size, by simp, zah rfl, hr.below ((Below.refl _ _).alloc (Nat.le_refl _) _), zjs hb _⟩
end Go.Proofs.YtipklbnfobckaaaGreatDoor

namespace Go.Proofs.YtipklbnfobckaaaGreatDoor


/-- What a step does to a memory. -/
def zpt (s : List Int × List St) (m : Mi) : List Int × List St :=
 if m.kind = 1 then (s.1, s.2 ++ [⟨m.at_, m.val, false⟩]) else if m.kind = 2 then (s.1, s.2.map (fl1 m.at_)) else if m.kind = 3 then (fenW s.1 s.2, fenP s.2) else s
def zpw (s : List Int × List St) (l : List Mi) : List Int × List St := l.foldl zpt s
theorem runM_nil (s : List Int × List St) : zpw s [] = s := rfl
theorem zhq (s : List Int × List St) (m : Mi) (l : List Mi) : zpw s (m :: l) = zpw (zpt s m) l := rfl
theorem zhc (s : List Int × List St) (l l' : List Mi) : zpw s (l ++ l') = zpw (zpw s l) l' := by simp [zpw]
theorem zvi (s : List Int × List St) (p : St) : zpt s (stM p) = (s.1, s.2 ++ [⟨p.at_, p.val, false⟩]) := if_pos rfl
theorem zux (s : List Int × List St) (a : Int) : zpt s ⟨2, a, 0⟩ = (s.1, s.2.map (fl1 a)) := by
 unfold zpt
 rw [if_neg (show ¬ (2 : Int) = 1 by decide), if_pos rfl]
theorem zwr (s : List Int × List St) : zpt s ⟨3, 0, 0⟩ = (fenW s.1 s.2, fenP s.2) := by
 unfold zpt
 rw [if_neg (by decide), if_neg (by decide), if_pos rfl]

theorem zov (ks : List Int) : ∀ i, ∀ m ∈ nl ks i, m = ⟨2, m.at_, 0⟩
 | 0, m, h => by cases h
 | i + 1, m, h => by
  rw [nl] at h
  split at h
  ·exact zov ks i m h
  ·rcases List.mem_append.1 h with h | h
   ·exact zov ks i m h
   ·rw [List.mem_singleton.1 h]
theorem nl_has (ks : List Int) : ∀ i k, k < i → ∃ m ∈ nl ks i, m.at_ / 8 = ks[k]?.getD 0 / 8
 | 0, k, h => absurd h (by omega)
 | i + 1, k, h => by
  rw [nl]
  by_cases e : k < i
  ·obtain ⟨m, hm, e⟩ := nl_has ks i k e
   split
   ·exact ⟨m, hm, e⟩
   ·exact ⟨m, List.mem_append_left _ hm, e⟩
  ·obtain rfl : k = i := by omega
   split
   ·rename_i hk
    simp only [zmm, List.any_eq_true, List.mem_range, beq_iff_eq] at hk
    obtain ⟨j, hj, e⟩ := hk
    obtain ⟨m, hm, e2⟩ := nl_has ks k j hj
    exact ⟨m, hm, e2.trans e⟩
   ·exact ⟨_, List.mem_append_right _ (List.mem_singleton.2 rfl), rfl⟩

/-- Behind some flushes: the words are as they were, each store stands, and is flushed if its line was. -/
theorem zlw : ∀ (l : List Mi) (s : List Int × List St), (∀ m ∈ l, m = ⟨2, m.at_, 0⟩) → ∃ g : St → St, zpw s l = (s.1, s.2.map g) ∧ (∀ p, (g p).at_ = p.at_ ∧ (g p).val = p.val ∧ (p.fl = true → (g p).fl = true)) ∧ ∀ p, (∃ m ∈ l, m.at_ / 8 = p.at_ / 8) → (g p).fl = true
 | [], s, _ => ⟨id, by simp [zpw], fun p => ⟨rfl, rfl, id⟩, fun p h => by obtain ⟨m, hm, _⟩ := h; cases hm⟩
 | m :: l, s, h => by
  have hm := h m (by simp)
  obtain ⟨g, e, h1, h2⟩ := zlw l (s.1, s.2.map (fl1 m.at_)) (fun x hx => h x (by simp [hx]))
  have hf : ∀ p : St, (fl1 m.at_ p).at_ = p.at_ ∧ (fl1 m.at_ p).val = p.val ∧ (p.fl = true → (fl1 m.at_ p).fl = true) := fun p => by
   unfold fl1
   split
   ·exact ⟨rfl, rfl, fun _ => rfl⟩
   ·exact ⟨rfl, rfl, id⟩
  refine ⟨fun p => g (fl1 m.at_ p), ?_, fun p => ?_, fun p hp => ?_⟩
  ·rw [zhq, hm, zux]
   show zpw (s.1, s.2.map (fl1 m.at_)) l = _
   rw [e, List.map_map]
   rfl
  ·have a := h1 (fl1 m.at_ p)
   have b := hf p
   exact ⟨a.1.trans b.1, a.2.1.trans b.2.1, fun x => a.2.2 (b.2.2 x)⟩
  ·obtain ⟨x, hx, e2⟩ := hp
   rcases List.mem_cons.1 hx with rfl | hx
   ·apply (h1 _).2.2
    unfold fl1
    rw [if_pos e2.symm]
   ·apply h2
    exact ⟨x, hx, by rw [(hf p).1]; exact e2⟩
theorem fen_all : ∀ (ps : List St) (ws : List Int), (∀ p ∈ ps, p.fl = true) → fenW ws ps = zbn ws ps ∧ fenP ps = []
 | [], _, _ => ⟨rfl, rfl⟩
 | p :: ps, ws, h => by
  have hp := h p (by simp)
  have ih := fen_all ps (ws.set p.at_.toNat p.val) (fun q hq => h q (by simp [hq]))
  refine ⟨?_, ?_⟩
  ·show fenW (if p.fl then ws.set p.at_.toNat p.val else ws) ps = zbn (ws.set p.at_.toNat p.val) ps
   rw [hp]
   exact ih.1
  ·unfold fenP at ih ⊢
   rw [List.filter_cons, hp]
   exact ih.2
theorem layW_map (g : St → St) (hg : ∀ p, (g p).at_ = p.at_ ∧ (g p).val = p.val) : ∀ (ps : List St) (ws : List Int), zbn ws (ps.map g) = zbn ws ps
 | [], _ => rfl
 | p :: ps, ws => by
  show zbn (ws.set (g p).at_.toNat (g p).val) (ps.map g) = zbn (ws.set p.at_.toNat p.val) ps
  rw [(hg p).1, (hg p).2]
  exact layW_map g hg ps _

theorem znz : ∀ (S : List St) (s : List Int × List St), zpw s (S.map stM) = (s.1, s.2 ++ S.map (fun p => (⟨p.at_, p.val, false⟩ : St)))
 | [], s => by simp [zpw]
 | p :: S, s => by
  rw [List.map_cons, zhq, zvi, znz S]
  simp
theorem seg_run (S : List St) (ws : List Int) : zpw (ws, []) (seg S) = (zbn ws S, []) := by
 have e0 : zpw (ws, []) (S.map stM) = (ws, S.map (fun p => (⟨p.at_, p.val, false⟩ : St))) := by rw [znz]; simp
 unfold seg zaw
 rw [zhc, e0, zhc]
 obtain ⟨g, e, h1, h2⟩ := zlw (nl (S.map (·.at_)) (S.map (·.at_)).length) (ws, S.map (fun p => (⟨p.at_, p.val, false⟩ : St))) (zov _ _)
 rw [e, zhq, runM_nil, zwr]
 have hall : ∀ p ∈ (S.map (fun p => (⟨p.at_, p.val, false⟩ : St))).map g, p.fl = true := by
  intro p hp
  rw [List.map_map, List.mem_map] at hp
  obtain ⟨q, hq, rfl⟩ := hp
  apply h2
  obtain ⟨i, hi, rfl⟩ := List.getElem_of_mem hq
  obtain ⟨m, hm, e2⟩ := nl_has (S.map (·.at_)) (S.map (·.at_)).length i (by simpa using hi)
  refine ⟨m, hm, ?_⟩
  rw [e2]
  simp [hi]
 have f := fen_all _ ws hall
 show (fenW ws ((S.map (fun p => (⟨p.at_, p.val, false⟩ : St))).map g), fenP _) = _
 rw [f.1, f.2, List.map_map, layW_map (g ∘ fun p => (⟨p.at_, p.val, false⟩ : St)) (fun p => ⟨(h1 _).1, (h1 _).2.1⟩)]

end Go.Proofs.YtipklbnfobckaaaGreatDoor

namespace Go.Proofs.YtipklbnfobckaaaGreatDoor
open Go.RowKit

theorem zjz (a x : Int) (w : World) : Calls Tryz.prog 199 #[.int .i64 a, .int .i64 x] w fun e w' => e = .returned (.agg #[.int .i64 1, .int .i64 a, .int .i64 x]) ∧ Below w.heap.size w w' := by
 go_enter Tryz.func199, Tryz.ntmps199
 go_wp2
 refine bodyPost_ret (v := .agg #[.int .i64 1, .int .i64 a, .int .i64 x]) (by simp [results, Tryz.results199, go_sem]) rfl ⟨rfl, ?_⟩
 repeat (refine Below.alloc ?_ (by simp <;> omega) _)
 exact Below.refl _ _

end Go.Proofs.YtipklbnfobckaaaGreatDoor
