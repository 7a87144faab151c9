/- Several texts laid together: IgG, IgH. -/
import Derived.Test.YtlgghookekokaaaGreatDoorZAX
namespace Go.Proofs.YtlgghookekokaaaGreatDoor
open Go.RowKit

/-- Words that say a right image, and which. -/
structure Wi (ls : List Int) (ws : List Ino) (ps : List Den) : Prop where
  len : ls.length = 336
  mark : wdI ls 0 = 7
  good : allGood ls 24 = true
  inos : inosOf ls 16 = ws
  dens : densOf ls 24 = ps
  img : Img ws ps
theorem mark_upd {ls : List Int} {us : List Se} (hl : ls.length = 336) (ui : UpIn us) (h : wdI ls 0 = 7) : wdI (updL ls us) 0 = 7 := by
  rw [upd_out (by omega) us ls (fun u hu => by have := ui u hu; exact ⟨by omega, by omega, by omega⟩)]
  exact h
theorem inoAt_words {ls : List Int} {ws : List Ino} {ps : List Den} (h : Wi ls ws ps) {i : Nat} (hi : i < 16) : inoAt ws i = inoOf ls i := by
  rw [← h.inos]
  unfold inoAt inosOf
  rw [List.getD_eq_getElem?_getD, List.getElem?_map, List.getElem?_range hi]
  rfl
/-- Words of one inode, some of them updated. -/
def inoU (i : Nat) (fs : List (Nat × Int)) : List Se := fs.map fun f => ⟨48 + 12 * (i : Int) + (f.1 : Int), f.2⟩
theorem inoU_in {i : Nat} {fs : List (Nat × Int)} (hi : i < 16) (hf : ∀ f ∈ fs, f.1 < 11) : UpIn (inoU i fs) := fun u hu => by
  obtain ⟨f, hm, rfl⟩ := List.mem_map.1 hu
  have := hf f hm
  exact ⟨by show 48 ≤ 48 + 12 * (i : Int) + (f.1 : Int); omega, by show 48 + 12 * (i : Int) + (f.1 : Int) < 312; omega⟩
theorem inoU_at {i : Nat} {fs : List (Nat × Int)} (hi : i < 16) (hf : ∀ f ∈ fs, f.1 < 11) : ∀ u ∈ inoU i fs, 48 + 12 * (i : Int) ≤ u.at_ ∧ u.at_ < 48 + 12 * (i : Int) + 11 ∧ u.at_ < 240 := fun u hu => by
  obtain ⟨f, hm, rfl⟩ := List.mem_map.1 hu
  have := hf f hm
  exact ⟨by show 48 + 12 * (i : Int) ≤ 48 + 12 * (i : Int) + (f.1 : Int); omega, by show 48 + 12 * (i : Int) + (f.1 : Int) < 48 + 12 * (i : Int) + 11; omega, by show 48 + 12 * (i : Int) + (f.1 : Int) < 240; omega⟩
/-- One word of an inode behind such updates. -/
def fldU (fs : List (Nat × Int)) (g : Nat) (z : Int) : Int := fs.foldl (fun a f => if f.1 = g then f.2 else a) z
theorem fld_upd {i : Nat} (hi : i < 16) {g : Nat} (hg : g < 11) : ∀ (fs : List (Nat × Int)) (ls : List Int), ls.length = 336 → (∀ f ∈ fs, f.1 < 11) → wdI (updL ls (inoU i fs)) (48 + 12 * (i : Int) + (g : Int)) = fldU fs g (wdI ls (48 + 12 * (i : Int) + (g : Int))) := by
  intro fs
  induction fs with
  | nil => intro ls _ _; rfl
  | cons f fs ih =>
    intro ls hl hf
    have h11 := hf f (List.mem_cons_self ..)
    show wdI (updL (ls.set (48 + 12 * (i : Int) + (f.1 : Int)).toNat f.2) (inoU i fs)) _ = _
    rw [ih _ (by rw [List.length_set]; exact hl) (fun x hx => hf x (List.mem_cons_of_mem _ hx)), wdI_set (by omega) (by omega) (by omega)]
    unfold fldU
    rw [List.foldl_cons]
    by_cases e : f.1 = g
    · rw [if_pos (by omega), if_pos e]
    · rw [if_neg (by omega), if_neg e]
/-- An inode, some of its words updated. -/
def inoP (x : Ino) (fs : List (Nat × Int)) : Ino := ⟨fldU fs 0 x.kind, fldU fs 1 x.size, fldU fs 2 x.links, fldU fs 3 x.m0, fldU fs 4 x.m1, fldU fs 5 x.m2, fldU fs 6 x.m3, fldU fs 7 x.m4, fldU fs 8 x.m5, fldU fs 9 x.m6, fldU fs 10 x.m7⟩
theorem ino_upd {i : Nat} (hi : i < 16) {fs : List (Nat × Int)} {ls : List Int} (hl : ls.length = 336) (hf : ∀ f ∈ fs, f.1 < 11) : inoOf (updL ls (inoU i fs)) i = inoP (inoOf ls i) fs := by
  have W := fun g hg => fld_upd (g := g) hi hg fs ls hl hf
  have w0 := W 0 (by omega)
  rw [show 48 + 12 * (i : Int) + ((0 : Nat) : Int) = 48 + 12 * (i : Int) by omega] at w0
  unfold inoP inoOf
  rw [w0]
  congr 1
  · exact W 1 (by omega)
  · exact W 2 (by omega)
  · exact W 3 (by omega)
  · exact W 4 (by omega)
  · exact W 5 (by omega)
  · exact W 6 (by omega)
  · exact W 7 (by omega)
  · exact W 8 (by omega)
  · exact W 9 (by omega)
  · exact W 10 (by omega)
/-- Updates of one inode, and of one entry, in either order. -/
theorem wi_upd {ls : List Int} {ws : List Ino} {ps : List Den} (h : Wi ls ws ps) {i k : Nat} (hi : i < 16) (hk : k < 24) {fs : List (Nat × Int)} (hf : ∀ f ∈ fs, f.1 < 11) {x : Den} (hx : x = freeD ∨ (0 ≤ x.child ∧ nmB x.name = true)) (img : Img (ws.set i (inoP (inoAt ws i) fs)) (ps.set k x)) :
    Wi (updL ls (inoU i fs ++ enL (k : Int) x)) (ws.set i (inoP (inoAt ws i) fs)) (ps.set k x) ∧ Wi (updL ls (enL (k : Int) x ++ inoU i fs)) (ws.set i (inoP (inoAt ws i) fs)) (ps.set k x) := by
  have iu := inoU_in (fs := fs) hi hf
  have ia := inoU_at (fs := fs) hi hf
  have eu := enL_in hk x
  have ea : ∀ u ∈ enL (k : Int) x, 240 + 3 * (k : Int) ≤ u.at_ ∧ u.at_ < 240 + 3 * (k : Int) + 3 := fun u hu => by
    simp only [enL, List.mem_cons, List.not_mem_nil, or_false] at hu
    rcases hu with rfl | rfl | rfl
    · exact ⟨Int.le_refl _, by show 240 + 3 * (k : Int) < 240 + 3 * (k : Int) + 3; omega⟩
    · exact ⟨by show 240 + 3 * (k : Int) ≤ 240 + 3 * (k : Int) + 1; omega, by show 240 + 3 * (k : Int) + 1 < 240 + 3 * (k : Int) + 3; omega⟩
    · exact ⟨by show 240 + 3 * (k : Int) ≤ 240 + 3 * (k : Int) + 2; omega, by show 240 + 3 * (k : Int) + 2 < 240 + 3 * (k : Int) + 3; omega⟩
  have xi := inoAt_words h hi
  have both : ∀ us, UpIn us → (∀ u ∈ us, u ∈ inoU i fs ∨ u ∈ enL (k : Int) x) → inoOf (updL ls us) i = inoP (inoOf ls i) fs → denOf (updL ls us) k = x → denGood (updL ls us) k = true → Wi (updL ls us) (ws.set i (inoP (inoAt ws i) fs)) (ps.set k x) := by
    intro us ui mem e1 e2 e3
    have oi : ∀ j : Nat, j < 16 → ¬ j = i → ∀ u ∈ us, ¬ (48 + 12 * (j : Int) ≤ u.at_ ∧ u.at_ < 48 + 12 * (j : Int) + 11) := by
      intro j hj ne u hu
      rcases mem u hu with q | q
      · have := ia u q; omega
      · have := ea u q; omega
    have ok : ∀ j : Nat, j < 24 → ¬ j = k → ∀ u ∈ us, ¬ (240 + 3 * (j : Int) ≤ u.at_ ∧ u.at_ < 240 + 3 * (j : Int) + 3) := by
      intro j hj ne u hu
      rcases mem u hu with q | q
      · have := ia u q; omega
      · have := ea u q; omega
    refine ⟨by rw [updL_len]; exact h.len, mark_upd h.len ui h.mark, good_upd h.len ui h.good e3 ok, ?_, ?_, img⟩
    · rw [inos_upd h.len ui hi e1 oi, h.inos, xi]
    · rw [dens_upd h.len ui hk e2 ok, h.dens]
  constructor
  · refine both _ (iu.app eu) (fun u hu => List.mem_append.1 hu) ?_ ?_ ?_
    · rw [updL_app]
      have W : ∀ z, 48 + 12 * (i : Int) ≤ z ∧ z < 48 + 12 * (i : Int) + 11 → wdI (updL (updL ls (inoU i fs)) (enL (k : Int) x)) z = wdI (updL ls (inoU i fs)) z := fun z hz => upd_out (by omega) _ _ (fun u hu => by
        have := ea u hu
        rw [updL_len, h.len]
        exact ⟨by omega, by omega, by omega⟩)
      rw [← ino_upd hi h.len hf]
      unfold inoOf
      rw [W _ (by omega), W _ (by omega), W _ (by omega), W _ (by omega), W _ (by omega), W _ (by omega), W _ (by omega), W _ (by omega), W _ (by omega), W _ (by omega), W _ (by omega)]
    · rw [updL_app]
      have := (en_read (ls := updL ls (inoU i fs)) (x := x) (us := []) (by rw [updL_len]; exact h.len) hk (fun _ q => by cases q) (fun _ q => by cases q) hx).1
      rw [List.append_nil] at this
      exact this
    · rw [updL_app]
      have := (en_read (ls := updL ls (inoU i fs)) (x := x) (us := []) (by rw [updL_len]; exact h.len) hk (fun _ q => by cases q) (fun _ q => by cases q) hx).2
      rw [List.append_nil] at this
      exact this
  · have oe : ∀ u ∈ inoU i fs, ¬ (240 + 3 * (k : Int) ≤ u.at_ ∧ u.at_ < 240 + 3 * (k : Int) + 3) := fun u hu => by have := ia u hu; omega
    have er := en_read (ls := ls) (x := x) (us := inoU i fs) h.len hk iu oe hx
    refine both _ (eu.app iu) (fun u hu => (List.mem_append.1 hu).symm) ?_ er.1 er.2
    rw [updL_app, ino_upd hi (by rw [updL_len]; exact h.len) hf]
    have W : ∀ z, 48 + 12 * (i : Int) ≤ z ∧ z < 48 + 12 * (i : Int) + 11 → wdI (updL ls (enL (k : Int) x)) z = wdI ls z := fun z hz => upd_out (by omega) _ _ (fun u hu => by
      have := ea u hu
      rw [h.len]
      exact ⟨by omega, by omega, by omega⟩)
    congr 1
    unfold inoOf
    rw [W _ (by omega), W _ (by omega), W _ (by omega), W _ (by omega), W _ (by omega), W _ (by omega), W _ (by omega), W _ (by omega), W _ (by omega), W _ (by omega), W _ (by omega)]
/-- Updates of one inode alone. -/
theorem wi_ino {ls : List Int} {ws : List Ino} {ps : List Den} (h : Wi ls ws ps) {i : Nat} (hi : i < 16) {fs : List (Nat × Int)} (hf : ∀ f ∈ fs, f.1 < 11) (img : Img (ws.set i (inoP (inoAt ws i) fs)) ps) :
    Wi (updL ls (inoU i fs)) (ws.set i (inoP (inoAt ws i) fs)) ps := by
  have iu := inoU_in (fs := fs) hi hf
  have ia := inoU_at (fs := fs) hi hf
  refine ⟨by rw [updL_len]; exact h.len, mark_upd h.len iu h.mark, good_same h.len iu h.good (fun u hu => (ia u hu).2.2), ?_, ?_, img⟩
  · rw [inos_upd h.len iu hi (ino_upd hi h.len hf) (fun j _ _ u hu => by have := ia u hu; omega), h.inos, inoAt_words h hi]
  · rw [dens_same h.len iu (fun u hu => (ia u hu).2.2), h.dens]
/-- Updates of one entry alone. -/
theorem wi_den {ls : List Int} {ws : List Ino} {ps : List Den} (h : Wi ls ws ps) {k : Nat} (hk : k < 24) {x : Den} (hx : x = freeD ∨ (0 ≤ x.child ∧ nmB x.name = true)) (img : Img ws (ps.set k x)) :
    Wi (updL ls (enL (k : Int) x)) ws (ps.set k x) := by
  have eu := enL_in hk x
  have ea : ∀ u ∈ enL (k : Int) x, 240 + 3 * (k : Int) ≤ u.at_ ∧ u.at_ < 240 + 3 * (k : Int) + 3 := fun u hu => by
    simp only [enL, List.mem_cons, List.not_mem_nil, or_false] at hu
    rcases hu with rfl | rfl | rfl
    · exact ⟨Int.le_refl _, by show 240 + 3 * (k : Int) < 240 + 3 * (k : Int) + 3; omega⟩
    · exact ⟨by show 240 + 3 * (k : Int) ≤ 240 + 3 * (k : Int) + 1; omega, by show 240 + 3 * (k : Int) + 1 < 240 + 3 * (k : Int) + 3; omega⟩
    · exact ⟨by show 240 + 3 * (k : Int) ≤ 240 + 3 * (k : Int) + 2; omega, by show 240 + 3 * (k : Int) + 2 < 240 + 3 * (k : Int) + 3; omega⟩
  have er := en_read (ls := ls) (x := x) (us := []) h.len hk (fun _ q => by cases q) (fun _ q => by cases q) hx
  rw [List.append_nil] at er
  refine ⟨by rw [updL_len]; exact h.len, mark_upd h.len eu h.mark, good_upd h.len eu h.good er.2 (fun j _ ne u hu => by have := ea u hu; omega), ?_, ?_, img⟩
  · rw [inos_same h.len eu (fun u hu => by have := ea u hu; omega), h.inos]
  · rw [dens_upd h.len eu hk er.1 (fun j _ ne u hu => by have := ea u hu; omega), h.dens]
end Go.Proofs.YtlgghookekokaaaGreatDoor

namespace Go.Proofs.YtlgghookekokaaaGreatDoor
open Go.RowKit

theorem den_child {ps : List Den} {k : Nat} (h : k < ps.length) : childAt ps k = (denAt ps k).child := childAt_den h
theorem fe_free {ws : List Ino} {ps : List Den} (h : Img ws ps) (f : ¬ feI ps < 0) : ∃ k : Nat, feI ps = (k : Int) ∧ k < 24 ∧ denAt ps k = freeD := by
  have hit := first_hit (p := fun i => decide (childAt ps i < 0)) (n := ps.length) f
  have b := (first_bound (fun i => decide (childAt ps i < 0)) ps.length).2
  have e : feI ps = firstIx (fun i => decide (childAt ps i < 0)) ps.length := rfl
  rw [← e] at hit b
  refine ⟨(feI ps).toNat, by omega, by have := h.l24; omega, ?_⟩
  have hk : (feI ps).toNat < ps.length := by omega
  have c : childAt ps (feI ps).toNat < 0 := of_decide_eq_true hit
  rw [den_child hk] at c
  rcases h.ent (feI ps).toNat (by have := h.l24; omega) with q | q
  · exact q
  · have := q.1; omega
theorem fi_free {ws : List Ino} {ps : List Den} (h : Img ws ps) (f : ¬ fiI ws < 0) : ∃ i : Nat, fiI ws = (i : Int) ∧ i < 16 ∧ (inoAt ws i).kind = 0 := by
  have hit := first_hit (p := fun i => decide (1 ≤ i) && kindAt ws (i : Int) == 0) (n := ws.length) f
  have b := (first_bound (fun i => decide (1 ≤ i) && kindAt ws (i : Int) == 0) ws.length).2
  have e : fiI ws = firstIx (fun i => decide (1 ≤ i) && kindAt ws (i : Int) == 0) ws.length := rfl
  rw [← e] at hit b
  refine ⟨(fiI ws).toNat, by omega, by have := h.l16; omega, ?_⟩
  simp only [Bool.and_eq_true, beq_iff_eq] at hit
  rw [← kindAt_ino]
  exact hit.2
theorem ent_new {ps : List Den} (l : ps.length = 24) {d : Int} {nm : ByteArray} (h : entAt ps d nm = none) : ∀ j, j < 24 → 0 ≤ (denAt ps j).child → (denAt ps j).dir = d → ¬ (denAt ps j).name = nm := by
  intro j hj a b c
  unfold entAt at h
  rw [List.findIdx?_eq_none_iff] at h
  have := h ps[j] (List.getElem_mem (by omega))
  rw [denAt_of (by omega)] at a b c
  rw [hit_iff.2 ⟨a, b, c⟩] at this
  cases this
theorem ent_at {ws : List Ino} {ps : List Den} (h : Img ws ps) {d : Int} {nm : ByteArray} {k : Nat} (e : entAt ps d nm = some k) : k < 24 ∧ ∃ i : Nat, childAt ps k = (i : Int) ∧ (denAt ps k).child = (i : Int) ∧ i < 16 ∧ EntOK ws (denAt ps k) ∧ (denAt ps k).dir = d ∧ (denAt ps k).name = nm := by
  obtain ⟨hk, q⟩ := ent_some e
  have hk24 : k < 24 := by have := h.l24; omega
  obtain ⟨c, hd, hn⟩ := hit_iff.1 q
  rw [← denAt_of hk] at c hd hn
  have ok : EntOK ws (denAt ps k) := by
    rcases h.ent k hk24 with r | r
    · rw [r] at c; exact absurd c (by decide)
    · exact r
  refine ⟨hk24, (denAt ps k).child.toNat, ?_, by omega, by have := ok.1; omega, ok, hd, hn⟩
  rw [den_child hk]
  omega
theorem names_none {ps : List Den} (l : ps.length = 24) {d : Int} (h : namesD ps d = []) : ∀ j, j < 24 → ¬ (0 ≤ (denAt ps j).child ∧ (denAt ps j).dir = d) := by
  intro j hj
  rintro ⟨a, b⟩
  unfold namesD at h
  rw [List.map_eq_nil_iff, List.filter_eq_nil_iff] at h
  have := h ps[j] (List.getElem_mem (by omega))
  rw [denAt_of (by omega)] at a b
  rw [decide_eq_true_eq] at this
  omega
/-- What is made. -/
theorem wi_make {ls : List Int} {ws : List Ino} {ps : List Den} {s : ByteArray} {kind : Int} {us : List Se} (h : Wi ls ws ps) (kd : kind = 1 ∨ kind = 2) (e : mkI ws ps s kind = (us, 0)) :
    ∃ (i k : Nat) (d : Int) (nm : ByteArray), paI ws ps s = (d, nm, 0) ∧ entAt ps d nm = none ∧ (i < 16 ∧ 1 ≤ i ∧ (inoAt ws i).kind = 0) ∧ (k < 24 ∧ denAt ps k = freeD) ∧ Wi (updL ls us) (ws.set i ⟨kind, 0, 1, 0, 0, 0, 0, 0, 0, 0, 0⟩) (ps.set k ⟨d, nm, (i : Int)⟩) := by
  unfold mkI at e
  by_cases c : (paI ws ps s).2.2 = 0
  · rw [if_pos c] at e
    obtain ⟨hd, dd, hn⟩ := paI_ok (img_iff.2 h.img) c
    unfold mkN at e
    by_cases c1 : 0 ≤ entI ps (paI ws ps s).1 (paI ws ps s).2.1
    · rw [if_pos c1] at e; cases e
    · rw [if_neg c1] at e
      by_cases c2 : fiI ws < 0
      · rw [if_pos c2] at e; cases e
      · rw [if_neg c2] at e
        by_cases c3 : feI ps < 0
        · rw [if_pos c3] at e; cases e
        · rw [if_neg c3] at e
          obtain ⟨i, ei, hi, ki⟩ := fi_free h.img c2
          obtain ⟨k, ek, hk, fk⟩ := fe_free h.img c3
          have en := entI_no.2 c1
          generalize paI ws ps s = pr at *
          obtain ⟨d, nm, pc⟩ := pr
          simp only at c hd dd hn en e
          subst c
          rw [ei, ek] at e
          have eu : us = inoU i [(0, kind), (2, 1)] ++ enL (k : Int) ⟨d, nm, (i : Int)⟩ := by
            injection e with e _
            rw [← e]
            unfold mkU inoU
            simp only [List.map_cons, List.map_nil]
            rw [show 48 + 12 * (i : Int) + ((0 : Nat) : Int) = 48 + 12 * (i : Int) by omega]
            rfl
          obtain ⟨z, _, i0⟩ := h.img.free hi ki
          have xp : inoP (inoAt ws i) [(0, kind), (2, 1)] = ⟨kind, 0, 1, 0, 0, 0, 0, 0, 0, 0, 0⟩ := by rw [z]; rfl
          refine ⟨i, k, d, nm, rfl, en, ⟨hi, by omega, ki⟩, ⟨hk, fk⟩, ?_⟩
          rw [eu, ← xp]
          refine (wi_upd h hi hk (fun f hf => ?_) (.inr ⟨by show (0 : Int) ≤ (i : Int); omega, hn⟩) ?_).1
          · simp only [List.mem_cons, List.not_mem_nil, or_false] at hf
            rcases hf with rfl | rfl
            · show (0 : Nat) < 11; omega
            · show (2 : Nat) < 11; omega
          · rw [xp]
            exact img_make h.img hi ki hk fk kd hd dd hn (ent_new h.img.l24 en)
  · rw [if_neg c] at e
    injection e with _ e
    exact absurd e c
theorem wr_zero (i : Nat) : wrL (i : Int) zeroN 8 = inoU i [(0, 0), (1, 0), (2, 0), (3, 0), (4, 0), (5, 0), (6, 0), (7, 0), (8, 0), (9, 0), (10, 0)] := by
  unfold wrL inoU
  simp only [List.map_cons, List.map_nil, List.range_succ, List.range_zero, List.nil_append, List.cons_append]
  rw [show 48 + 12 * (i : Int) + ((0 : Nat) : Int) = 48 + 12 * (i : Int) by omega]
  rfl
/-- What is removed. -/
theorem wi_remove {ls : List Int} {ws : List Ino} {ps : List Den} {s : ByteArray} {us : List Se} (h : Wi ls ws ps) (e : rmI ws ps s = (us, 0)) :
    ∃ (i k : Nat) (d : Int) (nm : ByteArray), paI ws ps s = (d, nm, 0) ∧ entAt ps d nm = some k ∧ (denAt ps k).child = (i : Int) ∧ i < 16 ∧ k < 24 ∧ namesD ps (i : Int) = [] ∧ Wi (updL ls us) (ws.set i (lessLink (inoAt ws i))) (ps.set k freeD) := by
  unfold rmI at e
  by_cases c : (paI ws ps s).2.2 = 0
  · rw [if_pos c] at e
    generalize paI ws ps s = pr at *
    obtain ⟨d, nm, pc⟩ := pr
    simp only at c e
    subst c
    unfold rmN at e
    cases en : entAt ps d nm with
    | none => rw [en] at e; cases e
    | some k =>
      rw [en] at e
      have e' : rmC ws ps k = (us, 0) := e
      obtain ⟨hk, i, ci, ck, hi, ok, _, _⟩ := ent_at h.img en
      unfold rmC at e'
      rw [ci] at e'
      by_cases c1 : kindAt ws (i : Int) = 2 ∧ ¬ namesD ps (i : Int) = []
      · rw [if_pos c1] at e'; cases e'
      · rw [if_neg c1] at e'
        have nn : namesD ps (i : Int) = [] := by
          by_cases q : kindAt ws (i : Int) = 2
          · exact Classical.byContradiction fun r => c1 ⟨q, r⟩
          · exact file_empty (img_iff.2 h.img) q
        refine ⟨i, k, d, nm, rfl, en, ck, hi, hk, nn, ?_⟩
        have img := img_remove h.img hk ck (names_none h.img.l24 nn)
        injection e' with e' _
        rw [← e']
        unfold rmU
        rw [linkAt_ino]
        by_cases two : 1 < (inoAt ws i).links
        · rw [if_pos two]
          have xp : inoP (inoAt ws i) [(2, (inoAt ws i).links - 1)] = lessLink (inoAt ws i) := by
            unfold lessLink
            rw [if_pos two]
            rfl
          rw [← xp] at img ⊢
          exact (wi_upd h hi hk (fun f hf => by simp only [List.mem_cons, List.not_mem_nil, or_false] at hf; rw [hf]; show (2 : Nat) < 11; omega) (.inl rfl) img).2
        · rw [if_neg two, wr_zero]
          have xp : inoP (inoAt ws i) [(0, 0), (1, 0), (2, 0), (3, 0), (4, 0), (5, 0), (6, 0), (7, 0), (8, 0), (9, 0), (10, 0)] = lessLink (inoAt ws i) := by
            unfold lessLink
            rw [if_neg two]
            rfl
          rw [← xp] at img ⊢
          refine (wi_upd h hi hk (fun f hf => ?_) (.inl rfl) img).2
          simp only [List.mem_cons, List.not_mem_nil, or_false] at hf
          rcases hf with rfl | rfl | rfl | rfl | rfl | rfl | rfl | rfl | rfl | rfl | rfl <;> decide
  · rw [if_neg c] at e
    injection e with _ e
    exact absurd e c
theorem wk_kind {ws : List Ino} {ps : List Den} (h : Img ws ps) : ∀ (ns : List ByteArray) (z : Int), (wk ws ps z ns).2 = 0 → ¬ kindAt ws z = 0 → ¬ kindAt ws (wk ws ps z ns).1 = 0
  | [], z, _, k => k
  | n :: ns, z, c, k => by
    by_cases q : kindAt ws z = 2
    · cases e : entAt ps z n with
      | none => rw [wk_none q e] at c; cases c
      | some j =>
        rw [wk_some q e] at c ⊢
        obtain ⟨_, i, ci, ck, _, ok, _, _⟩ := ent_at h e
        refine wk_kind h ns _ c ?_
        rw [ci, ← ck]
        exact ok.2.2.2.1
    · rw [wk_nodir q] at c; cases c
theorem wk_root {ws : List Ino} {ps : List Den} (h : Img ws ps) : ∀ (ns : List ByteArray) (z : Int), (wk ws ps z ns).2 = 0 → (wk ws ps z ns).1 = z ∨ 1 ≤ (wk ws ps z ns).1
  | [], z, _ => .inl rfl
  | n :: ns, z, c => by
    by_cases q : kindAt ws z = 2
    · cases e : entAt ps z n with
      | none => rw [wk_none q e] at c; cases c
      | some k =>
        rw [wk_some q e] at c ⊢
        obtain ⟨_, i, ci, ck, _, ok, _, _⟩ := ent_at h e
        have := ok.1
        rcases wk_root h ns _ c with r | r
        · right
          rw [r, ci]
          omega
        · exact .inr r
    · rw [wk_nodir q] at c; cases c
/-- A file that is looked up. -/
theorem lk_plain {ws : List Ino} {ps : List Den} {s : ByteArray} (h : Img ws ps) (c : (lkI ws ps s).2 = 0) (k : ¬ kindAt ws (lkI ws ps s).1 = 2) : ∃ i : Nat, (lkI ws ps s).1 = (i : Int) ∧ i < 16 ∧ ¬ i = 0 ∧ (inoAt ws i).kind = 1 := by
  have rg := lkI_ok (s := s) (img_iff.2 h)
  refine ⟨(lkI ws ps s).1.toNat, by omega, by omega, ?_⟩
  unfold lkI at c k rg ⊢
  by_cases q : spB s = true
  · rw [if_pos q] at c k rg ⊢
    have r1 : kindAt ws 0 = 2 := h.root
    have kk := wk_kind h (spL s) 0 c (by rw [r1]; decide)
    have hp : 1 ≤ (wk ws ps 0 (spL s)).1 := by
      rcases wk_root h _ 0 c with r | r
      · rw [r] at k; exact absurd r1 k
      · exact r
    refine ⟨by omega, ?_⟩
    obtain ⟨n, hn⟩ : ∃ n : Nat, (wk ws ps 0 (spL s)).1 = (n : Int) := ⟨(wk ws ps 0 (spL s)).1.toNat, by omega⟩
    rw [hn] at k kk rg ⊢
    rw [Int.toNat_natCast]
    rw [kindAt_ino] at k kk
    have := (ino_parts (h.ok n (by omega))).1
    omega
  · rw [if_neg q] at c; cases c
/-- What is linked. -/
theorem wi_link {ls : List Int} {ws : List Ino} {ps : List Den} {s t : ByteArray} {us : List Se} (h : Wi ls ws ps) (e : lnI ws ps s t = (us, 0)) :
    ∃ (i k : Nat) (d : Int) (nm : ByteArray), lkI ws ps s = ((i : Int), 0) ∧ (i < 16 ∧ ¬ i = 0 ∧ (inoAt ws i).kind = 1) ∧ paI ws ps t = (d, nm, 0) ∧ entAt ps d nm = none ∧ (k < 24 ∧ denAt ps k = freeD) ∧ Wi (updL ls us) (ws.set i (moreLink (inoAt ws i))) (ps.set k ⟨d, nm, (i : Int)⟩) := by
  unfold lnI at e
  by_cases c0 : (lkI ws ps s).2 = 0
  · rw [if_pos c0] at e
    by_cases c1 : kindAt ws (lkI ws ps s).1 = 2
    · rw [if_pos c1] at e; cases e
    · rw [if_neg c1] at e
      obtain ⟨i, ei, hi, i0, ki⟩ := lk_plain h.img c0 c1
      have el : lkI ws ps s = ((i : Int), 0) := Prod.ext ei c0
      rw [ei] at e
      unfold lnP at e
      by_cases c : (paI ws ps t).2.2 = 0
      · rw [if_pos c] at e
        obtain ⟨hd, dd, hn⟩ := paI_ok (img_iff.2 h.img) c
        unfold lnN at e
        by_cases c2 : 0 ≤ entI ps (paI ws ps t).1 (paI ws ps t).2.1
        · rw [if_pos c2] at e; cases e
        · rw [if_neg c2] at e
          by_cases c3 : feI ps < 0
          · rw [if_pos c3] at e; cases e
          · rw [if_neg c3] at e
            obtain ⟨k, ek, hk, fk⟩ := fe_free h.img c3
            have en := entI_no.2 c2
            generalize paI ws ps t = pr at *
            obtain ⟨d, nm, pc⟩ := pr
            simp only at c hd dd hn en e
            subst c
            rw [ek, linkAt_ino] at e
            injection e with e _
            refine ⟨i, k, d, nm, el, ⟨hi, i0, ki⟩, rfl, en, ⟨hk, fk⟩, ?_⟩
            have img := img_link h.img hi i0 ki hk fk hd dd hn (ent_new h.img.l24 en)
            have xp : inoP (inoAt ws i) [(2, (inoAt ws i).links + 1)] = moreLink (inoAt ws i) := rfl
            rw [← e]
            rw [← xp] at img ⊢
            exact (wi_upd h hi hk (fun f hf => by simp only [List.mem_cons, List.not_mem_nil, or_false] at hf; rw [hf]; show (2 : Nat) < 11; omega) (.inr ⟨by show (0 : Int) ≤ (i : Int); omega, hn⟩) img).2
      · rw [if_neg c] at e
        injection e with _ e
        exact absurd e c
  · rw [if_neg c0] at e
    injection e with _ e
    exact absurd e c0
/-- What is renamed. -/
theorem wi_rename {ls : List Int} {ws : List Ino} {ps : List Den} {s t : ByteArray} {us : List Se} (h : Wi ls ws ps) (e : rnI ws ps s t = (us, 0)) :
    ∃ (i k : Nat) (d0 d : Int) (n0 nm : ByteArray), paI ws ps s = (d0, n0, 0) ∧ entAt ps d0 n0 = some k ∧ (denAt ps k).child = (i : Int) ∧ i < 16 ∧ k < 24 ∧ paI ws ps t = (d, nm, 0) ∧ entAt ps d nm = none ∧ Wi (updL ls us) ws (ps.set k ⟨d, nm, (i : Int)⟩) := by
  unfold rnI at e
  by_cases c0 : (paI ws ps s).2.2 = 0
  · rw [if_pos c0] at e
    unfold rnE at e
    cases en0 : entAt ps (paI ws ps s).1 (paI ws ps s).2.1 with
    | none => rw [en0] at e; cases e
    | some k =>
      rw [en0] at e
      have e' : rnP ws ps t k = (us, 0) := e
      obtain ⟨hk, i, ci, ck, hi, ok, _, _⟩ := ent_at h.img en0
      unfold rnP at e'
      by_cases c : (paI ws ps t).2.2 = 0
      · rw [if_pos c] at e'
        obtain ⟨hd, dd, hn⟩ := paI_ok (img_iff.2 h.img) c
        unfold rnN at e'
        rw [ci] at e'
        by_cases c2 : 0 ≤ entI ps (paI ws ps t).1 (paI ws ps t).2.1
        · rw [if_pos c2] at e'; cases e'
        · rw [if_neg c2] at e'
          have en := entI_no.2 c2
          by_cases c3 : kindAt ws (i : Int) = 2 ∧ benN ps 17 (paI ws ps t).1 (i : Int) = true
          · rw [if_pos c3] at e'; cases e'
          · rw [if_neg c3] at e'
            generalize paI ws ps t = pr at *
            obtain ⟨d, nm, pc⟩ := pr
            generalize paI ws ps s = pq at *
            obtain ⟨d0, n0, qc⟩ := pq
            simp only at c hd dd hn en e' c0 en0 c3
            subst c c0
            injection e' with e' _
            refine ⟨i, k, d0, d, n0, nm, rfl, en0, ck, hi, hk, rfl, en, ?_⟩
            rw [← e']
            exact wi_den h hk (.inr ⟨by show (0 : Int) ≤ (i : Int); omega, hn⟩) (img_rename h.img hk ck hd dd hn (ent_new h.img.l24 en) c3)
      · rw [if_neg c] at e'
        injection e' with _ e'
        exact absurd e' c
  · rw [if_neg c0] at e
    injection e with _ e
    exact absurd e c0
end Go.Proofs.YtlgghookekokaaaGreatDoor
