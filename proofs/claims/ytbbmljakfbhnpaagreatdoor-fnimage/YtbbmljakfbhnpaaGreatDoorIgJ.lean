/- Files written and cut: the words say the changed image. -/
import Derived.Test.YtbbmljakfbhnpaaGreatDoorZAZ
namespace Go.Proofs.YtbbmljakfbhnpaaGreatDoor
open Go.RowKit

theorem zpz {fs : List (Nat × Int)} {g : Nat} : ∀ {z : Int}, (∀ f ∈ fs, ¬ f.1 = g) → zmd fs g z = z := by
 induction fs with
 | nil => intro z _; rfl
 | cons f fs ih =>
  intro z h
  show zmd fs g (if f.1 = g then f.2 else z) = z
  rw [if_neg (h f (List.mem_cons_self ..))]
  exact ih (fun q hq => h q (List.mem_cons_of_mem _ hq))
theorem fld_zero {fs : List (Nat × Int)} {g : Nat} (h0 : ∀ f ∈ fs, f.2 = 0) : ∀ {z : Int}, (z = 0 ∨ ∃ f ∈ fs, f.1 = g) → zmd fs g z = 0 := by
 induction fs with
 | nil => intro z h; rcases h with h | ⟨_, h, _⟩; exact h; cases h
 | cons f fs ih =>
  intro z h
  show zmd fs g (if f.1 = g then f.2 else z) = 0
  refine ih (fun q hq => h0 q (List.mem_cons_of_mem _ hq)) ?_
  by_cases e : f.1 = g
  ·rw [if_pos e]; exact .inl (h0 f (List.mem_cons_self ..))
  ·rw [if_neg e]
   rcases h with h | ⟨q, hq, hg⟩
   ·exact .inl h
   ·rcases List.mem_cons.1 hq with rfl | hq
    ·exact absurd hg e
    ·exact .inr ⟨q, hq, hg⟩
/-- The fields of a cut. -/
def cuFs (zs : List Int) (n : Nat) : List (Nat × Int) := ((List.range 8).filter fun j => decide (n ≤ j) && !(zs.getD j 0 == 0)).map fun (j : Nat) => (3 + j, 0)
theorem cuFs_ups (zs : List Int) (i n : Nat) : zkh i ((1, (n : Int)) :: cuFs zs n) = cuU zs (i : Int) n 8 := by
 unfold zkh cuU cuT cuFs
 rw [List.map_cons, List.map_map]
 rfl
theorem zip {zs : List Int} {n : Nat} {f : Nat × Int} (h : f ∈ cuFs zs n) : ∃ j, j < 8 ∧ n ≤ j ∧ f = (3 + j, 0) := by
 unfold cuFs at h
 obtain ⟨j, hm, rfl⟩ := List.mem_map.1 h
 obtain ⟨a, b⟩ := List.mem_filter.1 hm
 rw [Bool.and_eq_true, decide_eq_true_eq] at b
 exact ⟨j, List.mem_range.1 a, b.1, rfl⟩
theorem cuFs_page {zs : List Int} {n j : Nat} (hj : j < 8) : zmd ((1, (n : Int)) :: cuFs zs n) (3 + j) (zs.getD j 0) = (cutM zs n).getD j 0 := by
 show zmd (cuFs zs n) (3 + j) (if 1 = 3 + j then (n : Int) else zs.getD j 0) = _
 rw [if_neg (by omega), cutM_at _ _ _ hj]
 by_cases c : j < n
 ·rw [if_pos c]
  exact zpz (fun f hf => by obtain ⟨q, _, hq, rfl⟩ := zip hf; show ¬ 3 + q = 3 + j; omega)
 ·rw [if_neg c]
  refine fld_zero (fun f hf => by obtain ⟨q, _, _, rfl⟩ := zip hf; rfl) ?_
  by_cases e : zs.getD j 0 = 0
  ·exact .inl e
  ·refine .inr ⟨(3 + j, 0), ?_, rfl⟩
   unfold cuFs
   exact List.mem_map.2 ⟨j, List.mem_filter.2 ⟨List.mem_range.2 hj, by rw [decide_eq_true (by omega : n ≤ j)]; simpa using e⟩, rfl⟩
theorem cuFs_ino (x : Ino) (n : Nat) : zrv x ((1, (n : Int)) :: cuFs x.map n) = inoM x.kind (n : Int) x.links (cutM x.map n) := by
 have N : ∀ g, g < 3 → ¬ g = 1 → ∀ z, zmd ((1, (n : Int)) :: cuFs x.map n) g z = z := fun g hg h1 z => zpz (fun f hf => by
  rcases List.mem_cons.1 hf with rfl | hf
  ·show ¬ 1 = g; omega
  ·obtain ⟨q, _, _, rfl⟩ := zip hf; show ¬ 3 + q = g; omega)
 have P := fun j hj => cuFs_page (zs := x.map) (n := n) (j := j) hj
 unfold zrv inoM
 congr 1
 ·exact N 0 (by omega) (by omega) _
 ·show zmd (cuFs x.map n) 1 (n : Int) = (n : Int)
  exact zpz (fun f hf => by obtain ⟨q, _, _, rfl⟩ := zip hf; show ¬ 3 + q = 1; omega)
 ·exact N 2 (by omega) (by omega) _
 ·exact P 0 (by omega)
 ·exact P 1 (by omega)
 ·exact P 2 (by omega)
 ·exact P 3 (by omega)
 ·exact P 4 (by omega)
 ·exact P 5 (by omega)
 ·exact P 6 (by omega)
 ·exact P 7 (by omega)
/-- Words behind a cut. -/
theorem wi_cut {ls : List Int} {ns : List Ino} {ds : List Den} (h : Wi ls ns ds) {s : ByteArray} {size : Int} {us : List Se} (e : cuI ns ds s size = (us, 0)) :
  UpIn us ∧ us.length ≤ 9 ∧ ∃ i n : Nat, i < 16 ∧ n ≤ 8 ∧ (flI ns ds s).1 = (i : Int) ∧ size = (n : Int) ∧ Wi (zbx ls us) (ns.set i (inoM (zal ns i).kind (n : Int) (zal ns i).links (cutM (zal ns i).map n))) ds := by
 unfold cuI at e
 by_cases c : (flI ns ds s).2 = 0
 ·rw [if_pos c] at e
  obtain ⟨i, hi, ei, k⟩ := zfn h.img c
  rw [ei] at e
  unfold cuF at e
  by_cases d : 0 ≤ size ∧ size ≤ 8
  ·rw [if_pos d] at e
   obtain ⟨n, rfl⟩ : ∃ n : Nat, size = (n : Int) := ⟨size.toNat, by omega⟩
   rw [Int.toNat_natCast, Int.toNat_natCast] at e
   obtain ⟨rfl, -⟩ := Prod.mk.inj e
   rw [← cuFs_ups]
   have hf : ∀ f ∈ (1, (n : Int)) :: cuFs (zal ns i).map n, f.1 < 11 := fun f hf => by
    rcases List.mem_cons.1 hf with rfl | hf
    ·show 1 < 11; omega
    ·obtain ⟨q, hq, _, rfl⟩ := zip hf; show 3 + q < 11; omega
   refine ⟨znf hi hf, ?_, i, n, hi, by omega, ei, rfl, ?_⟩
   ·rw [cuFs_ups]
    have := zvn (zal ns i).map (i : Int) n 8
    show (cuT (zal ns i).map (i : Int) n 8).length + 1 ≤ 9
    omega
   ·rw [← cuFs_ino]
    exact wi_ino h hi hf (by rw [cuFs_ino]; exact img_cut h.img hi k (by omega))
  ·rw [if_neg d] at e
   simp at e
 ·rw [if_neg c] at e
  exact absurd (Prod.mk.inj e).2 c
/-- An inode, one of its pages and its size updated. -/
def wrFs (p : Nat) (e size : Int) : List (Nat × Int) := (3 + p, e) :: (if size ≤ (p : Int) then [(1, (p : Int) + 1)] else [])
theorem wrFs_ups (i p : Nat) (e size : Int) : zkh i (wrFs p e size) = wrU (i : Int) (p : Int) size e := by
 unfold zkh wrU wrFs
 rw [List.map_cons]
 by_cases c : size ≤ (p : Int)
 ·rw [if_pos c, if_pos c]
  show [(⟨48 + 12 * (i : Int) + ((3 + p : Nat) : Int), e⟩ : Se), ⟨48 + 12 * (i : Int) + 1, (p : Int) + 1⟩] = _
  rw [show 48 + 12 * (i : Int) + ((3 + p : Nat) : Int) = 48 + 12 * (i : Int) + (3 + (p : Int)) by omega]
 ·rw [if_neg c, if_neg c]
  show [(⟨48 + 12 * (i : Int) + ((3 + p : Nat) : Int), e⟩ : Se)] = _
  rw [show 48 + 12 * (i : Int) + ((3 + p : Nat) : Int) = 48 + 12 * (i : Int) + (3 + (p : Int)) by omega]
theorem wrFs_11 {p : Nat} {e size : Int} (hp : p < 8) : ∀ f ∈ wrFs p e size, f.1 < 11 := fun f hf => by
 unfold wrFs at hf
 rcases List.mem_cons.1 hf with rfl | hf
 ·show 3 + p < 11; omega
 ·by_cases c : size ≤ (p : Int)
  ·rw [if_pos c, List.mem_singleton] at hf; rw [hf]; show 1 < 11; omega
  ·rw [if_neg c] at hf; cases hf
theorem wrFs_ino (x : Ino) {p : Nat} (hp : p < 8) (e : Int) : zrv x (wrFs p e x.size) = inoM x.kind (if (p : Int) < x.size then x.size else (p : Int) + 1) x.links (x.map.set p e) := by
 have G : ∀ g z, zmd (wrFs p e x.size) g z = if g = 1 ∧ x.size ≤ (p : Int) then (p : Int) + 1 else if g = 3 + p then e else z := by
  intro g z
  unfold wrFs
  by_cases c : x.size ≤ (p : Int)
  ·rw [if_pos c]
   show (if 1 = g then (p : Int) + 1 else (if 3 + p = g then e else z)) = _
   repeat' split
   all_goals omega
  ·rw [if_neg c]
   show (if 3 + p = g then e else z) = _
   repeat' split
   all_goals omega
 have M : ∀ j, j < 8 → zmd (wrFs p e x.size) (3 + j) (x.map.getD j 0) = (x.map.set p e).getD j 0 := by
  intro j hj
  rw [G, if_neg (fun q => by omega), List.getD_eq_getElem?_getD, List.getD_eq_getElem?_getD, List.getElem?_set]
  by_cases b : j = p
  ·subst b
   rw [if_pos rfl, if_pos rfl, if_pos (by show j < 8; exact hj)]
   rfl
  ·rw [if_neg (by omega), if_neg (fun q => b q.symm)]
 unfold zrv inoM
 congr 1
 ·rw [G, if_neg (fun q => by omega), if_neg (by omega)]
 ·rw [G]
  by_cases c : (p : Int) < x.size
  ·rw [if_neg (fun q => by omega), if_neg (by omega), if_pos c]
  ·rw [if_pos ⟨rfl, by omega⟩, if_neg c]
 ·rw [G, if_neg (fun q => by omega), if_neg (by omega)]
 ·exact M 0 (by omega)
 ·exact M 1 (by omega)
 ·exact M 2 (by omega)
 ·exact M 3 (by omega)
 ·exact M 4 (by omega)
 ·exact M 5 (by omega)
 ·exact M 6 (by omega)
 ·exact M 7 (by omega)
/-- Words behind a page that is let in. -/
theorem zrk {ls : List Int} {ns : List Ino} {ds : List Den} (h : Wi ls ns ds) {i p : Nat} {e : Int} (hi : i < 16) (k : (zal ns i).kind = 1) (hp : p < 8) (te : zdz e = true) (he : ¬ e = 0) (new : ¬ e ∈ zap ns) :
  UpIn (wrU (i : Int) (p : Int) (zal ns i).size e) ∧ Wi (zbx ls (wrU (i : Int) (p : Int) (zal ns i).size e)) (ns.set i (inoM (zal ns i).kind (if (p : Int) < (zal ns i).size then (zal ns i).size else (p : Int) + 1) (zal ns i).links ((zal ns i).map.set p e))) ds := by
 rw [← wrFs_ups, ← wrFs_ino _ hp]
 exact ⟨znf hi (wrFs_11 hp), wi_ino h hi (wrFs_11 hp) (by rw [wrFs_ino _ hp]; exact img_write h.img hi k hp te he new rfl)⟩
/-- Words behind a page that lies elsewhere: one word. -/
theorem wi_move {ls : List Int} {ns : List Ino} {ds : List Den} (h : Wi ls ns ds) {i p : Nat} {e : Int} (hi : i < 16) (hp : p < 8) (was : ¬ (zal ns i).map.getD p 0 = 0) (te : zdz e = true) (he : ¬ e = 0) (new : ¬ e ∈ zap ns) :
  Wi (zbx ls [⟨48 + 12 * (i : Int) + (3 + (p : Int)), e⟩]) (ns.set i (inoM (zal ns i).kind (zal ns i).size (zal ns i).links ((zal ns i).map.set p e))) ds := by
 obtain ⟨sz, k⟩ := page_size (h.img.ok i hi) hp was
 have q := (zrk h hi k hp te he new).2
 unfold wrU at q
 rw [if_neg (by omega), if_pos sz] at q
 exact q
/-- What is free is new. -/
theorem zcu {p : Nat → Bool} {n : Nat} (h : 0 ≤ zbv p n) : ∃ k : Nat, k < n ∧ zbv p n = (k : Int) ∧ p k = true := by
 unfold zbv at h ⊢
 cases e : (List.range n).find? p with
 | none => rw [e] at h; exact absurd h (by show ¬ (0 : Int) ≤ -1; omega)
 | some k => exact ⟨k, List.mem_range.1 (List.mem_of_find?_eq_some e), rfl, List.find?_some e⟩
theorem new_of {ns : List Ino} {t : Int} {k : Nat} (ht : 0 ≤ t ∧ t < 4) (h : (!zho (zby (zap ns) t) (k : Int)) = true) : ¬ 4 * (k : Int) + t ∈ zap ns := by
 intro m
 unfold zho zby at h
 rw [Bool.not_eq_true', ← Bool.not_eq_true] at h
 refine h (List.contains_iff_mem.2 (List.mem_map.2 ⟨4 * (k : Int) + t, List.mem_filter.2 ⟨m, ?_⟩, by omega⟩))
 rw [beq_iff_eq]
 omega
/-- Where a page is put nothing is. -/
theorem wrE_new {ns : List Ino} (h : ¬ (fpI ns < 0 ∧ fsI ns < 0)) : zdz (wrE ns) = true ∧ ¬ wrE ns = 0 ∧ ¬ wrE ns ∈ zap ns := by
 unfold wrE
 by_cases c : 0 ≤ fpI ns
 ·rw [if_pos c]
  obtain ⟨k, hk, e, q⟩ := zcu c
  have e' : fpI ns = (k : Int) := e
  rw [e']
  refine ⟨?_, by omega, new_of (by omega) q⟩
  unfold zdz zgi
  simp
  omega
 ·rw [if_neg c]
  obtain ⟨k, hk, e, q⟩ := zcu (p := fun i => !zho (zby (zap ns) 2) (i : Int)) (n := 32) (by have : ¬ fsI ns < 0 := fun z => h ⟨by omega, z⟩; unfold fsI at this; omega)
  have e' : fsI ns = (k : Int) := e
  rw [e']
  refine ⟨?_, by omega, new_of (by omega) q⟩
  unfold zdz zgi
  simp
  omega
end Go.Proofs.YtbbmljakfbhnpaaGreatDoor
