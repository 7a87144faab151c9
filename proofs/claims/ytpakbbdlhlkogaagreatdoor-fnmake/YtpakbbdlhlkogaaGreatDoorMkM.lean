/- What is made is found, and cannot be made again; removed, it is not found: mathematics. -/
import Derived.Test.YtpakbbdlhlkogaaGreatDoorNmM
namespace Go.Proofs.YtpakbbdlhlkogaaGreatDoor
theorem yakq : ∀ (us : List Se) (ls : List Int), UpIn us → wdI (zbe ls us) 8 = wdI ls 8
 | [], _, _ => rfl
 | u :: us, ls, h => by
  rw [zhl, yakq us _ (fun v hv => h v (List.mem_cons_of_mem _ hv))]
  have q := h u List.mem_cons_self
  unfold wdI
  rw [List.getD_eq_getElem?_getD, List.getD_eq_getElem?_getD, List.getElem?_set_ne (by omega)]
theorem yanv {ls es : List Int} {ns ns' : List Ino} {ds ds' : List Den} {us : List Se} (h : Idle ls es ns ds) (ui : UpIn us) (ul : us.length ≤ 16) (uv : Wv us) (W : Wi (zbe ls us) ns' ds') : Idle (zbe ls us) es ns' ds' :=
 ⟨W, (yakq us ls ui).trans h.c0, (zsw h ui ul uv W).2.2.2.1, h.bk⟩
theorem yanj {ws : List Ino} {i : Nat} {x : Ino} (k0 : (zal ws i).kind = 0) (z : Int) (h : zai ws z = 2) : zai (ws.set i x) z = 2 := by
 unfold zai at h ⊢
 rw [List.getD_eq_getElem?_getD] at h ⊢
 by_cases e : i = z.toNat
 ·subst e
  exfalso
  unfold zal at k0
  rw [List.getD_eq_getElem?_getD] at k0
  have : (ws[z.toNat]?.getD zbd).kind = 2 := h
  rw [this] at k0
  cases k0
 ·rw [List.getElem?_set_ne e]
  exact h
theorem yarf {ws ws' : List Ino} {ps : List Den} {t : ByteArray} {d : Int} {nm : ByteArray} {k : Nat} {c : Int} (ht : PathD t) (p : paI ws ps t = (d, nm, 0)) (hk : k < ps.length) (fr : zat ps k = freeD) (e : zay ps d nm = none) (kd : ∀ z, zai ws z = 2 → zai ws' z = 2) : paI ws' (ps.set k ⟨d, nm, c⟩) t = (d, nm, 0) := by
 obtain ⟨xs, el, ew, ek⟩ := zrh ht p
 unfold paI
 rw [if_pos ht.down.1, el, zig]
 unfold paN
 rw [zzu hk fr e kd xs 0 d ew]
 simp only [if_true]
 rw [if_pos (kd d ek)]
theorem yarm {ws : List Ino} {ps : List Den} {t : ByteArray} {d : Int} {nm : ByteArray} (ht : PathD t) (p : paI ws ps t = (d, nm, 0)) (e : zay ps d nm = none) : lkI ws ps t = (0, 5) := by
 obtain ⟨xs, el, ew, ek⟩ := zrh ht p
 unfold lkI
 rw [if_pos ht.down.1, el, zss, ew]
 simp only [if_true]
 rw [if_pos ek, e]
theorem zws {ps : List Den} {d : Int} (h : ∀ x ∈ ps, 0 ≤ x.child → ¬ x.dir = d) : zbh ps d = [] := by
 unfold zbh
 rw [List.map_eq_nil_iff, List.filter_eq_nil_iff]
 intro x hx
 simp only [decide_eq_true_eq]
 rintro ⟨a, b⟩
 exact h x hx (by omega) b
theorem yanf {ls es : List Int} {ns : List Ino} {ds : List Den} {s : ByteArray} {kind : Int} {us : List Se} (h : Idle ls es ns ds) (hs : PathD s) (kd : kind = 1 ∨ kind = 2) (e : mkI ns ds s kind = (us, 0)) :
  us.length ≤ 16 ∧ (auC ls [] us = 0 ∧ auW ls [] us = zbe ls us ∧ auP ls [] us = [] ∧ riC (zbe ls us) [] = 0) ∧ ∃ (i : Nat) (ns' : List Ino) (ds' : List Den) (vs : List Se), (1 ≤ i ∧ i < 16) ∧ riN (zbe ls us) [] = ns' ∧ riD (zbe ls us) [] = ds' ∧ Idle (zbe ls us) es ns' ds' ∧ lkI ns' ds' s = ((i : Int), 0) ∧ (zal ns' i).kind = kind ∧ mkI ns' ds' s kind = ([], 8) ∧ rmI ns' ds' s = (vs, 0) ∧ vs.length ≤ 16 ∧ (auC (zbe ls us) [] vs = 0 ∧ auW (zbe ls us) [] vs = zbe (zbe ls us) vs ∧ auP (zbe ls us) [] vs = [] ∧ riC (zbe (zbe ls us) vs) [] = 0) ∧ riN (zbe (zbe ls us) vs) [] = ns ∧ riD (zbe (zbe ls us) vs) [] = ds ∧ lkI ns ds s = (0, 5) := by
 obtain ⟨ui, ul⟩ := yage h.wi.img e
 have uv := yaqy h.wi.img (by omega) e
 obtain ⟨i, k, d, nm, pa, en, ⟨i16, i1, k0⟩, ⟨k24, fr⟩, W⟩ := zyj h.wi kd e
 obtain ⟨a1, a2, a3, -, a4, a5, a6⟩ := zsw h ui ul uv W
 have I := yanv h ui ul uv W
 have hk : k < ds.length := by have := h.wi.img.l24; omega
 have hi : i < ns.length := by have := h.wi.img.l16; omega
 have kp : ∀ z, zai ns z = 2 → zai (ns.set i ⟨kind, 0, 1, 0, 0, 0, 0, 0, 0, 0, 0⟩) z = 2 := fun z q => yanj k0 z q
 have pa2 := yarf (c := (i : Int)) hs pa hk fr en kp
 have en2 := yajb (c := (i : Int)) hk (by omega) en
 have ch := zvg (x := ⟨d, nm, (i : Int)⟩) hk
 obtain ⟨z0, -, -⟩ := h.wi.img.free i16 k0
 have dk : zai ns d = 2 := by obtain ⟨xs, -, -, q⟩ := zrh hs pa; exact q
 have ndi : ∀ y : Int, zai ns y = 2 → ¬ y = (i : Int) := fun y q r => by
  rw [r] at q
  unfold zai at q
  unfold zal at k0
  rw [Int.toNat_natCast] at q
  have : (ns.getD i zbd).kind = 2 := q
  rw [this] at k0
  cases k0
 have nn : zbh (ds.set k ⟨d, nm, (i : Int)⟩) (i : Int) = [] := zws (fun x hx c0 => by
  rcases List.mem_or_eq_of_mem_set hx with q | rfl
  ·obtain ⟨j, hj, rfl⟩ := List.getElem_of_mem q
   have j24 : j < 24 := by have := h.wi.img.l24; omega
   rcases h.wi.img.ent j j24 with f | f
   ·rw [zbs hj] at f
    rw [f] at c0
    simp [freeD] at c0
   ·rw [zbs hj] at f
    exact ndi _ f.2.2.2.2
  ·exact ndi _ dk)
 have rm : rmI (ns.set i ⟨kind, 0, 1, 0, 0, 0, 0, 0, 0, 0, 0⟩) (ds.set k ⟨d, nm, (i : Int)⟩) s = (rmU (k : Int) (i : Int) (zdn (ns.set i ⟨kind, 0, 1, 0, 0, 0, 0, 0, 0, 0, 0⟩) (i : Int)), 0) := by
  unfold rmI
  rw [pa2]
  simp only [if_true]
  unfold rmN
  rw [en2]
  simp only
  unfold rmC
  rw [ch, if_neg (fun q => q.2 nn)]
 obtain ⟨vl, b1, b2, b3, b4, i', c1, -, -, b5, b6⟩ := yark I rm pa2 en2
 rw [ch] at c1
 have ei : i' = i := by have : (i : Int) = (i' : Int) := c1; omega
 subst ei
 refine ⟨ul, ⟨a1, a2, a3, a4⟩, i', _, _, _, ⟨i1, i16⟩, a5, a6, I, ?_, ?_, ?_, rm, vl, ⟨b1, b2, b3, b4⟩, ?_, ?_, yarm hs pa en⟩
 ·exact yapt hs pa hk (by omega) fr en kp
 ·rw [zbn (by rw [List.length_set]; exact hi), List.getElem_set_self]
 ·unfold mkI
  rw [pa2]
  simp only [if_true]
  unfold mkN zka
  rw [en2]
  simp
 ·rw [b5, zbn (by rw [List.length_set]; exact hi), List.getElem_set_self, List.set_set]
  rw [show zbz ⟨kind, 0, 1, 0, 0, 0, 0, 0, 0, 0, 0⟩ = zbd by unfold zbz; rw [if_neg (show ¬ (1 : Int) < 1 by decide)]]
  rw [zbn hi] at z0
  rw [← z0]
  exact List.set_getElem_self hi
 ·rw [b6, List.set_set]
  rw [zbs hk] at fr
  rw [← fr]
  exact List.set_getElem_self hk
end Go.Proofs.YtpakbbdlhlkogaaGreatDoor
