/- What is made, linked and renamed is found: mathematics. -/
import Derived.Test.YtpakbbdlhlkogaaGreatDoorZBF
import Derived.Test.YtpakbbdlhlkogaaGreatDoorZBB
namespace Go.Proofs.YtpakbbdlhlkogaaGreatDoor
theorem zsw {ls es : List Int} {ns ns' : List Ino} {ds ds' : List Den} {us : List Se} (h : Idle ls es ns ds) (ui : UpIn us) (ul : us.length ≤ 16) (uv : Wv us) (W : Wi (zbe ls us) ns' ds') :
  auC ls [] us = 0 ∧ auW ls [] us = zbe ls us ∧ auP ls [] us = [] ∧ pmB (zbe ls us) [] = true ∧ riC (zbe ls us) [] = 0 ∧ riN (zbe ls us) [] = ns' ∧ riD (zbe ls us) [] = ds' := by
 have up : upsB us = true := decide_eq_true (fun j hj => by have a := ui _ (List.getElem_mem hj); have b := uv _ (List.getElem_mem hj); omega)
 have ab : auB ls [] us = true := by unfold auB; rw [h.pm, up]; rfl
 have pw : pmB (zbe ls us) [] = true := zgo.2 ⟨W.len, by simp, zog us ls (zgo.1 h.pm).2.2.1 uv, fun p hp => by cases hp⟩
 have c : riC (zbe ls us) [] = 0 := by unfold riC; rw [if_pos pw, if_pos (show riB (zcr (zbe ls us) []) = true from W.ri)]
 refine ⟨?_, ?_, ?_, pw, c, ?_, ?_⟩
 ·unfold auC; rw [if_neg (by omega), if_pos ab]; rfl
 ·unfold auW; rw [if_neg (by omega), if_pos ab]; rfl
 ·unfold auP; rw [if_neg (by omega), if_pos ab]
 ·unfold riN; rw [if_pos c]; exact W.inos
 ·unfold riD; rw [if_pos c]; exact W.dens
theorem yaji {ps : List Den} {d : Int} {nm : ByteArray} : zay ps d nm = none ↔ ∀ x ∈ ps, zbj d nm x = false := by
 unfold zay
 rw [List.findIdx?_eq_none_iff]
theorem zkb {ps : List Den} {d : Int} {nm : ByteArray} {k : Nat} : zay ps d nm = some k ↔ ∃ h : k < ps.length, zbj d nm ps[k] = true ∧ ∀ j (hj : j < k), zbj d nm (ps[j]'(by omega)) = false := by
 unfold zay
 rw [List.findIdx?_eq_some_iff_getElem]
 constructor
 ·rintro ⟨h, a, b⟩
  exact ⟨h, a, fun j hj => by simpa using b j hj⟩
 ·rintro ⟨h, a, b⟩
  exact ⟨h, a, fun j hj => by simpa using b j hj⟩
theorem yajb {ps : List Den} {d : Int} {nm : ByteArray} {k : Nat} {c : Int} (hk : k < ps.length) (hc : 0 ≤ c) (e : zay ps d nm = none) : zay (ps.set k ⟨d, nm, c⟩) d nm = some k := by
 have q := yaji.1 e
 refine zkb.2 ⟨by rw [List.length_set]; exact hk, ?_, fun j hj => ?_⟩
 ·rw [List.getElem_set_self]
  unfold zbj
  simp [hc]
 ·rw [List.getElem_set_ne (by omega)]
  exact q _ (List.getElem_mem _)
theorem yali {ps : List Den} {d d2 : Int} {nm n2 : ByteArray} {k j : Nat} {c : Int} (e : zay ps d nm = none) (ej : zay ps d2 n2 = some j) (ne : ¬ k = j) : zay (ps.set k ⟨d, nm, c⟩) d2 n2 = some j := by
 obtain ⟨hj, a, b⟩ := zkb.1 ej
 have q := yaji.1 e
 have nh : zbj d2 n2 ⟨d, nm, c⟩ = false := by
  by_cases t : zbj d2 n2 ⟨d, nm, c⟩ = true
  ·exfalso
   unfold zbj at t
   simp only [Bool.and_eq_true, decide_eq_true_eq, beq_iff_eq] at t
   have z := q _ (List.getElem_mem hj)
   unfold zbj at z a
   simp only [Bool.and_eq_true, decide_eq_true_eq, beq_iff_eq] at a
   rw [← t.2.1, ← t.2.2] at a
   rw [a.2.1, a.2.2] at z
   simp at z
   omega
  ·simpa using t
 refine zkb.2 ⟨by rw [List.length_set]; exact hj, ?_, fun i hi => ?_⟩
 ·rw [List.getElem_set_ne ne]
  exact a
 ·by_cases ik : k = i
  ·subst ik
   rw [List.getElem_set_self]
   exact nh
  ·rw [List.getElem_set_ne ik]
   exact b i hi
theorem zvg {ps : List Den} {k : Nat} {x : Den} (hk : k < ps.length) : zan (ps.set k x) k = x.child := by
 rw [zbf (by rw [List.length_set]; exact hk), List.getElem_set_self]
theorem yact {ps : List Den} {k j : Nat} {x : Den} (ne : ¬ k = j) : zan (ps.set k x) j = zan ps j := by
 unfold zan
 rw [List.getD_eq_getElem?_getD, List.getD_eq_getElem?_getD, List.getElem?_set_ne ne]
theorem yahx {ws : List Ino} {i : Nat} {x : Ino} (hx : x.kind = (zal ws i).kind) (z : Int) : zai (ws.set i x) z = zai ws z := by
 unfold zai
 rw [List.getD_eq_getElem?_getD, List.getD_eq_getElem?_getD]
 by_cases e : i = z.toNat
 ·subst e
  by_cases h : z.toNat < ws.length
  ·rw [List.getElem?_set_self h, List.getElem?_eq_getElem h]
   show x.kind = _
   rw [hx, zbn h]
   rfl
  ·rw [List.getElem?_eq_none (by rw [List.length_set]; omega), List.getElem?_eq_none (by omega)]
 ·rw [List.getElem?_set_ne e]
theorem zzu {ws ws' : List Ino} {ps : List Den} {d : Int} {nm : ByteArray} {k : Nat} {c : Int} (hk : k < ps.length) (fr : zat ps k = freeD) (e : zay ps d nm = none) (kd : ∀ z, zai ws z = 2 → zai ws' z = 2) : ∀ (xs : List ByteArray) (z y : Int), wk ws ps z xs = (y, 0) → wk ws' (ps.set k ⟨d, nm, c⟩) z xs = (y, 0)
 | [], z, y, h => h
 | n :: xs, z, y, h => by
  by_cases q : zai ws z = 2
  ·cases ej : zay ps z n with
   | none => rw [zfy q ej] at h; cases h
   | some j =>
    rw [zff q ej] at h
    have ne : ¬ k = j := by
     rintro rfl
     obtain ⟨hj, a, -⟩ := zkb.1 ej
     rw [zbs hj] at fr
     rw [fr] at a
     simp [zbj, freeD] at a
    rw [zff (kd z q) (yali e ej ne), yact ne]
    exact zzu hk fr e kd xs _ y h
  ·rw [zel q] at h; cases h
theorem zrh {ws : List Ino} {ps : List Den} {t : ByteArray} {d : Int} {nm : ByteArray} (ht : PathD t) (p : paI ws ps t = (d, nm, 0)) : ∃ xs, spL t = xs ++ [nm] ∧ wk ws ps 0 xs = (d, 0) ∧ zai ws d = 2 := by
 obtain ⟨b, xs, x, e⟩ := ht.down
 have q : paI ws ps t = paN ws ps xs x := by unfold paI; rw [if_pos b, e, zig]
 rw [q] at p
 unfold paN at p
 by_cases c : (wk ws ps 0 xs).2 = 0
 ·rw [if_pos c] at p
  by_cases k : zai ws (wk ws ps 0 xs).1 = 2
  ·rw [if_pos k] at p
   cases p
   exact ⟨xs, e, Prod.ext rfl c, k⟩
  ·rw [if_neg k] at p; cases p
 ·rw [if_neg c] at p
  simp only [Prod.mk.injEq] at p
  exact absurd p.2.2 c
theorem yapt {ws ws' : List Ino} {ps : List Den} {t : ByteArray} {d : Int} {nm : ByteArray} {k : Nat} {c : Int} (ht : PathD t) (p : paI ws ps t = (d, nm, 0)) (hk : k < ps.length) (hc : 0 ≤ c) (fr : zat ps k = freeD) (e : zay ps d nm = none) (kd : ∀ z, zai ws z = 2 → zai ws' z = 2) : lkI ws' (ps.set k ⟨d, nm, c⟩) t = (c, 0) := by
 obtain ⟨xs, el, ew, ek⟩ := zrh ht p
 have b := ht.down.1
 unfold lkI
 rw [if_pos b, el, zss, zzu hk fr e kd xs 0 d ew]
 simp only [if_true]
 rw [if_pos (kd d ek), yajb hk hc e]
 simp only
 rw [zvg hk]
theorem yaqi {ws ws' : List Ino} {ps : List Den} {s : ByteArray} {d : Int} {nm : ByteArray} {k : Nat} {c y : Int} (l : lkI ws ps s = (y, 0)) (hk : k < ps.length) (fr : zat ps k = freeD) (e : zay ps d nm = none) (kd : ∀ z, zai ws z = 2 → zai ws' z = 2) : lkI ws' (ps.set k ⟨d, nm, c⟩) s = (y, 0) := by
 unfold lkI at l ⊢
 by_cases b : spB s = true
 ·rw [if_pos b] at l ⊢
  exact zzu hk fr e kd _ 0 y l
 ·rw [if_neg b] at l; cases l
theorem yavj {ls es : List Int} {ns : List Ino} {ds : List Den} {s t : ByteArray} {us : List Se} (h : Idle ls es ns ds) (ht : PathD t) (e : lnI ns ds s t = (us, 0)) :
  us.length ≤ 16 ∧ auC ls [] us = 0 ∧ auW ls [] us = zbe ls us ∧ auP ls [] us = [] ∧ riC (zbe ls us) [] = 0 ∧ ∃ i k : Nat, (1 ≤ i ∧ i < 16) ∧ (zal ns i).kind = 1 ∧ ∃ x : Den, riN (zbe ls us) [] = ns.set i (zcz (zal ns i)) ∧ riD (zbe ls us) [] = ds.set k x ∧ zcb (ns.set i (zcz (zal ns i))) (ds.set k x) = true ∧ lkI (ns.set i (zcz (zal ns i))) (ds.set k x) s = ((i : Int), 0) ∧ lkI (ns.set i (zcz (zal ns i))) (ds.set k x) t = ((i : Int), 0) := by
 obtain ⟨ui, ul⟩ := yarj h.wi.img e
 have uv := yasx h.wi.img e
 obtain ⟨i, k, d, nm, l, ⟨i16, i0, ki⟩, pa, en, ⟨k24, fr⟩, W⟩ := yajf h.wi e
 obtain ⟨a, b, c, -, f, g, r⟩ := zsw h ui ul uv W
 have hk : k < ds.length := by have := h.wi.img.l24; omega
 have kd : ∀ z, zai ns z = 2 → zai (ns.set i (zcz (zal ns i))) z = 2 := fun z q => by rw [yahx (x := zcz (zal ns i)) (ws := ns) (i := i) rfl]; exact q
 exact ⟨ul, a, b, c, f, i, k, ⟨by omega, i16⟩, ki, ⟨d, nm, (i : Int)⟩, g, r, zca.2 W.img, yaqi l hk fr en kd, yapt ht pa hk (by omega) fr en kd⟩
end Go.Proofs.YtpakbbdlhlkogaaGreatDoor
