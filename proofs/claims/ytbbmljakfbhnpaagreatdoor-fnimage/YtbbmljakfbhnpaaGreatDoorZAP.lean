/- Several texts laid together: IgC, IgD. -/
import Derived.Test.YtbbmljakfbhnpaaGreatDoorZAO
namespace Go.Proofs.YtbbmljakfbhnpaaGreatDoor
open Go.RowKit

theorem zjt {ws : List Ino} : ∀ {i : Nat} {x : Ino}, i < ws.length → zap (ws.set i x) = zap (ws.take i) ++ zcy x.map ++ zap (ws.drop (i + 1)) := by
 intro i x h
 unfold zap
 rw [List.set_eq_take_append_cons_drop, if_pos h, List.flatMap_append, List.flatMap_cons, List.append_assoc]
theorem zki {ws : List Ino} {i : Nat} (h : i < ws.length) : zap ws = zap (ws.take i) ++ zcy (zal ws i).map ++ zap (ws.drop (i + 1)) := by
 have : ws = ws.set i (zal ws i) := by
  apply List.ext_getElem?
  intro j
  rw [List.getElem?_set]
  by_cases e : i = j
  ·subst e; rw [if_pos rfl, if_pos h, zbq h, List.getElem?_eq_getElem h]
  ·rw [if_neg e]
 have q := zjt (x := zal ws i) h
 rw [← this] at q
 exact q
/-- A change of one inode whose pages are some of those it had. -/
theorem zly {ws : List Ino} {i : Nat} {x : Ino} (h : i < ws.length) (s : (zap ws).Pairwise fun x y => x ≠ y) (hs : (zcy x.map).Sublist (zcy (zal ws i).map)) : (zap (ws.set i x)).Pairwise fun x y => x ≠ y := by
 rw [zjt h]
 rw [zki h] at s
 exact s.sublist ((List.Sublist.append (List.Sublist.append (List.Sublist.refl _) hs) (List.Sublist.refl _)))
theorem zlv {ws : List Ino} {i : Nat} (h : i < ws.length) (x : Ino) (c : Int) (hc : 0 ≤ c) : zak (ws.set i x) c = if c = (i : Int) then x.kind else zak ws c := by
 obtain ⟨n, rfl⟩ : ∃ n : Nat, c = (n : Int) := ⟨c.toNat, by omega⟩
 rw [zbd, zbd, zci h]
 by_cases e : n = i
 ·rw [if_pos e, if_pos (by omega)]
 ·rw [if_neg e, if_neg (by omega)]
theorem Img.ent' {ws : List Ino} {ps : List Den} (h : Img ws ps) : ∀ k, k < ps.length → zaq ps k = freeD ∨ zgx ws (zaq ps k) := fun k hk => h.ent k (by have := h.l24; omega)
theorem Img.dir {ws : List Ino} {ps : List Den} (h : Img ws ps) {c : Int} (hc : 0 ≤ c) (hu : 0 ≤ upD ps c) : zak ws (upD ps c) = 2 ∧ upD ps c ≤ 15 := by
 obtain ⟨k, hk, _, e, q⟩ := up_dir h.ent' hc hu
 rw [← e]
 exact ⟨q.2.2.2.2, q.2.1.2⟩
theorem Img.rch {ws : List Ino} {ps : List Den} (h : Img ws ps) {i : Nat} (hi : i < 16) (k : (zal ws i).kind = 2) : Rch ps (i : Int) := ⟨16, h.hang i hi k⟩
/-- An inode that is free has no words, and nothing leads to it. -/
theorem Img.free {ws : List Ino} {ps : List Den} (h : Img ws ps) {i : Nat} (hi : i < 16) (k : (zal ws i).kind = 0) : zal ws i = zgq ∧ (∀ j, j < 24 → ¬ (zaq ps j).child = (i : Int)) ∧ ¬ i = 0 := by
 have i0 : ¬ i = 0 := by
  intro e
  have := h.root
  rw [show (0 : Int) = ((0 : Nat) : Int) from rfl, zbd, ← e, k] at this
  cases this
 have o := h.ok i hi
 unfold zdm zej at o
 rw [k, if_pos rfl] at o
 simp only [Bool.and_eq_true, decide_eq_true_eq] at o
 obtain ⟨_, _, _, _, o1, o2, o3⟩ := o
 have l := h.links i hi
 rw [if_neg i0, o2] at l
 have c0 : zic ps (i : Int) = 0 := by omega
 refine ⟨?_, fun j hj => zlp c0 j (by rw [h.l24]; exact hj), i0⟩
 generalize zal ws i = x at *
 obtain ⟨a, b, c, m0, m1, m2, m3, m4, m5, m6, m7⟩ := x
 simp only at k o1 o2
 simp only [Ino.map, List.cons.injEq] at o3
 obtain ⟨rfl, rfl, rfl, rfl, rfl, rfl, rfl, rfl, _⟩ := o3
 subst k o1 o2
 rfl
/-- What is asked of a new image whose entries part in one from a right one's. -/
theorem img_make {ws : List Ino} {ps : List Den} (h : Img ws ps) {i k : Nat} {kind d : Int} {nm : ByteArray} (hi : i < 16) (fi : (zal ws i).kind = 0) (hk : k < 24) (fk : zaq ps k = freeD) (kd : kind = 1 ∨ kind = 2)
  (hd : 0 ≤ d ∧ d ≤ 15) (dd : zak ws d = 2) (hn : nmB nm = true) (new : ∀ j, j < 24 → 0 ≤ (zaq ps j).child → (zaq ps j).dir = d → ¬ (zaq ps j).name = nm) :
  Img (ws.set i ⟨kind, 0, 1, 0, 0, 0, 0, 0, 0, 0, 0⟩) (ps.set k ⟨d, nm, (i : Int)⟩) := by
 obtain ⟨zi, nochild, i0⟩ := h.free hi fi
 have hi' : i < ws.length := by rw [h.l16]; exact hi
 have hk' : k < ps.length := by rw [h.l24]; exact hk
 have hdi : ¬ d = (i : Int) := by
  intro e
  rw [e, zbd, fi] at dd
  cases dd
 have KA := fun c hc => zlv hi' (⟨kind, 0, 1, 0, 0, 0, 0, 0, 0, 0, 0⟩ : Ino) c hc
 have entn : ∀ j, j < 24 → zaq (ps.set k ⟨d, nm, (i : Int)⟩) j = freeD ∨ zgx (ws.set i ⟨kind, 0, 1, 0, 0, 0, 0, 0, 0, 0, 0⟩) (zaq (ps.set k ⟨d, nm, (i : Int)⟩) j) := by
  intro j hj
  rw [zay hk']
  by_cases e : j = k
  ·rw [if_pos e]
   right
   refine ⟨⟨?_, ?_⟩, hd, hn, ?_, ?_⟩
   ·show 1 ≤ (i : Int); omega
   ·show (i : Int) ≤ 15; omega
   ·show ¬ zak _ (i : Int) = 0
    rw [KA _ (by omega), if_pos rfl]
    show ¬ kind = 0
    omega
   ·show zak _ d = 2
    rw [KA _ hd.1, if_neg hdi]
    exact dd
  ·rw [if_neg e]
   rcases h.ent j hj with q | q
   ·exact .inl q
   ·right
    obtain ⟨q1, q2, q3, q4, q5⟩ := q
    refine ⟨q1, q2, q3, ?_, ?_⟩
    ·rw [KA _ (by omega), if_neg (nochild j hj)]; exact q4
    ·rw [KA _ q2.1, if_neg (by intro e; rw [e, zbd, fi] at q5; cases q5)]; exact q5
 have entn' : ∀ j, j < (ps.set k ⟨d, nm, (i : Int)⟩).length → zaq (ps.set k ⟨d, nm, (i : Int)⟩) j = freeD ∨ zgx (ws.set i ⟨kind, 0, 1, 0, 0, 0, 0, 0, 0, 0, 0⟩) (zaq (ps.set k ⟨d, nm, (i : Int)⟩) j) := fun j hj => entn j (by rw [List.length_set, h.l24] at hj; exact hj)
 have US : ∀ c, 0 ≤ c → ¬ c = (i : Int) → upD (ps.set k ⟨d, nm, (i : Int)⟩) c = upD ps c := by
  intro c hc ne
  refine zrm (by simp) ?_
  intro j hj
  rw [zay hk']
  by_cases e : j = k
  ·rw [if_pos e]
   right
   refine ⟨fun q => ne q.symm, ?_⟩
   rw [e, fk]
   intro q
   have : (-1 : Int) = c := q
   omega
  ·rw [if_neg e]; exact .inl rfl
 have UI : upD (ps.set k ⟨d, nm, (i : Int)⟩) (i : Int) = d := by
  have q := up_only (ps := ps.set k ⟨d, nm, (i : Int)⟩) (c := (i : Int)) (k := k) (by rw [List.length_set]; exact hk') (by rw [zay hk', if_pos rfl]) (fun j hj e => by
   rw [List.length_set, h.l24] at hj
   rw [zay hk'] at e
   by_cases ej : j = k
   ·exact ej
   ·rw [if_neg ej] at e
    exact absurd e (nochild j hj))
  rw [q, zay hk', if_pos rfl]
 have KEEP : ∀ c, Rch ps c → 0 ≤ c → ¬ c = (i : Int) → Rch (ps.set k ⟨d, nm, (i : Int)⟩) c := by
  intro c hr hc ne
  refine zld (G := fun c => 0 ≤ c) (i := (i : Int)) (fun c hc hu => ⟨?_, hu⟩) (fun c hc ne => US c hc ne) hr hc ne
  intro e
  have := (h.dir hc hu).1
  rw [e, zbd, fi] at this
  cases this
 refine ⟨by rw [List.length_set]; exact h.l16, by rw [List.length_set]; exact h.l24, ?_, ?_, entn, ?_, ?_, ?_, ?_⟩
 ·rw [KA 0 (by omega), if_neg (by omega)]; exact h.root
 ·intro j hj
  rw [zci hi']
  by_cases e : j = i
  ·rw [if_pos e]
   rcases kd with rfl | rfl <;> decide
  ·rw [if_neg e]; exact h.ok j hj
 ·intro j l hj hl cj cl ed en
  rw [zay hk'] at cj ed en
  rw [zay hk' _ l] at cl ed en
  by_cases e1 : j = k
  ·by_cases e2 : l = k
   ·omega
   ·rw [if_pos e1, if_neg e2] at ed en
    rw [if_neg e2] at cl
    exact absurd en.symm (new l hl cl ed.symm)
  ·by_cases e2 : l = k
   ·rw [if_neg e1, if_pos e2] at ed en
    rw [if_neg e1] at cj
    exact absurd en (new j hj cj ed)
   ·rw [if_neg e1, if_neg e2] at ed en
    rw [if_neg e1] at cj
    rw [if_neg e2] at cl
    exact h.once j l hj hl cj cl ed en
 ·intro j hj
  have c := zfy ps k ⟨d, nm, (i : Int)⟩ (j : Int) hk'
  rw [fk, if_neg (show ¬ freeD.child = (j : Int) by show ¬ (-1 : Int) = (j : Int); omega)] at c
  rw [zci hi']
  by_cases e : j = i
  ·rw [if_pos (show (i : Int) = (j : Int) by omega)] at c
   have c0 : zic ps (j : Int) = 0 := cnt_zero fun l hl => by rw [h.l24] at hl; rw [e]; exact nochild l hl
   rw [if_pos e, if_neg (by omega)]
   show 0 + ((zic _ (j : Int) : Nat) : Int) = 1
   omega
  ·rw [if_neg (show ¬ (i : Int) = (j : Int) by omega)] at c
   rw [if_neg e, ← h.links j hj]
   have : zic (ps.set k ⟨d, nm, (i : Int)⟩) (j : Int) = zic ps (j : Int) := by omega
   rw [this]
 ·intro j hj kj
  rw [zci hi'] at kj
  refine zlr ?_ ⟨by omega, by omega⟩ (up_le entn')
  by_cases e : j = i
  ·rw [e]
   refine ziy (by rw [UI]; exact hd.1) ?_
   rw [UI]
   obtain ⟨n, rfl⟩ : ∃ n : Nat, d = (n : Int) := ⟨d.toNat, by omega⟩
   exact KEEP _ (h.rch (by omega) (by rw [← zbd]; exact dd)) hd.1 hdi
  ·rw [if_neg e] at kj
   exact KEEP _ (h.rch hj kj) (by omega) (by omega)
 ·refine zly hi' h.sing ?_
  exact List.nil_sublist _
end Go.Proofs.YtbbmljakfbhnpaaGreatDoor

namespace Go.Proofs.YtbbmljakfbhnpaaGreatDoor
open Go.RowKit

/-- The inode behind one link less. -/
def zch (x : Ino) : Ino := if 1 < x.links then ⟨x.kind, x.size, x.links - 1, x.m0, x.m1, x.m2, x.m3, x.m4, x.m5, x.m6, x.m7⟩ else zgq
def zgd (x : Ino) : Ino := ⟨x.kind, x.size, x.links + 1, x.m0, x.m1, x.m2, x.m3, x.m4, x.m5, x.m6, x.m7⟩
theorem zcj {x : Ino} (h : zdm x = true) : (0 ≤ x.kind ∧ x.kind ≤ 2) ∧ (0 ≤ x.size ∧ x.size ≤ 8) ∧ (0 ≤ x.links ∧ x.links ≤ 24) ∧ mapB x.map x.size = true ∧ zej x = true := by
 unfold zdm at h
 simp only [Bool.and_eq_true, decide_eq_true_eq] at h
 exact h
theorem ino_mk {x : Ino} (h1 : 0 ≤ x.kind ∧ x.kind ≤ 2) (h2 : 0 ≤ x.size ∧ x.size ≤ 8) (h3 : 0 ≤ x.links ∧ x.links ≤ 24) (h4 : mapB x.map x.size = true) (h5 : zej x = true) : zdm x = true := by
 unfold zdm
 rw [decide_eq_true h1, decide_eq_true h2, decide_eq_true h3, h4, h5]
 rfl
theorem zir {x : Ino} (h : zdm x = true) (k : x.kind = 2) : x.links = 1 ∧ x.size = 0 := by
 have := (zcj h).2.2.2.2
 unfold zej at this
 rw [if_neg (by omega), if_pos k] at this
 simp only [Bool.and_eq_true, beq_iff_eq] at this
 exact ⟨this.2, this.1⟩
theorem file_links {x : Ino} (h : zdm x = true) (k : ¬ x.kind = 0) : 0 < x.links := by
 by_cases q : x.kind = 2
 ·rw [(zir h q).1]; decide
 ·have := (zcj h).2.2.2.2
  unfold zej at this
  rw [if_neg k, if_neg q] at this
  simpa using this
theorem less_ok {x : Ino} (h : zdm x = true) : zdm (zch x) = true := by
 unfold zch
 split
 ·rename_i q
  obtain ⟨a, b, c, d, e⟩ := zcj h
  have k2 : ¬ x.kind = 2 := fun k => by have := (zir h k).1; omega
  have k0 : ¬ x.kind = 0 := by
   intro k
   unfold zej at e
   rw [if_pos k] at e
   have := (of_decide_eq_true e).2.1
   omega
  refine ino_mk a b ⟨by show 0 ≤ x.links - 1; omega, by show x.links - 1 ≤ 24; omega⟩ d ?_
  unfold zej
  rw [if_neg k0, if_neg k2]
  exact decide_eq_true (show 0 < x.links - 1 by omega)
 ·decide
theorem more_ok {x : Ino} (h : zdm x = true) (k : x.kind = 1) (l : x.links < 24) : zdm (zgd x) = true := by
 obtain ⟨a, b, c, d, e⟩ := zcj h
 refine ino_mk a b ⟨by show 0 ≤ x.links + 1; omega, by show x.links + 1 ≤ 24; omega⟩ d ?_
 unfold zej
 rw [if_neg (by show ¬ x.kind = 0; omega), if_neg (by show ¬ x.kind = 2; omega)]
 exact decide_eq_true (show 0 < x.links + 1 by omega)
theorem less_maps {x : Ino} : (zcy (zch x).map).Sublist (zcy x.map) := by
 unfold zch
 split
 ·exact List.Sublist.refl _
 ·exact List.nil_sublist _
theorem cnt_le (ps : List Den) (c : Int) : zic ps c ≤ ps.length := List.length_filter_le _ _
/-- With a free entry there is a link to be had. -/
theorem cnt_room {ps : List Den} {c : Int} {k : Nat} (hk : k < ps.length) (ne : ¬ (zaq ps k).child = c) : zic ps c < ps.length := by
 have a := zfy ps k ⟨0, ⟨#[]⟩, c⟩ c hk
 rw [if_neg ne, if_pos rfl] at a
 have := cnt_le (ps.set k ⟨0, ⟨#[]⟩, c⟩) c
 rw [List.length_set] at this
 omega

theorem img_remove {ws : List Ino} {ps : List Den} (h : Img ws ps) {i k : Nat} (hk : k < 24) (ci : (zaq ps k).child = (i : Int)) (em : ∀ j, j < 24 → ¬ (0 ≤ (zaq ps j).child ∧ (zaq ps j).dir = (i : Int))) :
  Img (ws.set i (zch (zal ws i))) (ps.set k freeD) := by
 have hk' : k < ps.length := by rw [h.l24]; exact hk
 have ek : zgx ws (zaq ps k) := by
  rcases h.ent k hk with q | q
  ·rw [q] at ci
   have : (-1 : Int) = (i : Int) := ci
   omega
  ·exact q
 have hi : i < 16 := by have := ek.1; omega
 have i0 : ¬ i = 0 := by have := ek.1; omega
 have hi' : i < ws.length := by rw [h.l16]; exact hi
 have ki : ¬ (zal ws i).kind = 0 := by rw [← zbd, ← ci]; exact ek.2.2.2.1
 have KA := fun c hc => zlv hi' (zch (zal ws i)) c hc
 have noin : ∀ c, 0 ≤ c → 0 ≤ upD ps c → ¬ upD ps c = (i : Int) := by
  intro c hc hu e
  obtain ⟨j, hj, cj, dj, q⟩ := up_dir h.ent' hc hu
  exact em j (by rw [h.l24] at hj; exact hj) ⟨by omega, by rw [dj, e]⟩
 have ln := h.links i hi
 rw [if_neg i0] at ln
 have entn : ∀ j, j < 24 → zaq (ps.set k freeD) j = freeD ∨ zgx (ws.set i (zch (zal ws i))) (zaq (ps.set k freeD) j) := by
  intro j hj
  rw [zay hk']
  by_cases e : j = k
  ·rw [if_pos e]; exact .inl rfl
  ·rw [if_neg e]
   rcases h.ent j hj with q | q
   ·exact .inl q
   ·right
    have dne : ¬ (zaq ps j).dir = (i : Int) := fun e => em j hj ⟨by have := q.1; omega, e⟩
    obtain ⟨q1, q2, q3, q4, q5⟩ := q
    refine ⟨q1, q2, q3, ?_, ?_⟩
    ·rw [KA _ (by omega)]
     by_cases e2 : (zaq ps j).child = (i : Int)
     ·rw [if_pos e2]
      have two : 1 < (zal ws i).links := by
       have a := zfy ps k freeD (i : Int) hk'
       rw [if_pos ci, if_neg (show ¬ freeD.child = (i : Int) by show ¬ (-1 : Int) = (i : Int); omega)] at a
       have b : ¬ zic (ps.set k freeD) (i : Int) = 0 := by
        intro z
        refine zlp z j (by rw [List.length_set, h.l24]; exact hj) ?_
        rw [zay hk', if_neg e]
        exact e2
       omega
      unfold zch
      rw [if_pos two]
      exact ki
     ·rw [if_neg e2]; exact q4
    ·rw [KA _ q2.1, if_neg dne]; exact q5
 have entn' : ∀ j, j < (ps.set k freeD).length → zaq (ps.set k freeD) j = freeD ∨ zgx (ws.set i (zch (zal ws i))) (zaq (ps.set k freeD) j) := fun j hj => entn j (by rw [List.length_set, h.l24] at hj; exact hj)
 have US : ∀ c, 0 ≤ c → ¬ c = (i : Int) → upD (ps.set k freeD) c = upD ps c := by
  intro c hc ne
  refine zrm (by simp) ?_
  intro j hj
  rw [zay hk']
  by_cases e : j = k
  ·rw [if_pos e]
   right
   refine ⟨?_, ?_⟩
   ·intro q
    have : (-1 : Int) = c := q
    omega
   ·rw [e, ci]; exact fun q => ne q.symm
  ·rw [if_neg e]; exact .inl rfl
 refine ⟨by rw [List.length_set]; exact h.l16, by rw [List.length_set]; exact h.l24, ?_, ?_, entn, ?_, ?_, ?_, ?_⟩
 ·rw [KA 0 (by omega), if_neg (by omega)]; exact h.root
 ·intro j hj
  rw [zci hi']
  by_cases e : j = i
  ·rw [if_pos e]; exact less_ok (h.ok i hi)
  ·rw [if_neg e]; exact h.ok j hj
 ·intro j l hj hl cj cl ed en
  rw [zay hk'] at cj ed en
  rw [zay hk' _ l] at cl ed en
  have e1 : ¬ j = k := by
   intro e
   rw [if_pos e] at cj
   exact absurd cj (by decide)
  have e2 : ¬ l = k := by
   intro e
   rw [if_pos e] at cl
   exact absurd cl (by decide)
  rw [if_neg e1, if_neg e2] at ed en
  rw [if_neg e1] at cj
  rw [if_neg e2] at cl
  exact h.once j l hj hl cj cl ed en
 ·intro j hj
  have c := zfy ps k freeD (j : Int) hk'
  rw [if_neg (show ¬ freeD.child = (j : Int) by show ¬ (-1 : Int) = (j : Int); omega)] at c
  rw [zci hi']
  by_cases e : j = i
  ·rw [if_pos (show (zaq ps k).child = (j : Int) by rw [ci]; omega)] at c
   rw [if_pos e, if_neg (by omega)]
   have l1 := file_links (h.ok i hi) ki
   rw [e] at c ⊢
   unfold zch
   by_cases two : 1 < (zal ws i).links
   ·rw [if_pos two]
    show 0 + ((zic _ (i : Int) : Nat) : Int) = (zal ws i).links - 1
    omega
   ·rw [if_neg two]
    show 0 + ((zic _ (i : Int) : Nat) : Int) = 0
    omega
  ·rw [if_neg (show ¬ (zaq ps k).child = (j : Int) by rw [ci]; omega)] at c
   rw [if_neg e, ← h.links j hj]
   have : zic (ps.set k freeD) (j : Int) = zic ps (j : Int) := by omega
   rw [this]
 ·intro j hj kj
  rw [zci hi'] at kj
  have e : ¬ j = i := by
   intro e
   rw [if_pos e] at kj
   unfold zch at kj
   split at kj
   ·rename_i two
    have := (zir (h.ok i hi) kj).1
    omega
   ·exact absurd kj (by decide)
  rw [if_neg e] at kj
  refine zlr ?_ ⟨by omega, by omega⟩ (up_le entn')
  exact zld (G := fun c => 0 ≤ c) (i := (i : Int)) (fun c hc hu => ⟨noin c hc hu, hu⟩) (fun c hc ne => US c hc ne) (h.rch hj kj) (by omega) (by omega)
 ·exact zly hi' h.sing less_maps

theorem img_link {ws : List Ino} {ps : List Den} (h : Img ws ps) {i k : Nat} {d : Int} {nm : ByteArray} (hi : i < 16) (i0 : ¬ i = 0) (ki : (zal ws i).kind = 1) (hk : k < 24) (fk : zaq ps k = freeD)
  (hd : 0 ≤ d ∧ d ≤ 15) (dd : zak ws d = 2) (hn : nmB nm = true) (new : ∀ j, j < 24 → 0 ≤ (zaq ps j).child → (zaq ps j).dir = d → ¬ (zaq ps j).name = nm) :
  Img (ws.set i (zgd (zal ws i))) (ps.set k ⟨d, nm, (i : Int)⟩) := by
 have hi' : i < ws.length := by rw [h.l16]; exact hi
 have hk' : k < ps.length := by rw [h.l24]; exact hk
 have KA : ∀ c, 0 ≤ c → zak (ws.set i (zgd (zal ws i))) c = zak ws c := by
  intro c hc
  rw [zlv hi' _ c hc]
  by_cases e : c = (i : Int)
  ·rw [if_pos e, e, zbd]; rfl
  ·rw [if_neg e]
 have room := cnt_room (c := (i : Int)) hk' (by rw [fk]; show ¬ (-1 : Int) = (i : Int); omega)
 have ln := h.links i hi
 rw [if_neg i0] at ln
 have entn : ∀ j, j < 24 → zaq (ps.set k ⟨d, nm, (i : Int)⟩) j = freeD ∨ zgx (ws.set i (zgd (zal ws i))) (zaq (ps.set k ⟨d, nm, (i : Int)⟩) j) := by
  intro j hj
  rw [zay hk']
  by_cases e : j = k
  ·rw [if_pos e]
   right
   refine ⟨⟨?_, ?_⟩, hd, hn, ?_, ?_⟩
   ·show 1 ≤ (i : Int); omega
   ·show (i : Int) ≤ 15; omega
   ·show ¬ zak _ (i : Int) = 0
    rw [KA _ (by omega), zbd, ki]; decide
   ·show zak _ d = 2
    rw [KA _ hd.1]; exact dd
  ·rw [if_neg e]
   rcases h.ent j hj with q | q
   ·exact .inl q
   ·right
    obtain ⟨q1, q2, q3, q4, q5⟩ := q
    exact ⟨q1, q2, q3, by rw [KA _ (by omega)]; exact q4, by rw [KA _ q2.1]; exact q5⟩
 have entn' : ∀ j, j < (ps.set k ⟨d, nm, (i : Int)⟩).length → zaq (ps.set k ⟨d, nm, (i : Int)⟩) j = freeD ∨ zgx (ws.set i (zgd (zal ws i))) (zaq (ps.set k ⟨d, nm, (i : Int)⟩) j) := fun j hj => entn j (by rw [List.length_set, h.l24] at hj; exact hj)
 have US : ∀ c, 0 ≤ c → ¬ c = (i : Int) → upD (ps.set k ⟨d, nm, (i : Int)⟩) c = upD ps c := by
  intro c hc ne
  refine zrm (by simp) ?_
  intro j hj
  rw [zay hk']
  by_cases e : j = k
  ·rw [if_pos e]
   right
   refine ⟨fun q => ne q.symm, ?_⟩
   rw [e, fk]
   intro q
   have : (-1 : Int) = c := q
   omega
  ·rw [if_neg e]; exact .inl rfl
 refine ⟨by rw [List.length_set]; exact h.l16, by rw [List.length_set]; exact h.l24, ?_, ?_, entn, ?_, ?_, ?_, ?_⟩
 ·rw [KA 0 (by omega)]; exact h.root
 ·intro j hj
  rw [zci hi']
  by_cases e : j = i
  ·rw [if_pos e]
   refine more_ok (h.ok i hi) ki ?_
   have := h.l24
   omega
  ·rw [if_neg e]; exact h.ok j hj
 ·intro j l hj hl cj cl ed en
  rw [zay hk'] at cj ed en
  rw [zay hk' _ l] at cl ed en
  by_cases e1 : j = k
  ·by_cases e2 : l = k
   ·omega
   ·rw [if_pos e1, if_neg e2] at ed en
    rw [if_neg e2] at cl
    exact absurd en.symm (new l hl cl ed.symm)
  ·by_cases e2 : l = k
   ·rw [if_neg e1, if_pos e2] at ed en
    rw [if_neg e1] at cj
    exact absurd en (new j hj cj ed)
   ·rw [if_neg e1, if_neg e2] at ed en
    rw [if_neg e1] at cj
    rw [if_neg e2] at cl
    exact h.once j l hj hl cj cl ed en
 ·intro j hj
  have c := zfy ps k ⟨d, nm, (i : Int)⟩ (j : Int) hk'
  rw [fk, if_neg (show ¬ freeD.child = (j : Int) by show ¬ (-1 : Int) = (j : Int); omega)] at c
  rw [zci hi']
  by_cases e : j = i
  ·rw [if_pos (show (i : Int) = (j : Int) by omega)] at c
   rw [if_pos e, if_neg (by omega)]
   rw [e] at c ⊢
   show 0 + ((zic _ (i : Int) : Nat) : Int) = (zal ws i).links + 1
   omega
  ·rw [if_neg (show ¬ (i : Int) = (j : Int) by omega)] at c
   rw [if_neg e, ← h.links j hj]
   have : zic (ps.set k ⟨d, nm, (i : Int)⟩) (j : Int) = zic ps (j : Int) := by omega
   rw [this]
 ·intro j hj kj
  rw [zci hi'] at kj
  have e : ¬ j = i := by
   intro e
   rw [if_pos e] at kj
   have : (zal ws i).kind = 2 := kj
   omega
  rw [if_neg e] at kj
  refine zlr ?_ ⟨by omega, by omega⟩ (up_le entn')
  refine zld (G := fun c => 0 ≤ c) (i := (i : Int)) (fun c hc hu => ⟨?_, hu⟩) (fun c hc ne => US c hc ne) (h.rch hj kj) (by omega) (by omega)
  intro e
  have := (h.dir hc hu).1
  rw [e, zbd, ki] at this
  cases this
 ·refine zly hi' h.sing ?_
  exact List.Sublist.refl _

theorem img_rename {ws : List Ino} {ps : List Den} (h : Img ws ps) {i k : Nat} {d : Int} {nm : ByteArray} (hk : k < 24) (ci : (zaq ps k).child = (i : Int))
  (hd : 0 ≤ d ∧ d ≤ 15) (dd : zak ws d = 2) (hn : nmB nm = true) (new : ∀ j, j < 24 → 0 ≤ (zaq ps j).child → (zaq ps j).dir = d → ¬ (zaq ps j).name = nm)
  (loop : ¬ (zak ws (i : Int) = 2 ∧ zos ps 17 d (i : Int) = true)) :
  Img ws (ps.set k ⟨d, nm, (i : Int)⟩) := by
 have hk' : k < ps.length := by rw [h.l24]; exact hk
 have ek : zgx ws (zaq ps k) := by
  rcases h.ent k hk with q | q
  ·rw [q] at ci
   have : (-1 : Int) = (i : Int) := ci
   omega
  ·exact q
 have hi : i < 16 := by have := ek.1; omega
 have i0 : ¬ i = 0 := by have := ek.1; omega
 have entn : ∀ j, j < 24 → zaq (ps.set k ⟨d, nm, (i : Int)⟩) j = freeD ∨ zgx ws (zaq (ps.set k ⟨d, nm, (i : Int)⟩) j) := by
  intro j hj
  rw [zay hk']
  by_cases e : j = k
  ·rw [if_pos e]
   right
   refine ⟨⟨by show 1 ≤ (i : Int); omega, by show (i : Int) ≤ 15; omega⟩, hd, hn, ?_, dd⟩
   show ¬ zak ws (i : Int) = 0
   rw [← ci]
   exact ek.2.2.2.1
  ·rw [if_neg e]; exact h.ent j hj
 have entn' : ∀ j, j < (ps.set k ⟨d, nm, (i : Int)⟩).length → zaq (ps.set k ⟨d, nm, (i : Int)⟩) j = freeD ∨ zgx ws (zaq (ps.set k ⟨d, nm, (i : Int)⟩) j) := fun j hj => entn j (by rw [List.length_set, h.l24] at hj; exact hj)
 have US : ∀ c, 0 ≤ c → ¬ c = (i : Int) → upD (ps.set k ⟨d, nm, (i : Int)⟩) c = upD ps c := by
  intro c hc ne
  refine zrm (by simp) ?_
  intro j hj
  rw [zay hk']
  by_cases e : j = k
  ·rw [if_pos e]
   right
   refine ⟨fun q => ne q.symm, ?_⟩
   rw [e, ci]
   exact fun q => ne q.symm
  ·rw [if_neg e]; exact .inl rfl
 have CN : ∀ c : Int, zic (ps.set k ⟨d, nm, (i : Int)⟩) c = zic ps c := by
  intro c
  have a := zfy ps k ⟨d, nm, (i : Int)⟩ c hk'
  rw [ci] at a
  have b : (if (i : Int) = c then (1 : Nat) else 0) = (if (Den.mk d nm (i : Int)).child = c then 1 else 0) := rfl
  omega
 have ALL : ∀ c, Rch ps c → 0 ≤ c → zak ws c = 2 → Rch (ps.set k ⟨d, nm, (i : Int)⟩) c := by
  by_cases ki : zak ws (i : Int) = 2
  ·have nb : zos ps 17 d (i : Int) = false := by
    cases q : zos ps 17 d (i : Int) with
    | false => rfl
    | true => exact absurd ⟨ki, q⟩ loop
   have UI : upD (ps.set k ⟨d, nm, (i : Int)⟩) (i : Int) = d := by
    have one : zic ps (i : Int) = 1 := by
     have l := h.links i hi
     rw [if_neg i0, (zir (h.ok i hi) (by rw [← zbd]; exact ki)).1] at l
     omega
    have q := up_only (ps := ps.set k ⟨d, nm, (i : Int)⟩) (c := (i : Int)) (k := k) (by rw [List.length_set]; exact hk') (by rw [zay hk', if_pos rfl]) (fun j hj e => by
     rw [List.length_set] at hj
     rw [zay hk'] at e
     by_cases ej : j = k
     ·exact ej
     ·rw [if_neg ej] at e
      exact cnt_one one hj hk' e ci)
    rw [q, zay hk', if_pos rfl]
   obtain ⟨dn, rfl⟩ : ∃ n : Nat, d = (n : Int) := ⟨d.toNat, by omega⟩
   have rd : Rch (ps.set k ⟨(dn : Int), nm, (i : Int)⟩) (dn : Int) := zpq US 16 _ (h.hang dn (by omega) (by rw [← zbd]; exact dd)) (by omega) nb
   have ri : Rch (ps.set k ⟨(dn : Int), nm, (i : Int)⟩) (i : Int) := ziy (by rw [UI]; omega) (by rw [UI]; exact rd)
   intro c hr hc _
   have : 0 ≤ c → Rch (ps.set k ⟨(dn : Int), nm, (i : Int)⟩) c := by
    refine rch_rec (P := fun c => 0 ≤ c → Rch (ps.set k ⟨(dn : Int), nm, (i : Int)⟩) c) hr (fun _ => zrn _) ?_
    intro c c0 cu ih hc
    by_cases e : c = (i : Int)
    ·rw [e]; exact ri
    ·have u := US c hc e
     refine ziy (by rw [u]; exact cu) ?_
     rw [u]
     exact ih cu
   exact this hc
  ·intro c hr hc kc
   refine zld (G := fun c => 0 ≤ c) (i := (i : Int)) (fun c hc hu => ⟨?_, hu⟩) (fun c hc ne => US c hc ne) hr hc (fun e => ki (by rw [← e]; exact kc))
   intro e
   have := (h.dir hc hu).1
   rw [e] at this
   exact ki this
 refine ⟨h.l16, by rw [List.length_set]; exact h.l24, h.root, h.ok, entn, ?_, ?_, ?_, h.sing⟩
 ·intro j l hj hl cj cl ed en
  rw [zay hk'] at cj ed en
  rw [zay hk' _ l] at cl ed en
  by_cases e1 : j = k
  ·by_cases e2 : l = k
   ·omega
   ·rw [if_pos e1, if_neg e2] at ed en
    rw [if_neg e2] at cl
    exact absurd en.symm (new l hl cl ed.symm)
  ·by_cases e2 : l = k
   ·rw [if_neg e1, if_pos e2] at ed en
    rw [if_neg e1] at cj
    exact absurd en (new j hj cj ed)
   ·rw [if_neg e1, if_neg e2] at ed en
    rw [if_neg e1] at cj
    rw [if_neg e2] at cl
    exact h.once j l hj hl cj cl ed en
 ·intro j hj
  rw [CN]
  exact h.links j hj
 ·intro j hj kj
  refine zlr ?_ ⟨by omega, by omega⟩ (up_le entn')
  exact ALL _ (h.rch hj kj) (by omega) (by rw [zbd]; exact kj)
end Go.Proofs.YtbbmljakfbhnpaaGreatDoor
