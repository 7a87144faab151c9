/- Several texts laid together: IgC, IgD, IgE, Pm. -/
import Derived.Test.YtpakbbdlhlkogaaGreatDoorZAN
import Derived.Test.YtpakbbdlhlkogaaGreatDoorZAC
import Derived.Deep.RegionWith
namespace Go.Proofs.YtpakbbdlhlkogaaGreatDoor
open Go.RowKit
theorem zku {ws : List Ino} : ∀ {i : Nat} {x : Ino}, i < ws.length → zap (ws.set i x) = zap (ws.take i) ++ zdg x.map ++ zap (ws.drop (i + 1)) := by
 intro i x h
 unfold zap
 rw [List.set_eq_take_append_cons_drop, if_pos h, List.flatMap_append, List.flatMap_cons, List.append_assoc]
theorem zlp {ws : List Ino} {i : Nat} (h : i < ws.length) : zap ws = zap (ws.take i) ++ zdg (zal ws i).map ++ zap (ws.drop (i + 1)) := by
 have : ws = ws.set i (zal ws i) := by
  apply List.ext_getElem?
  intro j
  rw [List.getElem?_set]
  by_cases e : i = j
  ·subst e; rw [if_pos rfl, if_pos h, zbn h, List.getElem?_eq_getElem h]
  ·rw [if_neg e]
 have q := zku (x := zal ws i) h
 rw [← this] at q
 exact q
theorem zmi {ws : List Ino} {i : Nat} {x : Ino} (h : i < ws.length) (s : (zap ws).Pairwise fun x y => x ≠ y) (hs : (zdg x.map).Sublist (zdg (zal ws i).map)) : (zap (ws.set i x)).Pairwise fun x y => x ≠ y := by
 rw [zku h]
 rw [zlp h] at s
 exact s.sublist ((List.Sublist.append (List.Sublist.append (List.Sublist.refl _) hs) (List.Sublist.refl _)))
theorem zmt {ws : List Ino} {i : Nat} (h : i < ws.length) (x : Ino) (c : Int) (hc : 0 ≤ c) : zai (ws.set i x) c = if c = (i : Int) then x.kind else zai ws c := by
 obtain ⟨n, rfl⟩ : ∃ n : Nat, c = (n : Int) := ⟨c.toNat, by omega⟩
 rw [zbg, zbg, zco h]
 by_cases e : n = i
 ·rw [if_pos e, if_pos (by omega)]
 ·rw [if_neg e, if_neg (by omega)]
theorem Img.ent' {ws : List Ino} {ps : List Den} (h : Img ws ps) : ∀ k, k < ps.length → zat ps k = freeD ∨ zhf ws (zat ps k) := fun k hk => h.ent k (by have := h.l24; omega)
theorem Img.dir {ws : List Ino} {ps : List Den} (h : Img ws ps) {c : Int} (hc : 0 ≤ c) (hu : 0 ≤ upD ps c) : zai ws (upD ps c) = 2 ∧ upD ps c ≤ 15 := by
 obtain ⟨k, hk, _, e, q⟩ := yapc h.ent' hc hu
 rw [← e]
 exact ⟨q.2.2.2.2, q.2.1.2⟩
theorem Img.rch {ws : List Ino} {ps : List Den} (h : Img ws ps) {i : Nat} (hi : i < 16) (k : (zal ws i).kind = 2) : Rch ps (i : Int) := ⟨16, h.hang i hi k⟩
theorem Img.free {ws : List Ino} {ps : List Den} (h : Img ws ps) {i : Nat} (hi : i < 16) (k : (zal ws i).kind = 0) : zal ws i = zbd ∧ (∀ j, j < 24 → ¬ (zat ps j).child = (i : Int)) ∧ ¬ i = 0 := by
 have i0 : ¬ i = 0 := by
  intro e
  have := h.root
  rw [show (0 : Int) = ((0 : Nat) : Int) from rfl, zbg, ← e, k] at this
  cases this
 have o := h.ok i hi
 unfold zdl zet at o
 rw [k, if_pos rfl] at o
 simp only [Bool.and_eq_true, decide_eq_true_eq] at o
 obtain ⟨_, _, _, _, o1, o2, o3⟩ := o
 have l := h.links i hi
 rw [if_neg i0, o2] at l
 have c0 : zjl ps (i : Int) = 0 := by omega
 refine ⟨?_, fun j hj => znb c0 j (by rw [h.l24]; exact hj), i0⟩
 generalize zal ws i = x at *
 obtain ⟨a, b, c, m0, m1, m2, m3, m4, m5, m6, m7⟩ := x
 simp only at k o1 o2
 simp only [Ino.map, List.cons.injEq] at o3
 obtain ⟨rfl, rfl, rfl, rfl, rfl, rfl, rfl, rfl, _⟩ := o3
 subst k o1 o2
 rfl
theorem yalv {ws : List Ino} {ps : List Den} (h : Img ws ps) {i k : Nat} {kind d : Int} {nm : ByteArray} (hi : i < 16) (fi : (zal ws i).kind = 0) (hk : k < 24) (fk : zat ps k = freeD) (kd : kind = 1 ∨ kind = 2)
  (hd : 0 ≤ d ∧ d ≤ 15) (dd : zai ws d = 2) (hn : nmB nm = true) (new : ∀ j, j < 24 → 0 ≤ (zat ps j).child → (zat ps j).dir = d → ¬ (zat ps j).name = nm) :
  Img (ws.set i ⟨kind, 0, 1, 0, 0, 0, 0, 0, 0, 0, 0⟩) (ps.set k ⟨d, nm, (i : Int)⟩) := by
 obtain ⟨zi, nochild, i0⟩ := h.free hi fi
 have hi' : i < ws.length := by rw [h.l16]; exact hi
 have hk' : k < ps.length := by rw [h.l24]; exact hk
 have hdi : ¬ d = (i : Int) := by
  intro e
  rw [e, zbg, fi] at dd
  cases dd
 have KA := fun c hc => zmt hi' (⟨kind, 0, 1, 0, 0, 0, 0, 0, 0, 0, 0⟩ : Ino) c hc
 have entn : ∀ j, j < 24 → zat (ps.set k ⟨d, nm, (i : Int)⟩) j = freeD ∨ zhf (ws.set i ⟨kind, 0, 1, 0, 0, 0, 0, 0, 0, 0, 0⟩) (zat (ps.set k ⟨d, nm, (i : Int)⟩) j) := by
  intro j hj
  rw [zaz hk']
  by_cases e : j = k
  ·rw [if_pos e]
   right
   refine ⟨⟨?_, ?_⟩, hd, hn, ?_, ?_⟩
   ·show 1 ≤ (i : Int); omega
   ·show (i : Int) ≤ 15; omega
   ·show ¬ zai _ (i : Int) = 0
    rw [KA _ (by omega), if_pos rfl]
    show ¬ kind = 0
    omega
   ·show zai _ d = 2
    rw [KA _ hd.1, if_neg hdi]
    exact dd
  ·rw [if_neg e]
   rcases h.ent j hj with q | q
   ·exact .inl q
   ·right
    obtain ⟨q1, q2, q3, q4, q5⟩ := q
    refine ⟨q1, q2, q3, ?_, ?_⟩
    ·rw [KA _ (by omega), if_neg (nochild j hj)]; exact q4
    ·rw [KA _ q2.1, if_neg (by intro e; rw [e, zbg, fi] at q5; cases q5)]; exact q5
 have entn' : ∀ j, j < (ps.set k ⟨d, nm, (i : Int)⟩).length → zat (ps.set k ⟨d, nm, (i : Int)⟩) j = freeD ∨ zhf (ws.set i ⟨kind, 0, 1, 0, 0, 0, 0, 0, 0, 0, 0⟩) (zat (ps.set k ⟨d, nm, (i : Int)⟩) j) := fun j hj => entn j (by rw [List.length_set, h.l24] at hj; exact hj)
 have US : ∀ c, 0 ≤ c → ¬ c = (i : Int) → upD (ps.set k ⟨d, nm, (i : Int)⟩) c = upD ps c := by
  intro c hc ne
  refine zst (by simp) ?_
  intro j hj
  rw [zaz hk']
  by_cases e : j = k
  ·rw [if_pos e]
   right
   refine ⟨fun q => ne q.symm, ?_⟩
   rw [e, fk]
   intro q
   have : (-1 : Int) = c := q
   omega
  ·rw [if_neg e]; exact .inl rfl
 have UI : upD (ps.set k ⟨d, nm, (i : Int)⟩) (i : Int) = d := by
  have q := yafh (ps := ps.set k ⟨d, nm, (i : Int)⟩) (c := (i : Int)) (k := k) (by rw [List.length_set]; exact hk') (by rw [zaz hk', if_pos rfl]) (fun j hj e => by
   rw [List.length_set, h.l24] at hj
   rw [zaz hk'] at e
   by_cases ej : j = k
   ·exact ej
   ·rw [if_neg ej] at e
    exact absurd e (nochild j hj))
  rw [q, zaz hk', if_pos rfl]
 have KEEP : ∀ c, Rch ps c → 0 ≤ c → ¬ c = (i : Int) → Rch (ps.set k ⟨d, nm, (i : Int)⟩) c := by
  intro c hr hc ne
  refine zmj (G := fun c => 0 ≤ c) (i := (i : Int)) (fun c hc hu => ⟨?_, hu⟩) (fun c hc ne => US c hc ne) hr hc ne
  intro e
  have := (h.dir hc hu).1
  rw [e, zbg, fi] at this
  cases this
 refine ⟨by rw [List.length_set]; exact h.l16, by rw [List.length_set]; exact h.l24, ?_, ?_, entn, ?_, ?_, ?_, ?_⟩
 ·rw [KA 0 (by omega), if_neg (by omega)]; exact h.root
 ·intro j hj
  rw [zco hi']
  by_cases e : j = i
  ·rw [if_pos e]
   rcases kd with rfl | rfl <;> decide
  ·rw [if_neg e]; exact h.ok j hj
 ·intro j l hj hl cj cl ed en
  rw [zaz hk'] at cj ed en
  rw [zaz hk' _ l] at cl ed en
  by_cases e1 : j = k
  ·by_cases e2 : l = k
   ·omega
   ·rw [if_pos e1, if_neg e2] at ed en
    rw [if_neg e2] at cl
    exact absurd en.symm (new l hl cl ed.symm)
  ·by_cases e2 : l = k
   ·rw [if_neg e1, if_pos e2] at ed en
    rw [if_neg e1] at cj
    exact absurd en (new j hj cj ed)
   ·rw [if_neg e1, if_neg e2] at ed en
    rw [if_neg e1] at cj
    rw [if_neg e2] at cl
    exact h.once j l hj hl cj cl ed en
 ·intro j hj
  have c := zgw ps k ⟨d, nm, (i : Int)⟩ (j : Int) hk'
  rw [fk, if_neg (show ¬ freeD.child = (j : Int) by show ¬ (-1 : Int) = (j : Int); omega)] at c
  rw [zco hi']
  by_cases e : j = i
  ·rw [if_pos (show (i : Int) = (j : Int) by omega)] at c
   have c0 : zjl ps (j : Int) = 0 := yanm fun l hl => by rw [h.l24] at hl; rw [e]; exact nochild l hl
   rw [if_pos e, if_neg (by omega)]
   show 0 + ((zjl _ (j : Int) : Nat) : Int) = 1
   omega
  ·rw [if_neg (show ¬ (i : Int) = (j : Int) by omega)] at c
   rw [if_neg e, ← h.links j hj]
   have : zjl (ps.set k ⟨d, nm, (i : Int)⟩) (j : Int) = zjl ps (j : Int) := by omega
   rw [this]
 ·intro j hj kj
  rw [zco hi'] at kj
  refine zmq ?_ ⟨by omega, by omega⟩ (yalx entn')
  by_cases e : j = i
  ·rw [e]
   refine zjq (by rw [UI]; exact hd.1) ?_
   rw [UI]
   obtain ⟨n, rfl⟩ : ∃ n : Nat, d = (n : Int) := ⟨d.toNat, by omega⟩
   exact KEEP _ (h.rch (by omega) (by rw [← zbg]; exact dd)) hd.1 hdi
  ·rw [if_neg e] at kj
   exact KEEP _ (h.rch hj kj) (by omega) (by omega)
 ·refine zmi hi' h.sing ?_
  exact List.nil_sublist _
def zbz (x : Ino) : Ino := if 1 < x.links then ⟨x.kind, x.size, x.links - 1, x.m0, x.m1, x.m2, x.m3, x.m4, x.m5, x.m6, x.m7⟩ else zbd
def zcz (x : Ino) : Ino := ⟨x.kind, x.size, x.links + 1, x.m0, x.m1, x.m2, x.m3, x.m4, x.m5, x.m6, x.m7⟩
theorem zcp {x : Ino} (h : zdl x = true) : (0 ≤ x.kind ∧ x.kind ≤ 2) ∧ (0 ≤ x.size ∧ x.size ≤ 8) ∧ (0 ≤ x.links ∧ x.links ≤ 24) ∧ mapB x.map x.size = true ∧ zet x = true := by
 unfold zdl at h
 simp only [Bool.and_eq_true, decide_eq_true_eq] at h
 exact h
theorem zzl {x : Ino} (h1 : 0 ≤ x.kind ∧ x.kind ≤ 2) (h2 : 0 ≤ x.size ∧ x.size ≤ 8) (h3 : 0 ≤ x.links ∧ x.links ≤ 24) (h4 : mapB x.map x.size = true) (h5 : zet x = true) : zdl x = true := by
 unfold zdl
 rw [decide_eq_true h1, decide_eq_true h2, decide_eq_true h3, h4, h5]
 rfl
theorem zkq {x : Ino} (h : zdl x = true) (k : x.kind = 2) : x.links = 1 ∧ x.size = 0 := by
 have := (zcp h).2.2.2.2
 unfold zet at this
 rw [if_neg (by omega), if_pos k] at this
 simp only [Bool.and_eq_true, beq_iff_eq] at this
 exact ⟨this.2, this.1⟩
theorem yacp {x : Ino} (h : zdl x = true) (k : ¬ x.kind = 0) : 0 < x.links := by
 by_cases q : x.kind = 2
 ·rw [(zkq h q).1]; decide
 ·have := (zcp h).2.2.2.2
  unfold zet at this
  rw [if_neg k, if_neg q] at this
  simpa using this
theorem yapw {x : Ino} (h : zdl x = true) : zdl (zbz x) = true := by
 unfold zbz
 split
 ·rename_i q
  obtain ⟨a, b, c, d, e⟩ := zcp h
  have k2 : ¬ x.kind = 2 := fun k => by have := (zkq h k).1; omega
  have k0 : ¬ x.kind = 0 := by
   intro k
   unfold zet at e
   rw [if_pos k] at e
   have := (of_decide_eq_true e).2.1
   omega
  refine zzl a b ⟨by show 0 ≤ x.links - 1; omega, by show x.links - 1 ≤ 24; omega⟩ d ?_
  unfold zet
  rw [if_neg k0, if_neg k2]
  exact decide_eq_true (show 0 < x.links - 1 by omega)
 ·decide
theorem yasd {x : Ino} (h : zdl x = true) (k : x.kind = 1) (l : x.links < 24) : zdl (zcz x) = true := by
 obtain ⟨a, b, c, d, e⟩ := zcp h
 refine zzl a b ⟨by show 0 ≤ x.links + 1; omega, by show x.links + 1 ≤ 24; omega⟩ d ?_
 unfold zet
 rw [if_neg (by show ¬ x.kind = 0; omega), if_neg (by show ¬ x.kind = 2; omega)]
 exact decide_eq_true (show 0 < x.links + 1 by omega)
theorem yahl {x : Ino} : (zdg (zbz x).map).Sublist (zdg x.map) := by
 unfold zbz
 split
 ·exact List.Sublist.refl _
 ·exact List.nil_sublist _
theorem yasz (ps : List Den) (c : Int) : zjl ps c ≤ ps.length := List.length_filter_le _ _
theorem yaly {ps : List Den} {c : Int} {k : Nat} (hk : k < ps.length) (ne : ¬ (zat ps k).child = c) : zjl ps c < ps.length := by
 have a := zgw ps k ⟨0, ⟨#[]⟩, c⟩ c hk
 rw [if_neg ne, if_pos rfl] at a
 have := yasz (ps.set k ⟨0, ⟨#[]⟩, c⟩) c
 rw [List.length_set] at this
 omega
theorem yabq {ws : List Ino} {ps : List Den} (h : Img ws ps) {i k : Nat} (hk : k < 24) (ci : (zat ps k).child = (i : Int)) (em : ∀ j, j < 24 → ¬ (0 ≤ (zat ps j).child ∧ (zat ps j).dir = (i : Int))) :
  Img (ws.set i (zbz (zal ws i))) (ps.set k freeD) := by
 have hk' : k < ps.length := by rw [h.l24]; exact hk
 have ek : zhf ws (zat ps k) := by
  rcases h.ent k hk with q | q
  ·rw [q] at ci
   have : (-1 : Int) = (i : Int) := ci
   omega
  ·exact q
 have hi : i < 16 := by have := ek.1; omega
 have i0 : ¬ i = 0 := by have := ek.1; omega
 have hi' : i < ws.length := by rw [h.l16]; exact hi
 have ki : ¬ (zal ws i).kind = 0 := by rw [← zbg, ← ci]; exact ek.2.2.2.1
 have KA := fun c hc => zmt hi' (zbz (zal ws i)) c hc
 have noin : ∀ c, 0 ≤ c → 0 ≤ upD ps c → ¬ upD ps c = (i : Int) := by
  intro c hc hu e
  obtain ⟨j, hj, cj, dj, q⟩ := yapc h.ent' hc hu
  exact em j (by rw [h.l24] at hj; exact hj) ⟨by omega, by rw [dj, e]⟩
 have ln := h.links i hi
 rw [if_neg i0] at ln
 have entn : ∀ j, j < 24 → zat (ps.set k freeD) j = freeD ∨ zhf (ws.set i (zbz (zal ws i))) (zat (ps.set k freeD) j) := by
  intro j hj
  rw [zaz hk']
  by_cases e : j = k
  ·rw [if_pos e]; exact .inl rfl
  ·rw [if_neg e]
   rcases h.ent j hj with q | q
   ·exact .inl q
   ·right
    have dne : ¬ (zat ps j).dir = (i : Int) := fun e => em j hj ⟨by have := q.1; omega, e⟩
    obtain ⟨q1, q2, q3, q4, q5⟩ := q
    refine ⟨q1, q2, q3, ?_, ?_⟩
    ·rw [KA _ (by omega)]
     by_cases e2 : (zat ps j).child = (i : Int)
     ·rw [if_pos e2]
      have two : 1 < (zal ws i).links := by
       have a := zgw ps k freeD (i : Int) hk'
       rw [if_pos ci, if_neg (show ¬ freeD.child = (i : Int) by show ¬ (-1 : Int) = (i : Int); omega)] at a
       have b : ¬ zjl (ps.set k freeD) (i : Int) = 0 := by
        intro z
        refine znb z j (by rw [List.length_set, h.l24]; exact hj) ?_
        rw [zaz hk', if_neg e]
        exact e2
       omega
      unfold zbz
      rw [if_pos two]
      exact ki
     ·rw [if_neg e2]; exact q4
    ·rw [KA _ q2.1, if_neg dne]; exact q5
 have entn' : ∀ j, j < (ps.set k freeD).length → zat (ps.set k freeD) j = freeD ∨ zhf (ws.set i (zbz (zal ws i))) (zat (ps.set k freeD) j) := fun j hj => entn j (by rw [List.length_set, h.l24] at hj; exact hj)
 have US : ∀ c, 0 ≤ c → ¬ c = (i : Int) → upD (ps.set k freeD) c = upD ps c := by
  intro c hc ne
  refine zst (by simp) ?_
  intro j hj
  rw [zaz hk']
  by_cases e : j = k
  ·rw [if_pos e]
   right
   refine ⟨?_, ?_⟩
   ·intro q
    have : (-1 : Int) = c := q
    omega
   ·rw [e, ci]; exact fun q => ne q.symm
  ·rw [if_neg e]; exact .inl rfl
 refine ⟨by rw [List.length_set]; exact h.l16, by rw [List.length_set]; exact h.l24, ?_, ?_, entn, ?_, ?_, ?_, ?_⟩
 ·rw [KA 0 (by omega), if_neg (by omega)]; exact h.root
 ·intro j hj
  rw [zco hi']
  by_cases e : j = i
  ·rw [if_pos e]; exact yapw (h.ok i hi)
  ·rw [if_neg e]; exact h.ok j hj
 ·intro j l hj hl cj cl ed en
  rw [zaz hk'] at cj ed en
  rw [zaz hk' _ l] at cl ed en
  have e1 : ¬ j = k := by
   intro e
   rw [if_pos e] at cj
   exact absurd cj (by decide)
  have e2 : ¬ l = k := by
   intro e
   rw [if_pos e] at cl
   exact absurd cl (by decide)
  rw [if_neg e1, if_neg e2] at ed en
  rw [if_neg e1] at cj
  rw [if_neg e2] at cl
  exact h.once j l hj hl cj cl ed en
 ·intro j hj
  have c := zgw ps k freeD (j : Int) hk'
  rw [if_neg (show ¬ freeD.child = (j : Int) by show ¬ (-1 : Int) = (j : Int); omega)] at c
  rw [zco hi']
  by_cases e : j = i
  ·rw [if_pos (show (zat ps k).child = (j : Int) by rw [ci]; omega)] at c
   rw [if_pos e, if_neg (by omega)]
   have l1 := yacp (h.ok i hi) ki
   rw [e] at c ⊢
   unfold zbz
   by_cases two : 1 < (zal ws i).links
   ·rw [if_pos two]
    show 0 + ((zjl _ (i : Int) : Nat) : Int) = (zal ws i).links - 1
    omega
   ·rw [if_neg two]
    show 0 + ((zjl _ (i : Int) : Nat) : Int) = 0
    omega
  ·rw [if_neg (show ¬ (zat ps k).child = (j : Int) by rw [ci]; omega)] at c
   rw [if_neg e, ← h.links j hj]
   have : zjl (ps.set k freeD) (j : Int) = zjl ps (j : Int) := by omega
   rw [this]
 ·intro j hj kj
  rw [zco hi'] at kj
  have e : ¬ j = i := by
   intro e
   rw [if_pos e] at kj
   unfold zbz at kj
   split at kj
   ·rename_i two
    have := (zkq (h.ok i hi) kj).1
    omega
   ·exact absurd kj (by decide)
  rw [if_neg e] at kj
  refine zmq ?_ ⟨by omega, by omega⟩ (yalx entn')
  exact zmj (G := fun c => 0 ≤ c) (i := (i : Int)) (fun c hc hu => ⟨noin c hc hu, hu⟩) (fun c hc ne => US c hc ne) (h.rch hj kj) (by omega) (by omega)
 ·exact zmi hi' h.sing yahl
theorem yaoq {ws : List Ino} {ps : List Den} (h : Img ws ps) {i k : Nat} {d : Int} {nm : ByteArray} (hi : i < 16) (i0 : ¬ i = 0) (ki : (zal ws i).kind = 1) (hk : k < 24) (fk : zat ps k = freeD)
  (hd : 0 ≤ d ∧ d ≤ 15) (dd : zai ws d = 2) (hn : nmB nm = true) (new : ∀ j, j < 24 → 0 ≤ (zat ps j).child → (zat ps j).dir = d → ¬ (zat ps j).name = nm) :
  Img (ws.set i (zcz (zal ws i))) (ps.set k ⟨d, nm, (i : Int)⟩) := by
 have hi' : i < ws.length := by rw [h.l16]; exact hi
 have hk' : k < ps.length := by rw [h.l24]; exact hk
 have KA : ∀ c, 0 ≤ c → zai (ws.set i (zcz (zal ws i))) c = zai ws c := by
  intro c hc
  rw [zmt hi' _ c hc]
  by_cases e : c = (i : Int)
  ·rw [if_pos e, e, zbg]; rfl
  ·rw [if_neg e]
 have room := yaly (c := (i : Int)) hk' (by rw [fk]; show ¬ (-1 : Int) = (i : Int); omega)
 have ln := h.links i hi
 rw [if_neg i0] at ln
 have entn : ∀ j, j < 24 → zat (ps.set k ⟨d, nm, (i : Int)⟩) j = freeD ∨ zhf (ws.set i (zcz (zal ws i))) (zat (ps.set k ⟨d, nm, (i : Int)⟩) j) := by
  intro j hj
  rw [zaz hk']
  by_cases e : j = k
  ·rw [if_pos e]
   right
   refine ⟨⟨?_, ?_⟩, hd, hn, ?_, ?_⟩
   ·show 1 ≤ (i : Int); omega
   ·show (i : Int) ≤ 15; omega
   ·show ¬ zai _ (i : Int) = 0
    rw [KA _ (by omega), zbg, ki]; decide
   ·show zai _ d = 2
    rw [KA _ hd.1]; exact dd
  ·rw [if_neg e]
   rcases h.ent j hj with q | q
   ·exact .inl q
   ·right
    obtain ⟨q1, q2, q3, q4, q5⟩ := q
    exact ⟨q1, q2, q3, by rw [KA _ (by omega)]; exact q4, by rw [KA _ q2.1]; exact q5⟩
 have entn' : ∀ j, j < (ps.set k ⟨d, nm, (i : Int)⟩).length → zat (ps.set k ⟨d, nm, (i : Int)⟩) j = freeD ∨ zhf (ws.set i (zcz (zal ws i))) (zat (ps.set k ⟨d, nm, (i : Int)⟩) j) := fun j hj => entn j (by rw [List.length_set, h.l24] at hj; exact hj)
 have US : ∀ c, 0 ≤ c → ¬ c = (i : Int) → upD (ps.set k ⟨d, nm, (i : Int)⟩) c = upD ps c := by
  intro c hc ne
  refine zst (by simp) ?_
  intro j hj
  rw [zaz hk']
  by_cases e : j = k
  ·rw [if_pos e]
   right
   refine ⟨fun q => ne q.symm, ?_⟩
   rw [e, fk]
   intro q
   have : (-1 : Int) = c := q
   omega
  ·rw [if_neg e]; exact .inl rfl
 refine ⟨by rw [List.length_set]; exact h.l16, by rw [List.length_set]; exact h.l24, ?_, ?_, entn, ?_, ?_, ?_, ?_⟩
 ·rw [KA 0 (by omega)]; exact h.root
 ·intro j hj
  rw [zco hi']
  by_cases e : j = i
  ·rw [if_pos e]
   refine yasd (h.ok i hi) ki ?_
   have := h.l24
   omega
  ·rw [if_neg e]; exact h.ok j hj
 ·intro j l hj hl cj cl ed en
  rw [zaz hk'] at cj ed en
  rw [zaz hk' _ l] at cl ed en
  by_cases e1 : j = k
  ·by_cases e2 : l = k
   ·omega
   ·rw [if_pos e1, if_neg e2] at ed en
    rw [if_neg e2] at cl
    exact absurd en.symm (new l hl cl ed.symm)
  ·by_cases e2 : l = k
   ·rw [if_neg e1, if_pos e2] at ed en
    rw [if_neg e1] at cj
    exact absurd en (new j hj cj ed)
   ·rw [if_neg e1, if_neg e2] at ed en
    rw [if_neg e1] at cj
    rw [if_neg e2] at cl
    exact h.once j l hj hl cj cl ed en
 ·intro j hj
  have c := zgw ps k ⟨d, nm, (i : Int)⟩ (j : Int) hk'
  rw [fk, if_neg (show ¬ freeD.child = (j : Int) by show ¬ (-1 : Int) = (j : Int); omega)] at c
  rw [zco hi']
  by_cases e : j = i
  ·rw [if_pos (show (i : Int) = (j : Int) by omega)] at c
   rw [if_pos e, if_neg (by omega)]
   rw [e] at c ⊢
   show 0 + ((zjl _ (i : Int) : Nat) : Int) = (zal ws i).links + 1
   omega
  ·rw [if_neg (show ¬ (i : Int) = (j : Int) by omega)] at c
   rw [if_neg e, ← h.links j hj]
   have : zjl (ps.set k ⟨d, nm, (i : Int)⟩) (j : Int) = zjl ps (j : Int) := by omega
   rw [this]
 ·intro j hj kj
  rw [zco hi'] at kj
  have e : ¬ j = i := by
   intro e
   rw [if_pos e] at kj
   have : (zal ws i).kind = 2 := kj
   omega
  rw [if_neg e] at kj
  refine zmq ?_ ⟨by omega, by omega⟩ (yalx entn')
  refine zmj (G := fun c => 0 ≤ c) (i := (i : Int)) (fun c hc hu => ⟨?_, hu⟩) (fun c hc ne => US c hc ne) (h.rch hj kj) (by omega) (by omega)
  intro e
  have := (h.dir hc hu).1
  rw [e, zbg, ki] at this
  cases this
 ·refine zmi hi' h.sing ?_
  exact List.Sublist.refl _
theorem yado {ws : List Ino} {ps : List Den} (h : Img ws ps) {i k : Nat} {d : Int} {nm : ByteArray} (hk : k < 24) (ci : (zat ps k).child = (i : Int))
  (hd : 0 ≤ d ∧ d ≤ 15) (dd : zai ws d = 2) (hn : nmB nm = true) (new : ∀ j, j < 24 → 0 ≤ (zat ps j).child → (zat ps j).dir = d → ¬ (zat ps j).name = nm)
  (loop : ¬ (zai ws (i : Int) = 2 ∧ zqb ps 17 d (i : Int) = true)) :
  Img ws (ps.set k ⟨d, nm, (i : Int)⟩) := by
 have hk' : k < ps.length := by rw [h.l24]; exact hk
 have ek : zhf ws (zat ps k) := by
  rcases h.ent k hk with q | q
  ·rw [q] at ci
   have : (-1 : Int) = (i : Int) := ci
   omega
  ·exact q
 have hi : i < 16 := by have := ek.1; omega
 have i0 : ¬ i = 0 := by have := ek.1; omega
 have entn : ∀ j, j < 24 → zat (ps.set k ⟨d, nm, (i : Int)⟩) j = freeD ∨ zhf ws (zat (ps.set k ⟨d, nm, (i : Int)⟩) j) := by
  intro j hj
  rw [zaz hk']
  by_cases e : j = k
  ·rw [if_pos e]
   right
   refine ⟨⟨by show 1 ≤ (i : Int); omega, by show (i : Int) ≤ 15; omega⟩, hd, hn, ?_, dd⟩
   show ¬ zai ws (i : Int) = 0
   rw [← ci]
   exact ek.2.2.2.1
  ·rw [if_neg e]; exact h.ent j hj
 have entn' : ∀ j, j < (ps.set k ⟨d, nm, (i : Int)⟩).length → zat (ps.set k ⟨d, nm, (i : Int)⟩) j = freeD ∨ zhf ws (zat (ps.set k ⟨d, nm, (i : Int)⟩) j) := fun j hj => entn j (by rw [List.length_set, h.l24] at hj; exact hj)
 have US : ∀ c, 0 ≤ c → ¬ c = (i : Int) → upD (ps.set k ⟨d, nm, (i : Int)⟩) c = upD ps c := by
  intro c hc ne
  refine zst (by simp) ?_
  intro j hj
  rw [zaz hk']
  by_cases e : j = k
  ·rw [if_pos e]
   right
   refine ⟨fun q => ne q.symm, ?_⟩
   rw [e, ci]
   exact fun q => ne q.symm
  ·rw [if_neg e]; exact .inl rfl
 have CN : ∀ c : Int, zjl (ps.set k ⟨d, nm, (i : Int)⟩) c = zjl ps c := by
  intro c
  have a := zgw ps k ⟨d, nm, (i : Int)⟩ c hk'
  rw [ci] at a
  have b : (if (i : Int) = c then (1 : Nat) else 0) = (if (Den.mk d nm (i : Int)).child = c then 1 else 0) := rfl
  omega
 have ALL : ∀ c, Rch ps c → 0 ≤ c → zai ws c = 2 → Rch (ps.set k ⟨d, nm, (i : Int)⟩) c := by
  by_cases ki : zai ws (i : Int) = 2
  ·have nb : zqb ps 17 d (i : Int) = false := by
    cases q : zqb ps 17 d (i : Int) with
    | false => rfl
    | true => exact absurd ⟨ki, q⟩ loop
   have UI : upD (ps.set k ⟨d, nm, (i : Int)⟩) (i : Int) = d := by
    have one : zjl ps (i : Int) = 1 := by
     have l := h.links i hi
     rw [if_neg i0, (zkq (h.ok i hi) (by rw [← zbg]; exact ki)).1] at l
     omega
    have q := yafh (ps := ps.set k ⟨d, nm, (i : Int)⟩) (c := (i : Int)) (k := k) (by rw [List.length_set]; exact hk') (by rw [zaz hk', if_pos rfl]) (fun j hj e => by
     rw [List.length_set] at hj
     rw [zaz hk'] at e
     by_cases ej : j = k
     ·exact ej
     ·rw [if_neg ej] at e
      exact yarh one hj hk' e ci)
    rw [q, zaz hk', if_pos rfl]
   obtain ⟨dn, rfl⟩ : ∃ n : Nat, d = (n : Int) := ⟨d.toNat, by omega⟩
   have rd : Rch (ps.set k ⟨(dn : Int), nm, (i : Int)⟩) (dn : Int) := zra US 16 _ (h.hang dn (by omega) (by rw [← zbg]; exact dd)) (by omega) nb
   have ri : Rch (ps.set k ⟨(dn : Int), nm, (i : Int)⟩) (i : Int) := zjq (by rw [UI]; omega) (by rw [UI]; exact rd)
   intro c hr hc _
   have : 0 ≤ c → Rch (ps.set k ⟨(dn : Int), nm, (i : Int)⟩) c := by
    refine yafc (P := fun c => 0 ≤ c → Rch (ps.set k ⟨(dn : Int), nm, (i : Int)⟩) c) hr (fun _ => zsi _) ?_
    intro c c0 cu ih hc
    by_cases e : c = (i : Int)
    ·rw [e]; exact ri
    ·have u := US c hc e
     refine zjq (by rw [u]; exact cu) ?_
     rw [u]
     exact ih cu
   exact this hc
  ·intro c hr hc kc
   refine zmj (G := fun c => 0 ≤ c) (i := (i : Int)) (fun c hc hu => ⟨?_, hu⟩) (fun c hc ne => US c hc ne) hr hc (fun e => ki (by rw [← e]; exact kc))
   intro e
   have := (h.dir hc hu).1
   rw [e] at this
   exact ki this
 refine ⟨h.l16, by rw [List.length_set]; exact h.l24, h.root, h.ok, entn, ?_, ?_, ?_, h.sing⟩
 ·intro j l hj hl cj cl ed en
  rw [zaz hk'] at cj ed en
  rw [zaz hk' _ l] at cl ed en
  by_cases e1 : j = k
  ·by_cases e2 : l = k
   ·omega
   ·rw [if_pos e1, if_neg e2] at ed en
    rw [if_neg e2] at cl
    exact absurd en.symm (new l hl cl ed.symm)
  ·by_cases e2 : l = k
   ·rw [if_neg e1, if_pos e2] at ed en
    rw [if_neg e1] at cj
    exact absurd en (new j hj cj ed)
   ·rw [if_neg e1, if_neg e2] at ed en
    rw [if_neg e1] at cj
    rw [if_neg e2] at cl
    exact h.once j l hj hl cj cl ed en
 ·intro j hj
  rw [CN]
  exact h.links j hj
 ·intro j hj kj
  refine zmq ?_ ⟨by omega, by omega⟩ (yalx entn')
  exact ALL _ (h.rch hj kj) (by omega) (by rw [zbg]; exact kj)
def inoM (kind size links : Int) (zs : List Int) : Ino := ⟨kind, size, links, zs.getD 0 0, zs.getD 1 0, zs.getD 2 0, zs.getD 3 0, zs.getD 4 0, zs.getD 5 0, zs.getD 6 0, zs.getD 7 0⟩
theorem znc {kind size links : Int} {zs : List Int} (h : zs.length = 8) : (inoM kind size links zs).map = zs := by
 match zs, h with
 | [a, b, c, d, e, f, g, i], _ => rfl
theorem zwm {ws : List Ino} {ps : List Den} (h : Img ws ps) {i : Nat} {x : Ino} (hi : i < 16) (kx : x.kind = (zal ws i).kind) (lx : x.links = (zal ws i).links) (ox : zdl x = true) (sx : (zap (ws.set i x)).Pairwise fun x y => x ≠ y) :
  Img (ws.set i x) ps := by
 have hi' : i < ws.length := by rw [h.l16]; exact hi
 have KA : ∀ c, 0 ≤ c → zai (ws.set i x) c = zai ws c := by
  intro c hc
  rw [zmt hi' _ c hc]
  by_cases e : c = (i : Int)
  ·rw [if_pos e, e, zbg, kx]
  ·rw [if_neg e]
 refine ⟨by rw [List.length_set]; exact h.l16, h.l24, ?_, ?_, ?_, h.once, ?_, ?_, sx⟩
 ·rw [KA 0 (by omega)]; exact h.root
 ·intro j hj
  rw [zco hi']
  by_cases e : j = i
  ·rw [if_pos e]; exact ox
  ·rw [if_neg e]; exact h.ok j hj
 ·intro k hk
  rcases h.ent k hk with q | q
  ·exact .inl q
  ·obtain ⟨q1, q2, q3, q4, q5⟩ := q
   exact .inr ⟨q1, q2, q3, by rw [KA _ (by omega)]; exact q4, by rw [KA _ q2.1]; exact q5⟩
 ·intro j hj
  rw [zco hi']
  by_cases e : j = i
  ·rw [if_pos e, lx, ← e]; exact h.links j hj
  ·rw [if_neg e]; exact h.links j hj
 ·intro j hj kj
  rw [zco hi'] at kj
  by_cases e : j = i
  ·rw [if_pos e, kx, ← e] at kj; exact h.hang j hj kj
  ·rw [if_neg e] at kj; exact h.hang j hj kj
theorem yaju {l : List Int} {p : Nat} {e : Int} (hp : p < l.length) (he : ¬ e = 0) : zdg (l.set p e) = zdg (l.take p) ++ [e] ++ zdg (l.drop (p + 1)) := by
 unfold zdg
 rw [List.set_eq_take_append_cons_drop, if_pos hp, List.filter_append, List.filter_cons, if_pos (by simpa using he), List.append_assoc]
 rfl
theorem zxc {l : List Int} {p : Nat} (hp : p < l.length) : (zdg (l.take p) ++ zdg (l.drop (p + 1))).Sublist (zdg l) := by
 unfold zdg
 rw [← List.filter_append]
 apply List.Sublist.filter
 have : l = l.take p ++ (l[p] :: l.drop (p + 1)) := by rw [← List.drop_eq_getElem_cons hp, List.take_append_drop]
 conv => rhs; rw [this]
 exact List.Sublist.append (List.Sublist.refl _) (List.sublist_cons_self _ _)
theorem yant {ws : List Ino} {i p : Nat} {e : Int} {x : Ino} (hi : i < ws.length) (hp : p < 8) (he : ¬ e = 0) (s : (zap ws).Pairwise fun x y => x ≠ y) (new : ¬ e ∈ zap ws) (hx : x.map = (zal ws i).map.set p e) : (zap (ws.set i x)).Pairwise fun x y => x ≠ y := by
 have hl : p < (zal ws i).map.length := hp
 rw [zku hi, hx, yaju hl he]
 rw [zlp hi] at s new
 have sub : (zap (ws.take i) ++ (zdg ((zal ws i).map.take p) ++ zdg ((zal ws i).map.drop (p + 1))) ++ zap (ws.drop (i + 1))).Sublist (zap (ws.take i) ++ zdg (zal ws i).map ++ zap (ws.drop (i + 1))) :=
  List.Sublist.append (List.Sublist.append (List.Sublist.refl _) (zxc hl)) (List.Sublist.refl _)
 have s2 := s.sublist sub
 have new2 : ¬ e ∈ zap (ws.take i) ++ (zdg ((zal ws i).map.take p) ++ zdg ((zal ws i).map.drop (p + 1))) ++ zap (ws.drop (i + 1)) := fun q => new (sub.subset q)
 generalize zap (ws.take i) = A at *
 generalize zdg ((zal ws i).map.take p) = P at *
 generalize zdg ((zal ws i).map.drop (p + 1)) = Q at *
 generalize zap (ws.drop (i + 1)) = B at *
 have e1 : A ++ (P ++ [e] ++ Q) ++ B = (A ++ P) ++ e :: (Q ++ B) := by simp
 have e2 : A ++ (P ++ Q) ++ B = (A ++ P) ++ (Q ++ B) := by simp
 rw [e2] at s2 new2
 rw [e1]
 rw [List.pairwise_append] at s2 ⊢
 refine ⟨s2.1, ?_, ?_⟩
 ·rw [List.pairwise_cons]
  exact ⟨fun y hy q => new2 (by rw [List.mem_append]; right; rw [q]; exact hy), s2.2.1⟩
 ·intro a ha b hb
  rw [List.mem_cons] at hb
  rcases hb with rfl | hb
  ·intro q
   exact new2 (by rw [List.mem_append]; left; rw [← q]; exact ha)
  ·exact s2.2.2 a ha b hb
theorem yasi (x : Ino) : x.map.length = 8 := rfl
theorem yatq {x : Ino} {p : Nat} {e sz : Int} (h : zdl x = true) (k : x.kind = 1) (hp : p < 8) (te : zes e = true) (sx : x.size ≤ sz) (s8 : sz ≤ 8) (ps : (p : Int) < sz) : zdl (inoM x.kind sz x.links (x.map.set p e)) = true := by
 obtain ⟨a, b, c, d, f⟩ := zcp h
 refine zzl a ⟨by show 0 ≤ sz; omega, s8⟩ c ?_ ?_
 ·rw [znc (by rw [List.length_set]; rfl)]
  apply zrv
  intro j hj
  have q := zje d j hj
  show zqj j ((x.map.set p e).getD j 0) sz = true
  rw [List.getD_eq_getElem?_getD, List.getElem?_set]
  by_cases e1 : p = j
  ·subst e1
   rw [if_pos rfl, if_pos (by rw [yasi]; exact hp)]
   show zqj p e sz = true
   unfold zqj
   rw [te, decide_eq_true ps]
   simp
  ·rw [if_neg e1]
   unfold zqj at q ⊢
   rw [List.getD_eq_getElem?_getD] at q
   rw [Bool.and_eq_true, Bool.or_eq_true] at q ⊢
   refine ⟨q.1, ?_⟩
   rcases q.2 with r | r
   ·exact .inl r
   ·right
    have : (j : Int) < x.size := by simpa using r
    simp only [decide_eq_true_eq]
    omega
 ·unfold zet at f ⊢
  rw [if_neg (by omega), if_neg (by omega)] at f
  rw [if_neg (by show ¬ x.kind = 0; omega), if_neg (by show ¬ x.kind = 2; omega)]
  exact f
theorem yafr {ws : List Ino} {ps : List Den} (h : Img ws ps) {i p : Nat} {e sz : Int} (hi : i < 16) (k : (zal ws i).kind = 1) (hp : p < 8) (te : zes e = true) (he : ¬ e = 0) (new : ¬ e ∈ zap ws) (hsz : sz = if (p : Int) < (zal ws i).size then (zal ws i).size else (p : Int) + 1) :
  Img (ws.set i (inoM (zal ws i).kind sz (zal ws i).links ((zal ws i).map.set p e))) ps := by
 have o := zcp (h.ok i hi)
 refine zwm h hi rfl rfl (yatq (h.ok i hi) k hp te ?_ ?_ ?_) (yant (by rw [h.l16]; exact hi) hp he h.sing new (znc (by rw [List.length_set]; rfl)))
 ·rw [hsz]; split <;> omega
 ·rw [hsz]; split <;> omega
 ·rw [hsz]; split <;> omega
theorem yahd {x : Ino} (h : zdl x = true) {p : Nat} (hp : p < 8) (e : ¬ x.map.getD p 0 = 0) : (p : Int) < x.size ∧ x.kind = 1 := by
 obtain ⟨a, b, c, d, f⟩ := zcp h
 have q := zje d p hp
 unfold zqj at q
 rw [Bool.and_eq_true, Bool.or_eq_true, beq_iff_eq, decide_eq_true_eq] at q
 have s : (p : Int) < x.size := by
  rcases q.2 with r | r
  ·exact absurd r e
  ·exact r
 refine ⟨s, ?_⟩
 unfold zet at f
 by_cases k0 : x.kind = 0
 ·rw [if_pos k0] at f
  have := (of_decide_eq_true f).1
  omega
 ·by_cases k2 : x.kind = 2
  ·rw [if_neg k0, if_pos k2] at f
   rw [Bool.and_eq_true, beq_iff_eq] at f
   omega
  ·omega
def cutM (zs : List Int) (n : Nat) : List Int := (List.range 8).map fun j => if j < n then zs.getD j 0 else 0
theorem yaaa (zs : List Int) (n : Nat) : (cutM zs n).length = 8 := by simp [cutM]
theorem yahu (zs : List Int) (n j : Nat) (hj : j < 8) : (cutM zs n).getD j 0 = if j < n then zs.getD j 0 else 0 := by
 unfold cutM
 rw [List.getD_eq_getElem?_getD, List.getElem?_map, List.getElem?_range hj]
 rfl
theorem yath {x : Ino} {n : Nat} (h : zdl x = true) (k : x.kind = 1) (hn : n ≤ 8) : zdl (inoM x.kind (n : Int) x.links (cutM x.map n)) = true := by
 obtain ⟨a, b, c, d, f⟩ := zcp h
 refine zzl a ⟨by show 0 ≤ (n : Int); omega, by show (n : Int) ≤ 8; omega⟩ c ?_ ?_
 ·rw [znc (yaaa _ _)]
  apply zrv
  intro j hj
  have q := zje d j hj
  show zqj j ((cutM x.map n).getD j 0) (n : Int) = true
  rw [yahu _ _ _ hj]
  unfold zqj at q ⊢
  by_cases e1 : j < n
  ·rw [if_pos e1]
   rw [Bool.and_eq_true] at q ⊢
   refine ⟨q.1, ?_⟩
   rw [decide_eq_true (show (j : Int) < (n : Int) by omega)]
   simp
  ·rw [if_neg e1]
   rfl
 ·unfold zet at f ⊢
  rw [if_neg (by omega), if_neg (by omega)] at f
  rw [if_neg (by show ¬ x.kind = 0; omega), if_neg (by show ¬ x.kind = 2; omega)]
  exact f
theorem yalt (x : Ino) (n : Nat) : (zdg (cutM x.map n)).Sublist (zdg x.map) := by
 have e : x.map = (List.range 8).map fun j => x.map.getD j 0 := rfl
 have gen : ∀ (l : List Nat), (zdg (l.map fun j => if j < n then x.map.getD j 0 else 0)).Sublist (zdg (l.map fun j => x.map.getD j 0)) := by
  intro l
  unfold zdg
  induction l with
  | nil => exact List.Sublist.refl _
  | cons a l ih =>
   rw [List.map_cons, List.map_cons]
   by_cases q : a < n
   ·rw [if_pos q, List.filter_cons, List.filter_cons]
    split
    ·exact ih.cons_cons _
    ·exact ih
   ·rw [if_neg q, List.filter_cons, if_neg (by decide), List.filter_cons]
    split
    ·exact ih.cons _
    ·exact ih
 have := gen (List.range 8)
 rw [← e] at this
 exact this
theorem yaqa {ws : List Ino} {ps : List Den} (h : Img ws ps) {i n : Nat} (hi : i < 16) (k : (zal ws i).kind = 1) (hn : n ≤ 8) :
  Img (ws.set i (inoM (zal ws i).kind (n : Int) (zal ws i).links (cutM (zal ws i).map n))) ps := by
 refine zwm h hi rfl rfl (yath (h.ok i hi) k hn) (zmi (by rw [h.l16]; exact hi) h.sing ?_)
 rw [znc (yaaa _ _)]
 exact yalt _ _
def RdPm (w : World) (v : Value) (ws : List Int) (ps : List St) : Prop := ∃ vW vP, v = .agg #[vW, vP] ∧ RdI w vW ws ∧ RdS w vP ps
def RowPm (w : World) (lo hi : Nat) (v : Value) (ws : List Int) (ps : List St) : Prop := ∃ vW vP, v = .agg #[vW, vP] ∧ Row w 3 1 lo hi vW ws.length (zdd ws) ∧ Row w 108 3 lo hi vP ps.length (sts ps)
theorem RowPm.rd {w : World} {lo hi : Nat} {v : Value} {ws : List Int} {ps : List St} (h : RowPm w lo hi v ws ps) : RdPm w v ws ps := by
 obtain ⟨vW, vP, rfl, h1, h2⟩ := h
 exact ⟨vW, vP, rfl, h1.rd, h2.rd⟩
theorem RdPm.below {w w' : World} {v : Value} {ws : List Int} {ps : List St} (h : RdPm w v ws ps) (hb : Below w.heap.size w w') : RdPm w' v ws ps := by
 obtain ⟨vW, vP, rfl, h1, h2⟩ := h
 exact ⟨vW, vP, rfl, Rd.below h1 hb, Rd.below h2 hb⟩
theorem RowPm.below {w w' : World} {lo hi : Nat} {v : Value} {ws : List Int} {ps : List St} (h : RowPm w lo hi v ws ps) {B : Nat} (hb : Below B w w') (hB : hi ≤ B) : RowPm w' lo hi v ws ps := by
 obtain ⟨vW, vP, rfl, h1, h2⟩ := h
 exact ⟨vW, vP, rfl, h1.below hb hB, h2.below hb hB⟩
theorem RowPm.outside {w w' : World} {lo hi : Nat} {v : Value} {ws : List Int} {ps : List St} (h : RowPm w lo hi v ws ps) {lo' hi' : Nat} (ho : Outside lo' hi' w w') (hd : hi ≤ lo' ∨ hi' ≤ lo) (hz : hi ≤ w.heap.size) : RowPm w' lo hi v ws ps := by
 obtain ⟨vW, vP, rfl, h1, h2⟩ := h
 exact ⟨vW, vP, rfl, h1.outside ho hd hz, h2.outside ho hd hz⟩
end Go.Proofs.YtpakbbdlhlkogaaGreatDoor
