/- Several texts laid together: PlA, IgA, IgB. -/
import Derived.Test.YtpakbbdlhlkogaaGreatDoorZAK
import Derived.Test.YtpakbbdlhlkogaaGreatDoorZAL
import Derived.Test.YtpakbbdlhlkogaaGreatDoorStN
import Derived.Test.YtpakbbdlhlkogaaGreatDoorZAJ
import Derived.Maps.Views
namespace Go.Proofs.YtpakbbdlhlkogaaGreatDoor
open Go.RowKit
def freeD : Den := ⟨0, ⟨#[]⟩, -1⟩
def fiI (ws : List Ino) : Int := zbb (fun i => decide (1 ≤ i) && zai ws (i : Int) == 0) ws.length
def feI (ps : List Den) : Int := zbb (fun i => decide (zan ps i < 0)) ps.length
def zdn (ws : List Ino) (z : Int) : Int := (ws.getD z.toNat ⟨0, 0, 0, 0, 0, 0, 0, 0, 0, 0, 0⟩).links
theorem zho {ws : List Ino} {i : Nat} (h : i < ws.length) : zdn ws (i : Int) = ws[i].links := by
 unfold zdn
 rw [Int.toNat_natCast, List.getD_eq_getElem?_getD, List.getElem?_eq_getElem h]; rfl
def mkU (i k : Int) (kind : Int) (d : Int) (nm : ByteArray) : List Se := [⟨48 + 12 * i, kind⟩, ⟨48 + 12 * i + 2, 1⟩] ++ enL k ⟨d, nm, i⟩
def mkN (ws : List Ino) (ps : List Den) (kind d : Int) (nm : ByteArray) : List Se × Int := if 0 ≤ zka ps d nm then ([], 8) else if fiI ws < 0 then ([], 7) else if feI ps < 0 then ([], 7) else (mkU (fiI ws) (feI ps) kind d nm, 0)
def mkI (ws : List Ino) (ps : List Den) (s : ByteArray) (kind : Int) : List Se × Int := if (paI ws ps s).2.2 = 0 then mkN ws ps kind (paI ws ps s).1 (paI ws ps s).2.1 else ([], (paI ws ps s).2.2)
def mkR (ws : List Ino) (ps : List Den) (s : ByteArray) (kind : Int) : List Se × Int := if 65536 < s.size then ([], 2) else if zcb ws ps = true then (if 1 ≤ kind ∧ kind ≤ 2 then mkI ws ps s kind else ([], 4)) else ([], 1)
def rmU (k i l : Int) : List Se := enL k freeD ++ (if 1 < l then [⟨48 + 12 * i + 2, l - 1⟩] else wrL i zbd 8)
def rmC (ws : List Ino) (ps : List Den) (k : Nat) : List Se × Int := if zai ws (zan ps k) = 2 ∧ ¬ zbh ps (zan ps k) = [] then ([], 11) else (rmU (k : Int) (zan ps k) (zdn ws (zan ps k)), 0)
def rmN (ws : List Ino) (ps : List Den) (d : Int) (nm : ByteArray) : List Se × Int := match zay ps d nm with | none => ([], 5) | some k => rmC ws ps k
def rmI (ws : List Ino) (ps : List Den) (s : ByteArray) : List Se × Int := if (paI ws ps s).2.2 = 0 then rmN ws ps (paI ws ps s).1 (paI ws ps s).2.1 else ([], (paI ws ps s).2.2)
def rmR (ws : List Ino) (ps : List Den) (s : ByteArray) : List Se × Int := if 65536 < s.size then ([], 2) else if zcb ws ps = true then rmI ws ps s else ([], 1)
def lnN (ws : List Ino) (ps : List Den) (i d : Int) (nm : ByteArray) : List Se × Int := if 0 ≤ zka ps d nm then ([], 8) else if feI ps < 0 then ([], 7) else (enL (feI ps) ⟨d, nm, i⟩ ++ [⟨48 + 12 * i + 2, zdn ws i + 1⟩], 0)
def lnP (ws : List Ino) (ps : List Den) (t : ByteArray) (i : Int) : List Se × Int := if (paI ws ps t).2.2 = 0 then lnN ws ps i (paI ws ps t).1 (paI ws ps t).2.1 else ([], (paI ws ps t).2.2)
def lnI (ws : List Ino) (ps : List Den) (s t : ByteArray) : List Se × Int := if (lkI ws ps s).2 = 0 then (if zai ws (lkI ws ps s).1 = 2 then ([], 9) else lnP ws ps t (lkI ws ps s).1) else ([], (lkI ws ps s).2)
def lnR (ws : List Ino) (ps : List Den) (s t : ByteArray) : List Se × Int := if 65536 < s.size then ([], 2) else if 65536 < t.size then ([], 2) else if zcb ws ps = true then lnI ws ps s t else ([], 1)
def rnN (ws : List Ino) (ps : List Den) (k : Nat) (d : Int) (nm : ByteArray) : List Se × Int := if 0 ≤ zka ps d nm then ([], 8) else if zai ws (zan ps k) = 2 ∧ zqb ps 17 d (zan ps k) = true then ([], 13) else (enL (k : Int) ⟨d, nm, zan ps k⟩, 0)
def rnP (ws : List Ino) (ps : List Den) (t : ByteArray) (k : Nat) : List Se × Int := if (paI ws ps t).2.2 = 0 then rnN ws ps k (paI ws ps t).1 (paI ws ps t).2.1 else ([], (paI ws ps t).2.2)
def rnE (ws : List Ino) (ps : List Den) (t : ByteArray) (d : Int) (nm : ByteArray) : List Se × Int := match zay ps d nm with | none => ([], 5) | some k => rnP ws ps t k
def rnI (ws : List Ino) (ps : List Den) (s t : ByteArray) : List Se × Int := if (paI ws ps s).2.2 = 0 then rnE ws ps t (paI ws ps s).1 (paI ws ps s).2.1 else ([], (paI ws ps s).2.2)
theorem yaoj {s x : ByteArray} (hm : x ∈ spL s) : nmB x = true := by
 unfold spL at hm
 split at hm
 ·cases hm
 ·split at hm
  ·rename_i h
   unfold spN at h
   simp only [Bool.and_eq_true, List.all_eq_true] at h
   exact h.2.2 x hm
  ·cases hm
theorem zha {ws : List Ino} {ps : List Den} {s : ByteArray} (h : zcb ws ps = true) (c : (paI ws ps s).2.2 = 0) : (0 ≤ (paI ws ps s).1 ∧ (paI ws ps s).1 ≤ 15) ∧ zai ws (paI ws ps s).1 = 2 ∧ nmB (paI ws ps s).2.1 = true := by
 unfold paI at c ⊢
 by_cases q : spB s = true
 ·rw [if_pos q] at c ⊢
  by_cases e : spL s = []
  ·unfold paL at c
   rw [if_pos e] at c
   cases c
  ·obtain ⟨xs, x, hx⟩ := zys e
   have hn : nmB x = true := yaoj (s := s) (by rw [hx]; simp)
   rw [hx, zig] at c ⊢
   unfold paN at c ⊢
   by_cases q1 : (wk ws ps 0 xs).2 = 0
   ·rw [if_pos q1] at c ⊢
    by_cases q2 : zai ws (wk ws ps 0 xs).1 = 2
    ·rw [if_pos q2] at c ⊢
     exact ⟨zjp h xs 0 (by omega), q2, hn⟩
    ·rw [if_neg q2] at c; cases c
   ·rw [if_neg q1] at c
    exact absurd c q1
 ·rw [if_neg q] at c; cases c
theorem zzi {ws : List Ino} {ps : List Den} {s : ByteArray} (h : zcb ws ps = true) : 0 ≤ (lkI ws ps s).1 ∧ (lkI ws ps s).1 ≤ 15 := by
 unfold lkI
 split
 ·exact zjp h _ 0 (by omega)
 ·exact ⟨by decide, by decide⟩
theorem zkz {ps : List Den} {d : Int} {nm : ByteArray} : zay ps d nm = none ↔ ¬ 0 ≤ zka ps d nm := by
 unfold zka
 cases zay ps d nm with
 | none => simp
 | some k => simp
theorem zne {ps : List Den} {d : Int} {nm : ByteArray} {k : Nat} (h : zay ps d nm = some k) : zka ps d nm = (k : Int) := by
 unfold zka
 rw [h]
theorem zlb {ws : List Ino} {ps : List Den} (h : zcb ws ps = true) {i : Int} (h0 : 0 ≤ i ∧ i ≤ 15) : 0 ≤ zdn ws i ∧ zdn ws i ≤ 24 := by
 obtain ⟨hl, _, _, ho, _⟩ := zau h
 obtain ⟨n, rfl⟩ : ∃ n : Nat, i = (n : Int) := ⟨i.toNat, by omega⟩
 have hn : n < ws.length := by omega
 rw [zho hn]
 have := (of_decide_eq_true ho : ∀ k (h : k < ws.length), zdl ws[k] = true) n hn
 unfold zdl at this
 simp only [Bool.and_eq_true, decide_eq_true_eq] at this
 exact this.2.2.1
theorem yabd {ws : List Ino} {ps : List Den} (h : zcb ws ps = true) : fiI ws < 16 := by
 have := (zdj (fun i => decide (1 ≤ i) && zai ws (i : Int) == 0) ws.length).2
 have e := (zau h).1
 unfold fiI
 omega
theorem ztm {ws : List Ino} {ps : List Den} (h : zcb ws ps = true) : feI ps < 24 := by
 have := (zdj (fun i => decide (zan ps i < 0)) ps.length).2
 have e := (zau h).2.1
 unfold feI
 omega
theorem znk {p : Nat → Bool} {n : Nat} (h : ¬ zbb p n < 0) : p (zbb p n).toNat = true := by
 unfold zbb at h ⊢
 split
 ·rename_i i e
  simpa using List.find?_some e
 ·rename_i e
  rw [e] at h
  exact absurd (by decide) h
theorem yaox {ws : List Ino} (h : ¬ fiI ws < 0) : 1 ≤ fiI ws := by
 have := znk h
 simp only [Bool.and_eq_true, decide_eq_true_eq] at this
 unfold fiI at h ⊢
 omega
def zpo (s : ByteArray) : Lit := .string s.data.toList
def mpD (ps : List Den) (d : Int) : Nat → DataW Unit
 | 0 => .map []
 | k + 1 => if decide (0 ≤ zan ps k) && (ps.getD k freeD).dir == d then (mpD ps d k).put (zpo (ps.getD k freeD).name) (.lit (.int .i64 (k : Int))) else mpD ps d k
theorem zsq (ps : List Den) (d : Int) : ∀ k, Maps.IsMap (mpD ps d k)
 | 0 => Maps.isMap_empty
 | k + 1 => by
  unfold mpD
  split
  ·exact (zsq ps d k).put _ _
  ·exact zsq ps d k
theorem zwg (s : ByteArray) : WideAt.IsKeyLit (zpo s) := by
 unfold zpo
 simp [WideAt.IsKeyLit]
theorem yaim {s t : ByteArray} (h : zpo s = zpo t) : s = t := by
 unfold zpo at h
 injection h with h
 exact zjz h
theorem zhu {ps : List Den} {k : Nat} (h : k < ps.length) : ps.getD k freeD = ps[k] := by
 rw [List.getD_eq_getElem?_getD, List.getElem?_eq_getElem h]; rfl
theorem zos {s t : ByteArray} : (s.toList == t.toList) = true ↔ s = t := by
 rw [beq_iff_eq, ByteArray.toList_eq, ByteArray.toList_eq]
 exact ⟨zjz, fun h => by rw [h]⟩
theorem zfu {d : Int} {nm : ByteArray} {x : Den} : zbj d nm x = true ↔ 0 ≤ x.child ∧ x.dir = d ∧ x.name = nm := by
 unfold zbj
 rw [Bool.and_eq_true, Bool.and_eq_true, decide_eq_true_eq, beq_iff_eq, zos]
theorem zrr {ws : List Ino} {ps : List Den} (h : zcb ws ps = true) {d : Int} {nm : ByteArray} {i j : Nat} (hi : i < ps.length) (hj : j < ps.length) (ei : zbj d nm ps[i] = true) (ej : zbj d nm ps[j] = true) : i = j := by
 obtain ⟨_, _, _, _, he, _, _⟩ := zau h
 have he := (of_decide_eq_true he : ∀ i (h : i < ps.length), zcu ws ps i ps[i] = true)
 have one : ∀ {i j : Nat} (hi : i < ps.length) (hj : j < ps.length), zbj d nm ps[i] = true → zbj d nm ps[j] = true → ¬ i < j := by
  intro i j hi hj ei ej lt
  obtain ⟨a1, a2, a3⟩ := zfu.1 ei
  obtain ⟨b1, b2, b3⟩ := zfu.1 ej
  have e := he j hj
  unfold zcu at e
  rw [if_neg (by omega)] at e
  simp only [Bool.and_eq_true, List.all_eq_true] at e
  have q := e.2.2.2.2.2 ps[i] (by
   rw [List.mem_take_iff_getElem]
   exact ⟨i, by omega, rfl⟩)
  unfold zdq at q
  rw [a2, a3, b2, b3, decide_eq_true a1] at q
  simp at q
 have q1 := one hi hj ei ej
 have q2 := one hj hi ej ei
 omega
theorem yafm {ps : List Den} {d : Int} {nm : ByteArray} : ∀ (k : Nat), k ≤ ps.length → (∀ j (h : j < ps.length), j < k → zbj d nm ps[j] = false) → Maps.has (mpD ps d k) (zpo nm) = false
 | 0, _, _ => rfl
 | k + 1, hk, h => by
  have ih := yafm k (by omega) (fun j hj a => h j hj (by omega))
  unfold mpD
  split
  ·rename_i c
   rw [Bool.and_eq_true, decide_eq_true_eq, beq_iff_eq, zbf (by omega), zhu (by omega)] at c
   rw [zhu (by omega), Maps.has_put_other]
   ·exact ih
   ·intro e
    have := h k (by omega) (by omega)
    rw [zfu.2 ⟨c.1, c.2, (yaim e).symm⟩] at this
    cases this
  ·exact ih
theorem zyh {ps : List Den} {d : Int} {nm : ByteArray} {j : Nat} (hj : j < ps.length) (e : zbj d nm ps[j] = true) (once : ∀ i (h : i < ps.length), zbj d nm ps[i] = true → i = j) (z : DataW Unit) : ∀ (k : Nat), k ≤ ps.length → j < k → Maps.has (mpD ps d k) (zpo nm) = true ∧ (mpD ps d k).atKey (zpo nm) z = .lit (.int .i64 (j : Int))
 | 0, _, h => absurd h (by omega)
 | k + 1, hk, h => by
  by_cases q : j = k
  ·subst q
   obtain ⟨a1, a2, a3⟩ := zfu.1 e
   unfold mpD
   rw [if_pos (by rw [Bool.and_eq_true, decide_eq_true_eq, beq_iff_eq, zbf hj, zhu hj]; exact ⟨a1, a2⟩), zhu hj, a3]
   exact ⟨Maps.has_put_same (zsq ps d j) (zwg _) _, Maps.atKey_put_same (zsq ps d j) (zwg _) _ _⟩
  ·obtain ⟨i1, i2⟩ := zyh hj e once z k (by omega) (by omega)
   unfold mpD
   split
   ·rename_i c
    rw [Bool.and_eq_true, decide_eq_true_eq, beq_iff_eq, zbf (by omega), zhu (by omega)] at c
    have ne : zpo nm ≠ zpo ps[k].name := fun e => q (once k (by omega) (zfu.2 ⟨c.1, c.2, (yaim e).symm⟩)).symm
    rw [zhu (by omega), Maps.has_put_other ne, Maps.atKey_put_other ne]
    exact ⟨i1, i2⟩
   ·exact ⟨i1, i2⟩
theorem yaso {ws : List Ino} {ps : List Den} (h : zcb ws ps = true) (d : Int) (nm : ByteArray) (z : DataW Unit) : (zay ps d nm = none → Maps.has (mpD ps d ps.length) (zpo nm) = false) ∧ (∀ k, zay ps d nm = some k → Maps.has (mpD ps d ps.length) (zpo nm) = true ∧ (mpD ps d ps.length).atKey (zpo nm) z = .lit (.int .i64 (k : Int))) := by
 constructor
 ·intro e
  unfold zay at e
  rw [List.findIdx?_eq_none_iff] at e
  exact yafm _ (Nat.le_refl _) (fun j hj _ => by have := e _ (List.getElem_mem hj); simpa using this)
 ·intro k e
  obtain ⟨hk, q⟩ := zmk e
  exact zyh hk q (fun i hi q' => zrr h hi hk q' q) z _ (Nat.le_refl _) hk
theorem yakv {D : DataW Unit} {k : Lit} (h : Maps.has D k = true) : 0 < Maps.size D := by
 cases D with
 | map es =>
  rw [Maps.has_eq, List.any_eq_true] at h
  obtain ⟨x, hx, _⟩ := h
  rw [Maps.size_eq]
  exact List.length_pos_of_mem hx
 | _ => cases h
theorem zzz {ps : List Den} {d : Int} : ∀ (k : Nat), k ≤ ps.length → (∀ j (h : j < ps.length), ¬ (0 ≤ ps[j].child ∧ ps[j].dir = d)) → mpD ps d k = .map []
 | 0, _, _ => rfl
 | k + 1, hk, h => by
  unfold mpD
  rw [if_neg]
  ·exact zzz k (by omega) h
  ·rw [Bool.and_eq_true, decide_eq_true_eq, beq_iff_eq, zbf (by omega), zhu (by omega)]
   exact h k (by omega)
theorem yarp {ws : List Ino} {ps : List Den} (h : zcb ws ps = true) (d : Int) : (zbh ps d = [] → Maps.size (mpD ps d ps.length) = 0) ∧ (¬ zbh ps d = [] → 0 < Maps.size (mpD ps d ps.length)) := by
 unfold zbh
 constructor
 ·intro e
  rw [List.map_eq_nil_iff, List.filter_eq_nil_iff] at e
  rw [zzz _ (Nat.le_refl _) (fun j hj q => by
   have := e _ (List.getElem_mem hj)
   rw [decide_eq_true_eq] at this
   omega)]
  rfl
 ·intro e
  obtain ⟨x, hx⟩ : ∃ x : Den, x ∈ ps.filter (fun y : Den => decide (¬ y.child < 0 ∧ y.dir = d)) := by
   apply List.exists_mem_of_ne_nil
   intro q
   rw [q] at e
   exact e rfl
  rw [List.mem_filter, decide_eq_true_eq] at hx
  obtain ⟨j, hj, rfl⟩ := List.getElem_of_mem hx.1
  have hit : zbj d ps[j].name ps[j] = true := zfu.2 ⟨by omega, hx.2.2, rfl⟩
  exact yakv (zyh hj hit (fun i hi q' => zrr h hi hj q' hit) (.map []) _ (Nat.le_refl _) hj).1
theorem zqv {ws : List Ino} {ps : List Den} (h : zcb ws ps = true) {d : Int} (k : ¬ zai ws d = 2) : zbh ps d = [] := by
 unfold zbh
 rw [List.map_eq_nil_iff, List.filter_eq_nil_iff]
 intro x hx
 obtain ⟨j, hj, rfl⟩ := List.getElem_of_mem hx
 rw [decide_eq_true_eq]
 rintro ⟨a, b⟩
 rcases zjr h j hj with q | q
 ·omega
 ·exact k (by rw [← b]; exact q.2.2.2.2)
theorem zqf {ws : List Ino} {ps : List Den} (h : zcb ws ps = true) (j : Nat) (hj : j < ps.length) : (!ps[j].freeB) = decide (0 ≤ ps[j].child) := by
 obtain ⟨_, _, _, _, he, _, _⟩ := zau h
 have e := (of_decide_eq_true he : ∀ i (h : i < ps.length), zcu ws ps i ps[i] = true) j hj
 unfold zcu at e
 split at e
 ·rename_i c
  rw [e, decide_eq_false (by omega)]; rfl
 ·rename_i c
  simp only [Bool.and_eq_true, decide_eq_true_eq] at e
  rw [decide_eq_true (by omega)]
  unfold Den.freeB
  rw [show (ps[j].child == -1) = false by rw [beq_eq_false_iff_ne]; exact c, Bool.and_false, Bool.and_false]; rfl
def zal (ws : List Ino) (i : Nat) : Ino := ws.getD i zbd
def zat (ps : List Den) (k : Nat) : Den := ps.getD k freeD
theorem zbn {ws : List Ino} {i : Nat} (h : i < ws.length) : zal ws i = ws[i] := by
 unfold zal
 rw [List.getD_eq_getElem?_getD, List.getElem?_eq_getElem h]; rfl
theorem zbs {ps : List Den} {i : Nat} (h : i < ps.length) : zat ps i = ps[i] := by
 unfold zat
 rw [List.getD_eq_getElem?_getD, List.getElem?_eq_getElem h]; rfl
theorem zbg (ws : List Ino) (i : Nat) : zai ws (i : Int) = (zal ws i).kind := by unfold zai zal; rfl
theorem zrb (ws : List Ino) (i : Nat) : zdn ws (i : Int) = (zal ws i).links := by unfold zdn zal; rfl
theorem zza {ps : List Den} {k : Nat} (h : k < ps.length) : zan ps k = (zat ps k).child := by rw [zbf h, zbs h]
theorem zco {ws : List Ino} {i : Nat} (h : i < ws.length) (x : Ino) (j : Nat) : zal (ws.set i x) j = if j = i then x else zal ws j := by
 unfold zal
 rw [List.getD_eq_getElem?_getD, List.getD_eq_getElem?_getD, List.getElem?_set]
 by_cases e : i = j
 ·subst e; simp [h]
 ·have : ¬ j = i := fun q => e q.symm
  simp [e, this]
theorem zaz {ps : List Den} {i : Nat} (h : i < ps.length) (x : Den) (j : Nat) : zat (ps.set i x) j = if j = i then x else zat ps j := by
 unfold zat
 rw [List.getD_eq_getElem?_getD, List.getD_eq_getElem?_getD, List.getElem?_set]
 by_cases e : i = j
 ·subst e; simp [h]
 ·have : ¬ j = i := fun q => e q.symm
  simp [e, this]
theorem yaep {x : Den} : x.freeB = true ↔ x = freeD := by
 unfold Den.freeB freeD
 simp only [Bool.and_eq_true, beq_iff_eq]
 constructor
 ·rintro ⟨h1, h2, h3⟩
  obtain ⟨d, n, c⟩ := x
  simp only at h1 h2 h3
  subst h1 h3
  have : n = ⟨#[]⟩ := by
   apply zjz
   have : n.data.toList.length = 0 := by simpa using h2
   rw [List.eq_nil_of_length_eq_zero this]
  rw [this]
 ·intro h
  rw [h]
  exact ⟨rfl, rfl, rfl⟩
def zhf (ws : List Ino) (x : Den) : Prop := (1 ≤ x.child ∧ x.child ≤ 15) ∧ (0 ≤ x.dir ∧ x.dir ≤ 15) ∧ nmB x.name = true ∧ ¬ zai ws x.child = 0 ∧ zai ws x.dir = 2
def zjl (ps : List Den) (c : Int) : Nat := (ps.filter fun x => x.child == c).length
structure Img (ws : List Ino) (ps : List Den) : Prop where
 l16 : ws.length = 16
 l24 : ps.length = 24
 root : zai ws 0 = 2
 ok : ∀ i, i < 16 → zdl (zal ws i) = true
 ent : ∀ k, k < 24 → zat ps k = freeD ∨ zhf ws (zat ps k)
 once : ∀ j k, j < 24 → k < 24 → 0 ≤ (zat ps j).child → 0 ≤ (zat ps k).child → (zat ps j).dir = (zat ps k).dir → (zat ps j).name = (zat ps k).name → j = k
 links : ∀ i : Nat, i < 16 → (if i = 0 then 1 else 0) + (zjl ps (i : Int) : Int) = (zal ws i).links
 hang : ∀ i : Nat, i < 16 → (zal ws i).kind = 2 → zdi ps 16 (i : Int) = true
 sing : (zap ws).Pairwise fun x y => x ≠ y
theorem zqk {ws : List Ino} (l16 : ws.length = 16) (ok : ∀ i, i < 16 → zdl (zal ws i) = true) : ∀ e ∈ zap ws, 0 ≤ e ∧ (e % 4 = 1 ∨ e % 4 = 2) := by
 apply zpd
 intro i hi
 have := ok i (by omega)
 rw [zbn hi] at this
 exact (zfq this).1
theorem zca {ws : List Ino} {ps : List Den} : zcb ws ps = true ↔ Img ws ps := by
 constructor
 ·intro h
  obtain ⟨l1, l2, r, o, e, l, s⟩ := zau h
  have o' := (of_decide_eq_true o : ∀ k (h : k < ws.length), zdl ws[k] = true)
  have e' := (of_decide_eq_true e : ∀ i (h : i < ps.length), zcu ws ps i ps[i] = true)
  have l' := (of_decide_eq_true l : ∀ i (h : i < ws.length), zhh ps i ws[i] = true)
  have ok : ∀ i, i < 16 → zdl (zal ws i) = true := fun i hi => by rw [zbn (by omega)]; exact o' i (by omega)
  refine ⟨l1, l2, r, ok, ?_, ?_, ?_, ?_, ?_⟩
  ·intro k hk
   rw [zbs (by omega)]
   have q := e' k (by omega)
   unfold zcu at q
   split at q
   ·exact .inl (yaep.1 q)
   ·right
    rcases zjr h k (by omega) with a | a
    ·rename_i c; exact absurd a.1 c
    ·exact a
  ·intro j k hj hk cj ck hd hn
   refine zrr h (d := (zat ps j).dir) (nm := (zat ps j).name) (i := j) (j := k) (by omega) (by omega) ?_ ?_
   ·rw [zbs (by omega)] at cj ⊢
    exact zfu.2 ⟨cj, rfl, rfl⟩
   ·rw [zbs (i := k) (by omega)] at ck hd hn
    exact zfu.2 ⟨ck, hd.symm, hn.symm⟩
  ·intro i hi
   have q := l' i (by omega)
   unfold zhh zlt at q
   simp only [Bool.and_eq_true, decide_eq_true_eq] at q
   rw [zbn (by omega), ← q.1, List.take_length]
   rfl
  ·intro i hi hk
   rw [zbn (by omega)] at hk
   have q := l' i (by omega)
   unfold zhh at q
   simp only [Bool.and_eq_true, Bool.or_eq_true, decide_eq_true_eq] at q
   rcases q.2 with q | q
   ·exact absurd hk q
   ·exact q
  ·unfold ziv at s
   rw [zoe (fun e he => (zqk l1 ok e he).2), zfz] at s
   exact s
 ·rintro ⟨l1, l2, r, o, e, c, l, g, s⟩
  unfold zcb
  have hs : ziv ws = true := by
   unfold ziv
   rw [zoe (fun e he => (zqk l1 o e he).2), zfz]
   exact s
  have ho : zvo ws = true := decide_eq_true fun k hk => by rw [← zbn hk]; exact o k (by omega)
  have hl : zgh ws ps = true := decide_eq_true fun i hi => by
   unfold zhh zlt
   rw [List.take_length, ← zbn hi]
   simp only [Bool.and_eq_true, Bool.or_eq_true, decide_eq_true_eq]
   refine ⟨l i (by omega), ?_⟩
   by_cases q : (zal ws i).kind = 2
   ·exact .inr (g i (by omega) q)
   ·exact .inl q
  have he : zii ws ps = true := decide_eq_true fun i hi => by
   unfold zcu
   rw [← zbs hi]
   rcases e i (by omega) with q | q
   ·rw [q]
    rfl
   ·obtain ⟨q1, q2, q3, q4, q5⟩ := q
    rw [if_neg (by omega), decide_eq_true q1, decide_eq_true q2, q3, q5]
    simp only [Bool.true_and, Bool.and_eq_true, Bool.not_eq_true', beq_eq_false_iff_ne, List.all_eq_true]
    refine ⟨q4, by decide, ?_⟩
    intro y hy
    obtain ⟨j, hj, rfl⟩ := List.mem_take_iff_getElem.1 hy
    have hj := Nat.lt_min.1 hj
    have hc : zdq ps[j] (zat ps i) = false := by
     rw [Bool.eq_false_iff]
     intro hc
     unfold zdq at hc
     rw [Bool.and_eq_true, Bool.and_eq_true, decide_eq_true_eq, beq_iff_eq, zos] at hc
     rw [← zbs hj.2] at hc
     have := c j i (by omega) (by omega) hc.1 (by omega) hc.2.1 hc.2.2
     omega
    rw [hc]
  rw [decide_eq_true l1, decide_eq_true l2, r, ho, he, hl, hs]
  rfl
theorem zgw : ∀ (ps : List Den) (k : Nat) (x : Den) (c : Int), k < ps.length → zjl (ps.set k x) c + (if (zat ps k).child = c then 1 else 0) = zjl ps c + (if x.child = c then 1 else 0)
 | [], k, x, c, h => absurd h (by simp)
 | y :: ps, 0, x, c, h => by
  unfold zjl zat
  simp only [List.set_cons_zero, List.getD_cons_zero]
  by_cases a : y.child = c <;> by_cases b : x.child = c <;> simp [a, b]
 | y :: ps, k + 1, x, c, h => by
  have ih := zgw ps k x c (by simpa using h)
  unfold zjl zat at *
  simp only [List.set_cons_succ, List.getD_cons_succ]
  by_cases a : y.child = c
  ·simp only [List.filter_cons, a, beq_self_eq_true, if_true, List.length_cons]
   omega
  ·simp only [List.filter_cons, show (y.child == c) = false by rw [beq_eq_false_iff_ne]; exact a, Bool.false_eq_true, if_false]
   exact ih
theorem znb {ps : List Den} {c : Int} (h : zjl ps c = 0) : ∀ k, k < ps.length → ¬ (zat ps k).child = c := by
 intro k hk e
 unfold zjl at h
 have := List.filter_eq_nil_iff.1 (List.eq_nil_of_length_eq_zero h) ps[k] (List.getElem_mem hk)
 rw [zbs hk] at e
 simp [e] at this
theorem yanm {ps : List Den} {c : Int} (h : ∀ k, k < ps.length → ¬ (zat ps k).child = c) : zjl ps c = 0 := by
 unfold zjl
 rw [List.length_eq_zero_iff, List.filter_eq_nil_iff]
 intro x hx
 obtain ⟨k, hk, rfl⟩ := List.getElem_of_mem hx
 have := h k hk
 rw [zbs hk] at this
 simpa using this
theorem yarh {ps : List Den} {c : Int} (h : zjl ps c = 1) {j k : Nat} (hj : j < ps.length) (hk : k < ps.length) (ej : (zat ps j).child = c) (ek : (zat ps k).child = c) : j = k := by
 apply Classical.byContradiction
 intro ne
 by_cases hc : c = -1
 ·subst hc
  have a := zgw ps k ⟨0, ⟨#[]⟩, -2⟩ (-1) hk
  rw [if_pos ek, if_neg (by decide), h] at a
  have z : zjl (ps.set k ⟨0, ⟨#[]⟩, -2⟩) (-1) = 0 := by omega
  refine znb z j (by simpa using hj) ?_
  rw [zaz hk, if_neg ne]
  exact ej
 ·have a := zgw ps k freeD c hk
  rw [if_pos ek, if_neg (fun q => hc (by rw [← q]; rfl)), h] at a
  have z : zjl (ps.set k freeD) c = 0 := by omega
  refine znb z j (by simpa using hj) ?_
  rw [zaz hk, if_neg ne]
  exact ej
theorem yafh {ps : List Den} {c : Int} {k : Nat} (hk : k < ps.length) (e : (zat ps k).child = c) (h : ∀ j, j < ps.length → (zat ps j).child = c → j = k) : upD ps c = (zat ps k).dir := by
 rw [zbs hk] at e ⊢
 exact yaed hk (fun j hj lt q => by have := h j hj (by rw [zbs hj]; exact q); omega) e
theorem zst {ps qs : List Den} {c : Int} (hl : ps.length = qs.length) (h : ∀ k, k < ps.length → (zat ps k = zat qs k ∨ (¬ (zat ps k).child = c ∧ ¬ (zat qs k).child = c))) : upD ps c = upD qs c := by
 unfold upD
 congr 2
 induction ps generalizing qs with
 | nil =>
  cases qs with
  | nil => rfl
  | cons => simp at hl
 | cons x ps ih =>
  cases qs with
  | nil => simp at hl
  | cons y qs =>
   have h0 := h 0 (by simp)
   have ih' := ih (qs := qs) (by simpa using hl) (fun k hk => by
    have := h (k + 1) (by simpa using hk)
    simpa [zat] using this)
   simp only [zat, List.getD_cons_zero] at h0
   rcases h0 with e | ⟨a, b⟩
   ·subst e
    simp only [List.find?_cons]
    rw [ih']
   ·rw [List.find?_cons_of_neg (by simpa using a), List.find?_cons_of_neg (by simpa using b)]
    exact ih'
def Rch (ps : List Den) (d : Int) : Prop := ∃ n, zdi ps n d = true
theorem zsi (ps : List Den) : Rch ps 0 := ⟨1, by rw [zga, if_pos rfl]⟩
theorem zjq {ps : List Den} {c : Int} (h0 : 0 ≤ upD ps c) (h : Rch ps (upD ps c)) : Rch ps c := by
 obtain ⟨n, hn⟩ := h
 refine ⟨n + 1, ?_⟩
 rw [zga]
 by_cases q : c = 0
 ·rw [if_pos q]
 ·rw [if_neg q, if_neg (by omega)]
  exact hn
theorem zum {ps : List Den} {P : Int → Prop} (h0 : P 0) (hs : ∀ c, ¬ c = 0 → 0 ≤ upD ps c → P (upD ps c) → P c) : ∀ (n : Nat) (d : Int), zdi ps n d = true → P d
 | 0, d, h => by rw [zll] at h; cases h
 | n + 1, d, h => by
  by_cases q : d = 0
  ·rw [q]; exact h0
  ·obtain ⟨a, b⟩ := znj h q
   exact hs d q a (zum h0 hs n _ b)
theorem yafc {ps : List Den} {P : Int → Prop} {d : Int} (h : Rch ps d) (h0 : P 0) (hs : ∀ c, ¬ c = 0 → 0 ≤ upD ps c → P (upD ps c) → P c) : P d := by
 obtain ⟨n, hn⟩ := h
 exact zum h0 hs n d hn
theorem yagp (f : Int → Int) (n : Nat) (i : Int) : zde f (n + 1) i = f (zde f n i) := by
 rw [zey f n 1 i]; rfl
theorem zzs {ps : List Den} : ∀ (n : Nat) (d : Int), zdi ps n d = true → ∃ m, m < n ∧ zde (upD ps) m d = 0 ∧ ∀ j, j < m → ¬ zde (upD ps) j d = 0 ∧ 0 ≤ zde (upD ps) (j + 1) d
 | 0, d, h => by rw [zll] at h; cases h
 | n + 1, d, h => by
  by_cases q : d = 0
  ·exact ⟨0, by omega, q, fun j hj => absurd hj (by omega)⟩
  ·obtain ⟨a, b⟩ := znj h q
   obtain ⟨m, hm, e, r⟩ := zzs n _ b
   refine ⟨m + 1, by omega, e, ?_⟩
   intro j hj
   cases j with
   | zero => exact ⟨q, a⟩
   | succ j => exact r j (by omega)
theorem yaaj {ps : List Den} : ∀ (m n : Nat) (d : Int), m < n → zde (upD ps) m d = 0 → (∀ j, j < m → 0 ≤ zde (upD ps) (j + 1) d) → zdi ps n d = true
 | _, 0, _, h, _, _ => absurd h (by omega)
 | 0, n + 1, d, _, e, _ => by
  rw [zga, if_pos (show d = 0 from e)]
 | m + 1, n + 1, d, h, e, r => by
  rw [zga]
  by_cases q : d = 0
  ·rw [if_pos q]
  ·have a : 0 ≤ upD ps d := r 0 (by omega)
   rw [if_neg q, if_neg (show ¬ upD ps d < 0 by omega)]
   exact yaaj m n (upD ps d) (by omega) e (fun j hj => r (j + 1) (by omega))
theorem zmq {ps : List Den} {d : Int} (h : Rch ps d) (hd : 0 ≤ d ∧ d ≤ 15) (hu : ∀ c, upD ps c ≤ 15) : zdi ps 16 d = true := by
 obtain ⟨n, hn⟩ := h
 obtain ⟨m, _, e, r⟩ := zzs n d hn
 have rng : ∀ j, j ≤ m → 0 ≤ zde (upD ps) j d ∧ zde (upD ps) j d ≤ 15 := by
  intro j hj
  cases j with
  | zero => exact hd
  | succ j =>
   refine ⟨(r j (by omega)).2, ?_⟩
   rw [yagp]
   exact hu _
 by_cases hm : m < 16
 ·exact yaaj m 16 d hm e (fun j hj => (r j hj).2)
 ·exfalso
  obtain ⟨a, b, hab, hb, he⟩ := yahy 16 (fun k => (zde (upD ps) k d).toNat) (fun k hk => by have := rng k (by omega); show (zde (upD ps) k d).toNat < 16; omega)
  have ra := rng a (by omega)
  have rb := rng b (by omega)
  have he' : zde (upD ps) a d = zde (upD ps) b d := by
   have : (zde (upD ps) a d).toNat = (zde (upD ps) b d).toNat := he
   omega
  have z : zde (upD ps) (a + (m - b)) d = 0 := by
   rw [zey, he', ← zey, show b + (m - b) = m by omega]
   exact e
  exact (r (a + (m - b)) (by omega)).1 z
theorem yapc {ws : List Ino} {ps : List Den} (ent : ∀ k, k < ps.length → zat ps k = freeD ∨ zhf ws (zat ps k)) {c : Int} (hc : 0 ≤ c) (h : 0 ≤ upD ps c) : ∃ k, k < ps.length ∧ (zat ps k).child = c ∧ (zat ps k).dir = upD ps c ∧ zhf ws (zat ps k) := by
 unfold upD at h ⊢
 cases e : ps.find? fun x => x.child == c with
 | none => rw [e] at h; exact absurd h (by decide)
 | some x =>
  have hx := List.mem_of_find?_eq_some e
  have hp := List.find?_some e
  obtain ⟨k, hk, rfl⟩ := List.getElem_of_mem hx
  refine ⟨k, hk, ?_⟩
  rw [zbs hk]
  refine ⟨by simpa using hp, rfl, ?_⟩
  have := ent k hk
  rw [zbs hk] at this
  rcases this with q | q
  ·rw [q] at hp
   have : freeD.child = c := by simpa using hp
   exact absurd hc (by rw [← this]; decide)
  ·exact q
theorem yalx {ws : List Ino} {ps : List Den} (ent : ∀ k, k < ps.length → zat ps k = freeD ∨ zhf ws (zat ps k)) (c : Int) : upD ps c ≤ 15 := by
 unfold upD
 cases e : ps.find? fun x => x.child == c with
 | none => decide
 | some x =>
  have hx := List.mem_of_find?_eq_some e
  obtain ⟨k, hk, rfl⟩ := List.getElem_of_mem hx
  have := ent k hk
  rw [zbs hk] at this
  show ps[k].dir ≤ 15
  rcases this with q | q
  ·rw [q]; decide
  ·exact q.2.1.2
theorem zmj {ps qs : List Den} {i : Int} {G : Int → Prop} (hG : ∀ c, G c → 0 ≤ upD ps c → ¬ upD ps c = i ∧ G (upD ps c)) (hs : ∀ c, G c → ¬ c = i → upD qs c = upD ps c) {d : Int} (h : Rch ps d) (hd : G d) (hi : ¬ d = i) : Rch qs d := by
 have : G d → ¬ d = i → Rch qs d := by
  refine yafc (P := fun c => G c → ¬ c = i → Rch qs c) h (fun _ _ => zsi qs) ?_
  intro c c0 cu ih g ne
  obtain ⟨a, b⟩ := hG c g cu
  have e := hs c g ne
  refine zjq (by rw [e]; exact cu) ?_
  rw [e]
  exact ih b a
 exact this hd hi
theorem zra {ps qs : List Den} {i : Int} (hs : ∀ c, 0 ≤ c → ¬ c = i → upD qs c = upD ps c) : ∀ (n : Nat) (d : Int), zdi ps n d = true → 0 ≤ d → zqb ps (n + 1) d i = false → Rch qs d
 | 0, d, h, _, _ => by rw [zll] at h; cases h
 | n + 1, d, h, hd, hb => by
  by_cases q : d = 0
  ·rw [q]; exact zsi qs
  ·obtain ⟨a, b⟩ := znj h q
   rw [yaea, if_neg (by omega)] at hb
   by_cases e : d = i
   ·rw [if_pos e] at hb; cases hb
   ·rw [if_neg e] at hb
    have u := hs d hd e
    refine zjq (by rw [u]; exact a) ?_
    rw [u]
    exact zra hs n _ b a hb
end Go.Proofs.YtpakbbdlhlkogaaGreatDoor
