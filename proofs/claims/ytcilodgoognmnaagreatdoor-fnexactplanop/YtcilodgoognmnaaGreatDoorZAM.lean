/- Several texts laid together: PlA, IgA, IgD, StoreT, Pm, PmT, PmOK. -/
import Derived.Test.YtcilodgoognmnaaGreatDoorZAJ
import Derived.Test.YtcilodgoognmnaaGreatDoorZAK
import Derived.Test.YtcilodgoognmnaaGreatDoorStN
import Derived.Test.YtcilodgoognmnaaGreatDoorZAI
import Derived.Maps.Views
import Derived.Test.YtcilodgoognmnaaGreatDoorZAC
import Derived.Deep.RegionWith
import Derived.Test.YtcilodgoognmnaaGreatDoorZAD
namespace Go.Proofs.YtcilodgoognmnaaGreatDoor
open Go.RowKit
def freeD : Den := ⟨0, ⟨#[]⟩, -1⟩
def fiI (ws : List Ino) : Int := zas (fun i => decide (1 ≤ i) && zai ws (i : Int) == 0) ws.length
def feI (ps : List Den) : Int := zas (fun i => decide (zaj ps i < 0)) ps.length
def zcx (ws : List Ino) (z : Int) : Int := (ws.getD z.toNat ⟨0, 0, 0, 0, 0, 0, 0, 0, 0, 0, 0⟩).links
theorem zev {ws : List Ino} {i : Nat} (h : i < ws.length) : zcx ws (i : Int) = ws[i].links := by
 unfold zcx
 rw [Int.toNat_natCast, List.getD_eq_getElem?_getD, List.getElem?_eq_getElem h]; rfl
def mkU (i k : Int) (kind : Int) (d : Int) (nm : ByteArray) : List Se := [⟨48 + 12 * i, kind⟩, ⟨48 + 12 * i + 2, 1⟩] ++ enL k ⟨d, nm, i⟩
def mkN (ws : List Ino) (ps : List Den) (kind d : Int) (nm : ByteArray) : List Se × Int := if 0 ≤ zkl ps d nm then ([], 8) else if fiI ws < 0 then ([], 7) else if feI ps < 0 then ([], 7) else (mkU (fiI ws) (feI ps) kind d nm, 0)
def mkI (ws : List Ino) (ps : List Den) (s : ByteArray) (kind : Int) : List Se × Int := if (paI ws ps s).2.2 = 0 then mkN ws ps kind (paI ws ps s).1 (paI ws ps s).2.1 else ([], (paI ws ps s).2.2)
def mkR (ws : List Ino) (ps : List Den) (s : ByteArray) (kind : Int) : List Se × Int := if 65536 < s.size then ([], 2) else if zax ws ps = true then (if 1 ≤ kind ∧ kind ≤ 2 then mkI ws ps s kind else ([], 4)) else ([], 1)
def rmU (k i l : Int) : List Se := enL k freeD ++ (if 1 < l then [⟨48 + 12 * i + 2, l - 1⟩] else wrL i zbf 8)
def rmC (ws : List Ino) (ps : List Den) (k : Nat) : List Se × Int := if zai ws (zaj ps k) = 2 ∧ ¬ zbg ps (zaj ps k) = [] then ([], 11) else (rmU (k : Int) (zaj ps k) (zcx ws (zaj ps k)), 0)
def rmN (ws : List Ino) (ps : List Den) (d : Int) (nm : ByteArray) : List Se × Int := match zbb ps d nm with | none => ([], 5) | some k => rmC ws ps k
def rmI (ws : List Ino) (ps : List Den) (s : ByteArray) : List Se × Int := if (paI ws ps s).2.2 = 0 then rmN ws ps (paI ws ps s).1 (paI ws ps s).2.1 else ([], (paI ws ps s).2.2)
def rmR (ws : List Ino) (ps : List Den) (s : ByteArray) : List Se × Int := if 65536 < s.size then ([], 2) else if zax ws ps = true then rmI ws ps s else ([], 1)
def lnN (ws : List Ino) (ps : List Den) (i d : Int) (nm : ByteArray) : List Se × Int := if 0 ≤ zkl ps d nm then ([], 8) else if feI ps < 0 then ([], 7) else (enL (feI ps) ⟨d, nm, i⟩ ++ [⟨48 + 12 * i + 2, zcx ws i + 1⟩], 0)
def lnP (ws : List Ino) (ps : List Den) (t : ByteArray) (i : Int) : List Se × Int := if (paI ws ps t).2.2 = 0 then lnN ws ps i (paI ws ps t).1 (paI ws ps t).2.1 else ([], (paI ws ps t).2.2)
def lnI (ws : List Ino) (ps : List Den) (s t : ByteArray) : List Se × Int := if (lkI ws ps s).2 = 0 then (if zai ws (lkI ws ps s).1 = 2 then ([], 9) else lnP ws ps t (lkI ws ps s).1) else ([], (lkI ws ps s).2)
def lnR (ws : List Ino) (ps : List Den) (s t : ByteArray) : List Se × Int := if 65536 < s.size then ([], 2) else if 65536 < t.size then ([], 2) else if zax ws ps = true then lnI ws ps s t else ([], 1)
def rnN (ws : List Ino) (ps : List Den) (k : Nat) (d : Int) (nm : ByteArray) : List Se × Int := if 0 ≤ zkl ps d nm then ([], 8) else if zai ws (zaj ps k) = 2 ∧ zjg ps 17 d (zaj ps k) = true then ([], 13) else (enL (k : Int) ⟨d, nm, zaj ps k⟩, 0)
def rnP (ws : List Ino) (ps : List Den) (t : ByteArray) (k : Nat) : List Se × Int := if (paI ws ps t).2.2 = 0 then rnN ws ps k (paI ws ps t).1 (paI ws ps t).2.1 else ([], (paI ws ps t).2.2)
def rnE (ws : List Ino) (ps : List Den) (t : ByteArray) (d : Int) (nm : ByteArray) : List Se × Int := match zbb ps d nm with | none => ([], 5) | some k => rnP ws ps t k
def rnI (ws : List Ino) (ps : List Den) (s t : ByteArray) : List Se × Int := if (paI ws ps s).2.2 = 0 then rnE ws ps t (paI ws ps s).1 (paI ws ps s).2.1 else ([], (paI ws ps s).2.2)
def rnR (ws : List Ino) (ps : List Den) (s t : ByteArray) : List Se × Int := if 65536 < s.size then ([], 2) else if 65536 < t.size then ([], 2) else if zax ws ps = true then rnI ws ps s t else ([], 1)
theorem spL_name {s x : ByteArray} (hm : x ∈ spL s) : nmB x = true := by
 unfold spL at hm
 split at hm
 ·cases hm
 ·split at hm
  ·rename_i h
   unfold spN at h
   simp only [Bool.and_eq_true, List.all_eq_true] at h
   exact h.2.2 x hm
  ·cases hm
theorem zib {ws : List Ino} {ps : List Den} {s : ByteArray} (h : zax ws ps = true) (c : (paI ws ps s).2.2 = 0) : (0 ≤ (paI ws ps s).1 ∧ (paI ws ps s).1 ≤ 15) ∧ zai ws (paI ws ps s).1 = 2 ∧ nmB (paI ws ps s).2.1 = true := by
 unfold paI at c ⊢
 by_cases q : spB s = true
 ·rw [if_pos q] at c ⊢
  by_cases e : spL s = []
  ·unfold paL at c
   rw [if_pos e] at c
   cases c
  ·obtain ⟨xs, x, hx⟩ := snoc_of e
   have hn : nmB x = true := spL_name (s := s) (by rw [hx]; simp)
   rw [hx, ztr] at c ⊢
   unfold paN at c ⊢
   by_cases q1 : (wk ws ps 0 xs).2 = 0
   ·rw [if_pos q1] at c ⊢
    by_cases q2 : zai ws (wk ws ps 0 xs).1 = 2
    ·rw [if_pos q2] at c ⊢
     exact ⟨zke h xs 0 (by omega), q2, hn⟩
    ·rw [if_neg q2] at c; cases c
   ·rw [if_neg q1] at c
    exact absurd c q1
 ·rw [if_neg q] at c; cases c
theorem zme {ws : List Ino} {ps : List Den} {s : ByteArray} (h : zax ws ps = true) : 0 ≤ (lkI ws ps s).1 ∧ (lkI ws ps s).1 ≤ 15 := by
 unfold lkI
 split
 ·exact zke h _ 0 (by omega)
 ·exact ⟨by decide, by decide⟩
theorem zpx {ps : List Den} {d : Int} {nm : ByteArray} : zbb ps d nm = none ↔ ¬ 0 ≤ zkl ps d nm := by
 unfold zkl
 cases zbb ps d nm with
 | none => simp
 | some k => simp
theorem zht {ps : List Den} {d : Int} {nm : ByteArray} {k : Nat} (h : zbb ps d nm = some k) : zkl ps d nm = (k : Int) := by
 unfold zkl
 rw [h]
theorem zij {ws : List Ino} {ps : List Den} (h : zax ws ps = true) {i : Int} (h0 : 0 ≤ i ∧ i ≤ 15) : 0 ≤ zcx ws i ∧ zcx ws i ≤ 24 := by
 obtain ⟨hl, _, _, ho, _⟩ := zao h
 obtain ⟨n, rfl⟩ : ∃ n : Nat, i = (n : Int) := ⟨i.toNat, by omega⟩
 have hn : n < ws.length := by omega
 rw [zev hn]
 have := (of_decide_eq_true ho : ∀ k (h : k < ws.length), zep ws[k] = true) n hn
 unfold zep at this
 simp only [Bool.and_eq_true, decide_eq_true_eq] at this
 exact this.2.2.1
theorem fi_range {ws : List Ino} {ps : List Den} (h : zax ws ps = true) : fiI ws < 16 := by
 have := (zdb (fun i => decide (1 ≤ i) && zai ws (i : Int) == 0) ws.length).2
 have e := (zao h).1
 unfold fiI
 omega
theorem znm {ws : List Ino} {ps : List Den} (h : zax ws ps = true) : feI ps < 24 := by
 have := (zdb (fun i => decide (zaj ps i < 0)) ps.length).2
 have e := (zao h).2.1
 unfold feI
 omega
theorem zoj {p : Nat → Bool} {n : Nat} (h : ¬ zas p n < 0) : p (zas p n).toNat = true := by
 unfold zas at h ⊢
 split
 ·rename_i i e
  simpa using List.find?_some e
 ·rename_i e
  rw [e] at h
  exact absurd (by decide) h
theorem fi_pos {ws : List Ino} (h : ¬ fiI ws < 0) : 1 ≤ fiI ws := by
 have := zoj h
 simp only [Bool.and_eq_true, decide_eq_true_eq] at this
 unfold fiI at h ⊢
 omega
def zqe (s : ByteArray) : Lit := .string s.data.toList
def mpD (ps : List Den) (d : Int) : Nat → DataW Unit
 | 0 => .map []
 | k + 1 => if decide (0 ≤ zaj ps k) && (ps.getD k freeD).dir == d then (mpD ps d k).put (zqe (ps.getD k freeD).name) (.lit (.int .i64 (k : Int))) else mpD ps d k
theorem zsp (ps : List Den) (d : Int) : ∀ k, Maps.IsMap (mpD ps d k)
 | 0 => Maps.isMap_empty
 | k + 1 => by
  unfold mpD
  split
  ·exact (zsp ps d k).put _ _
  ·exact zsp ps d k
theorem zvd (s : ByteArray) : WideAt.IsKeyLit (zqe s) := by
 unfold zqe
 simp [WideAt.IsKeyLit]
theorem key_inj {s t : ByteArray} (h : zqe s = zqe t) : s = t := by
 unfold zqe at h
 injection h with h
 exact zkh h
theorem zhn {ps : List Den} {k : Nat} (h : k < ps.length) : ps.getD k freeD = ps[k] := by
 rw [List.getD_eq_getElem?_getD, List.getElem?_eq_getElem h]; rfl
theorem zol {s t : ByteArray} : (s.toList == t.toList) = true ↔ s = t := by
 rw [beq_iff_eq, ByteArray.toList_eq, ByteArray.toList_eq]
 exact ⟨zkh, fun h => by rw [h]⟩
theorem zgt {d : Int} {nm : ByteArray} {x : Den} : zbv d nm x = true ↔ 0 ≤ x.child ∧ x.dir = d ∧ x.name = nm := by
 unfold zbv
 rw [Bool.and_eq_true, Bool.and_eq_true, decide_eq_true_eq, beq_iff_eq, zol]
theorem ztd {ws : List Ino} {ps : List Den} (h : zax ws ps = true) {d : Int} {nm : ByteArray} {i j : Nat} (hi : i < ps.length) (hj : j < ps.length) (ei : zbv d nm ps[i] = true) (ej : zbv d nm ps[j] = true) : i = j := by
 obtain ⟨_, _, _, _, he, _, _⟩ := zao h
 have he := (of_decide_eq_true he : ∀ i (h : i < ps.length), zcm ws ps i ps[i] = true)
 have one : ∀ {i j : Nat} (hi : i < ps.length) (hj : j < ps.length), zbv d nm ps[i] = true → zbv d nm ps[j] = true → ¬ i < j := by
  intro i j hi hj ei ej lt
  obtain ⟨a1, a2, a3⟩ := zgt.1 ei
  obtain ⟨b1, b2, b3⟩ := zgt.1 ej
  have e := he j hj
  unfold zcm at e
  rw [if_neg (by omega)] at e
  simp only [Bool.and_eq_true, List.all_eq_true] at e
  have q := e.2.2.2.2.2 ps[i] (by
   rw [List.mem_take_iff_getElem]
   exact ⟨i, by omega, rfl⟩)
  unfold zdh at q
  rw [a2, a3, b2, b3, decide_eq_true a1] at q
  simp at q
 have q1 := one hi hj ei ej
 have q2 := one hj hi ej ei
 omega
theorem mp_none {ps : List Den} {d : Int} {nm : ByteArray} : ∀ (k : Nat), k ≤ ps.length → (∀ j (h : j < ps.length), j < k → zbv d nm ps[j] = false) → Maps.has (mpD ps d k) (zqe nm) = false
 | 0, _, _ => rfl
 | k + 1, hk, h => by
  have ih := mp_none k (by omega) (fun j hj a => h j hj (by omega))
  unfold mpD
  split
  ·rename_i c
   rw [Bool.and_eq_true, decide_eq_true_eq, beq_iff_eq, zba (by omega), zhn (by omega)] at c
   rw [zhn (by omega), Maps.has_put_other]
   ·exact ih
   ·intro e
    have := h k (by omega) (by omega)
    rw [zgt.2 ⟨c.1, c.2, (key_inj e).symm⟩] at this
    cases this
  ·exact ih
theorem mp_some {ps : List Den} {d : Int} {nm : ByteArray} {j : Nat} (hj : j < ps.length) (e : zbv d nm ps[j] = true) (once : ∀ i (h : i < ps.length), zbv d nm ps[i] = true → i = j) (z : DataW Unit) : ∀ (k : Nat), k ≤ ps.length → j < k → Maps.has (mpD ps d k) (zqe nm) = true ∧ (mpD ps d k).atKey (zqe nm) z = .lit (.int .i64 (j : Int))
 | 0, _, h => absurd h (by omega)
 | k + 1, hk, h => by
  by_cases q : j = k
  ·subst q
   obtain ⟨a1, a2, a3⟩ := zgt.1 e
   unfold mpD
   rw [if_pos (by rw [Bool.and_eq_true, decide_eq_true_eq, beq_iff_eq, zba hj, zhn hj]; exact ⟨a1, a2⟩), zhn hj, a3]
   exact ⟨Maps.has_put_same (zsp ps d j) (zvd _) _, Maps.atKey_put_same (zsp ps d j) (zvd _) _ _⟩
  ·obtain ⟨i1, i2⟩ := mp_some hj e once z k (by omega) (by omega)
   unfold mpD
   split
   ·rename_i c
    rw [Bool.and_eq_true, decide_eq_true_eq, beq_iff_eq, zba (by omega), zhn (by omega)] at c
    have ne : zqe nm ≠ zqe ps[k].name := fun e => q (once k (by omega) (zgt.2 ⟨c.1, c.2, (key_inj e).symm⟩)).symm
    rw [zhn (by omega), Maps.has_put_other ne, Maps.atKey_put_other ne]
    exact ⟨i1, i2⟩
   ·exact ⟨i1, i2⟩
theorem mp_find {ws : List Ino} {ps : List Den} (h : zax ws ps = true) (d : Int) (nm : ByteArray) (z : DataW Unit) : (zbb ps d nm = none → Maps.has (mpD ps d ps.length) (zqe nm) = false) ∧ (∀ k, zbb ps d nm = some k → Maps.has (mpD ps d ps.length) (zqe nm) = true ∧ (mpD ps d ps.length).atKey (zqe nm) z = .lit (.int .i64 (k : Int))) := by
 constructor
 ·intro e
  unfold zbb at e
  rw [List.findIdx?_eq_none_iff] at e
  exact mp_none _ (Nat.le_refl _) (fun j hj _ => by have := e _ (List.getElem_mem hj); simpa using this)
 ·intro k e
  obtain ⟨hk, q⟩ := znb e
  exact mp_some hk q (fun i hi q' => ztd h hi hk q' q) z _ (Nat.le_refl _) hk
theorem size_pos {D : DataW Unit} {k : Lit} (h : Maps.has D k = true) : 0 < Maps.size D := by
 cases D with
 | map es =>
  rw [Maps.has_eq, List.any_eq_true] at h
  obtain ⟨x, hx, _⟩ := h
  rw [Maps.size_eq]
  exact List.length_pos_of_mem hx
 | _ => cases h
theorem mp_empty {ps : List Den} {d : Int} : ∀ (k : Nat), k ≤ ps.length → (∀ j (h : j < ps.length), ¬ (0 ≤ ps[j].child ∧ ps[j].dir = d)) → mpD ps d k = .map []
 | 0, _, _ => rfl
 | k + 1, hk, h => by
  unfold mpD
  rw [if_neg]
  ·exact mp_empty k (by omega) h
  ·rw [Bool.and_eq_true, decide_eq_true_eq, beq_iff_eq, zba (by omega), zhn (by omega)]
   exact h k (by omega)
theorem mp_size {ws : List Ino} {ps : List Den} (h : zax ws ps = true) (d : Int) : (zbg ps d = [] → Maps.size (mpD ps d ps.length) = 0) ∧ (¬ zbg ps d = [] → 0 < Maps.size (mpD ps d ps.length)) := by
 unfold zbg
 constructor
 ·intro e
  rw [List.map_eq_nil_iff, List.filter_eq_nil_iff] at e
  rw [mp_empty _ (Nat.le_refl _) (fun j hj q => by
   have := e _ (List.getElem_mem hj)
   rw [decide_eq_true_eq] at this
   omega)]
  rfl
 ·intro e
  obtain ⟨x, hx⟩ : ∃ x : Den, x ∈ ps.filter (fun y : Den => decide (¬ y.child < 0 ∧ y.dir = d)) := by
   apply List.exists_mem_of_ne_nil
   intro q
   rw [q] at e
   exact e rfl
  rw [List.mem_filter, decide_eq_true_eq] at hx
  obtain ⟨j, hj, rfl⟩ := List.getElem_of_mem hx.1
  have hit : zbv d ps[j].name ps[j] = true := zgt.2 ⟨by omega, hx.2.2, rfl⟩
  exact size_pos (mp_some hj hit (fun i hi q' => ztd h hi hj q' hit) (.map []) _ (Nat.le_refl _) hj).1
theorem file_empty {ws : List Ino} {ps : List Den} (h : zax ws ps = true) {d : Int} (k : ¬ zai ws d = 2) : zbg ps d = [] := by
 unfold zbg
 rw [List.map_eq_nil_iff, List.filter_eq_nil_iff]
 intro x hx
 obtain ⟨j, hj, rfl⟩ := List.getElem_of_mem hx
 rw [decide_eq_true_eq]
 rintro ⟨a, b⟩
 rcases zfb h j hj with q | q
 ·omega
 ·exact k (by rw [← b]; exact q.2.2.2.2)
theorem zrs {ws : List Ino} {ps : List Den} (h : zax ws ps = true) (j : Nat) (hj : j < ps.length) : (!ps[j].freeB) = decide (0 ≤ ps[j].child) := by
 obtain ⟨_, _, _, _, he, _, _⟩ := zao h
 have e := (of_decide_eq_true he : ∀ i (h : i < ps.length), zcm ws ps i ps[i] = true) j hj
 unfold zcm at e
 split at e
 ·rename_i c
  rw [e, decide_eq_false (by omega)]; rfl
 ·rename_i c
  simp only [Bool.and_eq_true, decide_eq_true_eq] at e
  rw [decide_eq_true (by omega)]
  unfold Den.freeB
  rw [show (ps[j].child == -1) = false by rw [beq_eq_false_iff_ne]; exact c, Bool.and_false, Bool.and_false]; rfl
end Go.Proofs.YtcilodgoognmnaaGreatDoor

namespace Go.Proofs.YtcilodgoognmnaaGreatDoor
open Go.RowKit
def zcf (ws : List Ino) (i : Nat) : Ino := ws.getD i zbf
def zey (ps : List Den) (k : Nat) : Den := ps.getD k freeD
theorem zcn {ws : List Ino} {i : Nat} (h : i < ws.length) : zcf ws i = ws[i] := by
 unfold zcf
 rw [List.getD_eq_getElem?_getD, List.getElem?_eq_getElem h]; rfl
theorem zgk {ps : List Den} {i : Nat} (h : i < ps.length) : zey ps i = ps[i] := by
 unfold zey
 rw [List.getD_eq_getElem?_getD, List.getElem?_eq_getElem h]; rfl
theorem zrh (ws : List Ino) (i : Nat) : zai ws (i : Int) = (zcf ws i).kind := by unfold zai zcf; rfl
theorem childAt_den {ps : List Den} {k : Nat} (h : k < ps.length) : zaj ps k = (zey ps k).child := by rw [zba h, zgk h]
theorem freeB_iff {x : Den} : x.freeB = true ↔ x = freeD := by
 unfold Den.freeB freeD
 simp only [Bool.and_eq_true, beq_iff_eq]
 constructor
 ·rintro ⟨h1, h2, h3⟩
  obtain ⟨d, n, c⟩ := x
  simp only at h1 h2 h3
  subst h1 h3
  have : n = ⟨#[]⟩ := by
   apply zkh
   have : n.data.toList.length = 0 := by simpa using h2
   rw [List.eq_nil_of_length_eq_zero this]
  rw [this]
 ·intro h
  rw [h]
  exact ⟨rfl, rfl, rfl⟩
def EntOK (ws : List Ino) (x : Den) : Prop := (1 ≤ x.child ∧ x.child ≤ 15) ∧ (0 ≤ x.dir ∧ x.dir ≤ 15) ∧ nmB x.name = true ∧ ¬ zai ws x.child = 0 ∧ zai ws x.dir = 2
def cntA (ps : List Den) (c : Int) : Nat := (ps.filter fun x => x.child == c).length
structure Img (ws : List Ino) (ps : List Den) : Prop where
 l16 : ws.length = 16
 l24 : ps.length = 24
 root : zai ws 0 = 2
 ok : ∀ i, i < 16 → zep (zcf ws i) = true
 ent : ∀ k, k < 24 → zey ps k = freeD ∨ EntOK ws (zey ps k)
 once : ∀ j k, j < 24 → k < 24 → 0 ≤ (zey ps j).child → 0 ≤ (zey ps k).child → (zey ps j).dir = (zey ps k).dir → (zey ps j).name = (zey ps k).name → j = k
 links : ∀ i : Nat, i < 16 → (if i = 0 then 1 else 0) + (cntA ps (i : Int) : Int) = (zcf ws i).links
 hang : ∀ i : Nat, i < 16 → (zcf ws i).kind = 2 → zct ps 16 (i : Int) = true
 sing : (zam ws).Pairwise fun x y => x ≠ y
theorem zrf {ws : List Ino} (l16 : ws.length = 16) (ok : ∀ i, i < 16 → zep (zcf ws i) = true) : ∀ e ∈ zam ws, 0 ≤ e ∧ (e % 4 = 1 ∨ e % 4 = 2) := by
 apply zpz
 intro i hi
 have := ok i (by omega)
 rw [zcn hi] at this
 exact (zie this).1
theorem zca {ws : List Ino} {ps : List Den} : zax ws ps = true ↔ Img ws ps := by
 constructor
 ·intro h
  obtain ⟨l1, l2, r, o, e, l, s⟩ := zao h
  have o' := (of_decide_eq_true o : ∀ k (h : k < ws.length), zep ws[k] = true)
  have e' := (of_decide_eq_true e : ∀ i (h : i < ps.length), zcm ws ps i ps[i] = true)
  have l' := (of_decide_eq_true l : ∀ i (h : i < ws.length), zgh ps i ws[i] = true)
  have ok : ∀ i, i < 16 → zep (zcf ws i) = true := fun i hi => by rw [zcn (by omega)]; exact o' i (by omega)
  refine ⟨l1, l2, r, ok, ?_, ?_, ?_, ?_, ?_⟩
  ·intro k hk
   rw [zgk (by omega)]
   have q := e' k (by omega)
   unfold zcm at q
   split at q
   ·exact .inl (freeB_iff.1 q)
   ·right
    rcases zfb h k (by omega) with a | a
    ·rename_i c; exact absurd a.1 c
    ·exact a
  ·intro j k hj hk cj ck hd hn
   refine ztd h (d := (zey ps j).dir) (nm := (zey ps j).name) (i := j) (j := k) (by omega) (by omega) ?_ ?_
   ·rw [zgk (by omega)] at cj ⊢
    exact zgt.2 ⟨cj, rfl, rfl⟩
   ·rw [zgk (i := k) (by omega)] at ck hd hn
    exact zgt.2 ⟨ck, hd.symm, hn.symm⟩
  ·intro i hi
   have q := l' i (by omega)
   unfold zgh zmh at q
   simp only [Bool.and_eq_true, decide_eq_true_eq] at q
   rw [zcn (by omega), ← q.1, List.take_length]
   rfl
  ·intro i hi hk
   rw [zcn (by omega)] at hk
   have q := l' i (by omega)
   unfold zgh at q
   simp only [Bool.and_eq_true, Bool.or_eq_true, decide_eq_true_eq] at q
   rcases q.2 with q | q
   ·exact absurd hk q
   ·exact q
  ·unfold zju at s
   rw [zpy (fun e he => (zrf l1 ok e he).2), zgc] at s
   exact s
 ·rintro ⟨l1, l2, r, o, e, c, l, g, s⟩
  unfold zax
  have hs : zju ws = true := by
   unfold zju
   rw [zpy (fun e he => (zrf l1 o e he).2), zgc]
   exact s
  have ho : zve ws = true := decide_eq_true fun k hk => by rw [← zcn hk]; exact o k (by omega)
  have hl : zfq ws ps = true := decide_eq_true fun i hi => by
   unfold zgh zmh
   rw [List.take_length, ← zcn hi]
   simp only [Bool.and_eq_true, Bool.or_eq_true, decide_eq_true_eq]
   refine ⟨l i (by omega), ?_⟩
   by_cases q : (zcf ws i).kind = 2
   ·exact .inr (g i (by omega) q)
   ·exact .inl q
  have he : zio ws ps = true := decide_eq_true fun i hi => by
   unfold zcm
   rw [← zgk hi]
   rcases e i (by omega) with q | q
   ·rw [q]
    rfl
   ·obtain ⟨q1, q2, q3, q4, q5⟩ := q
    rw [if_neg (by omega), decide_eq_true q1, decide_eq_true q2, q3, q5]
    simp only [Bool.true_and, Bool.and_eq_true, Bool.not_eq_true', beq_eq_false_iff_ne, List.all_eq_true]
    refine ⟨q4, by decide, ?_⟩
    intro y hy
    obtain ⟨j, hj, rfl⟩ := List.mem_take_iff_getElem.1 hy
    have hj := Nat.lt_min.1 hj
    have hc : zdh ps[j] (zey ps i) = false := by
     rw [Bool.eq_false_iff]
     intro hc
     unfold zdh at hc
     rw [Bool.and_eq_true, Bool.and_eq_true, decide_eq_true_eq, beq_iff_eq, zol] at hc
     rw [← zgk hj.2] at hc
     have := c j i (by omega) (by omega) hc.1 (by omega) hc.2.1 hc.2.2
     omega
    rw [hc]
  rw [decide_eq_true l1, decide_eq_true l2, r, ho, he, hl, hs]
  rfl
end Go.Proofs.YtcilodgoognmnaaGreatDoor

namespace Go.Proofs.YtcilodgoognmnaaGreatDoor
open Go.RowKit
theorem zga {x : Ino} (h : zep x = true) : (0 ≤ x.kind ∧ x.kind ≤ 2) ∧ (0 ≤ x.size ∧ x.size ≤ 8) ∧ (0 ≤ x.links ∧ x.links ≤ 24) ∧ mapB x.map x.size = true ∧ zjq x = true := by
 unfold zep at h
 simp only [Bool.and_eq_true, decide_eq_true_eq] at h
 exact h
end Go.Proofs.YtcilodgoognmnaaGreatDoor

namespace Go.Proofs.YtcilodgoognmnaaGreatDoor
open Go.RowKit
set_option maxHeartbeats 2000000 in
theorem zsz (va vb : Value) (ps : List St) (w : World) (ha : RdS w va ps) (hb : RdS w vb ps) (hn : ps.length ≤ 2147483648) :
  Calls Tryz.prog 103 #[va, vb] w fun e w' => e = .returned (.bool true) ∧ Below w.heap.size w w' := by
 obtain ⟨ao, cap, rfl, hcap, hc⟩ := ha.shape
 obtain ⟨ao2, cap2, rfl, hcap2, hc2⟩ := hb.shape
 clear ha hb
 go_enter Tryz.func103, Tryz.ntmps103
 go_wp2
 go_loopw [5] (fun i wr => ∃ k : Nat, k ≤ ps.length ∧ i = .int .i64 k ∧ Below w.heap.size w wr) (fun i _ => ps.length - (intOf i).toNat)
 case atStart => exact ⟨0, by omega, rfl, Below.refl _ _⟩
 case round =>
  obtain ⟨k, hk, rfl, hbw⟩ := hrel
  by_cases hlt : k < ps.length
  ·obtain ⟨b, o, rfl, hbl, hcell⟩ := hc (by omega)
   obtain ⟨b2, o2, rfl, hbl2, hcell2⟩ := hc2 (by omega)
   obtain ⟨c0, c1, c2⟩ := hcell k hlt
   obtain ⟨c3, c4, c5⟩ := hcell2 k hlt
   have d0 := (hbw.cell (p := ⟨b, o + k * 3, none⟩) hbl).trans c0
   have d1 := (hbw.cell (p := ⟨b, o + k * 3 + 1, none⟩) hbl).trans c1
   have d2 := (hbw.cell (p := ⟨b, o + k * 3 + 2, none⟩) hbl).trans c2
   have d3 := (hbw.cell (p := ⟨b2, o2 + k * 3, none⟩) hbl2).trans c3
   have d4 := (hbw.cell (p := ⟨b2, o2 + k * 3 + 1, none⟩) hbl2).trans c4
   have d5 := (hbw.cell (p := ⟨b2, o2 + k * 3 + 2, none⟩) hbl2).trans c5
   have hlt' : (k : Int) < (ps.length : Int) := by omega
   have hge : (0 : Int) ≤ (k : Int) := by omega
   have hz := hbw.size
   clear hcell hcell2 hc hc2 c0 c1 c2 c3 c4 c5
   go_wp2_with fail
   go_region_with (go_at_call 167; refine (zum _ _ _ _).mono ?_; rintro e w1 ⟨rfl, hb1⟩)
   all_goals
    go_wp2
    go_roundw
    case rel => exact ⟨k + 1, by omega, by go_num, hbw.trans (Below.mono (Below.trans ((Below.refl _ _).drew) ‹_›) hz)⟩
    case measure => simp [intOf]; omega
  ·go_wp2
   go_ret
   exact ⟨rfl, hbw⟩
def markS (k : Int) (i : Nat) : St := ⟨k + 3 * (i : Int), k + 3 * (i : Int) + 1, (k + 3 * (i : Int) + 1 + 1) % 3 == 0⟩
def zfu (k : Int) (n : Nat) : List St := (List.range n).map (markS k)
theorem zfr (k : Int) (n : Nat) : (zfu k n).length = n := by simp [zfu]
theorem marksS_at (k : Int) (n i : Nat) (h : i < (zfu k n).length) : (zfu k n)[i] = markS k i := by simp [zfu]
def IsSts (xs : List Value) (n : Nat) : Prop := ∀ k, k < n → ∃ a b c, xs[k * 3]? = some (.int .i64 a) ∧ xs[k * 3 + 1]? = some (.int .i64 b) ∧ xs[k * 3 + 2]? = some (.bool c)
theorem isSts (ps : List St) : IsSts (sts ps) ps.length := fun k hk => ⟨_, _, _, ztn ps k hk, zry ps k hk, ztv ps k hk⟩
theorem IsSts.put3 {ys : List Value} {n : Nat} (h : IsSts ys n) (hl : ys.length = n * 3) (k : Nat) (a b : Int) (c : Bool) : IsSts (put3 ys k (.int .i64 a) (.int .i64 b) (.bool c)) n := by
 intro j hj
 rw [zhy (by omega), zhy (by omega), zhy (by omega)]
 by_cases e : j = k
 ·subst e
  exact ⟨a, b, c, by simp, by simp, by simp⟩
 ·obtain ⟨x, y, z, h0, h1, h2⟩ := h j hj
  refine ⟨x, y, z, ?_, ?_, ?_⟩
  ·rw [if_neg (by omega), if_neg (by omega), if_neg (by omega)]; exact h0
  ·rw [if_neg (by omega), if_neg (by omega), if_neg (by omega)]; exact h1
  ·rw [if_neg (by omega), if_neg (by omega), if_neg (by omega)]; exact h2
set_option maxHeartbeats 2000000 in
theorem zqc (v : Value) (n : Nat) (xs : List Value) (k0 : Int) (lo hi : Nat) (w : World) (h : Row w 197 3 lo hi v n xs) (hx : IsSts xs n) (hn : n ≤ 2147483648) (h0 : 0 ≤ k0) (h1 : k0 ≤ 1099511627776) :
  Calls Tryz.prog 122 #[v, .int .i64 k0] w fun e w' => e = .returned (.int .i64 (k0 + 3 * n)) ∧ Row w' 197 3 lo hi v n (sts (zfu k0 n)) ∧ w.grownBy w' v.ownBlock ∧ w'.heap.size = w.heap.size := by
 obtain ⟨hlen, ao, cap, rfl, hcap, hc⟩ := h.rd
 go_enter Tryz.func122, Tryz.ntmps122
 go_wp2
 go_loopw [1, 5] (fun c i wr => ∃ k : Nat, k ≤ n ∧ i = .int .i64 k ∧ c = .int .i64 (k0 + 3 * k) ∧ (∃ ys : List Value, Row wr 197 3 lo hi (.slice ao n cap) n ys ∧ IsSts ys n ∧ ∀ j, j < k * 3 → ys[j]? = (sts (zfu k0 n))[j]?) ∧ w.grownBy wr (Value.slice ao n cap).ownBlock ∧ wr.heap.size = w.heap.size) (fun _ i _ => n - (intOf i).toNat)
 case atStart => exact ⟨0, by omega, rfl, by simp, ⟨xs, h, hx, fun j hj => absurd hj (by omega)⟩, World.grownBy.refl _ _, rfl⟩
 case round =>
  obtain ⟨k, hk, rfl, rfl, ⟨ys, hrow, hys, hd⟩, hout, hz⟩ := hrel
  clear h hx hc hlen
  by_cases hlt : k < n
  ·obtain ⟨hlen, ao', cap', e', _, hc⟩ := hrow.rd
   cases e'
   obtain ⟨b, o, rfl, hbl, _⟩ := hc (by omega)
   obtain ⟨rfl, hb1, hb2, _, hfr, hcl⟩ := hrow.at
   obtain ⟨x, y, z, q0, q1, q2⟩ := hys k hlt
   have f0 := hfr (k * 3)
   have f1 := hfr (k * 3 + 1)
   have f2 := hfr (k * 3 + 2)
   have e0 := (hcl (k * 3) (by omega)).trans q0
   have e1 := (hcl (k * 3 + 1) (by omega)).trans q1
   have e2 := (hcl (k * 3 + 2) (by omega)).trans q2
   have PH := zaa (hrow.put3 k (.int .i64 (k0 + 3 * k)) (.int .i64 (k0 + 3 * k + 1)) (.bool ((k0 + 3 * k + 1 + 1) % 3 == 0)))
   have OH := zaa (zbm (zbm (zbm hout (a := ⟨b, k * 3, none⟩) rfl (.int .i64 (k0 + 3 * k))) (a := ⟨b, k * 3 + 1, none⟩) rfl (.int .i64 (k0 + 3 * k + 1))) (a := ⟨b, k * 3 + 2, none⟩) rfl (.bool ((k0 + 3 * k + 1 + 1) % 3 == 0)))
   have IH := zaa (hys.put3 hlen k (k0 + 3 * k) (k0 + 3 * k + 1) ((k0 + 3 * k + 1 + 1) % 3 == 0))
   have DH : Hid (∀ j, j < (k + 1) * 3 → (put3 ys k (.int .i64 (k0 + 3 * k)) (.int .i64 (k0 + 3 * k + 1)) (.bool ((k0 + 3 * k + 1 + 1) % 3 == 0)))[j]? = (sts (zfu k0 n))[j]?) := by
    have hk' : k < (zfu k0 n).length := by rw [zfr]; exact hlt
    have := zuz (ps := zfu k0 n) hk' (by rw [zfr]; exact hlen) hd
    rw [marksS_at] at this
    exact this
   clear hrow hys hd hc hfr hcl q0 q1 q2
   go_wp2
   go_roundw
   case rel => exact ⟨k + 1, by omega, by go_num, by go_num, ⟨_, PH.out, IH.out, DH.out⟩, OH.out, by simp [hz]⟩
   case measure => simp [intOf]; omega
  ·have e : k = n := by omega
   subst e
   have hl := hrow.len
   have RH := zaa hrow
   have DH := zaa hd
   clear hrow hys hd
   go_wp2
   go_ret
   have e := sts_all (ps := zfu k0 k) (by rw [zfr]; exact hl) (by rw [zfr]; exact DH.out)
   exact ⟨rfl, e ▸ RH.out, hout, hz⟩
end Go.Proofs.YtcilodgoognmnaaGreatDoor

namespace Go.Proofs.YtcilodgoognmnaaGreatDoor
open Go.RowKit
def RdPm (w : World) (v : Value) (ws : List Int) (ps : List St) : Prop := ∃ vW vP, v = .agg #[vW, vP] ∧ RdI w vW ws ∧ RdS w vP ps
def RowPm (w : World) (lo hi : Nat) (v : Value) (ws : List Int) (ps : List St) : Prop := ∃ vW vP, v = .agg #[vW, vP] ∧ Row w 3 1 lo hi vW ws.length (zec ws) ∧ Row w 197 3 lo hi vP ps.length (sts ps)
theorem RowPm.rd {w : World} {lo hi : Nat} {v : Value} {ws : List Int} {ps : List St} (h : RowPm w lo hi v ws ps) : RdPm w v ws ps := by
 obtain ⟨vW, vP, rfl, h1, h2⟩ := h
 exact ⟨vW, vP, rfl, h1.rd, h2.rd⟩
theorem RdPm.below {w w' : World} {v : Value} {ws : List Int} {ps : List St} (h : RdPm w v ws ps) (hb : Below w.heap.size w w') : RdPm w' v ws ps := by
 obtain ⟨vW, vP, rfl, h1, h2⟩ := h
 exact ⟨vW, vP, rfl, Rd.below h1 hb, Rd.below h2 hb⟩
theorem RowPm.below {w w' : World} {lo hi : Nat} {v : Value} {ws : List Int} {ps : List St} (h : RowPm w lo hi v ws ps) {B : Nat} (hb : Below B w w') (hB : hi ≤ B) : RowPm w' lo hi v ws ps := by
 obtain ⟨vW, vP, rfl, h1, h2⟩ := h
 exact ⟨vW, vP, rfl, h1.below hb hB, h2.below hb hB⟩
theorem RowPm.outside {w w' : World} {lo hi : Nat} {v : Value} {ws : List Int} {ps : List St} (h : RowPm w lo hi v ws ps) {lo' hi' : Nat} (ho : Outside lo' hi' w w') (hd : hi ≤ lo' ∨ hi' ≤ lo) (hz : hi ≤ w.heap.size) : RowPm w' lo hi v ws ps := by
 obtain ⟨vW, vP, rfl, h1, h2⟩ := h
 exact ⟨vW, vP, rfl, h1.outside ho hd hz, h2.outside ho hd hz⟩
theorem RowPm.wide {w : World} {lo hi : Nat} {v : Value} {ws : List Int} {ps : List St} (h : RowPm w lo hi v ws ps) {lo' hi' : Nat} (h1 : lo' ≤ lo) (h2 : hi ≤ hi') : RowPm w lo' hi' v ws ps := by
 obtain ⟨vW, vP, rfl, a, b⟩ := h
 exact ⟨vW, vP, rfl, a.wide h1 h2, b.wide h1 h2⟩
set_option maxHeartbeats 2000000 in
theorem toPm_any (v : Value) (ws : List Int) (ps : List St) (w : World) (h : RdPm w v ws ps) (hw : ws.length ≤ 1048576) (hp : ps.length ≤ 1048576) :
  Calls Tryz.prog 44 #[v] w fun e w' => ∃ v', e = .returned v' ∧ RowPm w' w.heap.size w'.heap.size v' ws ps ∧ Below w.heap.size w w' := by
 obtain ⟨vW, vP, rfl, h1, h2⟩ := h
 have H1 := zaa h1
 have H2 := zaa h2
 obtain ⟨aW, cW, eW, _⟩ := h1.shape
 obtain ⟨aP, cP, eP, _⟩ := h2.shape
 clear h1 h2
 subst eW eP
 go_enter Tryz.func44, Tryz.ntmps44
 go_wp2_with fail
 have hb0 : Below w.heap.size w (((w.alloc (.cells #[.slice aW ws.length cW, .slice aP ps.length cP] 25)).alloc (.cells #[.slice none 0 0, .slice none 0 0] 36)).alloc (.cells #[.slice none 0 0, .slice none 0 0] 36)) := by
  repeat (refine Below.alloc ?_ (by simp <;> omega) _)
  exact Below.refl _ _
 refine (zre _ ws _ (Rd.below H1.out hb0) hw).mono ?_
 rintro e w1 ⟨v1, rfl, hr1, hb1⟩
 obtain ⟨_, a1, c1, rfl, _⟩ := hr1.rd
 have hz1 : w.heap.size + 3 ≤ w1.heap.size := by have := hb1.size; simp at this; omega
 have V0 := (hb1.block w.heap.size (by simp <;> omega)).trans (zau (zau (zah rfl)))
 have V1 := (hb1.block (w.heap.size + 1) (by simp <;> omega)).trans (zau (zah (by simp)))
 have V2 := (hb1.block (w.heap.size + 1 + 1) (by simp <;> omega)).trans (zah (by simp))
 have B1 := zaa (hb0.trans (hb1.mono (by simp <;> omega)))
 have R1 := zaa hr1
 obtain ⟨x1, x2, _, _⟩ := zac V0
 obtain ⟨y1, y2, y3, y4⟩ := zac V2
 have V2' := ztk V2 (.slice a1 ws.length c1)
 have V1' := (Below.heap_setCell w1 ⟨w.heap.size + 1 + 1, 0, none⟩ (.slice a1 ws.length c1) (w.heap.size + 1) (by simp)).trans V1
 have VH := zaa (And.intro V1' V2')
 clear hb0 hb1 hr1 V0 V1 V2 V1' V2'
 go_wp2_with fail
 have hb2 := B1.out.setCell (p := ⟨w.heap.size + 1 + 1, 0, none⟩) (by simp; omega) (.slice a1 ws.length c1)
 refine (zvu _ ps _ (Rd.below H2.out hb2) hp).mono ?_
 rintro e w2 ⟨v2, rfl, hr2, hb3⟩
 obtain ⟨_, a2, c2, rfl, _⟩ := hr2.rd
 have hz2 : w1.heap.size ≤ w2.heap.size := by have := hb3.size; simpa using this
 have V1 := (hb3.block _ (by simp; omega)).trans VH.out.1
 have V2 := (hb3.block _ (by simp; omega)).trans VH.out.2
 have B2 := zaa (hb2.trans (hb3.mono (by simp; omega)))
 have K2 := zaa hb3
 have R2 := zaa hr2
 clear hb2 hb3 hr2
 obtain ⟨z1, z2, z3, z4⟩ := zac V2
 obtain ⟨t1, t2, t3, t4⟩ := zac V1
 clear V1 V2
 go_wp2
 refine bodyPost_ret (v := .agg #[.slice a1 ws.length c1, .slice a2 ps.length c2]) (by simp [results, Tryz.results44, go_sem, t1, t2]) rfl ?_
 refine ⟨_, rfl, ⟨_, _, rfl, (R1.out.same fun b h1 h2 => ?_).wide (by simp; omega) (by simp; omega), (R2.out.same fun b h1 h2 => ?_).wide (by simp; omega) (by simp)⟩, ?_⟩
 ·simp only [World.size_alloc] at h1
  rw [Below.heap_setCell _ _ _ _ (by simp only; omega), Below.heap_setCell _ _ _ _ (by simp only; omega), Below.heap_setCell _ _ _ _ (by simp only; omega), K2.out.block b (by simp; omega), Below.heap_setCell _ _ _ _ (by simp only; omega)]
 ·simp at h1
  rw [Below.heap_setCell _ _ _ _ (by simp only; omega), Below.heap_setCell _ _ _ _ (by simp only; omega), Below.heap_setCell _ _ _ _ (by simp only; omega)]
 ·exact ((B2.out.setCell (by simp only; omega) _).setCell (by simp only; omega) _).setCell (by simp only; omega) _
end Go.Proofs.YtcilodgoognmnaaGreatDoor

namespace Go.Proofs.YtcilodgoognmnaaGreatDoor
open Go.RowKit
set_option maxHeartbeats 2000000 in
theorem eqPm_same (va vb : Value) (ws : List Int) (ps : List St) (w : World) (ha : RdPm w va ws ps) (hb : RdPm w vb ws ps) (hw : ws.length ≤ 2147483648) (hp : ps.length ≤ 2147483648) :
  Calls Tryz.prog 50 #[va, vb] w fun e w' => e = .returned (.bool true) ∧ Below w.heap.size w w' := by
 obtain ⟨vW, vP, rfl, h1, h2⟩ := ha
 obtain ⟨uW, uP, rfl, h3, h4⟩ := hb
 obtain ⟨aW, cW, rfl, _⟩ := h1.shape
 obtain ⟨aP, cP, rfl, _⟩ := h2.shape
 obtain ⟨bW, dW, rfl, _⟩ := h3.shape
 obtain ⟨bP, dP, rfl, _⟩ := h4.shape
 have H1 := zaa h1
 have H2 := zaa h2
 have H3 := zaa h3
 have H4 := zaa h4
 clear h1 h2 h3 h4
 go_enter Tryz.func50, Tryz.ntmps50
 go_wp2_with fail
 have hb0 : Below w.heap.size w ((w.alloc (.cells #[.slice aW ws.length cW, .slice aP ps.length cP] 36)).alloc (.cells #[.slice bW ws.length dW, .slice bP ps.length dP] 36)) := by
  repeat (refine Below.alloc ?_ (by simp <;> omega) _)
  exact Below.refl _ _
 refine (zpa _ _ ws _ (Rd.below H1.out hb0) (Rd.below H3.out hb0) hw).mono ?_
 rintro e w1 ⟨rfl, hb1⟩
 have hz1 : w.heap.size + 2 ≤ w1.heap.size := by have := hb1.size; simp at this; omega
 have V0 := (hb1.block w.heap.size (by simp <;> omega)).trans (zau (zah rfl))
 have V1 := (hb1.block (w.heap.size + 1) (by simp <;> omega)).trans (zah (by simp))
 have B1 := hb0.trans (hb1.mono (by simp <;> omega))
 obtain ⟨x1, x2, _, _⟩ := zac V0
 obtain ⟨y1, y2, _, _⟩ := zac V1
 clear hb0 hb1 V0 V1
 go_wp2_with fail
 refine (zsz _ _ ps _ (Rd.below H2.out B1) (Rd.below H4.out B1) hp).mono ?_
 rintro e w2 ⟨rfl, hb2⟩
 go_wp2
 go_ret
 exact ⟨rfl, B1.trans (hb2.mono (by omega))⟩
set_option maxHeartbeats 2000000 in
theorem markPm_any (v : Value) (ws : List Int) (ps : List St) (k0 : Int) (lo hi : Nat) (w : World) (h : RowPm w lo hi v ws ps) (hi1 : hi ≤ w.heap.size) (hw : ws.length ≤ 2147483648) (hp : ps.length ≤ 2147483648) (h0 : 0 ≤ k0) (h1 : k0 ≤ 1073741824) :
  Calls Tryz.prog 60 #[v, .int .i64 k0] w fun e w' => e = .returned (.int .i64 (k0 + ws.length + 3 * ps.length)) ∧ RowPm w' lo hi v (zmz k0 ws.length) (zfu (k0 + ws.length) ps.length) ∧ Outside lo hi w w' := by
 obtain ⟨vW, vP, rfl, h1, h2⟩ := h
 obtain ⟨_, aW, cW, rfl, _⟩ := h1.rd
 obtain ⟨_, aP, cP, rfl, _⟩ := h2.rd
 have H1 := zaa h1
 have H2 := zaa h2
 clear h1 h2
 go_enter Tryz.func60, Tryz.ntmps60
 go_wp2_with fail
 have hb0 : Below w.heap.size w (w.alloc (.cells #[.slice aW ws.length cW, .slice aP ps.length cP] 36)) := (Below.refl _ _).alloc (Nat.le_refl _) _
 refine (zmk _ _ (zec ws) k0 lo hi _ (H1.out.below hb0 hi1) (fun u hu => by simp only [zec, List.mem_map] at hu; obtain ⟨z, _, rfl⟩ := hu; exact ⟨z, rfl⟩) hw h0 (by omega)).mono ?_
 rintro e w1 ⟨rfl, hr1, hg1, hz1⟩
 simp only [World.size_alloc] at hz1
 have ho1 := Row.grown_outside H1.out hg1
 have V0 := (ho1.block w.heap.size (by simp) (.inr hi1)).trans (zah rfl)
 obtain ⟨x1, x2, _, _⟩ := zac V0
 have O1 := zaa ((Outside.of_below (lo := lo) (hi := hi) hb0).trans ho1)
 have R1 := zaa hr1
 have R2 := zaa ((H2.out.below hb0 hi1).apart (H1.out.below hb0 hi1) (by decide) hg1)
 clear hr1 hg1 ho1 V0
 go_wp2_with fail
 refine (zqc _ _ (sts ps) (k0 + ws.length) lo hi _ R2.out (isSts ps) hp (by omega) (by omega)).mono ?_
 rintro e w2 ⟨rfl, hr2, hg2, hz2⟩
 have O2 := zaa (O1.out.trans (Row.grown_outside R2.out hg2))
 have R3 := zaa (R1.out.apart R2.out (by decide) hg2)
 have R4 := zaa hr2
 clear hr2 hg2
 go_wp2
 go_ret
 refine ⟨rfl, ⟨_, _, rfl, ?_, ?_⟩, O2.out⟩
 ·rw [zhr]; exact R3.out
 ·rw [zfr]; exact R4.out
set_option maxHeartbeats 2000000 in
theorem ztf (aW aP : Option Addr) (n m cW cP : Nat) (w : World) (hn : n ≤ maxLen) (hm : m ≤ maxLen) :
  Calls Tryz.prog 40 #[.agg #[.slice aW n cW, .slice aP m cP], .int .i64 1048576] w fun e w' => e = .returned (.int .i64 (if 1048576 < n + m then -1 else 1048576 - n - m)) ∧ Below w.heap.size w w' := by
 have hb0 : Below w.heap.size w (w.alloc (.cells #[.slice aW n cW, .slice aP m cP] 25)) := (Below.refl _ _).alloc (Nat.le_refl _) _
 by_cases c1 : (1048576 : Int) < (n : Int)
 ·have e1 : zjf 1048576 n = -1 := by unfold zjf; rw [if_pos c1]
  have e2 : (if 1048576 < n + m then -1 else 1048576 - n - m : Int) = -1 := by rw [if_pos (by omega)]
  rw [e2]
  have E1 := zaa e1
  clear e1 e2
  go_enter Tryz.func40, Tryz.ntmps40
  go_wp2_with (go_at_call 86; refine (zek aW n cW _ _ hn (by omega) (by omega)).mono ?_; rw [E1.out]; rintro e w' ⟨rfl, rfl⟩)
  go_ret
  exact ⟨rfl, hb0⟩
 ·have e1 : zjf 1048576 n = 1048576 - n := by unfold zjf; rw [if_neg c1]
  have E1 := zaa e1
  clear e1
  by_cases c2 : (1048576 - n : Int) < (m : Int)
  ·have e2 : zjf (1048576 - n) m = -1 := by unfold zjf; rw [if_pos c2]
   have e3 : (if 1048576 < n + m then -1 else 1048576 - n - m : Int) = -1 := by rw [if_pos (by omega)]
   rw [e3]
   have E2 := zaa e2
   clear e2 e3
   go_enter Tryz.func40, Tryz.ntmps40
   go_wp2_with (first | (go_at_call 86; refine (zek aW n cW _ _ hn (by omega) (by omega)).mono ?_; rw [E1.out]; rintro e w' ⟨rfl, rfl⟩) | (go_at_call 87; refine (zmp aP m cP _ _ hm (by omega) (by omega)).mono ?_; rw [E2.out]; rintro e w' ⟨rfl, rfl⟩))
   go_ret
   exact ⟨rfl, hb0⟩
  ·have e2 : zjf (1048576 - n) m = 1048576 - n - m := by unfold zjf; rw [if_neg c2]
   have e3 : (if 1048576 < n + m then -1 else 1048576 - n - m : Int) = 1048576 - n - m := by rw [if_neg (by omega)]
   rw [e3]
   have E2 := zaa e2
   clear e2 e3
   go_enter Tryz.func40, Tryz.ntmps40
   go_wp2_with (first | (go_at_call 86; refine (zek aW n cW _ _ hn (by omega) (by omega)).mono ?_; rw [E1.out]; rintro e w' ⟨rfl, rfl⟩) | (go_at_call 87; refine (zmp aP m cP _ _ hm (by omega) (by omega)).mono ?_; rw [E2.out]; rintro e w' ⟨rfl, rfl⟩))
   go_ret
   exact ⟨rfl, hb0⟩
end Go.Proofs.YtcilodgoognmnaaGreatDoor

namespace Go.Proofs.YtcilodgoognmnaaGreatDoor
open Go.RowKit
def pmB (ws : List Int) (ps : List St) : Bool := decide (ws.length = 336 ∧ ps.length ≤ 400 ∧ (∀ k (h : k < ws.length), zbc ws[k] = true) ∧ ∀ k (h : k < ps.length), zbp ps[k].at_ = true ∧ zbc ps[k].val = true)
theorem pmB_mk {ws : List Int} {ps : List St} (h1 : ws.length = 336) (h2 : ps.length ≤ 400) (h3 : ∀ k (h : k < ws.length), zbc ws[k] = true) (h4 : ∀ k (h : k < ps.length), zbp ps[k].at_ = true ∧ zbc ps[k].val = true) : pmB ws ps = true := decide_eq_true ⟨h1, h2, h3, h4⟩
theorem zly {ws : List Int} {ps : List St} (h : pmB ws ps = true) : ws.length = 336 ∧ ps.length ≤ 400 := ⟨(of_decide_eq_true h).1, (of_decide_eq_true h).2.1⟩
theorem pmB_word {ws : List Int} {ps : List St} (h : pmB ws ps = true) (k : Nat) (hk : k < ws.length) : zbc ws[k] = true := (of_decide_eq_true h).2.2.1 k hk
theorem zwi {ws : List Int} {ps : List St} (h : pmB ws ps = true) (k : Nat) (hk : k < ps.length) : zbp ps[k].at_ = true ∧ zbc ps[k].val = true := (of_decide_eq_true h).2.2.2 k hk
theorem pmB_len1 {ws : List Int} {ps : List St} (h : ¬ ws.length = 336) : pmB ws ps = false := decide_eq_false (fun x => h x.1)
theorem pmB_len2 {ws : List Int} {ps : List St} (h : 400 < ps.length) : pmB ws ps = false := decide_eq_false (fun x => absurd x.2.1 (by omega))
theorem pmB_w {ws : List Int} {ps : List St} {k : Nat} (hk : k < ws.length) (h : zbc ws[k] = false) : pmB ws ps = false := decide_eq_false (fun x => by have := x.2.2.1 k hk; rw [h] at this; cases this)
theorem pmB_a {ws : List Int} {ps : List St} {k : Nat} (hk : k < ps.length) (h : zbp ps[k].at_ = false) : pmB ws ps = false := decide_eq_false (fun x => by have := (x.2.2.2 k hk).1; rw [h] at this; cases this)
theorem pmB_v {ws : List Int} {ps : List St} {k : Nat} (hk : k < ps.length) (h : zbc ps[k].val = false) : pmB ws ps = false := decide_eq_false (fun x => by have := (x.2.2.2 k hk).2; rw [h] at this; cases this)
set_option maxHeartbeats 4000000 in
theorem zhw (v : Value) (ws : List Int) (ps : List St) (w : World) (h : RdPm w v ws ps) (hw : ws.length ≤ 1048576) (hp : ps.length ≤ 1048576) :
  Calls Tryz.prog 148 #[v] w fun e w' => e = .returned (.bool (pmB ws ps)) ∧ Below w.heap.size w w' := by
 obtain ⟨vW, vP, rfl, h1, h2⟩ := h
 obtain ⟨aW, cW, rfl, _, hcW⟩ := h1.shape
 obtain ⟨aP, cP, rfl, _, hcP⟩ := h2.shape
 clear h1 h2
 have hb0 : Below w.heap.size w (w.alloc (.cells #[.slice aW ws.length cW, .slice aP ps.length cP] 36)) := (Below.refl _ _).alloc (Nat.le_refl _) _
 by_cases c1 : ws.length = 336
 case neg =>
  have E := zaa (pmB_len1 (ps := ps) c1)
  have c1' : ((ws.length : Int) != 336) = true := by simp; omega
  clear c1
  go_enter Tryz.func148, Tryz.ntmps148
  go_wp2
  go_ret
  exact ⟨zaf E.out.symm, hb0⟩
 have c1n : ((ws.length : Int) != 336) = false := by simp; omega
 have hpos : 0 < ws.length := by omega
 have C1 := zaa c1
 clear c1
 by_cases c2 : 400 < ps.length
 ·have E := zaa (pmB_len2 (ws := ws) c2)
  go_enter Tryz.func148, Tryz.ntmps148
  go_wp2
  go_ret
  exact ⟨zaf E.out.symm, hb0⟩
 obtain ⟨b, o, rfl, hbl, hcell⟩ := hcW hpos
 clear hcW hpos
 go_enter Tryz.func148, Tryz.ntmps148
 go_wp2
 go_loop [3] (fun i => ∃ k : Nat, k ≤ ws.length ∧ i = .int .i64 k ∧ Hid (∀ j (h : j < ws.length), j < k → zbc ws[j] = true)) (fun i => ws.length - (intOf i).toNat)
 case atStart => exact ⟨0, by omega, rfl, fun j h a => absurd a (by omega)⟩
 case round =>
  obtain ⟨k, hk, rfl, H⟩ := hrel
  by_cases hlt : k < ws.length
  ·have hck := (hb0.cell (p := ⟨b, o + k, none⟩) hbl).trans (hcell k hlt)
   clear hcell hcP
   by_cases q : zbc ws[k] = true
   ·go_wp2_with (go_at_call 105; refine (zbu _ _).mono ?_; rintro e w' ⟨rfl, rfl⟩)
    go_round
    case rel =>
     refine ⟨k + 1, by omega, by go_num, fun j h a => ?_⟩
     by_cases e : j = k
     ·subst e; exact q
     ·exact H.out j h (by omega)
    case measure => simp [intOf]; omega
   ·have q' : zbc ws[k] = false := by simpa using q
    have E := zaa (pmB_w (ps := ps) hlt q')
    go_wp2_with (go_at_call 105; refine (zbu _ _).mono ?_; rintro e w' ⟨rfl, rfl⟩)
    go_ret
    exact ⟨zaf E.out.symm, hb0⟩
  ·have HW := zaa (fun j (h : j < ws.length) => H.out j h (by omega))
   clear H hcell
   go_wp2
   go_loop [4] (fun i => ∃ k : Nat, k ≤ ps.length ∧ i = .int .i64 k ∧ Hid (∀ j (h : j < ps.length), j < k → zbp ps[j].at_ = true ∧ zbc ps[j].val = true)) (fun i => ps.length - (intOf i).toNat)
   case atStart => exact ⟨0, by omega, rfl, fun j h a => absurd a (by omega)⟩
   case round =>
    obtain ⟨m, hm, rfl, H⟩ := hrel
    by_cases hlt2 : m < ps.length
    ·obtain ⟨b2, o2, rfl, hbl2, hcell2⟩ := hcP (by omega)
     obtain ⟨d0, d1, _⟩ := hcell2 m hlt2
     have e0 := (hb0.cell (p := ⟨b2, o2 + m * 3, none⟩) hbl2).trans d0
     have e1 := (hb0.cell (p := ⟨b2, o2 + m * 3 + 1, none⟩) hbl2).trans d1
     clear d0 d1 hcell2 hcP
     by_cases q : zbp ps[m].at_ = true
     ·by_cases q2 : zbc ps[m].val = true
      ·go_wp2_with (first | (go_at_call 91; refine (zfg _ _).mono ?_; rintro e w' ⟨rfl, rfl⟩) | (go_at_call 105; refine (zbu _ _).mono ?_; rintro e w' ⟨rfl, rfl⟩))
       go_round
       case rel =>
        refine ⟨m + 1, by omega, by go_num, fun j h a => ?_⟩
        by_cases e : j = m
        ·subst e; exact ⟨q, q2⟩
        ·exact H.out j h (by omega)
       case measure => simp [intOf]; omega
      ·have q2' : zbc ps[m].val = false := by simpa using q2
       have E := zaa (pmB_v (ws := ws) hlt2 q2')
       go_wp2_with (first | (go_at_call 91; refine (zfg _ _).mono ?_; rintro e w' ⟨rfl, rfl⟩) | (go_at_call 105; refine (zbu _ _).mono ?_; rintro e w' ⟨rfl, rfl⟩))
       go_ret
       exact ⟨zaf E.out.symm, hb0⟩
     ·have q' : zbp ps[m].at_ = false := by simpa using q
      have E := zaa (pmB_a (ws := ws) hlt2 q')
      go_wp2_with (first | (go_at_call 91; refine (zfg _ _).mono ?_; rintro e w' ⟨rfl, rfl⟩) | (go_at_call 105; refine (zbu _ _).mono ?_; rintro e w' ⟨rfl, rfl⟩))
      go_ret
      exact ⟨zaf E.out.symm, hb0⟩
    ·have E := zaa (pmB_mk C1.out (by omega) HW.out (fun j h => H.out j h (by omega)))
     go_wp2
     go_ret
     exact ⟨zaf E.out.symm, hb0⟩
end Go.Proofs.YtcilodgoognmnaaGreatDoor
