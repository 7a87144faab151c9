/- Several texts laid together: PlA, IgA, IgB, IgC, IgD, StoreT. -/
import Derived.Test.YtcilodgoognmnaaGreatDoorZAN
import Derived.Test.YtcilodgoognmnaaGreatDoorZAP
import Derived.Test.YtcilodgoognmnaaGreatDoorStN
import Derived.Test.YtcilodgoognmnaaGreatDoorZAM
import Derived.Maps.Views
import Derived.Test.YtcilodgoognmnaaGreatDoorZAL
import Derived.Test.YtcilodgoognmnaaGreatDoorZAD
import Derived.Deep.RegionWith
namespace Go.Proofs.YtcilodgoognmnaaGreatDoor
open Go.RowKit

/-- The entry of no name. -/
def freeD : Den := ⟨0, ⟨#[]⟩, -1⟩
/-- The first free inode, the first free entry; -1 without one. -/
def fiI (ws : List Ino) : Int := firstIx (fun i => decide (1 ≤ i) && kindAt ws (i : Int) == 0) ws.length
def feI (ps : List Den) : Int := firstIx (fun i => decide (childAt ps i < 0)) ps.length
/-- Of an inode the links. -/
def linkAt (ws : List Ino) (z : Int) : Int := (ws.getD z.toNat ⟨0, 0, 0, 0, 0, 0, 0, 0, 0, 0, 0⟩).links
theorem linkAt_of {ws : List Ino} {i : Nat} (h : i < ws.length) : linkAt ws (i : Int) = ws[i].links := by
  unfold linkAt
  rw [Int.toNat_natCast, List.getD_eq_getElem?_getD, List.getElem?_eq_getElem h]; rfl
/-- What the plans answer: updates and a code. -/
def mkU (i k : Int) (kind : Int) (d : Int) (nm : ByteArray) : List Se := [⟨48 + 12 * i, kind⟩, ⟨48 + 12 * i + 2, 1⟩] ++ enL k ⟨d, nm, i⟩
def mkN (ws : List Ino) (ps : List Den) (kind d : Int) (nm : ByteArray) : List Se × Int := if 0 ≤ entI ps d nm then ([], 8) else if fiI ws < 0 then ([], 7) else if feI ps < 0 then ([], 7) else (mkU (fiI ws) (feI ps) kind d nm, 0)
def mkI (ws : List Ino) (ps : List Den) (s : ByteArray) (kind : Int) : List Se × Int := if (paI ws ps s).2.2 = 0 then mkN ws ps kind (paI ws ps s).1 (paI ws ps s).2.1 else ([], (paI ws ps s).2.2)
def mkR (ws : List Ino) (ps : List Den) (s : ByteArray) (kind : Int) : List Se × Int := if 65536 < s.size then ([], 2) else if imgB ws ps = true then (if 1 ≤ kind ∧ kind ≤ 2 then mkI ws ps s kind else ([], 4)) else ([], 1)
def rmU (k i l : Int) : List Se := enL k freeD ++ (if 1 < l then [⟨48 + 12 * i + 2, l - 1⟩] else wrL i zeroN 8)
def rmC (ws : List Ino) (ps : List Den) (k : Nat) : List Se × Int := if kindAt ws (childAt ps k) = 2 ∧ ¬ namesD ps (childAt ps k) = [] then ([], 11) else (rmU (k : Int) (childAt ps k) (linkAt ws (childAt ps k)), 0)
def rmN (ws : List Ino) (ps : List Den) (d : Int) (nm : ByteArray) : List Se × Int := match entAt ps d nm with | none => ([], 5) | some k => rmC ws ps k
def rmI (ws : List Ino) (ps : List Den) (s : ByteArray) : List Se × Int := if (paI ws ps s).2.2 = 0 then rmN ws ps (paI ws ps s).1 (paI ws ps s).2.1 else ([], (paI ws ps s).2.2)
def rmR (ws : List Ino) (ps : List Den) (s : ByteArray) : List Se × Int := if 65536 < s.size then ([], 2) else if imgB ws ps = true then rmI ws ps s else ([], 1)
def lnN (ws : List Ino) (ps : List Den) (i d : Int) (nm : ByteArray) : List Se × Int := if 0 ≤ entI ps d nm then ([], 8) else if feI ps < 0 then ([], 7) else (enL (feI ps) ⟨d, nm, i⟩ ++ [⟨48 + 12 * i + 2, linkAt ws i + 1⟩], 0)
def lnP (ws : List Ino) (ps : List Den) (t : ByteArray) (i : Int) : List Se × Int := if (paI ws ps t).2.2 = 0 then lnN ws ps i (paI ws ps t).1 (paI ws ps t).2.1 else ([], (paI ws ps t).2.2)
def lnI (ws : List Ino) (ps : List Den) (s t : ByteArray) : List Se × Int := if (lkI ws ps s).2 = 0 then (if kindAt ws (lkI ws ps s).1 = 2 then ([], 9) else lnP ws ps t (lkI ws ps s).1) else ([], (lkI ws ps s).2)
def lnR (ws : List Ino) (ps : List Den) (s t : ByteArray) : List Se × Int := if 65536 < s.size then ([], 2) else if 65536 < t.size then ([], 2) else if imgB ws ps = true then lnI ws ps s t else ([], 1)
def rnN (ws : List Ino) (ps : List Den) (k : Nat) (d : Int) (nm : ByteArray) : List Se × Int := if 0 ≤ entI ps d nm then ([], 8) else if kindAt ws (childAt ps k) = 2 ∧ benN ps 17 d (childAt ps k) = true then ([], 13) else (enL (k : Int) ⟨d, nm, childAt ps k⟩, 0)
def rnP (ws : List Ino) (ps : List Den) (t : ByteArray) (k : Nat) : List Se × Int := if (paI ws ps t).2.2 = 0 then rnN ws ps k (paI ws ps t).1 (paI ws ps t).2.1 else ([], (paI ws ps t).2.2)
def rnE (ws : List Ino) (ps : List Den) (t : ByteArray) (d : Int) (nm : ByteArray) : List Se × Int := match entAt ps d nm with | none => ([], 5) | some k => rnP ws ps t k
def rnI (ws : List Ino) (ps : List Den) (s t : ByteArray) : List Se × Int := if (paI ws ps s).2.2 = 0 then rnE ws ps t (paI ws ps s).1 (paI ws ps s).2.1 else ([], (paI ws ps s).2.2)
def rnR (ws : List Ino) (ps : List Den) (s t : ByteArray) : List Se × Int := if 65536 < s.size then ([], 2) else if 65536 < t.size then ([], 2) else if imgB ws ps = true then rnI ws ps s t else ([], 1)

theorem spL_name {s x : ByteArray} (hm : x ∈ spL s) : nmB x = true := by
  unfold spL at hm
  split at hm
  · cases hm
  · split at hm
    · rename_i h
      unfold spN at h
      simp only [Bool.and_eq_true, List.all_eq_true] at h
      exact h.2.2 x hm
    · cases hm
/-- A parent that is told is a directory, and the name is one. -/
theorem paI_ok {ws : List Ino} {ps : List Den} {s : ByteArray} (h : imgB ws ps = true) (c : (paI ws ps s).2.2 = 0) : (0 ≤ (paI ws ps s).1 ∧ (paI ws ps s).1 ≤ 15) ∧ kindAt ws (paI ws ps s).1 = 2 ∧ nmB (paI ws ps s).2.1 = true := by
  unfold paI at c ⊢
  by_cases q : spB s = true
  · rw [if_pos q] at c ⊢
    by_cases e : spL s = []
    · unfold paL at c
      rw [if_pos e] at c
      cases c
    · obtain ⟨xs, x, hx⟩ := snoc_of e
      have hn : nmB x = true := spL_name (s := s) (by rw [hx]; simp)
      rw [hx, paL_snoc] at c ⊢
      unfold paN at c ⊢
      by_cases q1 : (wk ws ps 0 xs).2 = 0
      · rw [if_pos q1] at c ⊢
        by_cases q2 : kindAt ws (wk ws ps 0 xs).1 = 2
        · rw [if_pos q2] at c ⊢
          exact ⟨wk_range h xs 0 (by omega), q2, hn⟩
        · rw [if_neg q2] at c; cases c
      · rw [if_neg q1] at c
        exact absurd c q1
  · rw [if_neg q] at c; cases c
theorem lkI_ok {ws : List Ino} {ps : List Den} {s : ByteArray} (h : imgB ws ps = true) : 0 ≤ (lkI ws ps s).1 ∧ (lkI ws ps s).1 ≤ 15 := by
  unfold lkI
  split
  · exact wk_range h _ 0 (by omega)
  · exact ⟨by decide, by decide⟩
theorem entI_no {ps : List Den} {d : Int} {nm : ByteArray} : entAt ps d nm = none ↔ ¬ 0 ≤ entI ps d nm := by
  unfold entI
  cases entAt ps d nm with
  | none => simp
  | some k => simp
theorem entI_some {ps : List Den} {d : Int} {nm : ByteArray} {k : Nat} (h : entAt ps d nm = some k) : entI ps d nm = (k : Int) := by
  unfold entI
  rw [h]
theorem link_range {ws : List Ino} {ps : List Den} (h : imgB ws ps = true) {i : Int} (h0 : 0 ≤ i ∧ i ≤ 15) : 0 ≤ linkAt ws i ∧ linkAt ws i ≤ 24 := by
  obtain ⟨hl, _, _, ho, _⟩ := pimg_all h
  obtain ⟨n, rfl⟩ : ∃ n : Nat, i = (n : Int) := ⟨i.toNat, by omega⟩
  have hn : n < ws.length := by omega
  rw [linkAt_of hn]
  have := (of_decide_eq_true ho : ∀ k (h : k < ws.length), inoB ws[k] = true) n hn
  unfold inoB at this
  simp only [Bool.and_eq_true, decide_eq_true_eq] at this
  exact this.2.2.1
theorem fi_range {ws : List Ino} {ps : List Den} (h : imgB ws ps = true) : fiI ws < 16 := by
  have := (first_bound (fun i => decide (1 ≤ i) && kindAt ws (i : Int) == 0) ws.length).2
  have e := (pimg_all h).1
  unfold fiI
  omega
theorem fe_range {ws : List Ino} {ps : List Den} (h : imgB ws ps = true) : feI ps < 24 := by
  have := (first_bound (fun i => decide (childAt ps i < 0)) ps.length).2
  have e := (pimg_all h).2.1
  unfold feI
  omega
theorem first_hit {p : Nat → Bool} {n : Nat} (h : ¬ firstIx p n < 0) : p (firstIx p n).toNat = true := by
  unfold firstIx at h ⊢
  split
  · rename_i i e
    simpa using List.find?_some e
  · rename_i e
    rw [e] at h
    exact absurd (by decide) h
theorem fi_pos {ws : List Ino} (h : ¬ fiI ws < 0) : 1 ≤ fiI ws := by
  have := first_hit h
  simp only [Bool.and_eq_true, decide_eq_true_eq] at this
  unfold fiI at h ⊢
  omega

/-- What the program's map of one directory holds behind k entries: to each name its entry's number. -/
def keyB (s : ByteArray) : Lit := .string s.data.toList
def mpD (ps : List Den) (d : Int) : Nat → DataW Unit
  | 0 => .map []
  | k + 1 => if decide (0 ≤ childAt ps k) && (ps.getD k freeD).dir == d then (mpD ps d k).put (keyB (ps.getD k freeD).name) (.lit (.int .i64 (k : Int))) else mpD ps d k
theorem mpD_map (ps : List Den) (d : Int) : ∀ k, Maps.IsMap (mpD ps d k)
  | 0 => Maps.isMap_empty
  | k + 1 => by
    unfold mpD
    split
    · exact (mpD_map ps d k).put _ _
    · exact mpD_map ps d k
theorem key_isKey (s : ByteArray) : WideAt.IsKeyLit (keyB s) := by
  unfold keyB
  simp [WideAt.IsKeyLit]
theorem key_inj {s t : ByteArray} (h : keyB s = keyB t) : s = t := by
  unfold keyB at h
  injection h with h
  exact bytes_ext h
theorem getD_of {ps : List Den} {k : Nat} (h : k < ps.length) : ps.getD k freeD = ps[k] := by
  rw [List.getD_eq_getElem?_getD, List.getElem?_eq_getElem h]; rfl
theorem toList_same {s t : ByteArray} : (s.toList == t.toList) = true ↔ s = t := by
  rw [beq_iff_eq, ByteArray.toList_eq, ByteArray.toList_eq]
  exact ⟨bytes_ext, fun h => by rw [h]⟩
theorem hit_iff {d : Int} {nm : ByteArray} {x : Den} : entHit d nm x = true ↔ 0 ≤ x.child ∧ x.dir = d ∧ x.name = nm := by
  unfold entHit
  rw [Bool.and_eq_true, Bool.and_eq_true, decide_eq_true_eq, beq_iff_eq, toList_same]
/-- No two entries have one name in one directory. -/
theorem ent_once {ws : List Ino} {ps : List Den} (h : imgB ws ps = true) {d : Int} {nm : ByteArray} {i j : Nat} (hi : i < ps.length) (hj : j < ps.length) (ei : entHit d nm ps[i] = true) (ej : entHit d nm ps[j] = true) : i = j := by
  obtain ⟨_, _, _, _, he, _, _⟩ := pimg_all h
  have he := (of_decide_eq_true he : ∀ i (h : i < ps.length), entOne ws ps i ps[i] = true)
  have one : ∀ {i j : Nat} (hi : i < ps.length) (hj : j < ps.length), entHit d nm ps[i] = true → entHit d nm ps[j] = true → ¬ i < j := by
    intro i j hi hj ei ej lt
    obtain ⟨a1, a2, a3⟩ := hit_iff.1 ei
    obtain ⟨b1, b2, b3⟩ := hit_iff.1 ej
    have e := he j hj
    unfold entOne at e
    rw [if_neg (by omega)] at e
    simp only [Bool.and_eq_true, List.all_eq_true] at e
    have q := e.2.2.2.2.2 ps[i] (by
      rw [List.mem_take_iff_getElem]
      exact ⟨i, by omega, rfl⟩)
    unfold clashB at q
    rw [a2, a3, b2, b3, decide_eq_true a1] at q
    simp at q
  have q1 := one hi hj ei ej
  have q2 := one hj hi ej ei
  omega
theorem mp_none {ps : List Den} {d : Int} {nm : ByteArray} : ∀ (k : Nat), k ≤ ps.length → (∀ j (h : j < ps.length), j < k → entHit d nm ps[j] = false) → Maps.has (mpD ps d k) (keyB nm) = false
  | 0, _, _ => rfl
  | k + 1, hk, h => by
    have ih := mp_none k (by omega) (fun j hj a => h j hj (by omega))
    unfold mpD
    split
    · rename_i c
      rw [Bool.and_eq_true, decide_eq_true_eq, beq_iff_eq, childAt_of (by omega), getD_of (by omega)] at c
      rw [getD_of (by omega), Maps.has_put_other]
      · exact ih
      · intro e
        have := h k (by omega) (by omega)
        rw [hit_iff.2 ⟨c.1, c.2, (key_inj e).symm⟩] at this
        cases this
    · exact ih
theorem mp_some {ps : List Den} {d : Int} {nm : ByteArray} {j : Nat} (hj : j < ps.length) (e : entHit d nm ps[j] = true) (once : ∀ i (h : i < ps.length), entHit d nm ps[i] = true → i = j) (z : DataW Unit) : ∀ (k : Nat), k ≤ ps.length → j < k → Maps.has (mpD ps d k) (keyB nm) = true ∧ (mpD ps d k).atKey (keyB nm) z = .lit (.int .i64 (j : Int))
  | 0, _, h => absurd h (by omega)
  | k + 1, hk, h => by
    by_cases q : j = k
    · subst q
      obtain ⟨a1, a2, a3⟩ := hit_iff.1 e
      unfold mpD
      rw [if_pos (by rw [Bool.and_eq_true, decide_eq_true_eq, beq_iff_eq, childAt_of hj, getD_of hj]; exact ⟨a1, a2⟩), getD_of hj, a3]
      exact ⟨Maps.has_put_same (mpD_map ps d j) (key_isKey _) _, Maps.atKey_put_same (mpD_map ps d j) (key_isKey _) _ _⟩
    · obtain ⟨i1, i2⟩ := mp_some hj e once z k (by omega) (by omega)
      unfold mpD
      split
      · rename_i c
        rw [Bool.and_eq_true, decide_eq_true_eq, beq_iff_eq, childAt_of (by omega), getD_of (by omega)] at c
        have ne : keyB nm ≠ keyB ps[k].name := fun e => q (once k (by omega) (hit_iff.2 ⟨c.1, c.2, (key_inj e).symm⟩)).symm
        rw [getD_of (by omega), Maps.has_put_other ne, Maps.atKey_put_other ne]
        exact ⟨i1, i2⟩
      · exact ⟨i1, i2⟩
/-- Of a right image the map has just the names of the directory. -/
theorem mp_find {ws : List Ino} {ps : List Den} (h : imgB ws ps = true) (d : Int) (nm : ByteArray) (z : DataW Unit) : (entAt ps d nm = none → Maps.has (mpD ps d ps.length) (keyB nm) = false) ∧ (∀ k, entAt ps d nm = some k → Maps.has (mpD ps d ps.length) (keyB nm) = true ∧ (mpD ps d ps.length).atKey (keyB nm) z = .lit (.int .i64 (k : Int))) := by
  constructor
  · intro e
    unfold entAt at e
    rw [List.findIdx?_eq_none_iff] at e
    exact mp_none _ (Nat.le_refl _) (fun j hj _ => by have := e _ (List.getElem_mem hj); simpa using this)
  · intro k e
    obtain ⟨hk, q⟩ := ent_some e
    exact mp_some hk q (fun i hi q' => ent_once h hi hk q' q) z _ (Nat.le_refl _) hk
theorem size_pos {D : DataW Unit} {k : Lit} (h : Maps.has D k = true) : 0 < Maps.size D := by
  cases D with
  | map es =>
    rw [Maps.has_eq, List.any_eq_true] at h
    obtain ⟨x, hx, _⟩ := h
    rw [Maps.size_eq]
    exact List.length_pos_of_mem hx
  | _ => cases h
theorem mp_empty {ps : List Den} {d : Int} : ∀ (k : Nat), k ≤ ps.length → (∀ j (h : j < ps.length), ¬ (0 ≤ ps[j].child ∧ ps[j].dir = d)) → mpD ps d k = .map []
  | 0, _, _ => rfl
  | k + 1, hk, h => by
    unfold mpD
    rw [if_neg]
    · exact mp_empty k (by omega) h
    · rw [Bool.and_eq_true, decide_eq_true_eq, beq_iff_eq, childAt_of (by omega), getD_of (by omega)]
      exact h k (by omega)
/-- The map is empty just where nothing is in the directory. -/
theorem mp_size {ws : List Ino} {ps : List Den} (h : imgB ws ps = true) (d : Int) : (namesD ps d = [] → Maps.size (mpD ps d ps.length) = 0) ∧ (¬ namesD ps d = [] → 0 < Maps.size (mpD ps d ps.length)) := by
  unfold namesD
  constructor
  · intro e
    rw [List.map_eq_nil_iff, List.filter_eq_nil_iff] at e
    rw [mp_empty _ (Nat.le_refl _) (fun j hj q => by
      have := e _ (List.getElem_mem hj)
      rw [decide_eq_true_eq] at this
      omega)]
    rfl
  · intro e
    obtain ⟨x, hx⟩ : ∃ x : Den, x ∈ ps.filter (fun y : Den => decide (¬ y.child < 0 ∧ y.dir = d)) := by
      apply List.exists_mem_of_ne_nil
      intro q
      rw [q] at e
      exact e rfl
    rw [List.mem_filter, decide_eq_true_eq] at hx
    obtain ⟨j, hj, rfl⟩ := List.getElem_of_mem hx.1
    have hit : entHit d ps[j].name ps[j] = true := hit_iff.2 ⟨by omega, hx.2.2, rfl⟩
    exact size_pos (mp_some hj hit (fun i hi q' => ent_once h hi hj q' hit) (.map []) _ (Nat.le_refl _) hj).1
/-- Nothing is in what is no directory. -/
theorem file_empty {ws : List Ino} {ps : List Den} (h : imgB ws ps = true) {d : Int} (k : ¬ kindAt ws d = 2) : namesD ps d = [] := by
  unfold namesD
  rw [List.map_eq_nil_iff, List.filter_eq_nil_iff]
  intro x hx
  obtain ⟨j, hj, rfl⟩ := List.getElem_of_mem hx
  rw [decide_eq_true_eq]
  rintro ⟨a, b⟩
  rcases pimg_ent h j hj with q | q
  · omega
  · exact k (by rw [← b]; exact q.2.2.2.2)
/-- In a right image an entry is free just where it leads nowhere. -/
theorem free_child {ws : List Ino} {ps : List Den} (h : imgB ws ps = true) (j : Nat) (hj : j < ps.length) : (!ps[j].freeB) = decide (0 ≤ ps[j].child) := by
  obtain ⟨_, _, _, _, he, _, _⟩ := pimg_all h
  have e := (of_decide_eq_true he : ∀ i (h : i < ps.length), entOne ws ps i ps[i] = true) j hj
  unfold entOne at e
  split at e
  · rename_i c
    rw [e, decide_eq_false (by omega)]; rfl
  · rename_i c
    simp only [Bool.and_eq_true, decide_eq_true_eq] at e
    rw [decide_eq_true (by omega)]
    unfold Den.freeB
    rw [show (ps[j].child == -1) = false by rw [beq_eq_false_iff_ne]; exact c, Bool.and_false, Bool.and_false]; rfl
end Go.Proofs.YtcilodgoognmnaaGreatDoor

namespace Go.Proofs.YtcilodgoognmnaaGreatDoor
open Go.RowKit

def inoAt (ws : List Ino) (i : Nat) : Ino := ws.getD i zeroN
def denAt (ps : List Den) (k : Nat) : Den := ps.getD k freeD
theorem inoAt_of {ws : List Ino} {i : Nat} (h : i < ws.length) : inoAt ws i = ws[i] := by
  unfold inoAt
  rw [List.getD_eq_getElem?_getD, List.getElem?_eq_getElem h]; rfl
theorem denAt_of {ps : List Den} {i : Nat} (h : i < ps.length) : denAt ps i = ps[i] := by
  unfold denAt
  rw [List.getD_eq_getElem?_getD, List.getElem?_eq_getElem h]; rfl
theorem kindAt_ino (ws : List Ino) (i : Nat) : kindAt ws (i : Int) = (inoAt ws i).kind := by unfold kindAt inoAt; rfl
theorem childAt_den {ps : List Den} {k : Nat} (h : k < ps.length) : childAt ps k = (denAt ps k).child := by rw [childAt_of h, denAt_of h]
theorem freeB_iff {x : Den} : x.freeB = true ↔ x = freeD := by
  unfold Den.freeB freeD
  simp only [Bool.and_eq_true, beq_iff_eq]
  constructor
  · rintro ⟨h1, h2, h3⟩
    obtain ⟨d, n, c⟩ := x
    simp only at h1 h2 h3
    subst h1 h3
    have : n = ⟨#[]⟩ := by
      apply bytes_ext
      have : n.data.toList.length = 0 := by simpa using h2
      rw [List.eq_nil_of_length_eq_zero this]
    rw [this]
  · intro h
    rw [h]
    exact ⟨rfl, rfl, rfl⟩
/-- An entry that is taken is right. -/
def EntOK (ws : List Ino) (x : Den) : Prop := (1 ≤ x.child ∧ x.child ≤ 15) ∧ (0 ≤ x.dir ∧ x.dir ≤ 15) ∧ nmB x.name = true ∧ ¬ kindAt ws x.child = 0 ∧ kindAt ws x.dir = 2
def cntA (ps : List Den) (c : Int) : Nat := (ps.filter fun x => x.child == c).length
/-- A right image. -/
structure Img (ws : List Ino) (ps : List Den) : Prop where
  l16 : ws.length = 16
  l24 : ps.length = 24
  root : kindAt ws 0 = 2
  ok : ∀ i, i < 16 → inoB (inoAt ws i) = true
  ent : ∀ k, k < 24 → denAt ps k = freeD ∨ EntOK ws (denAt ps k)
  once : ∀ j k, j < 24 → k < 24 → 0 ≤ (denAt ps j).child → 0 ≤ (denAt ps k).child → (denAt ps j).dir = (denAt ps k).dir → (denAt ps j).name = (denAt ps k).name → j = k
  links : ∀ i : Nat, i < 16 → (if i = 0 then 1 else 0) + (cntA ps (i : Int) : Int) = (inoAt ws i).links
  hang : ∀ i : Nat, i < 16 → (inoAt ws i).kind = 2 → hangs ps 16 (i : Int) = true
  sing : (mapped ws).Pairwise fun x y => x ≠ y
theorem okAll_ties {ws : List Ino} (l16 : ws.length = 16) (ok : ∀ i, i < 16 → inoB (inoAt ws i) = true) : ∀ e ∈ mapped ws, 0 ≤ e ∧ (e % 4 = 1 ∨ e % 4 = 2) := by
  apply mapped_ties
  intro i hi
  have := ok i (by omega)
  rw [inoAt_of hi] at this
  exact (ino_ties this).1
theorem img_iff {ws : List Ino} {ps : List Den} : imgB ws ps = true ↔ Img ws ps := by
  constructor
  · intro h
    obtain ⟨l1, l2, r, o, e, l, s⟩ := pimg_all h
    have o' := (of_decide_eq_true o : ∀ k (h : k < ws.length), inoB ws[k] = true)
    have e' := (of_decide_eq_true e : ∀ i (h : i < ps.length), entOne ws ps i ps[i] = true)
    have l' := (of_decide_eq_true l : ∀ i (h : i < ws.length), linkB ps i ws[i] = true)
    have ok : ∀ i, i < 16 → inoB (inoAt ws i) = true := fun i hi => by rw [inoAt_of (by omega)]; exact o' i (by omega)
    refine ⟨l1, l2, r, ok, ?_, ?_, ?_, ?_, ?_⟩
    · intro k hk
      rw [denAt_of (by omega)]
      have q := e' k (by omega)
      unfold entOne at q
      split at q
      · exact .inl (freeB_iff.1 q)
      · right
        rcases pimg_ent h k (by omega) with a | a
        · rename_i c; exact absurd a.1 c
        · exact a
    · intro j k hj hk cj ck hd hn
      refine ent_once h (d := (denAt ps j).dir) (nm := (denAt ps j).name) (i := j) (j := k) (by omega) (by omega) ?_ ?_
      · rw [denAt_of (by omega)] at cj ⊢
        exact hit_iff.2 ⟨cj, rfl, rfl⟩
      · rw [denAt_of (i := k) (by omega)] at ck hd hn
        exact hit_iff.2 ⟨ck, hd.symm, hn.symm⟩
    · intro i hi
      have q := l' i (by omega)
      unfold linkB cntD at q
      simp only [Bool.and_eq_true, decide_eq_true_eq] at q
      rw [inoAt_of (by omega), ← q.1, List.take_length]
      rfl
    · intro i hi hk
      rw [inoAt_of (by omega)] at hk
      have q := l' i (by omega)
      unfold linkB at q
      simp only [Bool.and_eq_true, Bool.or_eq_true, decide_eq_true_eq] at q
      rcases q.2 with q | q
      · exact absurd hk q
      · exact q
    · unfold singB at s
      rw [single_eq (fun e he => (okAll_ties l1 ok e he).2), once_nodup] at s
      exact s
  · rintro ⟨l1, l2, r, o, e, c, l, g, s⟩
    unfold imgB
    have hs : singB ws = true := by
      unfold singB
      rw [single_eq (fun e he => (okAll_ties l1 o e he).2), once_nodup]
      exact s
    have ho : okNs ws = true := decide_eq_true fun k hk => by rw [← inoAt_of hk]; exact o k (by omega)
    have hl : linksB ws ps = true := decide_eq_true fun i hi => by
      unfold linkB cntD
      rw [List.take_length, ← inoAt_of hi]
      simp only [Bool.and_eq_true, Bool.or_eq_true, decide_eq_true_eq]
      refine ⟨l i (by omega), ?_⟩
      by_cases q : (inoAt ws i).kind = 2
      · exact .inr (g i (by omega) q)
      · exact .inl q
    have he : entsB ws ps = true := decide_eq_true fun i hi => by
      unfold entOne
      rw [← denAt_of hi]
      rcases e i (by omega) with q | q
      · rw [q]
        rfl
      · obtain ⟨q1, q2, q3, q4, q5⟩ := q
        rw [if_neg (by omega), decide_eq_true q1, decide_eq_true q2, q3, q5]
        simp only [Bool.true_and, Bool.and_eq_true, Bool.not_eq_true', beq_eq_false_iff_ne, List.all_eq_true]
        refine ⟨q4, by decide, ?_⟩
        intro y hy
        obtain ⟨j, hj, rfl⟩ := List.mem_take_iff_getElem.1 hy
        have hj := Nat.lt_min.1 hj
        have hc : clashB ps[j] (denAt ps i) = false := by
          rw [Bool.eq_false_iff]
          intro hc
          unfold clashB at hc
          rw [Bool.and_eq_true, Bool.and_eq_true, decide_eq_true_eq, beq_iff_eq, toList_same] at hc
          rw [← denAt_of hj.2] at hc
          have := c j i (by omega) (by omega) hc.1 (by omega) hc.2.1 hc.2.2
          omega
        rw [hc]
    rw [decide_eq_true l1, decide_eq_true l2, r, ho, he, hl, hs]
    rfl
end Go.Proofs.YtcilodgoognmnaaGreatDoor

namespace Go.Proofs.YtcilodgoognmnaaGreatDoor
open Go.RowKit

/-- Of a right image: what is above is a directory. -/
theorem up_dir {ws : List Ino} {ps : List Den} (ent : ∀ k, k < ps.length → denAt ps k = freeD ∨ EntOK ws (denAt ps k)) {c : Int} (hc : 0 ≤ c) (h : 0 ≤ upD ps c) : ∃ k, k < ps.length ∧ (denAt ps k).child = c ∧ (denAt ps k).dir = upD ps c ∧ EntOK ws (denAt ps k) := by
  unfold upD at h ⊢
  cases e : ps.find? fun x => x.child == c with
  | none => rw [e] at h; exact absurd h (by decide)
  | some x =>
    have hx := List.mem_of_find?_eq_some e
    have hp := List.find?_some e
    obtain ⟨k, hk, rfl⟩ := List.getElem_of_mem hx
    refine ⟨k, hk, ?_⟩
    rw [denAt_of hk]
    refine ⟨by simpa using hp, rfl, ?_⟩
    have := ent k hk
    rw [denAt_of hk] at this
    rcases this with q | q
    · rw [q] at hp
      have : freeD.child = c := by simpa using hp
      exact absurd hc (by rw [← this]; decide)
    · exact q
end Go.Proofs.YtcilodgoognmnaaGreatDoor

namespace Go.Proofs.YtcilodgoognmnaaGreatDoor
open Go.RowKit

theorem Img.ent' {ws : List Ino} {ps : List Den} (h : Img ws ps) : ∀ k, k < ps.length → denAt ps k = freeD ∨ EntOK ws (denAt ps k) := fun k hk => h.ent k (by have := h.l24; omega)
theorem Img.dir {ws : List Ino} {ps : List Den} (h : Img ws ps) {c : Int} (hc : 0 ≤ c) (hu : 0 ≤ upD ps c) : kindAt ws (upD ps c) = 2 ∧ upD ps c ≤ 15 := by
  obtain ⟨k, hk, _, e, q⟩ := up_dir h.ent' hc hu
  rw [← e]
  exact ⟨q.2.2.2.2, q.2.1.2⟩
end Go.Proofs.YtcilodgoognmnaaGreatDoor

namespace Go.Proofs.YtcilodgoognmnaaGreatDoor
open Go.RowKit

theorem ino_parts {x : Ino} (h : inoB x = true) : (0 ≤ x.kind ∧ x.kind ≤ 2) ∧ (0 ≤ x.size ∧ x.size ≤ 8) ∧ (0 ≤ x.links ∧ x.links ≤ 24) ∧ mapB x.map x.size = true ∧ kindB x = true := by
  unfold inoB at h
  simp only [Bool.and_eq_true, decide_eq_true_eq] at h
  exact h
end Go.Proofs.YtcilodgoognmnaaGreatDoor

namespace Go.Proofs.YtcilodgoognmnaaGreatDoor
open Go.RowKit

set_option maxHeartbeats 2000000 in
/-- Two slices of stores that read alike are found alike. -/
theorem eqStoreS_same (va vb : Value) (ps : List St) (w : World) (ha : RdS w va ps) (hb : RdS w vb ps) (hn : ps.length ≤ 2147483648) :
    Calls Tryz.prog 103 #[va, vb] w fun e w' => e = .returned (.bool true) ∧ Below w.heap.size w w' := by
  obtain ⟨ao, cap, rfl, hcap, hc⟩ := ha.shape
  obtain ⟨ao2, cap2, rfl, hcap2, hc2⟩ := hb.shape
  clear ha hb
  go_enter Tryz.func103, Tryz.ntmps103
  go_wp2
  go_loopw [5] (fun i wr => ∃ k : Nat, k ≤ ps.length ∧ i = .int .i64 k ∧ Below w.heap.size w wr) (fun i _ => ps.length - (intOf i).toNat)
  case atStart => exact ⟨0, by omega, rfl, Below.refl _ _⟩
  case round =>
    obtain ⟨k, hk, rfl, hbw⟩ := hrel
    by_cases hlt : k < ps.length
    · obtain ⟨b, o, rfl, hbl, hcell⟩ := hc (by omega)
      obtain ⟨b2, o2, rfl, hbl2, hcell2⟩ := hc2 (by omega)
      obtain ⟨c0, c1, c2⟩ := hcell k hlt
      obtain ⟨c3, c4, c5⟩ := hcell2 k hlt
      have d0 := (hbw.cell (p := ⟨b, o + k * 3, none⟩) hbl).trans c0
      have d1 := (hbw.cell (p := ⟨b, o + k * 3 + 1, none⟩) hbl).trans c1
      have d2 := (hbw.cell (p := ⟨b, o + k * 3 + 2, none⟩) hbl).trans c2
      have d3 := (hbw.cell (p := ⟨b2, o2 + k * 3, none⟩) hbl2).trans c3
      have d4 := (hbw.cell (p := ⟨b2, o2 + k * 3 + 1, none⟩) hbl2).trans c4
      have d5 := (hbw.cell (p := ⟨b2, o2 + k * 3 + 2, none⟩) hbl2).trans c5
      have hlt' : (k : Int) < (ps.length : Int) := by omega
      have hge : (0 : Int) ≤ (k : Int) := by omega
      have hz := hbw.size
      clear hcell hcell2 hc hc2 c0 c1 c2 c3 c4 c5
      go_wp2_with fail
      go_region_with (go_at_call 167; refine (eqStore_same _ _ _ _).mono ?_; rintro e w1 ⟨rfl, hb1⟩)
      all_goals
        go_wp2
        go_roundw
        case rel => exact ⟨k + 1, by omega, by go_num, hbw.trans (Below.mono (Below.trans ((Below.refl _ _).drew) ‹_›) hz)⟩
        case measure => simp [intOf]; omega
    · go_wp2
      go_ret
      exact ⟨rfl, hbw⟩

/-- The i-th of the marks from k on. -/
def markS (k : Int) (i : Nat) : St := ⟨k + 3 * (i : Int), k + 3 * (i : Int) + 1, (k + 3 * (i : Int) + 1 + 1) % 3 == 0⟩
def marksS (k : Int) (n : Nat) : List St := (List.range n).map (markS k)
theorem marksS_len (k : Int) (n : Nat) : (marksS k n).length = n := by simp [marksS]
theorem marksS_at (k : Int) (n i : Nat) (h : i < (marksS k n).length) : (marksS k n)[i] = markS k i := by simp [marksS]

/-- Cells of stores: numbers and bools, in their turn. -/
def IsSts (xs : List Value) (n : Nat) : Prop := ∀ k, k < n → ∃ a b c, xs[k * 3]? = some (.int .i64 a) ∧ xs[k * 3 + 1]? = some (.int .i64 b) ∧ xs[k * 3 + 2]? = some (.bool c)
theorem isSts (ps : List St) : IsSts (sts ps) ps.length := fun k hk => ⟨_, _, _, sts_at0 ps k hk, sts_at1 ps k hk, sts_at2 ps k hk⟩
theorem IsSts.put3 {ys : List Value} {n : Nat} (h : IsSts ys n) (hl : ys.length = n * 3) (k : Nat) (a b : Int) (c : Bool) : IsSts (put3 ys k (.int .i64 a) (.int .i64 b) (.bool c)) n := by
  intro j hj
  rw [put3_at (by omega), put3_at (by omega), put3_at (by omega)]
  by_cases e : j = k
  · subst e
    exact ⟨a, b, c, by simp, by simp, by simp⟩
  · obtain ⟨x, y, z, h0, h1, h2⟩ := h j hj
    refine ⟨x, y, z, ?_, ?_, ?_⟩
    · rw [if_neg (by omega), if_neg (by omega), if_neg (by omega)]; exact h0
    · rw [if_neg (by omega), if_neg (by omega), if_neg (by omega)]; exact h1
    · rw [if_neg (by omega), if_neg (by omega), if_neg (by omega)]; exact h2

set_option maxHeartbeats 2000000 in
/-- A slice of stores of the call's own is marked, and nothing else is written. -/
theorem markStoreS_any (v : Value) (n : Nat) (xs : List Value) (k0 : Int) (lo hi : Nat) (w : World) (h : Row w 197 3 lo hi v n xs) (hx : IsSts xs n) (hn : n ≤ 2147483648) (h0 : 0 ≤ k0) (h1 : k0 ≤ 1099511627776) :
    Calls Tryz.prog 122 #[v, .int .i64 k0] w fun e w' => e = .returned (.int .i64 (k0 + 3 * n)) ∧ Row w' 197 3 lo hi v n (sts (marksS k0 n)) ∧ w.grownBy w' v.ownBlock ∧ w'.heap.size = w.heap.size := by
  obtain ⟨hlen, ao, cap, rfl, hcap, hc⟩ := h.rd
  go_enter Tryz.func122, Tryz.ntmps122
  go_wp2
  go_loopw [1, 5] (fun c i wr => ∃ k : Nat, k ≤ n ∧ i = .int .i64 k ∧ c = .int .i64 (k0 + 3 * k) ∧ (∃ ys : List Value, Row wr 197 3 lo hi (.slice ao n cap) n ys ∧ IsSts ys n ∧ ∀ j, j < k * 3 → ys[j]? = (sts (marksS k0 n))[j]?) ∧ w.grownBy wr (Value.slice ao n cap).ownBlock ∧ wr.heap.size = w.heap.size) (fun _ i _ => n - (intOf i).toNat)
  case atStart => exact ⟨0, by omega, rfl, by simp, ⟨xs, h, hx, fun j hj => absurd hj (by omega)⟩, World.grownBy.refl _ _, rfl⟩
  case round =>
    obtain ⟨k, hk, rfl, rfl, ⟨ys, hrow, hys, hd⟩, hout, hz⟩ := hrel
    clear h hx hc hlen
    by_cases hlt : k < n
    · obtain ⟨hlen, ao', cap', e', _, hc⟩ := hrow.rd
      cases e'
      obtain ⟨b, o, rfl, hbl, _⟩ := hc (by omega)
      obtain ⟨rfl, hb1, hb2, _, hfr, hcl⟩ := hrow.at
      obtain ⟨x, y, z, q0, q1, q2⟩ := hys k hlt
      have f0 := hfr (k * 3)
      have f1 := hfr (k * 3 + 1)
      have f2 := hfr (k * 3 + 2)
      have e0 := (hcl (k * 3) (by omega)).trans q0
      have e1 := (hcl (k * 3 + 1) (by omega)).trans q1
      have e2 := (hcl (k * 3 + 2) (by omega)).trans q2
      have PH := hideIt (hrow.put3 k (.int .i64 (k0 + 3 * k)) (.int .i64 (k0 + 3 * k + 1)) (.bool ((k0 + 3 * k + 1 + 1) % 3 == 0)))
      have OH := hideIt (grown_setCell (grown_setCell (grown_setCell hout (a := ⟨b, k * 3, none⟩) rfl (.int .i64 (k0 + 3 * k))) (a := ⟨b, k * 3 + 1, none⟩) rfl (.int .i64 (k0 + 3 * k + 1))) (a := ⟨b, k * 3 + 2, none⟩) rfl (.bool ((k0 + 3 * k + 1 + 1) % 3 == 0)))
      have IH := hideIt (hys.put3 hlen k (k0 + 3 * k) (k0 + 3 * k + 1) ((k0 + 3 * k + 1 + 1) % 3 == 0))
      have DH : Hid (∀ j, j < (k + 1) * 3 → (put3 ys k (.int .i64 (k0 + 3 * k)) (.int .i64 (k0 + 3 * k + 1)) (.bool ((k0 + 3 * k + 1 + 1) % 3 == 0)))[j]? = (sts (marksS k0 n))[j]?) := by
        have hk' : k < (marksS k0 n).length := by rw [marksS_len]; exact hlt
        have := put3_step (ps := marksS k0 n) hk' (by rw [marksS_len]; exact hlen) hd
        rw [marksS_at] at this
        exact this
      clear hrow hys hd hc hfr hcl q0 q1 q2
      go_wp2
      go_roundw
      case rel => exact ⟨k + 1, by omega, by go_num, by go_num, ⟨_, PH.out, IH.out, DH.out⟩, OH.out, by simp [hz]⟩
      case measure => simp [intOf]; omega
    · have e : k = n := by omega
      subst e
      have hl := hrow.len
      have RH := hideIt hrow
      have DH := hideIt hd
      clear hrow hys hd
      go_wp2
      go_ret
      have e := sts_all (ps := marksS k0 k) (by rw [marksS_len]; exact hl) (by rw [marksS_len]; exact DH.out)
      exact ⟨rfl, e ▸ RH.out, hout, hz⟩

end Go.Proofs.YtcilodgoognmnaaGreatDoor
