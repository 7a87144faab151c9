/- The plans of names: what they answer; mathematics. -/
import Derived.Test.YtpgdpachomdfhaaGreatDoorZBH
import Derived.Test.YtpgdpachomdfhaaGreatDoorZBI
import Derived.Test.YtpgdpachomdfhaaGreatDoorStN
import Derived.Test.YtpgdpachomdfhaaGreatDoorZBE
import Derived.Maps.Views
namespace Go.Proofs.YtpgdpachomdfhaaGreatDoor
open Go.RowKit

/-- The entry of no name. -/
def freeD : Den := ⟨0, ⟨#[]⟩, -1⟩
/-- The first free inode, the first free entry; -1 without one. -/
def fiI (ws : List Ino) : Int := firstIx (fun i => decide (1 ≤ i) && kindAt ws (i : Int) == 0) ws.length
def feI (ps : List Den) : Int := firstIx (fun i => decide (childAt ps i < 0)) ps.length
/-- Of an inode the links. -/
def linkAt (ws : List Ino) (z : Int) : Int := (ws.getD z.toNat ⟨0, 0, 0, 0, 0, 0, 0, 0, 0, 0, 0⟩).links
theorem linkAt_of {ws : List Ino} {i : Nat} (h : i < ws.length) : linkAt ws (i : Int) = ws[i].links := by
  unfold linkAt
  rw [Int.toNat_natCast, List.getD_eq_getElem?_getD, List.getElem?_eq_getElem h]; rfl
/-- What the plans answer: updates and a code. -/
def mkU (i k : Int) (kind : Int) (d : Int) (nm : ByteArray) : List Se := [⟨48 + 12 * i, kind⟩, ⟨48 + 12 * i + 2, 1⟩] ++ enL k ⟨d, nm, i⟩
def mkN (ws : List Ino) (ps : List Den) (kind d : Int) (nm : ByteArray) : List Se × Int := if 0 ≤ entI ps d nm then ([], 8) else if fiI ws < 0 then ([], 7) else if feI ps < 0 then ([], 7) else (mkU (fiI ws) (feI ps) kind d nm, 0)
def mkI (ws : List Ino) (ps : List Den) (s : ByteArray) (kind : Int) : List Se × Int := if (paI ws ps s).2.2 = 0 then mkN ws ps kind (paI ws ps s).1 (paI ws ps s).2.1 else ([], (paI ws ps s).2.2)
def mkR (ws : List Ino) (ps : List Den) (s : ByteArray) (kind : Int) : List Se × Int := if 65536 < s.size then ([], 2) else if imgB ws ps = true then (if 1 ≤ kind ∧ kind ≤ 2 then mkI ws ps s kind else ([], 4)) else ([], 1)
def rmU (k i l : Int) : List Se := enL k freeD ++ (if 1 < l then [⟨48 + 12 * i + 2, l - 1⟩] else wrL i zeroN 8)
def rmC (ws : List Ino) (ps : List Den) (k : Nat) : List Se × Int := if kindAt ws (childAt ps k) = 2 ∧ ¬ namesD ps (childAt ps k) = [] then ([], 11) else (rmU (k : Int) (childAt ps k) (linkAt ws (childAt ps k)), 0)
def rmN (ws : List Ino) (ps : List Den) (d : Int) (nm : ByteArray) : List Se × Int := match entAt ps d nm with | none => ([], 5) | some k => rmC ws ps k
def rmI (ws : List Ino) (ps : List Den) (s : ByteArray) : List Se × Int := if (paI ws ps s).2.2 = 0 then rmN ws ps (paI ws ps s).1 (paI ws ps s).2.1 else ([], (paI ws ps s).2.2)
def rmR (ws : List Ino) (ps : List Den) (s : ByteArray) : List Se × Int := if 65536 < s.size then ([], 2) else if imgB ws ps = true then rmI ws ps s else ([], 1)
def lnN (ws : List Ino) (ps : List Den) (i d : Int) (nm : ByteArray) : List Se × Int := if 0 ≤ entI ps d nm then ([], 8) else if feI ps < 0 then ([], 7) else (enL (feI ps) ⟨d, nm, i⟩ ++ [⟨48 + 12 * i + 2, linkAt ws i + 1⟩], 0)
def lnP (ws : List Ino) (ps : List Den) (t : ByteArray) (i : Int) : List Se × Int := if (paI ws ps t).2.2 = 0 then lnN ws ps i (paI ws ps t).1 (paI ws ps t).2.1 else ([], (paI ws ps t).2.2)
def lnI (ws : List Ino) (ps : List Den) (s t : ByteArray) : List Se × Int := if (lkI ws ps s).2 = 0 then (if kindAt ws (lkI ws ps s).1 = 2 then ([], 9) else lnP ws ps t (lkI ws ps s).1) else ([], (lkI ws ps s).2)
def lnR (ws : List Ino) (ps : List Den) (s t : ByteArray) : List Se × Int := if 65536 < s.size then ([], 2) else if 65536 < t.size then ([], 2) else if imgB ws ps = true then lnI ws ps s t else ([], 1)
def rnN (ws : List Ino) (ps : List Den) (k : Nat) (d : Int) (nm : ByteArray) : List Se × Int := if 0 ≤ entI ps d nm then ([], 8) else if kindAt ws (childAt ps k) = 2 ∧ benN ps 17 d (childAt ps k) = true then ([], 13) else (enL (k : Int) ⟨d, nm, childAt ps k⟩, 0)
def rnP (ws : List Ino) (ps : List Den) (t : ByteArray) (k : Nat) : List Se × Int := if (paI ws ps t).2.2 = 0 then rnN ws ps k (paI ws ps t).1 (paI ws ps t).2.1 else ([], (paI ws ps t).2.2)
def rnE (ws : List Ino) (ps : List Den) (t : ByteArray) (d : Int) (nm : ByteArray) : List Se × Int := match entAt ps d nm with | none => ([], 5) | some k => rnP ws ps t k
def rnI (ws : List Ino) (ps : List Den) (s t : ByteArray) : List Se × Int := if (paI ws ps s).2.2 = 0 then rnE ws ps t (paI ws ps s).1 (paI ws ps s).2.1 else ([], (paI ws ps s).2.2)
def rnR (ws : List Ino) (ps : List Den) (s t : ByteArray) : List Se × Int := if 65536 < s.size then ([], 2) else if 65536 < t.size then ([], 2) else if imgB ws ps = true then rnI ws ps s t else ([], 1)

/-- No plan is long. -/
theorem mkR_len (ws : List Ino) (ps : List Den) (s : ByteArray) (kind : Int) : (mkR ws ps s kind).1.length ≤ 64 := by
  unfold mkR mkI mkN mkU enL
  repeat' split
  all_goals simp
theorem rmR_len (ws : List Ino) (ps : List Den) (s : ByteArray) : (rmR ws ps s).1.length ≤ 64 := by
  unfold rmR rmI rmN rmC rmU enL wrL
  repeat' split
  all_goals simp
theorem lnR_len (ws : List Ino) (ps : List Den) (s t : ByteArray) : (lnR ws ps s t).1.length ≤ 64 := by
  unfold lnR lnI lnP lnN enL
  repeat' split
  all_goals simp
theorem rnR_len (ws : List Ino) (ps : List Den) (s t : ByteArray) : (rnR ws ps s t).1.length ≤ 64 := by
  unfold rnR rnI rnE rnP rnN enL
  repeat' split
  all_goals simp

theorem spL_name {s x : ByteArray} (hm : x ∈ spL s) : nmB x = true := by
  unfold spL at hm
  split at hm
  · cases hm
  · split at hm
    · rename_i h
      unfold spN at h
      simp only [Bool.and_eq_true, List.all_eq_true] at h
      exact h.2.2 x hm
    · cases hm
/-- A parent that is told is a directory, and the name is one. -/
theorem paI_ok {ws : List Ino} {ps : List Den} {s : ByteArray} (h : imgB ws ps = true) (c : (paI ws ps s).2.2 = 0) : (0 ≤ (paI ws ps s).1 ∧ (paI ws ps s).1 ≤ 15) ∧ kindAt ws (paI ws ps s).1 = 2 ∧ nmB (paI ws ps s).2.1 = true := by
  unfold paI at c ⊢
  by_cases q : spB s = true
  · rw [if_pos q] at c ⊢
    by_cases e : spL s = []
    · unfold paL at c
      rw [if_pos e] at c
      cases c
    · obtain ⟨xs, x, hx⟩ := snoc_of e
      have hn : nmB x = true := spL_name (s := s) (by rw [hx]; simp)
      rw [hx, paL_snoc] at c ⊢
      unfold paN at c ⊢
      by_cases q1 : (wk ws ps 0 xs).2 = 0
      · rw [if_pos q1] at c ⊢
        by_cases q2 : kindAt ws (wk ws ps 0 xs).1 = 2
        · rw [if_pos q2] at c ⊢
          exact ⟨wk_range h xs 0 (by omega), q2, hn⟩
        · rw [if_neg q2] at c; cases c
      · rw [if_neg q1] at c
        exact absurd c q1
  · rw [if_neg q] at c; cases c
theorem lkI_ok {ws : List Ino} {ps : List Den} {s : ByteArray} (h : imgB ws ps = true) : 0 ≤ (lkI ws ps s).1 ∧ (lkI ws ps s).1 ≤ 15 := by
  unfold lkI
  split
  · exact wk_range h _ 0 (by omega)
  · exact ⟨by decide, by decide⟩
theorem entI_no {ps : List Den} {d : Int} {nm : ByteArray} : entAt ps d nm = none ↔ ¬ 0 ≤ entI ps d nm := by
  unfold entI
  cases entAt ps d nm with
  | none => simp
  | some k => simp
theorem entI_some {ps : List Den} {d : Int} {nm : ByteArray} {k : Nat} (h : entAt ps d nm = some k) : entI ps d nm = (k : Int) := by
  unfold entI
  rw [h]
theorem link_range {ws : List Ino} {ps : List Den} (h : imgB ws ps = true) {i : Int} (h0 : 0 ≤ i ∧ i ≤ 15) : 0 ≤ linkAt ws i ∧ linkAt ws i ≤ 24 := by
  obtain ⟨hl, _, _, ho, _⟩ := pimg_all h
  obtain ⟨n, rfl⟩ : ∃ n : Nat, i = (n : Int) := ⟨i.toNat, by omega⟩
  have hn : n < ws.length := by omega
  rw [linkAt_of hn]
  have := (of_decide_eq_true ho : ∀ k (h : k < ws.length), inoB ws[k] = true) n hn
  unfold inoB at this
  simp only [Bool.and_eq_true, decide_eq_true_eq] at this
  exact this.2.2.1
theorem fi_range {ws : List Ino} {ps : List Den} (h : imgB ws ps = true) : fiI ws < 16 := by
  have := (first_bound (fun i => decide (1 ≤ i) && kindAt ws (i : Int) == 0) ws.length).2
  have e := (pimg_all h).1
  unfold fiI
  omega
theorem fe_range {ws : List Ino} {ps : List Den} (h : imgB ws ps = true) : feI ps < 24 := by
  have := (first_bound (fun i => decide (childAt ps i < 0)) ps.length).2
  have e := (pimg_all h).2.1
  unfold feI
  omega
theorem first_hit {p : Nat → Bool} {n : Nat} (h : ¬ firstIx p n < 0) : p (firstIx p n).toNat = true := by
  unfold firstIx at h ⊢
  split
  · rename_i i e
    simpa using List.find?_some e
  · rename_i e
    rw [e] at h
    exact absurd (by decide) h
theorem fi_pos {ws : List Ino} (h : ¬ fiI ws < 0) : 1 ≤ fiI ws := by
  have := first_hit h
  simp only [Bool.and_eq_true, decide_eq_true_eq] at this
  unfold fiI at h ⊢
  omega

/-- What the program's map of one directory holds behind k entries: to each name its entry's number. -/
def keyB (s : ByteArray) : Lit := .string s.data.toList
def mpD (ps : List Den) (d : Int) : Nat → DataW Unit
  | 0 => .map []
  | k + 1 => if decide (0 ≤ childAt ps k) && (ps.getD k freeD).dir == d then (mpD ps d k).put (keyB (ps.getD k freeD).name) (.lit (.int .i64 (k : Int))) else mpD ps d k
theorem mpD_map (ps : List Den) (d : Int) : ∀ k, Maps.IsMap (mpD ps d k)
  | 0 => Maps.isMap_empty
  | k + 1 => by
    unfold mpD
    split
    · exact (mpD_map ps d k).put _ _
    · exact mpD_map ps d k
theorem key_isKey (s : ByteArray) : WideAt.IsKeyLit (keyB s) := by
  unfold keyB
  simp [WideAt.IsKeyLit]
theorem key_inj {s t : ByteArray} (h : keyB s = keyB t) : s = t := by
  unfold keyB at h
  injection h with h
  exact bytes_ext h
theorem getD_of {ps : List Den} {k : Nat} (h : k < ps.length) : ps.getD k freeD = ps[k] := by
  rw [List.getD_eq_getElem?_getD, List.getElem?_eq_getElem h]; rfl
theorem toList_same {s t : ByteArray} : (s.toList == t.toList) = true ↔ s = t := by
  rw [beq_iff_eq, ByteArray.toList_eq, ByteArray.toList_eq]
  exact ⟨bytes_ext, fun h => by rw [h]⟩
theorem hit_iff {d : Int} {nm : ByteArray} {x : Den} : entHit d nm x = true ↔ 0 ≤ x.child ∧ x.dir = d ∧ x.name = nm := by
  unfold entHit
  rw [Bool.and_eq_true, Bool.and_eq_true, decide_eq_true_eq, beq_iff_eq, toList_same]
/-- No two entries have one name in one directory. -/
theorem ent_once {ws : List Ino} {ps : List Den} (h : imgB ws ps = true) {d : Int} {nm : ByteArray} {i j : Nat} (hi : i < ps.length) (hj : j < ps.length) (ei : entHit d nm ps[i] = true) (ej : entHit d nm ps[j] = true) : i = j := by
  obtain ⟨_, _, _, _, he, _, _⟩ := pimg_all h
  have he := (of_decide_eq_true he : ∀ i (h : i < ps.length), entOne ws ps i ps[i] = true)
  have one : ∀ {i j : Nat} (hi : i < ps.length) (hj : j < ps.length), entHit d nm ps[i] = true → entHit d nm ps[j] = true → ¬ i < j := by
    intro i j hi hj ei ej lt
    obtain ⟨a1, a2, a3⟩ := hit_iff.1 ei
    obtain ⟨b1, b2, b3⟩ := hit_iff.1 ej
    have e := he j hj
    unfold entOne at e
    rw [if_neg (by omega)] at e
    simp only [Bool.and_eq_true, List.all_eq_true] at e
    have q := e.2.2.2.2.2 ps[i] (by
      rw [List.mem_take_iff_getElem]
      exact ⟨i, by omega, rfl⟩)
    unfold clashB at q
    rw [a2, a3, b2, b3, decide_eq_true a1] at q
    simp at q
  have q1 := one hi hj ei ej
  have q2 := one hj hi ej ei
  omega
theorem mp_none {ps : List Den} {d : Int} {nm : ByteArray} : ∀ (k : Nat), k ≤ ps.length → (∀ j (h : j < ps.length), j < k → entHit d nm ps[j] = false) → Maps.has (mpD ps d k) (keyB nm) = false
  | 0, _, _ => rfl
  | k + 1, hk, h => by
    have ih := mp_none k (by omega) (fun j hj a => h j hj (by omega))
    unfold mpD
    split
    · rename_i c
      rw [Bool.and_eq_true, decide_eq_true_eq, beq_iff_eq, childAt_of (by omega), getD_of (by omega)] at c
      rw [getD_of (by omega), Maps.has_put_other]
      · exact ih
      · intro e
        have := h k (by omega) (by omega)
        rw [hit_iff.2 ⟨c.1, c.2, (key_inj e).symm⟩] at this
        cases this
    · exact ih
theorem mp_some {ps : List Den} {d : Int} {nm : ByteArray} {j : Nat} (hj : j < ps.length) (e : entHit d nm ps[j] = true) (once : ∀ i (h : i < ps.length), entHit d nm ps[i] = true → i = j) (z : DataW Unit) : ∀ (k : Nat), k ≤ ps.length → j < k → Maps.has (mpD ps d k) (keyB nm) = true ∧ (mpD ps d k).atKey (keyB nm) z = .lit (.int .i64 (j : Int))
  | 0, _, h => absurd h (by omega)
  | k + 1, hk, h => by
    by_cases q : j = k
    · subst q
      obtain ⟨a1, a2, a3⟩ := hit_iff.1 e
      unfold mpD
      rw [if_pos (by rw [Bool.and_eq_true, decide_eq_true_eq, beq_iff_eq, childAt_of hj, getD_of hj]; exact ⟨a1, a2⟩), getD_of hj, a3]
      exact ⟨Maps.has_put_same (mpD_map ps d j) (key_isKey _) _, Maps.atKey_put_same (mpD_map ps d j) (key_isKey _) _ _⟩
    · obtain ⟨i1, i2⟩ := mp_some hj e once z k (by omega) (by omega)
      unfold mpD
      split
      · rename_i c
        rw [Bool.and_eq_true, decide_eq_true_eq, beq_iff_eq, childAt_of (by omega), getD_of (by omega)] at c
        have ne : keyB nm ≠ keyB ps[k].name := fun e => q (once k (by omega) (hit_iff.2 ⟨c.1, c.2, (key_inj e).symm⟩)).symm
        rw [getD_of (by omega), Maps.has_put_other ne, Maps.atKey_put_other ne]
        exact ⟨i1, i2⟩
      · exact ⟨i1, i2⟩
/-- Of a right image the map has just the names of the directory. -/
theorem mp_find {ws : List Ino} {ps : List Den} (h : imgB ws ps = true) (d : Int) (nm : ByteArray) (z : DataW Unit) : (entAt ps d nm = none → Maps.has (mpD ps d ps.length) (keyB nm) = false) ∧ (∀ k, entAt ps d nm = some k → Maps.has (mpD ps d ps.length) (keyB nm) = true ∧ (mpD ps d ps.length).atKey (keyB nm) z = .lit (.int .i64 (k : Int))) := by
  constructor
  · intro e
    unfold entAt at e
    rw [List.findIdx?_eq_none_iff] at e
    exact mp_none _ (Nat.le_refl _) (fun j hj _ => by have := e _ (List.getElem_mem hj); simpa using this)
  · intro k e
    obtain ⟨hk, q⟩ := ent_some e
    exact mp_some hk q (fun i hi q' => ent_once h hi hk q' q) z _ (Nat.le_refl _) hk
theorem size_pos {D : DataW Unit} {k : Lit} (h : Maps.has D k = true) : 0 < Maps.size D := by
  cases D with
  | map es =>
    rw [Maps.has_eq, List.any_eq_true] at h
    obtain ⟨x, hx, _⟩ := h
    rw [Maps.size_eq]
    exact List.length_pos_of_mem hx
  | _ => cases h
theorem mp_empty {ps : List Den} {d : Int} : ∀ (k : Nat), k ≤ ps.length → (∀ j (h : j < ps.length), ¬ (0 ≤ ps[j].child ∧ ps[j].dir = d)) → mpD ps d k = .map []
  | 0, _, _ => rfl
  | k + 1, hk, h => by
    unfold mpD
    rw [if_neg]
    · exact mp_empty k (by omega) h
    · rw [Bool.and_eq_true, decide_eq_true_eq, beq_iff_eq, childAt_of (by omega), getD_of (by omega)]
      exact h k (by omega)
/-- The map is empty just where nothing is in the directory. -/
theorem mp_size {ws : List Ino} {ps : List Den} (h : imgB ws ps = true) (d : Int) : (namesD ps d = [] → Maps.size (mpD ps d ps.length) = 0) ∧ (¬ namesD ps d = [] → 0 < Maps.size (mpD ps d ps.length)) := by
  unfold namesD
  constructor
  · intro e
    rw [List.map_eq_nil_iff, List.filter_eq_nil_iff] at e
    rw [mp_empty _ (Nat.le_refl _) (fun j hj q => by
      have := e _ (List.getElem_mem hj)
      rw [decide_eq_true_eq] at this
      omega)]
    rfl
  · intro e
    obtain ⟨x, hx⟩ : ∃ x : Den, x ∈ ps.filter (fun y : Den => decide (¬ y.child < 0 ∧ y.dir = d)) := by
      apply List.exists_mem_of_ne_nil
      intro q
      rw [q] at e
      exact e rfl
    rw [List.mem_filter, decide_eq_true_eq] at hx
    obtain ⟨j, hj, rfl⟩ := List.getElem_of_mem hx.1
    have hit : entHit d ps[j].name ps[j] = true := hit_iff.2 ⟨by omega, hx.2.2, rfl⟩
    exact size_pos (mp_some hj hit (fun i hi q' => ent_once h hi hj q' hit) (.map []) _ (Nat.le_refl _) hj).1
/-- Nothing is in what is no directory. -/
theorem file_empty {ws : List Ino} {ps : List Den} (h : imgB ws ps = true) {d : Int} (k : ¬ kindAt ws d = 2) : namesD ps d = [] := by
  unfold namesD
  rw [List.map_eq_nil_iff, List.filter_eq_nil_iff]
  intro x hx
  obtain ⟨j, hj, rfl⟩ := List.getElem_of_mem hx
  rw [decide_eq_true_eq]
  rintro ⟨a, b⟩
  rcases pimg_ent h j hj with q | q
  · omega
  · exact k (by rw [← b]; exact q.2.2.2.2)
/-- In a right image an entry is free just where it leads nowhere. -/
theorem free_child {ws : List Ino} {ps : List Den} (h : imgB ws ps = true) (j : Nat) (hj : j < ps.length) : (!ps[j].freeB) = decide (0 ≤ ps[j].child) := by
  obtain ⟨_, _, _, _, he, _, _⟩ := pimg_all h
  have e := (of_decide_eq_true he : ∀ i (h : i < ps.length), entOne ws ps i ps[i] = true) j hj
  unfold entOne at e
  split at e
  · rename_i c
    rw [e, decide_eq_false (by omega)]; rfl
  · rename_i c
    simp only [Bool.and_eq_true, decide_eq_true_eq] at e
    rw [decide_eq_true (by omega)]
    unfold Den.freeB
    rw [show (ps[j].child == -1) = false by rw [beq_eq_false_iff_ne]; exact c, Bool.and_false, Bool.and_false]; rfl
end Go.Proofs.YtpgdpachomdfhaaGreatDoor
