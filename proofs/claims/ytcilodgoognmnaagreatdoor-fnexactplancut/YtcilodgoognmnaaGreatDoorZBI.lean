/- Several texts laid together: PlA, IgA, IgB, IgC, IgD, Pm, Small. -/
import Derived.Test.YtcilodgoognmnaaGreatDoorZBH
import Derived.Test.YtcilodgoognmnaaGreatDoorZBC
import Derived.Test.YtcilodgoognmnaaGreatDoorZBD
import Derived.Test.YtcilodgoognmnaaGreatDoorImX
import Derived.Test.YtcilodgoognmnaaGreatDoorZBE
import Derived.Maps.Views
import Derived.BigQuiet
import Derived.Sort.Walk0
import Derived.Laws.Cover1
import Derived.Test.YtcilodgoognmnaaGreatDoorZAH
import Derived.Deep.RegionWith
import Derived.Test.YtcilodgoognmnaaGreatDoorZAB
namespace Go.Proofs.YtcilodgoognmnaaGreatDoor
open Go.RowKit

/-- The entry of no name. -/
def freeD : Den := ⟨0, ⟨#[]⟩, -1⟩
theorem lkI_ok {ws : List Ino} {ps : List Den} {s : ByteArray} (h : imgB ws ps = true) : 0 ≤ (lkI ws ps s).1 ∧ (lkI ws ps s).1 ≤ 15 := by
  unfold lkI
  split
  · exact wk_range h _ 0 (by omega)
  · exact ⟨by decide, by decide⟩
theorem toList_same {s t : ByteArray} : (s.toList == t.toList) = true ↔ s = t := by
  rw [beq_iff_eq, ByteArray.toList_eq, ByteArray.toList_eq]
  exact ⟨bytes_ext, fun h => by rw [h]⟩
theorem hit_iff {d : Int} {nm : ByteArray} {x : Den} : entHit d nm x = true ↔ 0 ≤ x.child ∧ x.dir = d ∧ x.name = nm := by
  unfold entHit
  rw [Bool.and_eq_true, Bool.and_eq_true, decide_eq_true_eq, beq_iff_eq, toList_same]
/-- No two entries have one name in one directory. -/
theorem ent_once {ws : List Ino} {ps : List Den} (h : imgB ws ps = true) {d : Int} {nm : ByteArray} {i j : Nat} (hi : i < ps.length) (hj : j < ps.length) (ei : entHit d nm ps[i] = true) (ej : entHit d nm ps[j] = true) : i = j := by
  obtain ⟨_, _, _, _, he, _, _⟩ := pimg_all h
  have he := (of_decide_eq_true he : ∀ i (h : i < ps.length), entOne ws ps i ps[i] = true)
  have one : ∀ {i j : Nat} (hi : i < ps.length) (hj : j < ps.length), entHit d nm ps[i] = true → entHit d nm ps[j] = true → ¬ i < j := by
    intro i j hi hj ei ej lt
    obtain ⟨a1, a2, a3⟩ := hit_iff.1 ei
    obtain ⟨b1, b2, b3⟩ := hit_iff.1 ej
    have e := he j hj
    unfold entOne at e
    rw [if_neg (by omega)] at e
    simp only [Bool.and_eq_true, List.all_eq_true] at e
    have q := e.2.2.2.2.2 ps[i] (by
      rw [List.mem_take_iff_getElem]
      exact ⟨i, by omega, rfl⟩)
    unfold clashB at q
    rw [a2, a3, b2, b3, decide_eq_true a1] at q
    simp at q
  have q1 := one hi hj ei ej
  have q2 := one hj hi ej ei
  omega
end Go.Proofs.YtcilodgoognmnaaGreatDoor

namespace Go.Proofs.YtcilodgoognmnaaGreatDoor
open Go.RowKit

def inoAt (ws : List Ino) (i : Nat) : Ino := ws.getD i zeroN
def denAt (ps : List Den) (k : Nat) : Den := ps.getD k freeD
theorem inoAt_of {ws : List Ino} {i : Nat} (h : i < ws.length) : inoAt ws i = ws[i] := by
  unfold inoAt
  rw [List.getD_eq_getElem?_getD, List.getElem?_eq_getElem h]; rfl
theorem denAt_of {ps : List Den} {i : Nat} (h : i < ps.length) : denAt ps i = ps[i] := by
  unfold denAt
  rw [List.getD_eq_getElem?_getD, List.getElem?_eq_getElem h]; rfl
theorem kindAt_ino (ws : List Ino) (i : Nat) : kindAt ws (i : Int) = (inoAt ws i).kind := by unfold kindAt inoAt; rfl
theorem childAt_den {ps : List Den} {k : Nat} (h : k < ps.length) : childAt ps k = (denAt ps k).child := by rw [childAt_of h, denAt_of h]
theorem freeB_iff {x : Den} : x.freeB = true ↔ x = freeD := by
  unfold Den.freeB freeD
  simp only [Bool.and_eq_true, beq_iff_eq]
  constructor
  · rintro ⟨h1, h2, h3⟩
    obtain ⟨d, n, c⟩ := x
    simp only at h1 h2 h3
    subst h1 h3
    have : n = ⟨#[]⟩ := by
      apply bytes_ext
      have : n.data.toList.length = 0 := by simpa using h2
      rw [List.eq_nil_of_length_eq_zero this]
    rw [this]
  · intro h
    rw [h]
    exact ⟨rfl, rfl, rfl⟩
/-- An entry that is taken is right. -/
def EntOK (ws : List Ino) (x : Den) : Prop := (1 ≤ x.child ∧ x.child ≤ 15) ∧ (0 ≤ x.dir ∧ x.dir ≤ 15) ∧ nmB x.name = true ∧ ¬ kindAt ws x.child = 0 ∧ kindAt ws x.dir = 2
def cntA (ps : List Den) (c : Int) : Nat := (ps.filter fun x => x.child == c).length
/-- A right image. -/
structure Img (ws : List Ino) (ps : List Den) : Prop where
  l16 : ws.length = 16
  l24 : ps.length = 24
  root : kindAt ws 0 = 2
  ok : ∀ i, i < 16 → inoB (inoAt ws i) = true
  ent : ∀ k, k < 24 → denAt ps k = freeD ∨ EntOK ws (denAt ps k)
  once : ∀ j k, j < 24 → k < 24 → 0 ≤ (denAt ps j).child → 0 ≤ (denAt ps k).child → (denAt ps j).dir = (denAt ps k).dir → (denAt ps j).name = (denAt ps k).name → j = k
  links : ∀ i : Nat, i < 16 → (if i = 0 then 1 else 0) + (cntA ps (i : Int) : Int) = (inoAt ws i).links
  hang : ∀ i : Nat, i < 16 → (inoAt ws i).kind = 2 → hangs ps 16 (i : Int) = true
  sing : (mapped ws).Pairwise fun x y => x ≠ y
theorem okAll_ties {ws : List Ino} (l16 : ws.length = 16) (ok : ∀ i, i < 16 → inoB (inoAt ws i) = true) : ∀ e ∈ mapped ws, 0 ≤ e ∧ (e % 4 = 1 ∨ e % 4 = 2) := by
  apply mapped_ties
  intro i hi
  have := ok i (by omega)
  rw [inoAt_of hi] at this
  exact (ino_ties this).1
theorem img_iff {ws : List Ino} {ps : List Den} : imgB ws ps = true ↔ Img ws ps := by
  constructor
  · intro h
    obtain ⟨l1, l2, r, o, e, l, s⟩ := pimg_all h
    have o' := (of_decide_eq_true o : ∀ k (h : k < ws.length), inoB ws[k] = true)
    have e' := (of_decide_eq_true e : ∀ i (h : i < ps.length), entOne ws ps i ps[i] = true)
    have l' := (of_decide_eq_true l : ∀ i (h : i < ws.length), linkB ps i ws[i] = true)
    have ok : ∀ i, i < 16 → inoB (inoAt ws i) = true := fun i hi => by rw [inoAt_of (by omega)]; exact o' i (by omega)
    refine ⟨l1, l2, r, ok, ?_, ?_, ?_, ?_, ?_⟩
    · intro k hk
      rw [denAt_of (by omega)]
      have q := e' k (by omega)
      unfold entOne at q
      split at q
      · exact .inl (freeB_iff.1 q)
      · right
        rcases pimg_ent h k (by omega) with a | a
        · rename_i c; exact absurd a.1 c
        · exact a
    · intro j k hj hk cj ck hd hn
      refine ent_once h (d := (denAt ps j).dir) (nm := (denAt ps j).name) (i := j) (j := k) (by omega) (by omega) ?_ ?_
      · rw [denAt_of (by omega)] at cj ⊢
        exact hit_iff.2 ⟨cj, rfl, rfl⟩
      · rw [denAt_of (i := k) (by omega)] at ck hd hn
        exact hit_iff.2 ⟨ck, hd.symm, hn.symm⟩
    · intro i hi
      have q := l' i (by omega)
      unfold linkB cntD at q
      simp only [Bool.and_eq_true, decide_eq_true_eq] at q
      rw [inoAt_of (by omega), ← q.1, List.take_length]
      rfl
    · intro i hi hk
      rw [inoAt_of (by omega)] at hk
      have q := l' i (by omega)
      unfold linkB at q
      simp only [Bool.and_eq_true, Bool.or_eq_true, decide_eq_true_eq] at q
      rcases q.2 with q | q
      · exact absurd hk q
      · exact q
    · unfold singB at s
      rw [single_eq (fun e he => (okAll_ties l1 ok e he).2), once_nodup] at s
      exact s
  · rintro ⟨l1, l2, r, o, e, c, l, g, s⟩
    unfold imgB
    have hs : singB ws = true := by
      unfold singB
      rw [single_eq (fun e he => (okAll_ties l1 o e he).2), once_nodup]
      exact s
    have ho : okNs ws = true := decide_eq_true fun k hk => by rw [← inoAt_of hk]; exact o k (by omega)
    have hl : linksB ws ps = true := decide_eq_true fun i hi => by
      unfold linkB cntD
      rw [List.take_length, ← inoAt_of hi]
      simp only [Bool.and_eq_true, Bool.or_eq_true, decide_eq_true_eq]
      refine ⟨l i (by omega), ?_⟩
      by_cases q : (inoAt ws i).kind = 2
      · exact .inr (g i (by omega) q)
      · exact .inl q
    have he : entsB ws ps = true := decide_eq_true fun i hi => by
      unfold entOne
      rw [← denAt_of hi]
      rcases e i (by omega) with q | q
      · rw [q]
        rfl
      · obtain ⟨q1, q2, q3, q4, q5⟩ := q
        rw [if_neg (by omega), decide_eq_true q1, decide_eq_true q2, q3, q5]
        simp only [Bool.true_and, Bool.and_eq_true, Bool.not_eq_true', beq_eq_false_iff_ne, List.all_eq_true]
        refine ⟨q4, by decide, ?_⟩
        intro y hy
        obtain ⟨j, hj, rfl⟩ := List.mem_take_iff_getElem.1 hy
        have hj := Nat.lt_min.1 hj
        have hc : clashB ps[j] (denAt ps i) = false := by
          rw [Bool.eq_false_iff]
          intro hc
          unfold clashB at hc
          rw [Bool.and_eq_true, Bool.and_eq_true, decide_eq_true_eq, beq_iff_eq, toList_same] at hc
          rw [← denAt_of hj.2] at hc
          have := c j i (by omega) (by omega) hc.1 (by omega) hc.2.1 hc.2.2
          omega
        rw [hc]
    rw [decide_eq_true l1, decide_eq_true l2, r, ho, he, hl, hs]
    rfl
end Go.Proofs.YtcilodgoognmnaaGreatDoor

namespace Go.Proofs.YtcilodgoognmnaaGreatDoor
open Go.RowKit

/-- Of a right image: what is above is a directory. -/
theorem up_dir {ws : List Ino} {ps : List Den} (ent : ∀ k, k < ps.length → denAt ps k = freeD ∨ EntOK ws (denAt ps k)) {c : Int} (hc : 0 ≤ c) (h : 0 ≤ upD ps c) : ∃ k, k < ps.length ∧ (denAt ps k).child = c ∧ (denAt ps k).dir = upD ps c ∧ EntOK ws (denAt ps k) := by
  unfold upD at h ⊢
  cases e : ps.find? fun x => x.child == c with
  | none => rw [e] at h; exact absurd h (by decide)
  | some x =>
    have hx := List.mem_of_find?_eq_some e
    have hp := List.find?_some e
    obtain ⟨k, hk, rfl⟩ := List.getElem_of_mem hx
    refine ⟨k, hk, ?_⟩
    rw [denAt_of hk]
    refine ⟨by simpa using hp, rfl, ?_⟩
    have := ent k hk
    rw [denAt_of hk] at this
    rcases this with q | q
    · rw [q] at hp
      have : freeD.child = c := by simpa using hp
      exact absurd hc (by rw [← this]; decide)
    · exact q
end Go.Proofs.YtcilodgoognmnaaGreatDoor

namespace Go.Proofs.YtcilodgoognmnaaGreatDoor
open Go.RowKit

theorem Img.ent' {ws : List Ino} {ps : List Den} (h : Img ws ps) : ∀ k, k < ps.length → denAt ps k = freeD ∨ EntOK ws (denAt ps k) := fun k hk => h.ent k (by have := h.l24; omega)
theorem Img.dir {ws : List Ino} {ps : List Den} (h : Img ws ps) {c : Int} (hc : 0 ≤ c) (hu : 0 ≤ upD ps c) : kindAt ws (upD ps c) = 2 ∧ upD ps c ≤ 15 := by
  obtain ⟨k, hk, _, e, q⟩ := up_dir h.ent' hc hu
  rw [← e]
  exact ⟨q.2.2.2.2, q.2.1.2⟩
end Go.Proofs.YtcilodgoognmnaaGreatDoor

namespace Go.Proofs.YtcilodgoognmnaaGreatDoor
open Go.RowKit

theorem ino_parts {x : Ino} (h : inoB x = true) : (0 ≤ x.kind ∧ x.kind ≤ 2) ∧ (0 ≤ x.size ∧ x.size ≤ 8) ∧ (0 ≤ x.links ∧ x.links ≤ 24) ∧ mapB x.map x.size = true ∧ kindB x = true := by
  unfold inoB at h
  simp only [Bool.and_eq_true, decide_eq_true_eq] at h
  exact h
end Go.Proofs.YtcilodgoognmnaaGreatDoor

namespace Go.Proofs.YtcilodgoognmnaaGreatDoor
open Go.RowKit

/-- A memory that can be read: its words, and its stores. -/
def RdPm (w : World) (v : Value) (ws : List Int) (ps : List St) : Prop := ∃ vW vP, v = .agg #[vW, vP] ∧ RdI w vW ws ∧ RdS w vP ps
/-- A memory of a call's own. -/
def RowPm (w : World) (lo hi : Nat) (v : Value) (ws : List Int) (ps : List St) : Prop := ∃ vW vP, v = .agg #[vW, vP] ∧ Row w 3 1 lo hi vW ws.length (ints ws) ∧ Row w 197 3 lo hi vP ps.length (sts ps)

theorem RowPm.rd {w : World} {lo hi : Nat} {v : Value} {ws : List Int} {ps : List St} (h : RowPm w lo hi v ws ps) : RdPm w v ws ps := by
  obtain ⟨vW, vP, rfl, h1, h2⟩ := h
  exact ⟨vW, vP, rfl, h1.rd, h2.rd⟩
theorem RdPm.below {w w' : World} {v : Value} {ws : List Int} {ps : List St} (h : RdPm w v ws ps) (hb : Below w.heap.size w w') : RdPm w' v ws ps := by
  obtain ⟨vW, vP, rfl, h1, h2⟩ := h
  exact ⟨vW, vP, rfl, Rd.below h1 hb, Rd.below h2 hb⟩
theorem RowPm.below {w w' : World} {lo hi : Nat} {v : Value} {ws : List Int} {ps : List St} (h : RowPm w lo hi v ws ps) {B : Nat} (hb : Below B w w') (hB : hi ≤ B) : RowPm w' lo hi v ws ps := by
  obtain ⟨vW, vP, rfl, h1, h2⟩ := h
  exact ⟨vW, vP, rfl, h1.below hb hB, h2.below hb hB⟩
theorem RowPm.outside {w w' : World} {lo hi : Nat} {v : Value} {ws : List Int} {ps : List St} (h : RowPm w lo hi v ws ps) {lo' hi' : Nat} (ho : Outside lo' hi' w w') (hd : hi ≤ lo' ∨ hi' ≤ lo) (hz : hi ≤ w.heap.size) : RowPm w' lo hi v ws ps := by
  obtain ⟨vW, vP, rfl, h1, h2⟩ := h
  exact ⟨vW, vP, rfl, h1.outside ho hd hz, h2.outside ho hd hz⟩
theorem RowPm.wide {w : World} {lo hi : Nat} {v : Value} {ws : List Int} {ps : List St} (h : RowPm w lo hi v ws ps) {lo' hi' : Nat} (h1 : lo' ≤ lo) (h2 : hi ≤ hi') : RowPm w lo' hi' v ws ps := by
  obtain ⟨vW, vP, rfl, a, b⟩ := h
  exact ⟨vW, vP, rfl, a.wide h1 h2, b.wide h1 h2⟩

end Go.Proofs.YtcilodgoognmnaaGreatDoor

namespace Go.Proofs.YtcilodgoognmnaaGreatDoor
open Go.RowKit

theorem RowPm.setCell {w : World} {lo hi : Nat} {v : Value} {ws : List Int} {ps : List St} (h : RowPm w lo hi v ws ps) {a : Addr} (ha : a.block < lo) (u : Value) : RowPm (w.setCell a u) lo hi v ws ps := by
  obtain ⟨vW, vP, rfl, h1, h2⟩ := h
  exact ⟨vW, vP, rfl, h1.same (fun b hb _ => Below.heap_setCell _ _ _ _ (by omega)), h2.same (fun b hb _ => Below.heap_setCell _ _ _ _ (by omega))⟩
theorem RowPm.alloc {w : World} {lo hi : Nat} {v : Value} {ws : List Int} {ps : List St} (h : RowPm w lo hi v ws ps) (hi1 : hi ≤ w.heap.size) (o : Obj) : RowPm (w.alloc o) lo hi v ws ps :=
  h.below ((Below.refl _ _).alloc (Nat.le_refl _) o) hi1
end Go.Proofs.YtcilodgoognmnaaGreatDoor
