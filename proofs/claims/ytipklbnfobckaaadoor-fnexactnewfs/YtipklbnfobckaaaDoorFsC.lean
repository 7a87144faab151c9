/- Boxes are written: what is read stays, where it lies in no box. -/
import Derived.Test.YtipklbnfobckaaaDoorDev
import Derived.Test.YtipklbnfobckaaaDoorZAL
import Derived.Test.YtipklbnfobckaaaDoorStA
import Derived.Test.YtipklbnfobckaaaDoorZAP
namespace Go.Proofs.YtipklbnfobckaaaDoor
open Go.RowKit

def isIB : Value → Bool
  | .int _ _ => true
  | _ => false
def isSB : Value → Bool
  | .string _ => true
  | _ => false
/-- Cells that hold no text, and no three numbers one behind the other. -/
def softL : List Value → Bool
  | [] => true
  | [a] => !isSB a
  | [a, b] => !isSB a && !isSB b
  | a :: b :: c :: t => !isSB a && !(isIB a && isIB b && isIB c) && softL (b :: c :: t)
theorem soft_tail {a : Value} {l : List Value} (h : softL (a :: l) = true) : isSB a = false ∧ softL l = true := by
  match l with
  | [] => simp [softL] at h; exact ⟨h, rfl⟩
  | [b] => simp [softL] at h; exact ⟨h.1, by simp [softL, h.2]⟩
  | b :: c :: t =>
    simp only [softL, Bool.and_eq_true, Bool.not_eq_true'] at h
    exact ⟨h.1.1, h.2⟩
theorem soft_text : ∀ {l : List Value}, softL l = true → ∀ (j : Nat) (v : Value), l[j]? = some v → isSB v = false
  | [], _, j, v, e => by cases e
  | a :: l, h, 0, v, e => by
    simp only [List.getElem?_cons_zero, Option.some.injEq] at e
    rw [← e]
    exact (soft_tail h).1
  | a :: l, h, j + 1, v, e => soft_text (soft_tail h).2 j v (by simpa using e)
theorem soft_three : ∀ {l : List Value}, softL l = true → ∀ (j : Nat) (a b c : Value), l[j]? = some a → l[j + 1]? = some b → l[j + 2]? = some c → ¬ (isIB a = true ∧ isIB b = true ∧ isIB c = true)
  | [], _, j, _, _, _, e, _, _ => by cases e
  | x :: l, h, 0, a, b, c, e1, e2, e3 => by
    match l, h, e2, e3 with
    | [], _, e2, _ => simp at e2
    | [y], _, _, e3 => simp at e3
    | y :: z :: t, h, e2, e3 =>
      simp only [List.getElem?_cons_zero, List.getElem?_cons_succ, Option.some.injEq] at e1 e2 e3
      subst e1 e2 e3
      simp only [softL, Bool.and_eq_true, Bool.not_eq_true'] at h
      intro q
      have := h.1.2
      rw [q.1, q.2.1, q.2.2] at this
      cases this
  | x :: l, h, j + 1, a, b, c, e1, e2, e3 => soft_three (soft_tail h).2 j a b c (by simpa using e1) (by simpa using e2) (by simpa using e3)
/-- What cannot lie in a box. -/
def Hard (xs : List Value) : Prop := (∃ (j : Nat) (v : Value), xs[j]? = some v ∧ isSB v = true) ∨ ∃ (j : Nat) (a b c : Value), xs[j]? = some a ∧ xs[j + 1]? = some b ∧ xs[j + 2]? = some c ∧ isIB a = true ∧ isIB b = true ∧ isIB c = true
/-- Boxes alone are turned. -/
structure Soft (w w' : World) : Prop where
  size : w.heap.size ≤ w'.heap.size
  blk : ∀ j, j < w.heap.size → w'.heap[j]? = w.heap[j]? ∨ ∃ cs t fr, w.heap[j]? = some (.cells cs t fr) ∧ softL cs.toList = true
theorem Soft.refl (w : World) : Soft w w := ⟨Nat.le_refl _, fun _ _ => .inl rfl⟩
theorem Soft.trans {a b c : World} (h : Soft a b) (k : Soft b c) : Soft a c :=
  ⟨Nat.le_trans h.size k.size, fun j hj => by
    rcases h.blk j hj with e | e
    · rcases k.blk j (Nat.lt_of_lt_of_le hj h.size) with f | f
      · exact .inl (f.trans e)
      · rw [e] at f
        exact .inr f
    · exact .inr e⟩
theorem Soft.of_below {w w' : World} (h : Below w.heap.size w w') : Soft w w' := ⟨h.size, fun j hj => .inl (h.block j hj)⟩
theorem Soft.alloc {a w : World} (h : Soft a w) (o : Obj) : Soft a (w.alloc o) := h.trans (.of_below ((Below.refl _ _).alloc (Nat.le_refl _) _))
theorem Soft.outside {w w' : World} {b : Nat} {cs : Array Value} {t : TypeId} {fr : Nat × Nat} (h : Outside b (b + 1) w w') (hb : w.heap[b]? = some (.cells cs t fr)) (hs : softL cs.toList = true) : Soft w w' :=
  ⟨h.size, fun k hk => by
    by_cases e : k = b
    · subst e
      exact .inr ⟨cs, t, fr, hb, hs⟩
    · exact .inl (h.block k hk (by omega))⟩
theorem Rd.soft {w w' : World} {size : Nat} {v : Value} {n : Nat} {xs : List Value} (h : Rd w size v n xs) (hs : Soft w w') (hd : 0 < n * size → Hard xs) : Rd w' size v n xs := by
  by_cases hn : 0 < n * size
  · refine h.same hs.size (fun j hj he => ?_)
    rcases hs.blk j hj with e | ⟨cs, t, fr, hb, sf⟩
    · exact e
    · exfalso
      obtain ⟨hl, ao, cap, rfl, _, hc⟩ := h
      have hn' : 0 < n := by
        rcases Nat.eq_zero_or_pos n with e | e
        · subst e; simp at hn
        · exact e
      obtain ⟨b', o, rfl, _, hc⟩ := hc hn'
      simp only [Value.ownBlock, Option.some.injEq] at he
      subst he
      have C : ∀ k u, xs[k]? = some u → cs.toList[o + k]? = some u := fun k u e => by
        have hk : k < n * size := by
          have := (List.getElem?_eq_some_iff.1 e).1
          omega
        have := hc k hk
        rw [e] at this
        simp only [World.cell?, hb] at this
        simpa using this
      rcases hd hn with ⟨k, u, e, f⟩ | ⟨k, a, b, c, e1, e2, e3, f1, f2, f3⟩
      · have := soft_text sf _ _ (C k u e)
        rw [f] at this
        cases this
      · exact soft_three sf (o + k) a b c (C k a e1) (C (k + 1) b e2) (C (k + 2) c e3) ⟨f1, f2, f3⟩
  · obtain ⟨h3, ao, cap, rfl, h4, h5⟩ := h
    refine ⟨h3, ao, cap, rfl, h4, fun hp => ?_⟩
    obtain ⟨b', o, e, hlt, hc⟩ := h5 hp
    exact ⟨b', o, e, Nat.lt_of_lt_of_le hlt hs.size, fun j hj => absurd (Nat.lt_of_le_of_lt (Nat.zero_le _) hj) hn⟩
theorem hard_ints {zs : List Int} (h : 3 ≤ zs.length) : Hard (ints zs) := .inr ⟨0, _, _, _, ints_at zs 0 (by omega), ints_at zs 1 (by omega), ints_at zs 2 (by omega), rfl, rfl, rfl⟩
theorem RdI.soft {w w' : World} {v : Value} {zs : List Int} (h : RdI w v zs) (hs : Soft w w') (h3 : 3 ≤ zs.length) : RdI w' v zs := Rd.soft h hs (fun _ => hard_ints h3)
theorem hard_mis {l : List Mi} (h : 0 < l.length) : Hard (mis l) := by
  have a := mis_at0 l 0 h
  have b := mis_at1 l 0 h
  have c := mis_at2 l 0 h
  rw [Nat.zero_mul] at a b c
  exact .inr ⟨0, _, _, _, a, b, c, rfl, rfl, rfl⟩
theorem RdM.soft {w w' : World} {v : Value} {l : List Mi} (h : RdM w v l) (hs : Soft w w') : RdM w' v l := Rd.soft h hs (fun hn => hard_mis (by omega))
theorem hard_strs {l : List ByteArray} (h : 0 < l.length) : Hard (strs l) := .inl ⟨0, .string l[0], by simp [strs, h], rfl⟩
theorem RdT.soft {w w' : World} {v : Value} {l : List ByteArray} (h : RdT w v l) (hs : Soft w w') : RdT w' v l := Rd.soft h hs (fun hn => hard_strs (by omega))
theorem Rd.softNil {w w' : World} {size : Nat} {v : Value} (h : Rd w size v 0 []) (hs : Soft w w') : Rd w' size v 0 [] := Rd.soft h hs (fun hn => by simp at hn)
theorem RdDev.soft {w w' : World} {v : Value} {ws es : List Int} (h : RdDev w v ws [] es []) (hs : Soft w w') (h1 : 3 ≤ ws.length) (h2 : 3 ≤ es.length) : RdDev w' v ws [] es [] := by
  obtain ⟨vW, vP, vS, vQ, rfl, ⟨_, _, e1, a, b⟩, ⟨_, _, e2, c, d⟩⟩ := h
  cases e1
  cases e2
  exact ⟨_, _, _, _, rfl, ⟨_, _, rfl, RdI.soft a hs h1, Rd.softNil b hs⟩, ⟨_, _, rfl, RdI.soft c hs h2, Rd.softNil d hs⟩⟩
theorem hard_inos {l : List Ino} (h : 0 < l.length) : Hard (inos l) := .inr ⟨0, _, _, _, by have := inos_at l 0 0 h (by omega); rw [Nat.zero_mul] at this; exact this, by have := inos_at l 0 1 h (by omega); rw [Nat.zero_mul] at this; exact this, by have := inos_at l 0 2 h (by omega); rw [Nat.zero_mul] at this; exact this, rfl, rfl, rfl⟩
theorem RdN.soft {w w' : World} {v : Value} {l : List Ino} (h : RdN w v l) (hs : Soft w w') : RdN w' v l := Rd.soft h hs (fun hn => hard_inos (by omega))
theorem RdD.soft {w w' : World} {v : Value} {l : List Den} (h : RdD w v l) (hs : Soft w w') : RdD w' v l := Rd.soft h hs (fun hn => by
  have h0 : 0 < l.length := by omega
  exact .inl ⟨1, .string l[0].name, by have := dens_at1 l 0 h0; rw [Nat.zero_mul] at this; exact this, rfl⟩)
theorem RdIm.soft {w w' : World} {v : Value} {ns : List Ino} {ds : List Den} (h : RdIm w v ns ds) (hs : Soft w w') : RdIm w' v ns ds := by
  obtain ⟨a, b, rfl, c, d⟩ := h
  exact ⟨a, b, rfl, c.soft hs, d.soft hs⟩
end Go.Proofs.YtipklbnfobckaaaDoor
