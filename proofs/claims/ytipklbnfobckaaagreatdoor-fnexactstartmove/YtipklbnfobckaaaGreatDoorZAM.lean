/- Several texts laid together: FsC, FsD, FsE, MiT. -/
import Derived.Test.YtipklbnfobckaaaGreatDoorZAE
import Derived.Test.YtipklbnfobckaaaGreatDoorZAH
import Derived.Test.YtipklbnfobckaaaGreatDoorZAL
import Derived.Test.YtipklbnfobckaaaGreatDoorZAK
import Derived.Test.YtipklbnfobckaaaGreatDoorZAI
import Derived.Deep.DeepCutAuto
import Derived.Deep.RegionHeld3
import Derived.Deep.RegionLaw
import Derived.Deep.RegionWith
namespace Go.Proofs.YtipklbnfobckaaaGreatDoor
open Go.RowKit

def isIB : Value → Bool
 | .int _ _ => true
 | _ => false
def isSB : Value → Bool
 | .string _ => true
 | _ => false
/-- Cells that hold no text, and no three numbers one behind the other. -/
def zin : List Value → Bool
 | [] => true
 | [a] => !isSB a
 | [a, b] => !isSB a && !isSB b
 | a :: b :: c :: t => !isSB a && !(isIB a && isIB b && isIB c) && zin (b :: c :: t)
theorem zml {a : Value} {l : List Value} (h : zin (a :: l) = true) : isSB a = false ∧ zin l = true := by
 match l with
 | [] => simp [zin] at h; exact ⟨h, rfl⟩
 | [b] => simp [zin] at h; exact ⟨h.1, by simp [zin, h.2]⟩
 | b :: c :: t =>
  simp only [zin, Bool.and_eq_true, Bool.not_eq_true'] at h
  exact ⟨h.1.1, h.2⟩
theorem zso : ∀ {l : List Value}, zin l = true → ∀ (j : Nat) (v : Value), l[j]? = some v → isSB v = false
 | [], _, j, v, e => by cases e
 | a :: l, h, 0, v, e => by
  simp only [List.getElem?_cons_zero, Option.some.injEq] at e
  rw [← e]
  exact (zml h).1
 | a :: l, h, j + 1, v, e => zso (zml h).2 j v (by simpa using e)
theorem zok : ∀ {l : List Value}, zin l = true → ∀ (j : Nat) (a b c : Value), l[j]? = some a → l[j + 1]? = some b → l[j + 2]? = some c → ¬ (isIB a = true ∧ isIB b = true ∧ isIB c = true)
 | [], _, j, _, _, _, e, _, _ => by cases e
 | x :: l, h, 0, a, b, c, e1, e2, e3 => by
  match l, h, e2, e3 with
  | [], _, e2, _ => simp at e2
  | [y], _, _, e3 => simp at e3
  | y :: z :: t, h, e2, e3 =>
   simp only [List.getElem?_cons_zero, List.getElem?_cons_succ, Option.some.injEq] at e1 e2 e3
   subst e1 e2 e3
   simp only [zin, Bool.and_eq_true, Bool.not_eq_true'] at h
   intro q
   have := h.1.2
   rw [q.1, q.2.1, q.2.2] at this
   cases this
 | x :: l, h, j + 1, a, b, c, e1, e2, e3 => zok (zml h).2 j a b c (by simpa using e1) (by simpa using e2) (by simpa using e3)
/-- What cannot lie in a box. -/
def Hard (xs : List Value) : Prop := (∃ (j : Nat) (v : Value), xs[j]? = some v ∧ isSB v = true) ∨ ∃ (j : Nat) (a b c : Value), xs[j]? = some a ∧ xs[j + 1]? = some b ∧ xs[j + 2]? = some c ∧ isIB a = true ∧ isIB b = true ∧ isIB c = true
/-- Boxes alone are turned. -/
structure Soft (w w' : World) : Prop where
 size : w.heap.size ≤ w'.heap.size
 blk : ∀ j, j < w.heap.size → w'.heap[j]? = w.heap[j]? ∨ ∃ cs t fr, w.heap[j]? = some (.cells cs t fr) ∧ zin cs.toList = true
theorem Soft.refl (w : World) : Soft w w := ⟨Nat.le_refl _, fun _ _ => .inl rfl⟩
theorem Soft.trans {a b c : World} (h : Soft a b) (k : Soft b c) : Soft a c :=
 ⟨Nat.le_trans h.size k.size, fun j hj => by
  rcases h.blk j hj with e | e
  ·rcases k.blk j (Nat.lt_of_lt_of_le hj h.size) with f | f
   ·exact .inl (f.trans e)
   ·rw [e] at f
    exact .inr f
  ·exact .inr e⟩
theorem Soft.of_below {w w' : World} (h : Below w.heap.size w w') : Soft w w' := ⟨h.size, fun j hj => .inl (h.block j hj)⟩
theorem Soft.alloc {a w : World} (h : Soft a w) (o : Obj) : Soft a (w.alloc o) := h.trans (.of_below ((Below.refl _ _).alloc (Nat.le_refl _) _))
theorem Soft.drew {a w : World} (h : Soft a w) : Soft a w.drew := h.trans (.of_below (Below.refl _ _).drew)
theorem Soft.set {a w : World} (h : Soft a w) {b : Nat} {cs : Array Value} {t : TypeId} {fr : Nat × Nat} (hb : w.heap[b]? = some (.cells cs t fr)) (hs : zin cs.toList = true) (j : Nat) (u : Value) : Soft a (w.setCell ⟨b, j, none⟩ u) :=
 h.trans ⟨by simp [World.setCell], fun k _ => by
  by_cases e : k = b
  ·subst e
   exact .inr ⟨cs, t, fr, hb, hs⟩
  ·exact .inl (Below.heap_setCell _ _ _ _ e)⟩
theorem Soft.outside {w w' : World} {b : Nat} {cs : Array Value} {t : TypeId} {fr : Nat × Nat} (h : Outside b (b + 1) w w') (hb : w.heap[b]? = some (.cells cs t fr)) (hs : zin cs.toList = true) : Soft w w' :=
 ⟨h.size, fun k hk => by
  by_cases e : k = b
  ·subst e
   exact .inr ⟨cs, t, fr, hb, hs⟩
  ·exact .inl (h.block k hk (by omega))⟩
theorem Rd.soft {w w' : World} {size : Nat} {v : Value} {n : Nat} {xs : List Value} (h : Rd w size v n xs) (hs : Soft w w') (hd : 0 < n * size → Hard xs) : Rd w' size v n xs := by
 by_cases hn : 0 < n * size
 ·refine h.same hs.size (fun j hj he => ?_)
  rcases hs.blk j hj with e | ⟨cs, t, fr, hb, sf⟩
  ·exact e
  ·exfalso
   obtain ⟨hl, ao, cap, rfl, _, hc⟩ := h
   have hn' : 0 < n := by
    rcases Nat.eq_zero_or_pos n with e | e
    ·subst e; simp at hn
    ·exact e
   obtain ⟨b', o, rfl, _, hc⟩ := hc hn'
   simp only [Value.ownBlock, Option.some.injEq] at he
   subst he
   have C : ∀ k u, xs[k]? = some u → cs.toList[o + k]? = some u := fun k u e => by
    have hk : k < n * size := by
     have := (List.getElem?_eq_some_iff.1 e).1
     omega
    have := hc k hk
    rw [e] at this
    simp only [World.cell?, hb] at this
    simpa using this
   rcases hd hn with ⟨k, u, e, f⟩ | ⟨k, a, b, c, e1, e2, e3, f1, f2, f3⟩
   ·have := zso sf _ _ (C k u e)
    rw [f] at this
    cases this
   ·exact zok sf (o + k) a b c (C k a e1) (C (k + 1) b e2) (C (k + 2) c e3) ⟨f1, f2, f3⟩
 ·obtain ⟨h3, ao, cap, rfl, h4, h5⟩ := h
  refine ⟨h3, ao, cap, rfl, h4, fun hp => ?_⟩
  obtain ⟨b', o, e, hlt, hc⟩ := h5 hp
  exact ⟨b', o, e, Nat.lt_of_lt_of_le hlt hs.size, fun j hj => absurd (Nat.lt_of_le_of_lt (Nat.zero_le _) hj) hn⟩
theorem hard_ints {zs : List Int} (h : 3 ≤ zs.length) : Hard (zca zs) := .inr ⟨0, _, _, _, zck zs 0 (by omega), zck zs 1 (by omega), zck zs 2 (by omega), rfl, rfl, rfl⟩
theorem RdI.soft {w w' : World} {v : Value} {zs : List Int} (h : RdI w v zs) (hs : Soft w w') (h3 : 3 ≤ zs.length) : RdI w' v zs := Rd.soft h hs (fun _ => hard_ints h3)
theorem hard_mis {l : List Mi} (h : 0 < l.length) : Hard (mis l) := by
 have a := zjf l 0 h
 have b := zjg l 0 h
 have c := zjk l 0 h
 rw [Nat.zero_mul] at a b c
 exact .inr ⟨0, _, _, _, a, b, c, rfl, rfl, rfl⟩
theorem RdM.soft {w w' : World} {v : Value} {l : List Mi} (h : RdM w v l) (hs : Soft w w') : RdM w' v l := Rd.soft h hs (fun hn => hard_mis (by omega))
theorem hard_strs {l : List ByteArray} (h : 0 < l.length) : Hard (zej l) := .inl ⟨0, .string l[0], by simp [zej, h], rfl⟩
theorem RdT.soft {w w' : World} {v : Value} {l : List ByteArray} (h : RdT w v l) (hs : Soft w w') : RdT w' v l := Rd.soft h hs (fun hn => hard_strs (by omega))
theorem Rd.softNil {w w' : World} {size : Nat} {v : Value} (h : Rd w size v 0 []) (hs : Soft w w') : Rd w' size v 0 [] := Rd.soft h hs (fun hn => by simp at hn)
theorem RdDev.soft {w w' : World} {v : Value} {ws es : List Int} (h : RdDev w v ws [] es []) (hs : Soft w w') (h1 : 3 ≤ ws.length) (h2 : 3 ≤ es.length) : RdDev w' v ws [] es [] := by
 obtain ⟨vW, vP, vS, vQ, rfl, ⟨_, _, e1, a, b⟩, ⟨_, _, e2, c, d⟩⟩ := h
 cases e1
 cases e2
 exact ⟨_, _, _, _, rfl, ⟨_, _, rfl, RdI.soft a hs h1, Rd.softNil b hs⟩, ⟨_, _, rfl, RdI.soft c hs h2, Rd.softNil d hs⟩⟩
theorem hard_inos {l : List Ino} (h : 0 < l.length) : Hard (inos l) := .inr ⟨0, _, _, _, by have := zcw l 0 0 h (by omega); rw [Nat.zero_mul] at this; exact this, by have := zcw l 0 1 h (by omega); rw [Nat.zero_mul] at this; exact this, by have := zcw l 0 2 h (by omega); rw [Nat.zero_mul] at this; exact this, rfl, rfl, rfl⟩
theorem RdN.soft {w w' : World} {v : Value} {l : List Ino} (h : RdN w v l) (hs : Soft w w') : RdN w' v l := Rd.soft h hs (fun hn => hard_inos (by omega))
theorem RdD.soft {w w' : World} {v : Value} {l : List Den} (h : RdD w v l) (hs : Soft w w') : RdD w' v l := Rd.soft h hs (fun hn => by
 have h0 : 0 < l.length := by omega
 exact .inl ⟨1, .string l[0].name, by have := dens_at1 l 0 h0; rw [Nat.zero_mul] at this; exact this, rfl⟩)
theorem RdIm.soft {w w' : World} {v : Value} {ns : List Ino} {ds : List Den} (h : RdIm w v ns ds) (hs : Soft w w') : RdIm w' v ns ds := by
 obtain ⟨a, b, rfl, c, d⟩ := h
 exact ⟨a, b, rfl, c.soft hs, d.soft hs⟩
end Go.Proofs.YtipklbnfobckaaaGreatDoor

namespace Go.Proofs.YtipklbnfobckaaaGreatDoor
open Go.RowKit

theorem zmt {a b c : World} (h1 : Below a.heap.size a b) (h2 : Below b.heap.size b c) : Below a.heap.size a c := zab h1 h2 h1.size
theorem RdDev.put {w : World} {b : Nat} {ws : List Int} {ps : List St} {es : List Int} {qs : List Se} {v : Value} {x y z u : Value} {t : TypeId} {fr : Nat × Nat} (h : RdDev w v ws ps es qs) (hb : w.heap[b]? = some (.cells #[x, y, z, u] t fr)) (hx : ∀ n, ¬ x = .int .i64 n) (hy : ∀ n, ¬ y = .int .i64 n) (hz : ∀ n, ¬ z = .int .i64 n) (hu : ∀ n, ¬ u = .int .i64 n) (p q r s : Value) : RdDev (putR w b p q r s) v ws ps es qs := by
 obtain ⟨vW, vP, vS, vQ, rfl, h1, h2⟩ := h
 have O := zqm w b p q r s
 have N := noints hx hy hz hu
 exact ⟨_, _, _, _, rfl, h1.boxless hb N O.size (fun j hj hn => O.block j hj (by omega)), h2.boxless hb N O.size (fun j hj hn => O.block j hj (by omega))⟩
end Go.Proofs.YtipklbnfobckaaaGreatDoor

namespace Go.Proofs.YtipklbnfobckaaaGreatDoor
open Go.RowKit

/-- A file system that can be read: words, sectors, heat, steps, the answer, whether it waits. -/
def RdFs (w : World) (v : Value) (ws es hs : List Int) (td : List Mi) (cd vl : Int) (nm : List ByteArray) (fr : Bool) : Prop :=
 ∃ aW cW aP cP aS cS aQ cQ aH cH aT cT aN cN, v = .agg #[.slice aW ws.length cW, .slice aP 0 cP, .slice aS es.length cS, .slice aQ 0 cQ, .slice aH hs.length cH, .slice aT td.length cT, .int .i64 cd, .int .i64 vl, .slice aN nm.length cN, .bool fr] ∧ RdDev w (.agg #[.slice aW ws.length cW, .slice aP 0 cP, .slice aS es.length cS, .slice aQ 0 cQ]) ws [] es [] ∧ RdI w (.slice aH hs.length cH) hs ∧ RdM w (.slice aT td.length cT) td ∧ RdT w (.slice aN nm.length cN) nm
theorem RdFs.soft {w w' : World} {v : Value} {ws es hs : List Int} {td : List Mi} {cd vl : Int} {nm : List ByteArray} {fr : Bool} (h : RdFs w v ws es hs td cd vl nm fr) (s : Soft w w') (h1 : 3 ≤ ws.length) (h2 : 3 ≤ es.length) (h3 : 3 ≤ hs.length) : RdFs w' v ws es hs td cd vl nm fr := by
 obtain ⟨aW, cW, aP, cP, aS, cS, aQ, cQ, aH, cH, aT, cT, aN, cN, rfl, a, b, c, d⟩ := h
 exact ⟨aW, cW, aP, cP, aS, cS, aQ, cQ, aH, cH, aT, cT, aN, cN, rfl, a.soft s h1 h2, b.soft s h3, c.soft s, d.soft s⟩
theorem RdFs.below {w w' : World} {v : Value} {ws es hs : List Int} {td : List Mi} {cd vl : Int} {nm : List ByteArray} {fr : Bool} (h : RdFs w v ws es hs td cd vl nm fr) (s : Below w.heap.size w w') : RdFs w' v ws es hs td cd vl nm fr := by
 obtain ⟨aW, cW, aP, cP, aS, cS, aQ, cQ, aH, cH, aT, cT, aN, cN, rfl, a, b, c, d⟩ := h
 exact ⟨aW, cW, aP, cP, aS, cS, aQ, cQ, aH, cH, aT, cT, aN, cN, rfl, a.below s, Rd.below b s, Rd.below c s, Rd.below d s⟩
theorem zag {w : World} {b : Nat} {t : TypeId} {x0 x1 x2 x3 x4 x5 x6 x7 x8 x9 : Value} (h : w.heap[b]? = some (.cells #[x0, x1, x2, x3, x4, x5, x6, x7, x8, x9] t (0, 0))) : w.cell? ⟨b, 0, none⟩ = some x0 ∧ w.cell? ⟨b, 1, none⟩ = some x1 ∧ w.cell? ⟨b, 2, none⟩ = some x2 ∧ w.cell? ⟨b, 3, none⟩ = some x3 ∧ w.cell? ⟨b, 4, none⟩ = some x4 ∧ w.cell? ⟨b, 5, none⟩ = some x5 ∧ w.cell? ⟨b, 6, none⟩ = some x6 ∧ w.cell? ⟨b, 7, none⟩ = some x7 ∧ w.cell? ⟨b, 8, none⟩ = some x8 ∧ w.cell? ⟨b, 9, none⟩ = some x9 ∧ w.frozen? ⟨b, 0, none⟩ = false ∧ w.frozen? ⟨b, 1, none⟩ = false ∧ w.frozen? ⟨b, 2, none⟩ = false ∧ w.frozen? ⟨b, 3, none⟩ = false ∧ w.frozen? ⟨b, 4, none⟩ = false ∧ w.frozen? ⟨b, 5, none⟩ = false ∧ w.frozen? ⟨b, 6, none⟩ = false ∧ w.frozen? ⟨b, 7, none⟩ = false ∧ w.frozen? ⟨b, 8, none⟩ = false ∧ w.frozen? ⟨b, 9, none⟩ = false := by
 simp [World.cell?, World.frozen?, h]
theorem zcr {w : World} {b : Nat} {t : TypeId} {x0 x1 x2 x3 x4 x5 x6 x7 x8 x9 : Value} (h : w.heap[b]? = some (.cells #[x0, x1, x2, x3, x4, x5, x6, x7, x8, x9] t (0, 0))) (u : Value) : (w.setCell ⟨b, 0, none⟩ u).heap[b]? = some (.cells #[u, x1, x2, x3, x4, x5, x6, x7, x8, x9] t (0, 0)) := by simp [World.setCell, Array.getElem?_modify, h]
theorem zcp {w : World} {b : Nat} {t : TypeId} {x0 x1 x2 x3 x4 x5 x6 x7 x8 x9 : Value} (h : w.heap[b]? = some (.cells #[x0, x1, x2, x3, x4, x5, x6, x7, x8, x9] t (0, 0))) (u : Value) : (w.setCell ⟨b, 1, none⟩ u).heap[b]? = some (.cells #[x0, u, x2, x3, x4, x5, x6, x7, x8, x9] t (0, 0)) := by simp [World.setCell, Array.getElem?_modify, h]
theorem zcv {w : World} {b : Nat} {t : TypeId} {x0 x1 x2 x3 x4 x5 x6 x7 x8 x9 : Value} (h : w.heap[b]? = some (.cells #[x0, x1, x2, x3, x4, x5, x6, x7, x8, x9] t (0, 0))) (u : Value) : (w.setCell ⟨b, 2, none⟩ u).heap[b]? = some (.cells #[x0, x1, u, x3, x4, x5, x6, x7, x8, x9] t (0, 0)) := by simp [World.setCell, Array.getElem?_modify, h]
theorem zct {w : World} {b : Nat} {t : TypeId} {x0 x1 x2 x3 x4 x5 x6 x7 x8 x9 : Value} (h : w.heap[b]? = some (.cells #[x0, x1, x2, x3, x4, x5, x6, x7, x8, x9] t (0, 0))) (u : Value) : (w.setCell ⟨b, 3, none⟩ u).heap[b]? = some (.cells #[x0, x1, x2, u, x4, x5, x6, x7, x8, x9] t (0, 0)) := by simp [World.setCell, Array.getElem?_modify, h]
theorem zcu {w : World} {b : Nat} {t : TypeId} {x0 x1 x2 x3 x4 x5 x6 x7 x8 x9 : Value} (h : w.heap[b]? = some (.cells #[x0, x1, x2, x3, x4, x5, x6, x7, x8, x9] t (0, 0))) (u : Value) : (w.setCell ⟨b, 4, none⟩ u).heap[b]? = some (.cells #[x0, x1, x2, x3, u, x5, x6, x7, x8, x9] t (0, 0)) := by simp [World.setCell, Array.getElem?_modify, h]
theorem zby {w : World} {b : Nat} {t : TypeId} {x0 x1 x2 x3 x4 x5 x6 x7 x8 x9 : Value} (h : w.heap[b]? = some (.cells #[x0, x1, x2, x3, x4, x5, x6, x7, x8, x9] t (0, 0))) (u : Value) : (w.setCell ⟨b, 5, none⟩ u).heap[b]? = some (.cells #[x0, x1, x2, x3, x4, u, x6, x7, x8, x9] t (0, 0)) := by simp [World.setCell, Array.getElem?_modify, h]
theorem zde {w : World} {b : Nat} {t : TypeId} {x0 x1 x2 x3 x4 x5 x6 x7 x8 x9 : Value} (h : w.heap[b]? = some (.cells #[x0, x1, x2, x3, x4, x5, x6, x7, x8, x9] t (0, 0))) (u : Value) : (w.setCell ⟨b, 6, none⟩ u).heap[b]? = some (.cells #[x0, x1, x2, x3, x4, x5, u, x7, x8, x9] t (0, 0)) := by simp [World.setCell, Array.getElem?_modify, h]
theorem zdd {w : World} {b : Nat} {t : TypeId} {x0 x1 x2 x3 x4 x5 x6 x7 x8 x9 : Value} (h : w.heap[b]? = some (.cells #[x0, x1, x2, x3, x4, x5, x6, x7, x8, x9] t (0, 0))) (u : Value) : (w.setCell ⟨b, 7, none⟩ u).heap[b]? = some (.cells #[x0, x1, x2, x3, x4, x5, x6, u, x8, x9] t (0, 0)) := by simp [World.setCell, Array.getElem?_modify, h]
theorem zcs {w : World} {b : Nat} {t : TypeId} {x0 x1 x2 x3 x4 x5 x6 x7 x8 x9 : Value} (h : w.heap[b]? = some (.cells #[x0, x1, x2, x3, x4, x5, x6, x7, x8, x9] t (0, 0))) (u : Value) : (w.setCell ⟨b, 8, none⟩ u).heap[b]? = some (.cells #[x0, x1, x2, x3, x4, x5, x6, x7, u, x9] t (0, 0)) := by simp [World.setCell, Array.getElem?_modify, h]
theorem zdt {w : World} {b : Nat} {t : TypeId} {x0 x1 x2 x3 x4 x5 x6 x7 x8 x9 : Value} (h : w.heap[b]? = some (.cells #[x0, x1, x2, x3, x4, x5, x6, x7, x8, x9] t (0, 0))) (u : Value) : (w.setCell ⟨b, 9, none⟩ u).heap[b]? = some (.cells #[x0, x1, x2, x3, x4, x5, x6, x7, x8, u] t (0, 0)) := by simp [World.setCell, Array.getElem?_modify, h]
theorem ten_dev {w : World} {b : Nat} {t : TypeId} {x0 x1 x2 x3 x4 x5 x6 x7 x8 x9 : Value} (h : w.heap[b]? = some (.cells #[x0, x1, x2, x3, x4, x5, x6, x7, x8, x9] t (0, 0))) (p q r s : Value) : (putR w b p q r s).heap[b]? = some (.cells #[p, q, r, s, x4, x5, x6, x7, x8, x9] t (0, 0)) := zct (zcv (zcp (zcr h p) q) r) s
/-- A box of ten cells is written. -/
def put10 (w : World) (b : Nat) (x0 x1 x2 x3 x4 x5 x6 x7 x8 x9 : Value) : World := ((((((((((w.setCell ⟨b, 0, none⟩ x0).setCell ⟨b, 1, none⟩ x1).setCell ⟨b, 2, none⟩ x2).setCell ⟨b, 3, none⟩ x3).setCell ⟨b, 4, none⟩ x4).setCell ⟨b, 5, none⟩ x5).setCell ⟨b, 6, none⟩ x6).setCell ⟨b, 7, none⟩ x7).setCell ⟨b, 8, none⟩ x8).setCell ⟨b, 9, none⟩ x9)
theorem zez (w : World) (b : Nat) (x0 x1 x2 x3 x4 x5 x6 x7 x8 x9 : Value) : Outside b (b + 1) w (put10 w b x0 x1 x2 x3 x4 x5 x6 x7 x8 x9) := by
 unfold put10
 repeat (refine Outside.setCell ?_ (by simp only; omega) (by simp only; omega) _)
 exact Outside.refl _ _ _
theorem tri3 {w : World} {b : Nat} {t : TypeId} {x y z : Value} (h : w.heap[b]? = some (.cells #[x, y, z] t (0, 0))) : w.cell? ⟨b, 0, none⟩ = some x ∧ w.cell? ⟨b, 1, none⟩ = some y ∧ w.cell? ⟨b, 2, none⟩ = some z ∧ w.frozen? ⟨b, 0, none⟩ = false ∧ w.frozen? ⟨b, 1, none⟩ = false ∧ w.frozen? ⟨b, 2, none⟩ = false := by simp [World.cell?, World.frozen?, h]
/-- A box that is all zero. -/
def zeroF : List Value := [.slice none 0 0, .slice none 0 0, .slice none 0 0, .slice none 0 0, .slice none 0 0, .slice none 0 0, .int .i64 0, .int .i64 0, .slice none 0 0, .bool false]
end Go.Proofs.YtipklbnfobckaaaGreatDoor

namespace Go.Proofs.YtipklbnfobckaaaGreatDoor
open Go.RowKit

set_option maxHeartbeats 2000000 in
/-- Two slices of steps that read alike are found alike. -/
theorem zpk (va vb : Value) (ps : List Mi) (w : World) (ha : RdM w va ps) (hb : RdM w vb ps) (hn : ps.length ≤ 2147483648) :
  Calls Tryz.prog 57 #[va, vb] w fun e w' => e = .returned (.bool true) ∧ Below w.heap.size w w' := by
 obtain ⟨ao, cap, rfl, hcap, hc⟩ := ha.shape
 obtain ⟨ao2, cap2, rfl, hcap2, hc2⟩ := hb.shape
 clear ha hb
 go_enter Tryz.func57, Tryz.ntmps57
 go_wp2
 go_loopw [5] (fun i wr => ∃ k : Nat, k ≤ ps.length ∧ i = .int .i64 k ∧ Below w.heap.size w wr) (fun i _ => ps.length - (intOf i).toNat)
 case atStart => exact ⟨0, by omega, rfl, Below.refl _ _⟩
 case round =>
  obtain ⟨k, hk, rfl, hbw⟩ := hrel
  by_cases hlt : k < ps.length
  ·obtain ⟨b, o, rfl, hbl, hcell⟩ := hc (by omega)
   obtain ⟨b2, o2, rfl, hbl2, hcell2⟩ := hc2 (by omega)
   obtain ⟨c0, c1, c2⟩ := hcell k hlt
   obtain ⟨c3, c4, c5⟩ := hcell2 k hlt
   have d0 := (hbw.cell (p := ⟨b, o + k * 3, none⟩) hbl).trans c0
   have d1 := (hbw.cell (p := ⟨b, o + k * 3 + 1, none⟩) hbl).trans c1
   have d2 := (hbw.cell (p := ⟨b, o + k * 3 + 2, none⟩) hbl).trans c2
   have d3 := (hbw.cell (p := ⟨b2, o2 + k * 3, none⟩) hbl2).trans c3
   have d4 := (hbw.cell (p := ⟨b2, o2 + k * 3 + 1, none⟩) hbl2).trans c4
   have d5 := (hbw.cell (p := ⟨b2, o2 + k * 3 + 2, none⟩) hbl2).trans c5
   have hlt' : (k : Int) < (ps.length : Int) := by omega
   have hge : (0 : Int) ≤ (k : Int) := by omega
   have hz := hbw.size
   clear hcell hcell2 hc hc2 c0 c1 c2 c3 c4 c5
   go_wp2_with fail
   go_region_with (go_at_call 115; refine (eqMic_same _ _ _ _).mono ?_; rintro e w1 ⟨rfl, hb1⟩)
   all_goals
    go_wp2
    go_roundw
    case rel => exact ⟨k + 1, by omega, by go_num, hbw.trans (Below.mono (Below.trans ((Below.refl _ _).drew) ‹_›) hz)⟩
    case measure => simp [intOf]; omega
  ·go_wp2
   go_ret
   exact ⟨rfl, hbw⟩

/-- The i-th of the zdu from k on. -/
def markM (k : Int) (i : Nat) : Mi := ⟨k + 3 * (i : Int), k + 3 * (i : Int) + 1, k + 3 * (i : Int) + 1 + 1⟩
def zel (k : Int) (n : Nat) : List Mi := (List.range n).map (markM k)
theorem zbg (k : Int) (n : Nat) : (zel k n).length = n := by simp [zel]
theorem ztg (k : Int) (n i : Nat) (h : i < (zel k n).length) : (zel k n)[i] = markM k i := by simp [zel]

/-- Cells of steps: numbers and bools, in their turn. -/
def IsMis (xs : List Value) (n : Nat) : Prop := ∀ k, k < n → ∃ a b c, xs[k * 3]? = some (.int .i64 a) ∧ xs[k * 3 + 1]? = some (.int .i64 b) ∧ xs[k * 3 + 2]? = some (.int .i64 c)
theorem isMis (ps : List Mi) : IsMis (mis ps) ps.length := fun k hk => ⟨_, _, _, zjf ps k hk, zjg ps k hk, zjk ps k hk⟩
theorem IsMis.put3 {ys : List Value} {n : Nat} (h : IsMis ys n) (hl : ys.length = n * 3) (k : Nat) (a b : Int) (c : Int) : IsMis (put3 ys k (.int .i64 a) (.int .i64 b) (.int .i64 c)) n := by
 intro j hj
 rw [zfd (by omega), zfd (by omega), zfd (by omega)]
 by_cases e : j = k
 ·subst e
  exact ⟨a, b, c, by simp, by simp, by simp⟩
 ·obtain ⟨x, y, z, h0, h1, h2⟩ := h j hj
  refine ⟨x, y, z, ?_, ?_, ?_⟩
  ·rw [if_neg (by omega), if_neg (by omega), if_neg (by omega)]; exact h0
  ·rw [if_neg (by omega), if_neg (by omega), if_neg (by omega)]; exact h1
  ·rw [if_neg (by omega), if_neg (by omega), if_neg (by omega)]; exact h2

set_option maxHeartbeats 2000000 in
theorem znp (v : Value) (n : Nat) (k0 : Int) (w : World) (h : RdM w v (zel k0 n)) (hn : n ≤ 2147483648) (h0 : 0 ≤ k0) (h1 : k0 ≤ 1099511627776) :
  Calls Tryz.prog 74 #[v, .int .i64 k0] w fun e w' => e = .returned (.int .i64 (k0 + 3 * n)) ∧ w' = w := by
 obtain ⟨ao, cap, rfl, hcap, hc⟩ := h.shape
 simp only [zbg] at hcap hc ⊢
 clear h
 go_enter Tryz.func74, Tryz.ntmps74
 go_wp2
 go_loop [1, 5] (fun c i => ∃ k : Nat, k ≤ n ∧ i = .int .i64 k ∧ c = .int .i64 (k0 + 3 * k)) (fun _ i => n - (intOf i).toNat)
 case atStart => exact ⟨0, by omega, rfl, by simp⟩
 case round =>
  obtain ⟨k, hk, rfl, rfl⟩ := hrel
  by_cases hlt : k < n
  ·obtain ⟨b, o, rfl, hbl, hcell⟩ := hc (by omega)
   obtain ⟨c0, c1, c2⟩ := hcell k hlt
   rw [ztg] at c0 c1 c2
   simp only [markM] at c0 c1 c2
   clear hcell hc
   go_wp2
   go_round
   case rel => exact ⟨k + 1, by omega, by go_num, by go_num⟩
   case measure => simp [intOf]; omega
  ·have e : k = n := by omega
   subst e
   go_wp2
   go_ret
   exact ⟨rfl, rfl⟩
end Go.Proofs.YtipklbnfobckaaaGreatDoor
