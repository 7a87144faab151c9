/- Several texts laid together: StoreS, ThA. -/
import Derived.Test.YtihmihkhkmadmaaDoorIntS
namespace Go.Proofs.YtihmihkhkmadmaaDoor
open Go.RowKit
def put3 (ys : List Value) (k : Nat) (a b c : Value) : List Value := ((ys.set (k * 3) a).set (k * 3 + 1) b).set (k * 3 + 2) c
theorem put3_at {ys : List Value} {k : Nat} {a b c : Value} {j : Nat} (hj : j < ys.length) : (put3 ys k a b c)[j]? = if j = k * 3 + 2 then some c else if j = k * 3 + 1 then some b else if j = k * 3 then some a else ys[j]? := by
  unfold put3
  rw [set_at (by simpa using hj), set_at (by simpa using hj), set_at hj]
theorem Row.put3 {w : World} {e : TypeId} {lo hi : Nat} {b n cap : Nat} {ys : List Value} (h : Row w e 3 lo hi (.slice (some ⟨b, 0, none⟩) n cap) n ys) (k : Nat) (x y z : Value) :
    Row (((w.setCell ⟨b, k * 3, none⟩ x).setCell ⟨b, k * 3 + 1, none⟩ y).setCell ⟨b, k * 3 + 2, none⟩ z) e 3 lo hi (.slice (some ⟨b, 0, none⟩) n cap) n (put3 ys k x y z) :=
  ((h.stored (k * 3) x).stored (k * 3 + 1) y).stored (k * 3 + 2) z
end Go.Proofs.YtihmihkhkmadmaaDoor

namespace Go.Proofs.YtihmihkhkmadmaaDoor
open Go.RowKit
structure Th where
  kind : Int
  links : Int
  pages : List Int
def thc (u : Th × Value) : List Value := [.int .i64 u.1.kind, .int .i64 u.1.links, u.2]
def thv (us : List (Th × Value)) : List Value := us.flatMap thc
theorem thc_len (u : Th × Value) : (thc u).length = 3 := rfl
theorem thv_len (us : List (Th × Value)) : (thv us).length = us.length * 3 := flatMap_len _ 3 thc_len us
theorem thv_at0 (us : List (Th × Value)) (k : Nat) (h : k < us.length) : (thv us)[k * 3]? = some (.int .i64 us[k].1.kind) := flatMap_at _ 3 thc_len us k 0 h (by omega)
theorem thv_at1 (us : List (Th × Value)) (k : Nat) (h : k < us.length) : (thv us)[k * 3 + 1]? = some (.int .i64 us[k].1.links) := flatMap_at _ 3 thc_len us k 1 h (by omega)
theorem thv_at2 (us : List (Th × Value)) (k : Nat) (h : k < us.length) : (thv us)[k * 3 + 2]? = some us[k].2 := flatMap_at _ 3 thc_len us k 2 h (by omega)
theorem thv_app (us vs : List (Th × Value)) : thv (us ++ vs) = thv us ++ thv vs := by simp [thv]
def RdU (w : World) (v : Value) (us : List (Th × Value)) : Prop := Rd w 3 v us.length (thv us) ∧ ∀ k (h : k < us.length), RdI w us[k].2 us[k].1.pages
def RdTh (w : World) (v : Value) (ts : List Th) : Prop := ∃ us : List (Th × Value), us.map Prod.fst = ts ∧ RdU w v us
theorem RdU.below {w w' : World} {v : Value} {us : List (Th × Value)} (h : RdU w v us) (hb : Below w.heap.size w w') : RdU w' v us := ⟨Rd.below h.1 hb, fun k hk => Rd.below (h.2 k hk) hb⟩
theorem RdTh.below {w w' : World} {v : Value} {ts : List Th} (h : RdTh w v ts) (hb : Below w.heap.size w w') : RdTh w' v ts := by
  obtain ⟨us, e, r⟩ := h
  exact ⟨us, e, r.below hb⟩
theorem RdU.shape {w : World} {v : Value} {us : List (Th × Value)} (h : RdU w v us) : ∃ ao cap, v = .slice ao us.length cap ∧ us.length ≤ cap ∧ (0 < us.length → ∃ b o, ao = some ⟨b, o, none⟩ ∧ b < w.heap.size ∧
    ∀ k (h : k < us.length), w.cell? ⟨b, o + k * 3, none⟩ = some (.int .i64 us[k].1.kind) ∧ w.cell? ⟨b, o + k * 3 + 1, none⟩ = some (.int .i64 us[k].1.links) ∧ w.cell? ⟨b, o + k * 3 + 2, none⟩ = some us[k].2) := by
  obtain ⟨⟨h1, ao, cap, rfl, h2, h3⟩, -⟩ := h
  refine ⟨ao, cap, rfl, h2.1, fun hp => ?_⟩
  obtain ⟨b, o, rfl, hb, hc⟩ := h3 hp
  refine ⟨b, o, rfl, hb, fun k hk => ⟨?_, ?_, ?_⟩⟩
  · exact (hc (k * 3) (by omega)).trans (thv_at0 us k hk)
  · exact (hc (k * 3 + 1) (by omega)).trans (thv_at1 us k hk)
  · exact (hc (k * 3 + 2) (by omega)).trans (thv_at2 us k hk)
theorem RdU.val {w : World} {v : Value} {us : List (Th × Value)} (h : RdU w v us) (k : Nat) (hk : k < us.length) : ∃ ao cap, us[k].2 = .slice ao us[k].1.pages.length cap := by
  obtain ⟨ao, cap, e, -⟩ := (h.2 k hk).shape
  exact ⟨ao, cap, e⟩
def Apt (a b : Value) : Prop := ∀ x, a.ownBlock = some x → ¬ b.ownBlock = some x
structure OwU (w : World) (lo hi : Nat) (v : Value) (us : List (Th × Value)) : Prop where
  row : Row w 57 3 lo hi v us.length (thv us)
  pg : ∀ k (h : k < us.length), Row w 3 1 lo hi us[k].2 us[k].1.pages.length (ints us[k].1.pages)
  ap : ∀ j k (hj : j < us.length) (hk : k < us.length), ¬ j = k → Apt us[j].2 us[k].2
def RowTh (w : World) (lo hi : Nat) (v : Value) (ts : List Th) : Prop := ∃ us : List (Th × Value), us.map Prod.fst = ts ∧ OwU w lo hi v us
theorem OwU.rd {w : World} {lo hi : Nat} {v : Value} {us : List (Th × Value)} (h : OwU w lo hi v us) : RdU w v us := ⟨h.row.rd, fun k hk => (h.pg k hk).rd⟩
theorem RowTh.rd {w : World} {lo hi : Nat} {v : Value} {ts : List Th} (h : RowTh w lo hi v ts) : RdTh w v ts := by
  obtain ⟨us, e, r⟩ := h
  exact ⟨us, e, r.rd⟩
theorem OwU.below {w w' : World} {lo hi : Nat} {v : Value} {us : List (Th × Value)} (h : OwU w lo hi v us) {B : Nat} (hb : Below B w w') (hB : hi ≤ B) : OwU w' lo hi v us := ⟨h.row.below hb hB, fun k hk => (h.pg k hk).below hb hB, h.ap⟩
theorem RowTh.below {w w' : World} {lo hi : Nat} {v : Value} {ts : List Th} (h : RowTh w lo hi v ts) {B : Nat} (hb : Below B w w') (hB : hi ≤ B) : RowTh w' lo hi v ts := by
  obtain ⟨us, e, r⟩ := h
  exact ⟨us, e, r.below hb hB⟩
theorem OwU.wide {w : World} {lo hi : Nat} {v : Value} {us : List (Th × Value)} (h : OwU w lo hi v us) {lo' hi' : Nat} (a : lo' ≤ lo) (b : hi ≤ hi') : OwU w lo' hi' v us := ⟨h.row.wide a b, fun k hk => (h.pg k hk).wide a b, h.ap⟩
theorem RowTh.wide {w : World} {lo hi : Nat} {v : Value} {ts : List Th} (h : RowTh w lo hi v ts) {lo' hi' : Nat} (a : lo' ≤ lo) (b : hi ≤ hi') : RowTh w lo' hi' v ts := by
  obtain ⟨us, e, r⟩ := h
  exact ⟨us, e, r.wide a b⟩
theorem map_fst_len {us : List (Th × Value)} {ts : List Th} (e : us.map Prod.fst = ts) : us.length = ts.length := by rw [← e, List.length_map]
theorem map_fst_at {us : List (Th × Value)} {ts : List Th} (e : us.map Prod.fst = ts) (k : Nat) (h : k < us.length) : us[k].1 = ts[k]'(by rw [← map_fst_len e]; exact h) := by
  subst e
  simp
theorem apt_far {w w' : World} {e e' : TypeId} {s s' lo hi lo' hi' : Nat} {v v' : Value} {n n' : Nat} {xs xs' : List Value} (h : Row w e s lo hi v n xs) (h' : Row w' e' s' lo' hi' v' n' xs') (hd : hi ≤ lo' ∨ hi' ≤ lo) : Apt v v' := fun x a b => by
  have p := (h.1.lt x a).1
  have q := h.2 x a
  have r := (h'.1.lt x b).1
  have s := h'.2 x b
  omega
theorem Apt.symm {a b : Value} (h : Apt a b) : Apt b a := fun x p q => h x q p
theorem infoThing : (Tryd.prog.info? 57).map (fun i => (i.zero, i.size, i.bytes)) = some (some (.agg #[.int .i64 0, .int .i64 0, .slice none 0 0]), 3, 40) := by kernel_rfl
def totT : List Th → Nat
  | [] => 0
  | t :: ts => t.pages.length + totT ts
theorem totT_app : ∀ (a b : List Th), totT (a ++ b) = totT a + totT b
  | [], b => by simp [totT]
  | t :: a, b => by
    show t.pages.length + totT (a ++ b) = t.pages.length + totT a + totT b
    rw [totT_app a b]
    omega
theorem totT_take {ts : List Th} {k : Nat} (h : k < ts.length) : totT (ts.take (k + 1)) = totT (ts.take k) + ts[k].pages.length := by
  rw [List.take_add_one, List.getElem?_eq_getElem h, totT_app]
  rfl
theorem totT_part (ts : List Th) (k : Nat) : totT (ts.take k) ≤ totT ts := by
  have e : totT (ts.take k ++ ts.drop k) = totT (ts.take k) + totT (ts.drop k) := totT_app _ _
  rw [List.take_append_drop] at e
  omega
theorem totT_le {ts : List Th} {k : Nat} (h : k < ts.length) : ts[k].pages.length ≤ totT ts := by
  have a := totT_take h
  have b := totT_part ts (k + 1)
  omega
end Go.Proofs.YtihmihkhkmadmaaDoor
