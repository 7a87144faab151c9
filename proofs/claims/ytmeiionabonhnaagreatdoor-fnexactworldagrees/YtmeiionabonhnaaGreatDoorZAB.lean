/- Several texts laid together: StoreS, ThA, WdM, Nm. -/
import Derived.Test.YtmeiionabonhnaaGreatDoorZAA
import Derived.WalkKit
import Derived.Laws.IdiomStrings
import Derived.Laws.BytesArg
import Derived.Deep.OwnRows
namespace Go.Proofs.YtmeiionabonhnaaGreatDoor
open Go.RowKit
structure St where
  at_ : Int
  val : Int
  fl : Bool
deriving DecidableEq
def St.cells (s : St) : List Value := [.int .i64 s.at_, .int .i64 s.val, .bool s.fl]
def sts (ps : List St) : List Value := ps.flatMap St.cells
theorem St.cells_len (s : St) : s.cells.length = 3 := rfl
theorem sts_len (ps : List St) : (sts ps).length = ps.length * 3 := flatMap_len _ 3 St.cells_len ps
theorem sts_at0 (ps : List St) (k : Nat) (h : k < ps.length) : (sts ps)[k * 3]? = some (.int .i64 ps[k].at_) := flatMap_at _ 3 St.cells_len ps k 0 h (by omega)
theorem sts_at1 (ps : List St) (k : Nat) (h : k < ps.length) : (sts ps)[k * 3 + 1]? = some (.int .i64 ps[k].val) := flatMap_at _ 3 St.cells_len ps k 1 h (by omega)
theorem sts_at2 (ps : List St) (k : Nat) (h : k < ps.length) : (sts ps)[k * 3 + 2]? = some (.bool ps[k].fl) := flatMap_at _ 3 St.cells_len ps k 2 h (by omega)
def RdS (w : World) (v : Value) (ps : List St) : Prop := Rd w 3 v ps.length (sts ps)
theorem RdS.shape {w : World} {v : Value} {ps : List St} (h : RdS w v ps) : ∃ ao cap, v = .slice ao ps.length cap ∧ ps.length ≤ cap ∧ (0 < ps.length → ∃ b o, ao = some ⟨b, o, none⟩ ∧ b < w.heap.size ∧
    ∀ k (h : k < ps.length), w.cell? ⟨b, o + k * 3, none⟩ = some (.int .i64 ps[k].at_) ∧ w.cell? ⟨b, o + k * 3 + 1, none⟩ = some (.int .i64 ps[k].val) ∧ w.cell? ⟨b, o + k * 3 + 2, none⟩ = some (.bool ps[k].fl)) := by
  obtain ⟨_, ao, cap, rfl, h2, h3⟩ := h
  refine ⟨ao, cap, rfl, h2.1, fun hn => ?_⟩
  obtain ⟨b, o, rfl, hb, hc⟩ := h3 hn
  exact ⟨b, o, rfl, hb, fun k hk => ⟨(hc (k * 3) (by omega)).trans (sts_at0 ps k hk), (hc (k * 3 + 1) (by omega)).trans (sts_at1 ps k hk), (hc (k * 3 + 2) (by omega)).trans (sts_at2 ps k hk)⟩⟩
theorem info52 : (Tryz.prog.info? 211).map (fun i => (i.zero, i.size, i.bytes)) = some (some (.agg #[.int .i64 0, .int .i64 0, .bool false]), 3, 24) := by kernel_rfl
set_option maxHeartbeats 1000000 in
theorem toStore_any (a v : Int) (f : Bool) (w : World) : Calls Tryz.prog 250 #[.agg #[.int .i64 a, .int .i64 v, .bool f]] w fun e w' => e = .returned (.agg #[.int .i64 a, .int .i64 v, .bool f]) ∧ Below w.heap.size w w' := by
  go_enter Tryz.func250, Tryz.ntmps250
  go_wp2
  refine bodyPost_ret (v := .agg #[.int .i64 a, .int .i64 v, .bool f]) (by simp [results, Tryz.results250, go_sem]) rfl ⟨rfl, ?_⟩
  repeat (refine Below.alloc ?_ (by simp <;> omega) _)
  exact Below.refl _ _
def put3 (ys : List Value) (k : Nat) (a b c : Value) : List Value := ((ys.set (k * 3) a).set (k * 3 + 1) b).set (k * 3 + 2) c
theorem put3_at {ys : List Value} {k : Nat} {a b c : Value} {j : Nat} (hj : j < ys.length) : (put3 ys k a b c)[j]? = if j = k * 3 + 2 then some c else if j = k * 3 + 1 then some b else if j = k * 3 then some a else ys[j]? := by
  unfold put3
  rw [set_at (by simpa using hj), set_at (by simpa using hj), set_at hj]
theorem put3_step {ys : List Value} {ps : List St} {k : Nat} (hk : k < ps.length) (hl : ys.length = ps.length * 3) (h : ∀ j, j < k * 3 → ys[j]? = (sts ps)[j]?) :
    ∀ j, j < (k + 1) * 3 → (put3 ys k (.int .i64 ps[k].at_) (.int .i64 ps[k].val) (.bool ps[k].fl))[j]? = (sts ps)[j]? := by
  intro j hj
  rw [put3_at (by omega)]
  split
  · rename_i e; rw [e, sts_at2 ps k hk]
  · split
    · rename_i e; rw [e, sts_at1 ps k hk]
    · split
      · rename_i e; rw [e, sts_at0 ps k hk]
      · exact h j (by omega)
theorem sts_all {ys : List Value} {ps : List St} (hl : ys.length = ps.length * 3) (h : ∀ j, j < ps.length * 3 → ys[j]? = (sts ps)[j]?) : ys = sts ps := by
  apply List.ext_getElem?
  intro j
  by_cases hj : j < ps.length * 3
  · exact h j hj
  · rw [List.getElem?_eq_none (by omega), List.getElem?_eq_none (by rw [sts_len]; omega)]
theorem Row.put3 {w : World} {e : TypeId} {lo hi : Nat} {b n cap : Nat} {ys : List Value} (h : Row w e 3 lo hi (.slice (some ⟨b, 0, none⟩) n cap) n ys) (k : Nat) (x y z : Value) :
    Row (((w.setCell ⟨b, k * 3, none⟩ x).setCell ⟨b, k * 3 + 1, none⟩ y).setCell ⟨b, k * 3 + 2, none⟩ z) e 3 lo hi (.slice (some ⟨b, 0, none⟩) n cap) n (put3 ys k x y z) :=
  ((h.stored (k * 3) x).stored (k * 3 + 1) y).stored (k * 3 + 2) z
set_option maxHeartbeats 1000000 in
theorem toStoreS_any (v : Value) (ps : List St) (w : World) (h : RdS w v ps) (hn : ps.length ≤ 1048576) :
    Calls Tryz.prog 207 #[v] w fun e w' => ∃ v', e = .returned v' ∧ Row w' 211 3 w.heap.size w'.heap.size v' ps.length (sts ps) ∧ Below w.heap.size w w' := by
  obtain ⟨ao, cap, rfl, hcap, hc⟩ := h.shape
  clear h
  have hmk := run_make_rows (P := Tryz.prog) 64 211 (.agg #[.int .i64 0, .int .i64 0, .bool false]) 3 24 Tryz.underlying64 info52 .i64 .i64 ps.length (by omega) (by omega)
  go_enter Tryz.func207, Tryz.ntmps207
  go_wp2
  go_loopw [4] (fun i wr => ∃ k : Nat, k ≤ ps.length ∧ i = .int .i64 k ∧ (∃ ys, Row wr 211 3 w.heap.size (w.heap.size + 1) (.slice (some ⟨w.heap.size, 0, none⟩) ps.length ps.length) ps.length ys ∧ ∀ j, j < k * 3 → ys[j]? = (sts ps)[j]?) ∧ Below w.heap.size w wr ∧ w.heap.size + 1 ≤ wr.heap.size) (fun i _ => ps.length - (intOf i).toNat)
  case atStart =>
    refine ⟨0, by omega, rfl, ⟨_, row_made w (.agg #[.int .i64 0, .int .i64 0, .bool false]) 3 ps.length 211 (by simp [maxLen]; omega), fun j hj => absurd hj (by omega)⟩, (Below.refl _ _).alloc (Nat.le_refl _) _, by simp⟩
  case round =>
    obtain ⟨k, hk, rfl, ⟨ys, hrow, hys⟩, hb, hz⟩ := hrel
    by_cases hlt : k < ps.length
    · obtain ⟨b, o, rfl, hbl, hcell⟩ := hc (by omega)
      obtain ⟨c0, c1, c2⟩ := hcell k hlt
      have d0 := (hb.cell (p := ⟨b, o + k * 3, none⟩) hbl).trans c0
      have d1 := (hb.cell (p := ⟨b, o + k * 3 + 1, none⟩) hbl).trans c1
      have d2 := (hb.cell (p := ⟨b, o + k * 3 + 2, none⟩) hbl).trans c2
      have RH := hideIt hrow
      have YH := hideIt hys
      clear hcell hc c0 c1 c2 hrow hys
      go_wp2_with fail
      refine (toStore_any _ _ _ _).mono ?_
      rintro e w1 ⟨rfl, hb1⟩
      have R1 := hideIt (RH.out.below hb1 (by omega))
      obtain ⟨_, _, _, hsz, hfr, hcl⟩ := R1.out.at
      have hl := RH.out.len
      have f0 := hfr (k * 3)
      have f1 := hfr (k * 3 + 1)
      have f2 := hfr (k * 3 + 2)
      have e0 : w1.cell? ⟨w.heap.size, k * 3, none⟩ = some (ys[k * 3]'(by omega)) := by rw [hcl _ (by omega)]; simp
      have e1 : w1.cell? ⟨w.heap.size, k * 3 + 1, none⟩ = some (ys[k * 3 + 1]'(by omega)) := by rw [hcl _ (by omega)]; simp
      have e2 : w1.cell? ⟨w.heap.size, k * 3 + 2, none⟩ = some (ys[k * 3 + 2]'(by omega)) := by rw [hcl _ (by omega)]; simp
      have BH := hideIt (hb.trans (hb1.mono (show w.heap.size ≤ wr.heap.size by omega)))
      have hz1 := hb1.size
      clear hfr hcl hb1 hb d0 d1 d2
      have P1 := hideIt (R1.out.put3 k (.int .i64 ps[k].at_) (.int .i64 ps[k].val) (.bool ps[k].fl))
      have B1 := hideIt (((BH.out.setCell (p := ⟨w.heap.size, k * 3, none⟩) (Nat.le_refl _) (.int .i64 ps[k].at_)).setCell (p := ⟨w.heap.size, k * 3 + 1, none⟩) (Nat.le_refl _) (.int .i64 ps[k].val)).setCell (p := ⟨w.heap.size, k * 3 + 2, none⟩) (Nat.le_refl _) (.bool ps[k].fl))
      go_wp2
      go_roundw
      case rel => exact ⟨k + 1, by omega, by go_num, ⟨_, P1.out, put3_step hlt hl YH.out⟩, B1.out, by simp; omega⟩
      case measure => simp [intOf]; omega
    · have e : k = ps.length := by omega
      subst e
      have hl := hrow.len
      have RH := hideIt hrow
      have YH := hideIt hys
      clear hrow hys hc
      go_wp2
      go_ret
      have e := sts_all hl YH.out
      refine ⟨_, rfl, ?_, hb⟩
      rw [← e]
      exact RH.out.wide (Nat.le_refl _) hz
theorem szStoreS_any (ao : Option Addr) (n cap : Nat) (left : Int) (w : World) (hn : n ≤ maxLen) (h0 : 0 ≤ left) (h1 : left ≤ 1048576) :
    Calls Tryz.prog 201 #[.slice ao n cap, .int .i64 left] w fun e w' => e = .returned (.int .i64 (less left n)) ∧ w' = w := by
  unfold maxLen at hn
  by_cases h : left < n
  · have e : less left n = -1 := by unfold less; rw [if_pos h]
    rw [e]; clear e
    go_enter Tryz.func201, Tryz.ntmps201
    go_wp2
    go_ret
    exact ⟨rfl, rfl⟩
  · have e : less left n = left - n := by unfold less; rw [if_neg h]
    rw [e]; clear e
    go_enter Tryz.func201, Tryz.ntmps201
    go_wp2
    go_ret
    exact ⟨rfl, rfl⟩
set_option maxHeartbeats 1000000 in
theorem eqStore_same (a v : Int) (f : Bool) (w : World) : Calls Tryz.prog 254 #[.agg #[.int .i64 a, .int .i64 v, .bool f], .agg #[.int .i64 a, .int .i64 v, .bool f]] w fun e w' => e = .returned (.bool true) ∧ Below w.heap.size w w' := by
  go_enter Tryz.func254, Tryz.ntmps254
  go_wp2
  go_ret
  refine ⟨rfl, ?_⟩
  repeat (refine Below.alloc ?_ (by simp <;> omega) _)
  exact Below.refl _ _
end Go.Proofs.YtmeiionabonhnaaGreatDoor

namespace Go.Proofs.YtmeiionabonhnaaGreatDoor
open Go.RowKit
structure Th where
  kind : Int
  links : Int
  pages : List Int
def thZ : Th := ⟨0, 0, []⟩
def thc (u : Th × Value) : List Value := [.int .i64 u.1.kind, .int .i64 u.1.links, u.2]
def thv (us : List (Th × Value)) : List Value := us.flatMap thc
theorem thc_len (u : Th × Value) : (thc u).length = 3 := rfl
theorem thv_len (us : List (Th × Value)) : (thv us).length = us.length * 3 := flatMap_len _ 3 thc_len us
theorem thv_at0 (us : List (Th × Value)) (k : Nat) (h : k < us.length) : (thv us)[k * 3]? = some (.int .i64 us[k].1.kind) := flatMap_at _ 3 thc_len us k 0 h (by omega)
theorem thv_at1 (us : List (Th × Value)) (k : Nat) (h : k < us.length) : (thv us)[k * 3 + 1]? = some (.int .i64 us[k].1.links) := flatMap_at _ 3 thc_len us k 1 h (by omega)
theorem thv_at2 (us : List (Th × Value)) (k : Nat) (h : k < us.length) : (thv us)[k * 3 + 2]? = some us[k].2 := flatMap_at _ 3 thc_len us k 2 h (by omega)
theorem thv_app (us vs : List (Th × Value)) : thv (us ++ vs) = thv us ++ thv vs := by simp [thv]
def RdU (w : World) (v : Value) (us : List (Th × Value)) : Prop := Rd w 3 v us.length (thv us) ∧ ∀ k (h : k < us.length), RdI w us[k].2 us[k].1.pages
def RdTh (w : World) (v : Value) (ts : List Th) : Prop := ∃ us : List (Th × Value), us.map Prod.fst = ts ∧ RdU w v us
theorem RdU.below {w w' : World} {v : Value} {us : List (Th × Value)} (h : RdU w v us) (hb : Below w.heap.size w w') : RdU w' v us := ⟨Rd.below h.1 hb, fun k hk => Rd.below (h.2 k hk) hb⟩
theorem RdTh.below {w w' : World} {v : Value} {ts : List Th} (h : RdTh w v ts) (hb : Below w.heap.size w w') : RdTh w' v ts := by
  obtain ⟨us, e, r⟩ := h
  exact ⟨us, e, r.below hb⟩
theorem RdU.shape {w : World} {v : Value} {us : List (Th × Value)} (h : RdU w v us) : ∃ ao cap, v = .slice ao us.length cap ∧ us.length ≤ cap ∧ (0 < us.length → ∃ b o, ao = some ⟨b, o, none⟩ ∧ b < w.heap.size ∧
    ∀ k (h : k < us.length), w.cell? ⟨b, o + k * 3, none⟩ = some (.int .i64 us[k].1.kind) ∧ w.cell? ⟨b, o + k * 3 + 1, none⟩ = some (.int .i64 us[k].1.links) ∧ w.cell? ⟨b, o + k * 3 + 2, none⟩ = some us[k].2) := by
  obtain ⟨⟨h1, ao, cap, rfl, h2, h3⟩, -⟩ := h
  refine ⟨ao, cap, rfl, h2.1, fun hp => ?_⟩
  obtain ⟨b, o, rfl, hb, hc⟩ := h3 hp
  refine ⟨b, o, rfl, hb, fun k hk => ⟨?_, ?_, ?_⟩⟩
  · exact (hc (k * 3) (by omega)).trans (thv_at0 us k hk)
  · exact (hc (k * 3 + 1) (by omega)).trans (thv_at1 us k hk)
  · exact (hc (k * 3 + 2) (by omega)).trans (thv_at2 us k hk)
theorem RdU.val {w : World} {v : Value} {us : List (Th × Value)} (h : RdU w v us) (k : Nat) (hk : k < us.length) : ∃ ao cap, us[k].2 = .slice ao us[k].1.pages.length cap := by
  obtain ⟨ao, cap, e, -⟩ := (h.2 k hk).shape
  exact ⟨ao, cap, e⟩
def Apt (a b : Value) : Prop := ∀ x, a.ownBlock = some x → ¬ b.ownBlock = some x
structure OwU (w : World) (lo hi : Nat) (v : Value) (us : List (Th × Value)) : Prop where
  row : Row w 102 3 lo hi v us.length (thv us)
  pg : ∀ k (h : k < us.length), Row w 3 1 lo hi us[k].2 us[k].1.pages.length (ints us[k].1.pages)
  ap : ∀ j k (hj : j < us.length) (hk : k < us.length), ¬ j = k → Apt us[j].2 us[k].2
def RowTh (w : World) (lo hi : Nat) (v : Value) (ts : List Th) : Prop := ∃ us : List (Th × Value), us.map Prod.fst = ts ∧ OwU w lo hi v us
theorem OwU.rd {w : World} {lo hi : Nat} {v : Value} {us : List (Th × Value)} (h : OwU w lo hi v us) : RdU w v us := ⟨h.row.rd, fun k hk => (h.pg k hk).rd⟩
theorem RowTh.rd {w : World} {lo hi : Nat} {v : Value} {ts : List Th} (h : RowTh w lo hi v ts) : RdTh w v ts := by
  obtain ⟨us, e, r⟩ := h
  exact ⟨us, e, r.rd⟩
theorem OwU.below {w w' : World} {lo hi : Nat} {v : Value} {us : List (Th × Value)} (h : OwU w lo hi v us) {B : Nat} (hb : Below B w w') (hB : hi ≤ B) : OwU w' lo hi v us := ⟨h.row.below hb hB, fun k hk => (h.pg k hk).below hb hB, h.ap⟩
theorem RowTh.below {w w' : World} {lo hi : Nat} {v : Value} {ts : List Th} (h : RowTh w lo hi v ts) {B : Nat} (hb : Below B w w') (hB : hi ≤ B) : RowTh w' lo hi v ts := by
  obtain ⟨us, e, r⟩ := h
  exact ⟨us, e, r.below hb hB⟩
theorem OwU.wide {w : World} {lo hi : Nat} {v : Value} {us : List (Th × Value)} (h : OwU w lo hi v us) {lo' hi' : Nat} (a : lo' ≤ lo) (b : hi ≤ hi') : OwU w lo' hi' v us := ⟨h.row.wide a b, fun k hk => (h.pg k hk).wide a b, h.ap⟩
theorem RowTh.wide {w : World} {lo hi : Nat} {v : Value} {ts : List Th} (h : RowTh w lo hi v ts) {lo' hi' : Nat} (a : lo' ≤ lo) (b : hi ≤ hi') : RowTh w lo' hi' v ts := by
  obtain ⟨us, e, r⟩ := h
  exact ⟨us, e, r.wide a b⟩
theorem OwU.outside {w w' : World} {lo hi : Nat} {v : Value} {us : List (Th × Value)} (h : OwU w lo hi v us) {lo' hi' : Nat} (ho : Outside lo' hi' w w') (hd : hi ≤ lo' ∨ hi' ≤ lo) (hz : hi ≤ w.heap.size) : OwU w' lo hi v us := ⟨h.row.outside ho hd hz, fun k hk => (h.pg k hk).outside ho hd hz, h.ap⟩
theorem RowTh.outside {w w' : World} {lo hi : Nat} {v : Value} {ts : List Th} (h : RowTh w lo hi v ts) {lo' hi' : Nat} (ho : Outside lo' hi' w w') (hd : hi ≤ lo' ∨ hi' ≤ lo) (hz : hi ≤ w.heap.size) : RowTh w' lo hi v ts := by
  obtain ⟨us, e, r⟩ := h
  exact ⟨us, e, r.outside ho hd hz⟩
theorem RowTh.nil (w : World) (lo hi : Nat) : RowTh w lo hi (.slice none 0 0) [] := ⟨[], rfl, ⟨Row.nil _ _ _ _ _, fun k h => absurd h (by simp), fun j k h => absurd h (by simp)⟩⟩
theorem map_fst_len {us : List (Th × Value)} {ts : List Th} (e : us.map Prod.fst = ts) : us.length = ts.length := by rw [← e, List.length_map]
theorem map_fst_at {us : List (Th × Value)} {ts : List Th} (e : us.map Prod.fst = ts) (k : Nat) (h : k < us.length) : us[k].1 = ts[k]'(by rw [← map_fst_len e]; exact h) := by
  subst e
  simp
theorem apt_far {w w' : World} {e e' : TypeId} {s s' lo hi lo' hi' : Nat} {v v' : Value} {n n' : Nat} {xs xs' : List Value} (h : Row w e s lo hi v n xs) (h' : Row w' e' s' lo' hi' v' n' xs') (hd : hi ≤ lo' ∨ hi' ≤ lo) : Apt v v' := fun x a b => by
  have p := (h.1.lt x a).1
  have q := h.2 x a
  have r := (h'.1.lt x b).1
  have s := h'.2 x b
  omega
theorem Apt.symm {a b : Value} (h : Apt a b) : Apt b a := fun x p q => h x q p
theorem infoThing : (Tryz.prog.info? 102).map (fun i => (i.zero, i.size, i.bytes)) = some (some (.agg #[.int .i64 0, .int .i64 0, .slice none 0 0]), 3, 40) := by kernel_rfl
def totT : List Th → Nat
  | [] => 0
  | t :: ts => t.pages.length + totT ts
theorem totT_app : ∀ (a b : List Th), totT (a ++ b) = totT a + totT b
  | [], b => by simp [totT]
  | t :: a, b => by
    show t.pages.length + totT (a ++ b) = t.pages.length + totT a + totT b
    rw [totT_app a b]
    omega
theorem totT_take {ts : List Th} {k : Nat} (h : k < ts.length) : totT (ts.take (k + 1)) = totT (ts.take k) + ts[k].pages.length := by
  rw [List.take_add_one, List.getElem?_eq_getElem h, totT_app]
  rfl
theorem totT_part (ts : List Th) (k : Nat) : totT (ts.take k) ≤ totT ts := by
  have e : totT (ts.take k ++ ts.drop k) = totT (ts.take k) + totT (ts.drop k) := totT_app _ _
  rw [List.take_append_drop] at e
  omega
theorem totT_le {ts : List Th} {k : Nat} (h : k < ts.length) : ts[k].pages.length ≤ totT ts := by
  have a := totT_take h
  have b := totT_part ts (k + 1)
  omega
end Go.Proofs.YtmeiionabonhnaaGreatDoor

namespace Go.Proofs.YtmeiionabonhnaaGreatDoor
def digs (n : Nat) : List Nat := if _h : n = 0 then [] else digs (n / 27) ++ [n % 27]
termination_by n
decreasing_by omega
theorem digs_zero : digs 0 = [] := by rw [digs]; simp
theorem digs_pos {n : Nat} (h : 0 < n) : digs n = digs (n / 27) ++ [n % 27] := by rw [digs]; simp [show n ≠ 0 by omega]
def val (ds : List Nat) : Nat := ds.foldl (fun a d => 27 * a + d) 0
theorem val_snoc (ds : List Nat) (d : Nat) : val (ds ++ [d]) = 27 * val ds + d := by simp [val]
theorem digs_ne {n : Nat} (h : 0 < n) : 1 ≤ (digs n).length := by rw [digs_pos h]; simp
theorem snoc_ind {α : Type} {P : List α → Prop} (h0 : P []) (h1 : ∀ l x, P l → P (l ++ [x])) : ∀ l, P l := by
  intro l
  have : ∀ n (l : List α), l.length = n → P l := by
    intro n
    induction n with
    | zero => intro l hl; rw [List.length_eq_zero_iff.1 hl]; exact h0
    | succ n ih =>
      intro l hl
      have hne : l ≠ [] := by intro h; subst h; simp at hl
      rw [← List.dropLast_concat_getLast hne]
      exact h1 _ _ (ih _ (by simp [hl]))
  exact this _ l rfl
theorem val_lt (ds : List Nat) : (∀ d ∈ ds, d < 27) → val ds < 27 ^ ds.length := by
  refine snoc_ind (P := fun ds => (∀ d ∈ ds, d < 27) → val ds < 27 ^ ds.length) (fun _ => by simp [val]) (fun l x ih h => ?_) ds
  have hx := h x (by simp)
  have := ih (fun d hd => h d (by simp [hd]))
  rw [val_snoc, List.length_append, List.length_singleton, Nat.pow_succ]
  omega
theorem digs_len (k : Nat) : ∀ n, n < 27 ^ k → (digs n).length ≤ k := by
  induction k with
  | zero =>
    intro n h
    have : n = 0 := by simpa using h
    subst this
    rw [digs_zero]
    simp
  | succ k ih =>
    intro n h
    by_cases h0 : n = 0
    · subst h0; rw [digs_zero]; simp
    · rw [digs_pos (by omega), List.length_append, List.length_singleton]
      have := ih (n / 27) (by rw [Nat.pow_succ] at h; omega)
      omega
structure Dg (n m : Nat) (ds : List Nat) : Prop where
  eq : digs n = digs m ++ ds
  ok : ∀ d ∈ ds, 1 ≤ d ∧ d < 27
theorem Dg.start (n : Nat) : Dg n n [] := ⟨by simp, fun d h => by cases h⟩
theorem Dg.step {n m : Nat} {ds : List Nat} (h : Dg n m ds) (hm : 0 < m) (h1 : m % 27 ≠ 0) : Dg n (m / 27) (m % 27 :: ds) :=
  ⟨by rw [h.eq, digs_pos hm]; simp, fun d hd => by
    rcases List.mem_cons.1 hd with rfl | hd
    · omega
    · exact h.ok d hd⟩
theorem Dg.zero {n m : Nat} {ds : List Nat} (h : Dg n m ds) (hm : 0 < m) (h0 : m % 27 = 0) : ¬ ∀ d ∈ digs n, 1 ≤ d := fun x => by
  have := x (m % 27) (by rw [h.eq, digs_pos hm]; simp)
  omega
theorem Dg.many {n m : Nat} {ds : List Nat} (h : Dg n m ds) (hm : 0 < m) : ds.length < (digs n).length := by
  rw [h.eq, digs_pos hm]; simp; omega
theorem Dg.len {n m : Nat} {ds : List Nat} (h : Dg n m ds) : ds.length ≤ (digs n).length := by rw [h.eq]; simp
theorem Dg.done {n : Nat} {ds : List Nat} (h : Dg n 0 ds) : digs n = ds := by rw [h.eq, digs_zero]; simp
def nmB (s : ByteArray) : Bool := decide (1 ≤ s.size ∧ s.size ≤ 6 ∧ ∀ j (h : j < s.size), 97 ≤ s[j].toNat ∧ s[j].toNat ≤ 122)
theorem nmB_short {s : ByteArray} (h : s.size < 1) : nmB s = false := decide_eq_false (fun x => by omega)
theorem nmB_long {s : ByteArray} (h : 6 < s.size) : nmB s = false := decide_eq_false (fun x => by omega)
theorem nmB_other {s : ByteArray} {k : Nat} (h : k < s.size) (hb : ¬ (97 ≤ s[k].toNat ∧ s[k].toNat ≤ 122)) : nmB s = false := decide_eq_false (fun x => hb (x.2.2 k h))
theorem nmB_all {s : ByteArray} (h0 : 1 ≤ s.size) (h6 : s.size ≤ 6) (h : ∀ j (h : j < s.size), 97 ≤ s[j].toNat ∧ s[j].toNat ≤ 122) : nmB s = true := decide_eq_true ⟨h0, h6, h⟩
theorem nmB_true {s : ByteArray} (h : nmB s = true) : 1 ≤ s.size ∧ s.size ≤ 6 ∧ ∀ j (h : j < s.size), 97 ≤ s[j].toNat ∧ s[j].toNat ≤ 122 := of_decide_eq_true h
def letD (b : UInt8) : Nat := b.toNat - 96
def ltrs (s : ByteArray) : List Nat := s.data.toList.map letD
def pk (s : ByteArray) (k : Nat) : Nat := val ((ltrs s).take k)
theorem ltrs_len (s : ByteArray) : (ltrs s).length = s.size := by unfold ltrs; rw [List.length_map, Array.length_toList]; rfl
theorem ltrs_at (s : ByteArray) (j : Nat) (h : j < s.size) : (ltrs s)[j]'(by rw [ltrs_len]; exact h) = s[j].toNat - 96 := by
  simp only [ltrs, List.getElem_map, letD, Array.getElem_toList]
  rfl
theorem pk_zero (s : ByteArray) : pk s 0 = 0 := by simp [pk, val]
theorem pk_succ (s : ByteArray) (k : Nat) (h : k < s.size) : pk s (k + 1) = 27 * pk s k + (s[k].toNat - 96) := by
  unfold pk
  rw [List.take_succ_eq_append_getElem (by rw [ltrs_len]; exact h), val_snoc, ltrs_at s k h]
theorem pk_lt {s : ByteArray} {k : Nat} (hl : ∀ j (h : j < s.size), j < k → 97 ≤ s[j].toNat ∧ s[j].toNat ≤ 122) (h6 : k ≤ 6) : pk s k < 387420489 := by
  have h1 : pk s k < 27 ^ ((ltrs s).take k).length := by
    unfold pk
    apply val_lt
    intro d hd
    obtain ⟨i, hi, rfl⟩ := List.getElem_of_mem hd
    simp only [List.length_take, ltrs_len] at hi
    rw [List.getElem_take, ltrs_at s i (by omega)]
    have := hl i (by omega) (by omega)
    omega
  have h2 : ((ltrs s).take k).length ≤ 6 := by simp only [List.length_take]; omega
  have h3 : 27 ^ ((ltrs s).take k).length ≤ 27 ^ 6 := Nat.pow_le_pow_right (by omega) h2
  omega
def bytesOf (ds : List Nat) : ByteArray := ⟨(ds.map fun d => UInt8.ofNat (96 + d)).toArray⟩
theorem bytesOf_size (ds : List Nat) : (bytesOf ds).size = ds.length := by simp [bytesOf, ByteArray.size]
theorem bytesOf_at (ds : List Nat) (j : Nat) (h : j < (bytesOf ds).size) (hd : ∀ d ∈ ds, d < 27) : (bytesOf ds)[j].toNat = 96 + ds[j]'(by rw [bytesOf_size] at h; exact h) := by
  have hj : j < ds.length := by rw [bytesOf_size] at h; exact h
  have := hd _ (List.getElem_mem hj)
  have e : (bytesOf ds)[j] = UInt8.ofNat (96 + ds[j]) := by
    have e1 : (bytesOf ds)[j] = ((ds.map fun d => UInt8.ofNat (96 + d)).toArray)[j]'(by simpa using hj) := rfl
    rw [e1, List.getElem_toArray, List.getElem_map]
  rw [e, UInt8.toNat_ofNat']
  omega
theorem bytesOf_cons (d : Nat) (ds : List Nat) : (⟨#[UInt8.ofNat (96 + d)]⟩ : ByteArray) ++ bytesOf ds = bytesOf (d :: ds) := by
  apply ByteArray.ext
  simp [bytesOf]
theorem nmB_bytesOf {ds : List Nat} (hd : ∀ d ∈ ds, 1 ≤ d ∧ d < 27) (h1 : 1 ≤ ds.length) (h6 : ds.length ≤ 6) : nmB (bytesOf ds) = true := by
  refine nmB_all (by rw [bytesOf_size]; exact h1) (by rw [bytesOf_size]; exact h6) (fun j h => ?_)
  rw [bytesOf_at ds j h (fun d x => (hd d x).2)]
  have := hd _ (List.getElem_mem (by rw [bytesOf_size] at h; exact h))
  omega
def goodN (n : Int) : Bool := decide (0 < n ∧ (∀ d ∈ digs n.toNat, 1 ≤ d) ∧ (digs n.toNat).length ≤ 6)
def unpS (n : Int) : ByteArray := if goodN n = true then bytesOf (digs n.toNat) else ⟨#[]⟩
def unpC (n : Int) : Int := if goodN n = true then 0 else 3
def packV (s : ByteArray) : Int := if nmB s = true then (pk s s.size : Nat) else 0
def packC (s : ByteArray) : Int := if 65536 < s.size then 2 else if nmB s = true then 0 else 12
theorem unp_bad {n : Int} (h : goodN n = false) : unpS n = ⟨#[]⟩ ∧ unpC n = 3 := by unfold unpS unpC; rw [h]; exact ⟨rfl, rfl⟩
theorem unp_low {n : Int} (h : ¬ 0 < n) : goodN n = false := decide_eq_false (fun x => h x.1)
theorem unp_zero {n : Nat} {m : Nat} {ds : List Nat} (h : Dg n m ds) (hm : 0 < m) (h0 : m % 27 = 0) : goodN (n : Int) = false := decide_eq_false (fun x => h.zero hm h0 x.2.1)
theorem unp_many {n : Nat} {m : Nat} {ds : List Nat} (h : Dg n m ds) (hm : 0 < m) (h6 : 6 ≤ ds.length) : goodN (n : Int) = false := decide_eq_false (fun x => by have := h.many hm; have := x.2.2; simp only [Int.toNat_natCast] at this; omega)
theorem unp_done {n : Nat} {ds : List Nat} (h : Dg n 0 ds) (hn : 0 < n) (h6 : ds.length ≤ 6) : unpS (n : Int) = bytesOf ds ∧ unpC (n : Int) = 0 := by
  have g : goodN (n : Int) = true := decide_eq_true ⟨by omega, by rw [Int.toNat_natCast, h.done]; exact fun d x => (h.ok d x).1, by rw [Int.toNat_natCast, h.done]; exact h6⟩
  unfold unpS unpC
  rw [if_pos g, if_pos g, Int.toNat_natCast, h.done]
  exact ⟨rfl, rfl⟩
end Go.Proofs.YtmeiionabonhnaaGreatDoor

namespace Go.Proofs.YtmeiionabonhnaaGreatDoor
open Go.RowKit
theorem ret_si {a b : ByteArray} {c d : Int} (h : a = b) (k : c = d) : Ending.returned (.tuple #[.string a, .int .i64 c]) = .returned (.tuple #[.string b, .int .i64 d]) := by rw [h, k]
theorem ret_sb {a b : ByteArray} {c d : Bool} (h : a = b) (k : c = d) : Ending.returned (.tuple #[.string a, .bool c]) = .returned (.tuple #[.string b, .bool d]) := by rw [h, k]
theorem l01Six_yes (n : Int) (w : World) (h : 1 ≤ n ∧ n ≤ 6) : Calls Tryz.prog 125 #[.int .i64 n, .int .i64 1, .int .i64 6] w fun e w' => e = .returned (.bool true) ∧ w' = w := by
  obtain ⟨h1, h2⟩ := h
  go_enter Tryz.func125, Tryz.ntmps125
  go_wp2
  go_ret
  exact ⟨rfl, rfl⟩
theorem l01Six_no (n : Int) (w : World) (h : ¬ (1 ≤ n ∧ n ≤ 6)) : Calls Tryz.prog 125 #[.int .i64 n, .int .i64 1, .int .i64 6] w fun e w' => e = .returned (.bool false) ∧ w' = w := by
  rcases (show ¬ 1 ≤ n ∨ (1 ≤ n ∧ ¬ n ≤ 6) by omega) with h1 | ⟨h1, h2⟩
  all_goals
    clear h
    go_enter Tryz.func125, Tryz.ntmps125
    go_wp2
    go_ret
    exact ⟨rfl, rfl⟩
set_option maxHeartbeats 1000000 in
theorem l03Name_any (s : ByteArray) (w : World) (hs : s.size ≤ maxLen) : Calls Tryz.prog 146 #[.string s] w fun e w' => e = .returned (.bool (nmB s)) ∧ w' = w := by
  unfold maxLen at hs
  by_cases c : 1 ≤ s.size ∧ s.size ≤ 6
  · have c' : 1 ≤ (s.size : Int) ∧ (s.size : Int) ≤ 6 := by omega
    have C := hideIt c'
    obtain ⟨c1, c2⟩ := c
    clear c'
    go_enter Tryz.func146, Tryz.ntmps146
    go_wp2_with (go_at_call 125; refine (l01Six_yes _ _ C.out).mono ?_; rintro e w' ⟨rfl, rfl⟩)
    go_loop [3] (fun i => ∃ k : Nat, k ≤ s.size ∧ i = .int .i64 k ∧ Hid (∀ j (h : j < s.size), j < k → 97 ≤ s[j].toNat ∧ s[j].toNat ≤ 122)) (fun i => s.size - (intOf i).toNat)
    case atStart => exact ⟨0, by omega, rfl, fun j h b => absurd b (by omega)⟩
    case round =>
      obtain ⟨k, hk, rfl, H⟩ := hrel
      by_cases hlt : k < s.size
      · rcases (show ((s[k].toNat : Int) < 97) ∨ (¬ ((s[k].toNat : Int) < 97) ∧ (122 : Int) < (s[k].toNat : Int)) ∨ (¬ ((s[k].toNat : Int) < 97) ∧ ¬ (122 : Int) < (s[k].toNat : Int)) by omega) with d | ⟨d, d'⟩ | ⟨d, d'⟩
        · have E := hideIt (nmB_other hlt (by omega))
          go_wp2
          go_ret
          exact ⟨ret_bool E.out.symm, rfl⟩
        · have E := hideIt (nmB_other hlt (by omega))
          go_wp2
          go_ret
          exact ⟨ret_bool E.out.symm, rfl⟩
        · go_wp2
          go_round
          case rel =>
            refine ⟨k + 1, by omega, by go_num, fun j h b => ?_⟩
            by_cases e : j = k
            · subst e; omega
            · exact H.out j h (by omega)
          case measure => simp [intOf]; omega
      · have E := hideIt (nmB_all c1 c2 (fun j h => H.out j h (by omega)))
        go_wp2
        go_ret
        exact ⟨ret_bool E.out.symm, rfl⟩
  · have c' : ¬ (1 ≤ (s.size : Int) ∧ (s.size : Int) ≤ 6) := by omega
    have C := hideIt c'
    have E := hideIt (show nmB s = false from decide_eq_false (fun x => c ⟨x.1, x.2.1⟩))
    clear c c'
    go_enter Tryz.func146, Tryz.ntmps146
    go_wp2_with (go_at_call 125; refine (l01Six_no _ _ C.out).mono ?_; rintro e w' ⟨rfl, rfl⟩)
    go_ret
    exact ⟨ret_bool E.out.symm, rfl⟩
theorem pack_long {s : ByteArray} (h : 65536 < s.size) : packV s = 0 ∧ packC s = 2 := by
  unfold packV packC
  rw [if_neg (by rw [nmB_long (by omega)]; simp), if_pos h]
  exact ⟨rfl, rfl⟩
theorem pack_not {s : ByteArray} (h : ¬ 65536 < s.size) (h2 : nmB s = false) : packV s = 0 ∧ packC s = 12 := by
  unfold packV packC
  rw [h2, if_neg h]
  exact ⟨rfl, rfl⟩
theorem pack_yes {s : ByteArray} (h : nmB s = true) : packV s = ((pk s s.size : Nat) : Int) ∧ packC s = 0 := by
  unfold packV packC
  have := (nmB_true h).2.1
  rw [if_pos h, if_neg (by omega), if_pos h]
  exact ⟨rfl, rfl⟩
set_option maxRecDepth 100000 in
set_option maxHeartbeats 4000000 in
theorem implPackName_any (s : ByteArray) (w : World) (hs : s.size ≤ maxLen) : Calls Tryz.prog 276 #[.string s] w fun e w' => e = .returned (.tuple #[.int .i64 (packV s), .int .i64 (packC s)]) ∧ Below w.heap.size w w' := by
  unfold maxLen at hs
  by_cases c0 : 65536 < s.size
  · have E := hideIt (pack_long c0)
    go_enter Tryz.func276, Tryz.ntmps276
    go_wp2
    go_ret2
    exact ⟨ret_two E.out.1.symm E.out.2.symm, Below.refl _ _⟩
  by_cases c1 : s.size < 1
  · have E := hideIt (pack_not c0 (nmB_short c1))
    go_enter Tryz.func276, Tryz.ntmps276
    go_wp2
    go_ret2
    exact ⟨ret_two E.out.1.symm E.out.2.symm, Below.refl _ _⟩
  by_cases c2 : 6 < s.size
  · have E := hideIt (pack_not c0 (nmB_long c2))
    go_enter Tryz.func276, Tryz.ntmps276
    go_wp2
    go_ret2
    exact ⟨ret_two E.out.1.symm E.out.2.symm, Below.refl _ _⟩
  have hconv := run_bytes_of_string (P := Tryz.prog) w 9 83 5 s Tryz.underlying9 Tryz.underlying83 Tryz.underlying5
  generalize hcap : grownCap w s.size 0 5 = cap at hconv
  have CELL : Hid (∀ k (h : k < s.size), (w.drew.alloc (.cells (bytesRow s cap) 5 ((bytesRow s cap).size, (bytesRow s cap).size + 1))).cell? ⟨w.heap.size, k, none⟩ = some (.int .u8 (s[k].toNat : Int))) := fun k h => by
    have e := World.cell?_alloc_mark w.drew (bytesRow s cap) 5 ((bytesRow s cap).size, (bytesRow s cap).size + 1) k
    rw [bytesRow_at s cap k h] at e
    exact e
  have BB : Hid (Below w.heap.size w (w.drew.alloc (.cells (bytesRow s cap) 5 ((bytesRow s cap).size, (bytesRow s cap).size + 1)))) := ((Below.refl _ _).drew).alloc (Nat.le_refl _) _
  clear hcap
  generalize w.drew.alloc (.cells (bytesRow s cap) 5 ((bytesRow s cap).size, (bytesRow s cap).size + 1)) = w1 at hconv CELL BB
  go_enter Tryz.func276, Tryz.ntmps276
  go_wp2
  go_loop [4, 6, 21] (fun n _ i => ∃ k : Nat, k ≤ s.size ∧ i = .int .i64 k ∧ n = .int .i64 ((pk s k : Nat) : Int) ∧ Hid (∀ j (h : j < s.size), j < k → 97 ≤ s[j].toNat ∧ s[j].toNat ≤ 122)) (fun _ _ i => s.size - (intOf i).toNat)
  case atStart => exact ⟨0, by omega, rfl, by rw [pk_zero]; rfl, fun j h b => absurd b (by omega)⟩
  case round =>
    obtain ⟨k, hk, rfl, rfl, H⟩ := hrel
    by_cases hlt : k < s.size
    · have x0 := CELL.out k hlt
      have bd : pk s k < 387420489 := pk_lt H.out (by omega)
      have SU := hideIt (pk_succ s k hlt)
      have b255 : s[k].toNat < 256 := s[k].toNat_lt
      have NO := hideIt (nmB_other (s := s) hlt)
      have NX : Hid (97 ≤ s[k].toNat ∧ s[k].toNat ≤ 122 → ∀ j (h : j < s.size), j < k + 1 → 97 ≤ s[j].toNat ∧ s[j].toNat ≤ 122) := fun hx j h b => by
        by_cases e : j = k
        · subst e; exact hx
        · exact H.out j h (by omega)
      generalize s[k].toNat = x at x0 SU b255 NO NX
      rcases (show ((x : Int) < 97) ∨ (¬ ((x : Int) < 97) ∧ (122 : Int) < (x : Int)) ∨ (¬ ((x : Int) < 97) ∧ ¬ (122 : Int) < (x : Int)) by omega) with d | ⟨d, d'⟩ | ⟨d, d'⟩
      · have E := hideIt (pack_not c0 (NO.out (by omega)))
        go_wp2
        go_ret2
        exact ⟨ret_two E.out.1.symm E.out.2.symm, BB.out⟩
      · have E := hideIt (pack_not c0 (NO.out (by omega)))
        go_wp2
        go_ret2
        exact ⟨ret_two E.out.1.symm E.out.2.symm, BB.out⟩
      · go_wp2
        go_round
        case rel => exact ⟨k + 1, by omega, by go_num, by rw [SU.out]; congr 1; omega, NX.out (by omega)⟩
        case measure => simp [intOf]; omega
    · have ek : k = s.size := by omega
      subst ek
      have E := hideIt (pack_yes (nmB_all (s := s) (by omega) (by omega) (fun j h => H.out j h h)))
      go_wp2
      go_ret2
      exact ⟨ret_two E.out.1.symm E.out.2.symm, BB.out⟩
end Go.Proofs.YtmeiionabonhnaaGreatDoor
