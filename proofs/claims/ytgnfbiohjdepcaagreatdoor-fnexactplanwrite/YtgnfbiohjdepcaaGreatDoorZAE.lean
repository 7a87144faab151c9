/- Several texts laid together: Nm, ImD, ImH, StoreS, ImE, ImF. -/
import Derived.Test.YtgnfbiohjdepcaaGreatDoorMem
import Derived.Test.YtgnfbiohjdepcaaGreatDoorZAD
import Derived.Laws.IdiomStrings
import Derived.Laws.BytesArg
import Derived.Deep.OwnRows
import Derived.Deep.RegionWith
import Derived.Test.YtgnfbiohjdepcaaGreatDoorZAB
namespace Go.Proofs.YtgnfbiohjdepcaaGreatDoor
open Go.RowKit
theorem ret_si {a b : ByteArray} {c d : Int} (h : a = b) (k : c = d) : Ending.returned (.tuple #[.string a, .int .i64 c]) = .returned (.tuple #[.string b, .int .i64 d]) := by rw [h, k]
theorem ret_sb {a b : ByteArray} {c d : Bool} (h : a = b) (k : c = d) : Ending.returned (.tuple #[.string a, .bool c]) = .returned (.tuple #[.string b, .bool d]) := by rw [h, k]
theorem l01Six_yes (n : Int) (w : World) (h : 1 ≤ n ∧ n ≤ 6) : Calls Tryz.prog 52 #[.int .i64 n, .int .i64 1, .int .i64 6] w fun e w' => e = .returned (.bool true) ∧ w' = w := by
  obtain ⟨h1, h2⟩ := h
  go_enter Tryz.func52, Tryz.ntmps52
  go_wp2
  go_ret
  exact ⟨rfl, rfl⟩
theorem l01Six_no (n : Int) (w : World) (h : ¬ (1 ≤ n ∧ n ≤ 6)) : Calls Tryz.prog 52 #[.int .i64 n, .int .i64 1, .int .i64 6] w fun e w' => e = .returned (.bool false) ∧ w' = w := by
  rcases (show ¬ 1 ≤ n ∨ (1 ≤ n ∧ ¬ n ≤ 6) by omega) with h1 | ⟨h1, h2⟩
  all_goals
    clear h
    go_enter Tryz.func52, Tryz.ntmps52
    go_wp2
    go_ret
    exact ⟨rfl, rfl⟩
set_option maxHeartbeats 1000000 in
theorem l03Name_any (s : ByteArray) (w : World) (hs : s.size ≤ maxLen) : Calls Tryz.prog 146 #[.string s] w fun e w' => e = .returned (.bool (nmB s)) ∧ w' = w := by
  unfold maxLen at hs
  by_cases c : 1 ≤ s.size ∧ s.size ≤ 6
  · have c' : 1 ≤ (s.size : Int) ∧ (s.size : Int) ≤ 6 := by omega
    have C := hideIt c'
    obtain ⟨c1, c2⟩ := c
    clear c'
    go_enter Tryz.func146, Tryz.ntmps146
    go_wp2_with (go_at_call 52; refine (l01Six_yes _ _ C.out).mono ?_; rintro e w' ⟨rfl, rfl⟩)
    go_loop [3] (fun i => ∃ k : Nat, k ≤ s.size ∧ i = .int .i64 k ∧ Hid (∀ j (h : j < s.size), j < k → 97 ≤ s[j].toNat ∧ s[j].toNat ≤ 122)) (fun i => s.size - (intOf i).toNat)
    case atStart => exact ⟨0, by omega, rfl, fun j h b => absurd b (by omega)⟩
    case round =>
      obtain ⟨k, hk, rfl, H⟩ := hrel
      by_cases hlt : k < s.size
      · rcases (show ((s[k].toNat : Int) < 97) ∨ (¬ ((s[k].toNat : Int) < 97) ∧ (122 : Int) < (s[k].toNat : Int)) ∨ (¬ ((s[k].toNat : Int) < 97) ∧ ¬ (122 : Int) < (s[k].toNat : Int)) by omega) with d | ⟨d, d'⟩ | ⟨d, d'⟩
        · have E := hideIt (nmB_other hlt (by omega))
          go_wp2
          go_ret
          exact ⟨ret_bool E.out.symm, rfl⟩
        · have E := hideIt (nmB_other hlt (by omega))
          go_wp2
          go_ret
          exact ⟨ret_bool E.out.symm, rfl⟩
        · go_wp2
          go_round
          case rel =>
            refine ⟨k + 1, by omega, by go_num, fun j h b => ?_⟩
            by_cases e : j = k
            · subst e; omega
            · exact H.out j h (by omega)
          case measure => simp [intOf]; omega
      · have E := hideIt (nmB_all c1 c2 (fun j h => H.out j h (by omega)))
        go_wp2
        go_ret
        exact ⟨ret_bool E.out.symm, rfl⟩
  · have c' : ¬ (1 ≤ (s.size : Int) ∧ (s.size : Int) ≤ 6) := by omega
    have C := hideIt c'
    have E := hideIt (show nmB s = false from decide_eq_false (fun x => c ⟨x.1, x.2.1⟩))
    clear c c'
    go_enter Tryz.func146, Tryz.ntmps146
    go_wp2_with (go_at_call 52; refine (l01Six_no _ _ C.out).mono ?_; rintro e w' ⟨rfl, rfl⟩)
    go_ret
    exact ⟨ret_bool E.out.symm, rfl⟩
theorem pack_long {s : ByteArray} (h : 65536 < s.size) : packV s = 0 ∧ packC s = 2 := by
  unfold packV packC
  rw [if_neg (by rw [nmB_long (by omega)]; simp), if_pos h]
  exact ⟨rfl, rfl⟩
theorem pack_not {s : ByteArray} (h : ¬ 65536 < s.size) (h2 : nmB s = false) : packV s = 0 ∧ packC s = 12 := by
  unfold packV packC
  rw [h2, if_neg h]
  exact ⟨rfl, rfl⟩
theorem pack_yes {s : ByteArray} (h : nmB s = true) : packV s = ((pk s s.size : Nat) : Int) ∧ packC s = 0 := by
  unfold packV packC
  have := (nmB_true h).2.1
  rw [if_pos h, if_neg (by omega), if_pos h]
  exact ⟨rfl, rfl⟩
set_option maxRecDepth 100000 in
set_option maxHeartbeats 4000000 in
theorem implPackName_any (s : ByteArray) (w : World) (hs : s.size ≤ maxLen) : Calls Tryz.prog 171 #[.string s] w fun e w' => e = .returned (.tuple #[.int .i64 (packV s), .int .i64 (packC s)]) ∧ Below w.heap.size w w' := by
  unfold maxLen at hs
  by_cases c0 : 65536 < s.size
  · have E := hideIt (pack_long c0)
    go_enter Tryz.func171, Tryz.ntmps171
    go_wp2
    go_ret2
    exact ⟨ret_two E.out.1.symm E.out.2.symm, Below.refl _ _⟩
  by_cases c1 : s.size < 1
  · have E := hideIt (pack_not c0 (nmB_short c1))
    go_enter Tryz.func171, Tryz.ntmps171
    go_wp2
    go_ret2
    exact ⟨ret_two E.out.1.symm E.out.2.symm, Below.refl _ _⟩
  by_cases c2 : 6 < s.size
  · have E := hideIt (pack_not c0 (nmB_long c2))
    go_enter Tryz.func171, Tryz.ntmps171
    go_wp2
    go_ret2
    exact ⟨ret_two E.out.1.symm E.out.2.symm, Below.refl _ _⟩
  have hconv := run_bytes_of_string (P := Tryz.prog) w 9 186 5 s Tryz.underlying9 Tryz.underlying186 Tryz.underlying5
  generalize hcap : grownCap w s.size 0 5 = cap at hconv
  have CELL : Hid (∀ k (h : k < s.size), (w.drew.alloc (.cells (bytesRow s cap) 5 ((bytesRow s cap).size, (bytesRow s cap).size + 1))).cell? ⟨w.heap.size, k, none⟩ = some (.int .u8 (s[k].toNat : Int))) := fun k h => by
    have e := World.cell?_alloc_mark w.drew (bytesRow s cap) 5 ((bytesRow s cap).size, (bytesRow s cap).size + 1) k
    rw [bytesRow_at s cap k h] at e
    exact e
  have BB : Hid (Below w.heap.size w (w.drew.alloc (.cells (bytesRow s cap) 5 ((bytesRow s cap).size, (bytesRow s cap).size + 1)))) := ((Below.refl _ _).drew).alloc (Nat.le_refl _) _
  clear hcap
  generalize w.drew.alloc (.cells (bytesRow s cap) 5 ((bytesRow s cap).size, (bytesRow s cap).size + 1)) = w1 at hconv CELL BB
  go_enter Tryz.func171, Tryz.ntmps171
  go_wp2
  go_loop [4, 6, 21] (fun n _ i => ∃ k : Nat, k ≤ s.size ∧ i = .int .i64 k ∧ n = .int .i64 ((pk s k : Nat) : Int) ∧ Hid (∀ j (h : j < s.size), j < k → 97 ≤ s[j].toNat ∧ s[j].toNat ≤ 122)) (fun _ _ i => s.size - (intOf i).toNat)
  case atStart => exact ⟨0, by omega, rfl, by rw [pk_zero]; rfl, fun j h b => absurd b (by omega)⟩
  case round =>
    obtain ⟨k, hk, rfl, rfl, H⟩ := hrel
    by_cases hlt : k < s.size
    · have x0 := CELL.out k hlt
      have bd : pk s k < 387420489 := pk_lt H.out (by omega)
      have SU := hideIt (pk_succ s k hlt)
      have b255 : s[k].toNat < 256 := s[k].toNat_lt
      have NO := hideIt (nmB_other (s := s) hlt)
      have NX : Hid (97 ≤ s[k].toNat ∧ s[k].toNat ≤ 122 → ∀ j (h : j < s.size), j < k + 1 → 97 ≤ s[j].toNat ∧ s[j].toNat ≤ 122) := fun hx j h b => by
        by_cases e : j = k
        · subst e; exact hx
        · exact H.out j h (by omega)
      generalize s[k].toNat = x at x0 SU b255 NO NX
      rcases (show ((x : Int) < 97) ∨ (¬ ((x : Int) < 97) ∧ (122 : Int) < (x : Int)) ∨ (¬ ((x : Int) < 97) ∧ ¬ (122 : Int) < (x : Int)) by omega) with d | ⟨d, d'⟩ | ⟨d, d'⟩
      · have E := hideIt (pack_not c0 (NO.out (by omega)))
        go_wp2
        go_ret2
        exact ⟨ret_two E.out.1.symm E.out.2.symm, BB.out⟩
      · have E := hideIt (pack_not c0 (NO.out (by omega)))
        go_wp2
        go_ret2
        exact ⟨ret_two E.out.1.symm E.out.2.symm, BB.out⟩
      · go_wp2
        go_round
        case rel => exact ⟨k + 1, by omega, by go_num, by rw [SU.out]; congr 1; omega, NX.out (by omega)⟩
        case measure => simp [intOf]; omega
    · have ek : k = s.size := by omega
      subst ek
      have E := hideIt (pack_yes (nmB_all (s := s) (by omega) (by omega) (fun j h => H.out j h h)))
      go_wp2
      go_ret2
      exact ⟨ret_two E.out.1.symm E.out.2.symm, BB.out⟩
end Go.Proofs.YtgnfbiohjdepcaaGreatDoor

namespace Go.Proofs.YtgnfbiohjdepcaaGreatDoor
open Go.RowKit
theorem row_none (w : World) (t : TypeId) (size : Nat) : Row (w.alloc (.cells #[] t)) t size w.heap.size (w.alloc (.cells #[] t)).heap.size (.slice (some ⟨w.heap.size, 0, none⟩) 0 0) 0 [] :=
  own_block (World.ownsRow_lit w #[] 0 (Nat.le_refl _) (by simp [maxLen]) (by simp))
theorem Ino.all {x : Ino} {w' : World} {b : Nat} (h : ∀ j, w'.cell? ⟨b, j, none⟩ = x.cs[j]?) : w'.cell? ⟨b, 0, none⟩ = some (.int .i64 x.kind) ∧ w'.cell? ⟨b, 1, none⟩ = some (.int .i64 x.size) ∧ w'.cell? ⟨b, 2, none⟩ = some (.int .i64 x.links) ∧ w'.cell? ⟨b, 3, none⟩ = some (.int .i64 x.m0) ∧ w'.cell? ⟨b, 4, none⟩ = some (.int .i64 x.m1) ∧ w'.cell? ⟨b, 5, none⟩ = some (.int .i64 x.m2) ∧ w'.cell? ⟨b, 6, none⟩ = some (.int .i64 x.m3) ∧ w'.cell? ⟨b, 7, none⟩ = some (.int .i64 x.m4) ∧ w'.cell? ⟨b, 8, none⟩ = some (.int .i64 x.m5) ∧ w'.cell? ⟨b, 9, none⟩ = some (.int .i64 x.m6) ∧ w'.cell? ⟨b, 10, none⟩ = some (.int .i64 x.m7) := ⟨h 0, h 1, h 2, h 3, h 4, h 5, h 6, h 7, h 8, h 9, h 10⟩
end Go.Proofs.YtgnfbiohjdepcaaGreatDoor

namespace Go.Proofs.YtgnfbiohjdepcaaGreatDoor
open Go.RowKit
def inos (ps : List Ino) : List Value := ps.flatMap Ino.cs
theorem Ino.cs_len (x : Ino) : x.cs.length = 11 := rfl
theorem inos_at (ps : List Ino) (k i : Nat) (h : k < ps.length) (hi : i < 11) : (inos ps)[k * 11 + i]? = ps[k].cs[i]? := (flatMap_at _ 11 Ino.cs_len ps k i h hi).trans (by rw [List.getElem?_eq_getElem (show i < ps[k].cs.length by rw [Ino.cs_len]; exact hi)])
def RdN (w : World) (v : Value) (ps : List Ino) : Prop := Rd w 11 v ps.length (inos ps)
theorem RdN.shape {w : World} {v : Value} {ps : List Ino} (h : RdN w v ps) : ∃ ao cap, v = .slice ao ps.length cap ∧ ps.length ≤ cap ∧ (0 < ps.length → ∃ b o, ao = some ⟨b, o, none⟩ ∧ b < w.heap.size ∧
    ∀ k (h : k < ps.length), w.cell? ⟨b, o + k * 11, none⟩ = some (.int .i64 ps[k].kind) ∧ w.cell? ⟨b, o + k * 11 + 1, none⟩ = some (.int .i64 ps[k].size) ∧ w.cell? ⟨b, o + k * 11 + 2, none⟩ = some (.int .i64 ps[k].links) ∧ w.cell? ⟨b, o + k * 11 + 3, none⟩ = some (.int .i64 ps[k].m0) ∧ w.cell? ⟨b, o + k * 11 + 4, none⟩ = some (.int .i64 ps[k].m1) ∧ w.cell? ⟨b, o + k * 11 + 5, none⟩ = some (.int .i64 ps[k].m2) ∧ w.cell? ⟨b, o + k * 11 + 6, none⟩ = some (.int .i64 ps[k].m3) ∧ w.cell? ⟨b, o + k * 11 + 7, none⟩ = some (.int .i64 ps[k].m4) ∧ w.cell? ⟨b, o + k * 11 + 8, none⟩ = some (.int .i64 ps[k].m5) ∧ w.cell? ⟨b, o + k * 11 + 9, none⟩ = some (.int .i64 ps[k].m6) ∧ w.cell? ⟨b, o + k * 11 + 10, none⟩ = some (.int .i64 ps[k].m7)) := by
  obtain ⟨_, ao, cap, rfl, h2, h3⟩ := h
  refine ⟨ao, cap, rfl, h2.1, fun hn => ?_⟩
  obtain ⟨b, o, rfl, hb, hc⟩ := h3 hn
  exact ⟨b, o, rfl, hb, fun k hk => ⟨(hc (k * 11) (by omega)).trans (inos_at ps k 0 hk (by omega)), (hc (k * 11 + 1) (by omega)).trans (inos_at ps k 1 hk (by omega)), (hc (k * 11 + 2) (by omega)).trans (inos_at ps k 2 hk (by omega)), (hc (k * 11 + 3) (by omega)).trans (inos_at ps k 3 hk (by omega)), (hc (k * 11 + 4) (by omega)).trans (inos_at ps k 4 hk (by omega)), (hc (k * 11 + 5) (by omega)).trans (inos_at ps k 5 hk (by omega)), (hc (k * 11 + 6) (by omega)).trans (inos_at ps k 6 hk (by omega)), (hc (k * 11 + 7) (by omega)).trans (inos_at ps k 7 hk (by omega)), (hc (k * 11 + 8) (by omega)).trans (inos_at ps k 8 hk (by omega)), (hc (k * 11 + 9) (by omega)).trans (inos_at ps k 9 hk (by omega)), (hc (k * 11 + 10) (by omega)).trans (inos_at ps k 10 hk (by omega))⟩⟩
theorem infoIno : (Tryz.prog.info? 70).map (fun i => (i.zero, i.size, i.bytes)) = some (some (.agg #[.int .i64 0, .int .i64 0, .int .i64 0, .int .i64 0, .int .i64 0, .int .i64 0, .int .i64 0, .int .i64 0, .int .i64 0, .int .i64 0, .int .i64 0]), 11, 88) := by kernel_rfl
end Go.Proofs.YtgnfbiohjdepcaaGreatDoor

namespace Go.Proofs.YtgnfbiohjdepcaaGreatDoor
open Go.RowKit
structure St where
  at_ : Int
  val : Int
  fl : Bool
deriving DecidableEq
def St.cells (s : St) : List Value := [.int .i64 s.at_, .int .i64 s.val, .bool s.fl]
def sts (ps : List St) : List Value := ps.flatMap St.cells
theorem St.cells_len (s : St) : s.cells.length = 3 := rfl
theorem sts_len (ps : List St) : (sts ps).length = ps.length * 3 := flatMap_len _ 3 St.cells_len ps
theorem sts_at0 (ps : List St) (k : Nat) (h : k < ps.length) : (sts ps)[k * 3]? = some (.int .i64 ps[k].at_) := flatMap_at _ 3 St.cells_len ps k 0 h (by omega)
theorem sts_at1 (ps : List St) (k : Nat) (h : k < ps.length) : (sts ps)[k * 3 + 1]? = some (.int .i64 ps[k].val) := flatMap_at _ 3 St.cells_len ps k 1 h (by omega)
theorem sts_at2 (ps : List St) (k : Nat) (h : k < ps.length) : (sts ps)[k * 3 + 2]? = some (.bool ps[k].fl) := flatMap_at _ 3 St.cells_len ps k 2 h (by omega)
def RdS (w : World) (v : Value) (ps : List St) : Prop := Rd w 3 v ps.length (sts ps)
theorem RdS.shape {w : World} {v : Value} {ps : List St} (h : RdS w v ps) : ∃ ao cap, v = .slice ao ps.length cap ∧ ps.length ≤ cap ∧ (0 < ps.length → ∃ b o, ao = some ⟨b, o, none⟩ ∧ b < w.heap.size ∧
    ∀ k (h : k < ps.length), w.cell? ⟨b, o + k * 3, none⟩ = some (.int .i64 ps[k].at_) ∧ w.cell? ⟨b, o + k * 3 + 1, none⟩ = some (.int .i64 ps[k].val) ∧ w.cell? ⟨b, o + k * 3 + 2, none⟩ = some (.bool ps[k].fl)) := by
  obtain ⟨_, ao, cap, rfl, h2, h3⟩ := h
  refine ⟨ao, cap, rfl, h2.1, fun hn => ?_⟩
  obtain ⟨b, o, rfl, hb, hc⟩ := h3 hn
  exact ⟨b, o, rfl, hb, fun k hk => ⟨(hc (k * 3) (by omega)).trans (sts_at0 ps k hk), (hc (k * 3 + 1) (by omega)).trans (sts_at1 ps k hk), (hc (k * 3 + 2) (by omega)).trans (sts_at2 ps k hk)⟩⟩
theorem info52 : (Tryz.prog.info? 135).map (fun i => (i.zero, i.size, i.bytes)) = some (some (.agg #[.int .i64 0, .int .i64 0, .bool false]), 3, 24) := by kernel_rfl
set_option maxHeartbeats 1000000 in
theorem toStore_any (a v : Int) (f : Bool) (w : World) : Calls Tryz.prog 95 #[.agg #[.int .i64 a, .int .i64 v, .bool f]] w fun e w' => e = .returned (.agg #[.int .i64 a, .int .i64 v, .bool f]) ∧ Below w.heap.size w w' := by
  go_enter Tryz.func95, Tryz.ntmps95
  go_wp2
  refine bodyPost_ret (v := .agg #[.int .i64 a, .int .i64 v, .bool f]) (by simp [results, Tryz.results95, go_sem]) rfl ⟨rfl, ?_⟩
  repeat (refine Below.alloc ?_ (by simp <;> omega) _)
  exact Below.refl _ _
def put3 (ys : List Value) (k : Nat) (a b c : Value) : List Value := ((ys.set (k * 3) a).set (k * 3 + 1) b).set (k * 3 + 2) c
theorem put3_at {ys : List Value} {k : Nat} {a b c : Value} {j : Nat} (hj : j < ys.length) : (put3 ys k a b c)[j]? = if j = k * 3 + 2 then some c else if j = k * 3 + 1 then some b else if j = k * 3 then some a else ys[j]? := by
  unfold put3
  rw [set_at (by simpa using hj), set_at (by simpa using hj), set_at hj]
theorem put3_step {ys : List Value} {ps : List St} {k : Nat} (hk : k < ps.length) (hl : ys.length = ps.length * 3) (h : ∀ j, j < k * 3 → ys[j]? = (sts ps)[j]?) :
    ∀ j, j < (k + 1) * 3 → (put3 ys k (.int .i64 ps[k].at_) (.int .i64 ps[k].val) (.bool ps[k].fl))[j]? = (sts ps)[j]? := by
  intro j hj
  rw [put3_at (by omega)]
  split
  · rename_i e; rw [e, sts_at2 ps k hk]
  · split
    · rename_i e; rw [e, sts_at1 ps k hk]
    · split
      · rename_i e; rw [e, sts_at0 ps k hk]
      · exact h j (by omega)
theorem sts_all {ys : List Value} {ps : List St} (hl : ys.length = ps.length * 3) (h : ∀ j, j < ps.length * 3 → ys[j]? = (sts ps)[j]?) : ys = sts ps := by
  apply List.ext_getElem?
  intro j
  by_cases hj : j < ps.length * 3
  · exact h j hj
  · rw [List.getElem?_eq_none (by omega), List.getElem?_eq_none (by rw [sts_len]; omega)]
theorem Row.put3 {w : World} {e : TypeId} {lo hi : Nat} {b n cap : Nat} {ys : List Value} (h : Row w e 3 lo hi (.slice (some ⟨b, 0, none⟩) n cap) n ys) (k : Nat) (x y z : Value) :
    Row (((w.setCell ⟨b, k * 3, none⟩ x).setCell ⟨b, k * 3 + 1, none⟩ y).setCell ⟨b, k * 3 + 2, none⟩ z) e 3 lo hi (.slice (some ⟨b, 0, none⟩) n cap) n (put3 ys k x y z) :=
  ((h.stored (k * 3) x).stored (k * 3 + 1) y).stored (k * 3 + 2) z
set_option maxHeartbeats 1000000 in
theorem toStoreS_any (v : Value) (ps : List St) (w : World) (h : RdS w v ps) (hn : ps.length ≤ 1048576) :
    Calls Tryz.prog 55 #[v] w fun e w' => ∃ v', e = .returned v' ∧ Row w' 135 3 w.heap.size w'.heap.size v' ps.length (sts ps) ∧ Below w.heap.size w w' := by
  obtain ⟨ao, cap, rfl, hcap, hc⟩ := h.shape
  clear h
  have hmk := run_make_rows (P := Tryz.prog) 34 135 (.agg #[.int .i64 0, .int .i64 0, .bool false]) 3 24 Tryz.underlying34 info52 .i64 .i64 ps.length (by omega) (by omega)
  go_enter Tryz.func55, Tryz.ntmps55
  go_wp2
  go_loopw [4] (fun i wr => ∃ k : Nat, k ≤ ps.length ∧ i = .int .i64 k ∧ (∃ ys, Row wr 135 3 w.heap.size (w.heap.size + 1) (.slice (some ⟨w.heap.size, 0, none⟩) ps.length ps.length) ps.length ys ∧ ∀ j, j < k * 3 → ys[j]? = (sts ps)[j]?) ∧ Below w.heap.size w wr ∧ w.heap.size + 1 ≤ wr.heap.size) (fun i _ => ps.length - (intOf i).toNat)
  case atStart =>
    refine ⟨0, by omega, rfl, ⟨_, row_made w (.agg #[.int .i64 0, .int .i64 0, .bool false]) 3 ps.length 135 (by simp [maxLen]; omega), fun j hj => absurd hj (by omega)⟩, (Below.refl _ _).alloc (Nat.le_refl _) _, by simp⟩
  case round =>
    obtain ⟨k, hk, rfl, ⟨ys, hrow, hys⟩, hb, hz⟩ := hrel
    by_cases hlt : k < ps.length
    · obtain ⟨b, o, rfl, hbl, hcell⟩ := hc (by omega)
      obtain ⟨c0, c1, c2⟩ := hcell k hlt
      have d0 := (hb.cell (p := ⟨b, o + k * 3, none⟩) hbl).trans c0
      have d1 := (hb.cell (p := ⟨b, o + k * 3 + 1, none⟩) hbl).trans c1
      have d2 := (hb.cell (p := ⟨b, o + k * 3 + 2, none⟩) hbl).trans c2
      have RH := hideIt hrow
      have YH := hideIt hys
      clear hcell hc c0 c1 c2 hrow hys
      go_wp2_with fail
      refine (toStore_any _ _ _ _).mono ?_
      rintro e w1 ⟨rfl, hb1⟩
      have R1 := hideIt (RH.out.below hb1 (by omega))
      obtain ⟨_, _, _, hsz, hfr, hcl⟩ := R1.out.at
      have hl := RH.out.len
      have f0 := hfr (k * 3)
      have f1 := hfr (k * 3 + 1)
      have f2 := hfr (k * 3 + 2)
      have e0 : w1.cell? ⟨w.heap.size, k * 3, none⟩ = some (ys[k * 3]'(by omega)) := by rw [hcl _ (by omega)]; simp
      have e1 : w1.cell? ⟨w.heap.size, k * 3 + 1, none⟩ = some (ys[k * 3 + 1]'(by omega)) := by rw [hcl _ (by omega)]; simp
      have e2 : w1.cell? ⟨w.heap.size, k * 3 + 2, none⟩ = some (ys[k * 3 + 2]'(by omega)) := by rw [hcl _ (by omega)]; simp
      have BH := hideIt (hb.trans (hb1.mono (show w.heap.size ≤ wr.heap.size by omega)))
      have hz1 := hb1.size
      clear hfr hcl hb1 hb d0 d1 d2
      have P1 := hideIt (R1.out.put3 k (.int .i64 ps[k].at_) (.int .i64 ps[k].val) (.bool ps[k].fl))
      have B1 := hideIt (((BH.out.setCell (p := ⟨w.heap.size, k * 3, none⟩) (Nat.le_refl _) (.int .i64 ps[k].at_)).setCell (p := ⟨w.heap.size, k * 3 + 1, none⟩) (Nat.le_refl _) (.int .i64 ps[k].val)).setCell (p := ⟨w.heap.size, k * 3 + 2, none⟩) (Nat.le_refl _) (.bool ps[k].fl))
      go_wp2
      go_roundw
      case rel => exact ⟨k + 1, by omega, by go_num, ⟨_, P1.out, put3_step hlt hl YH.out⟩, B1.out, by simp; omega⟩
      case measure => simp [intOf]; omega
    · have e : k = ps.length := by omega
      subst e
      have hl := hrow.len
      have RH := hideIt hrow
      have YH := hideIt hys
      clear hrow hys hc
      go_wp2
      go_ret
      have e := sts_all hl YH.out
      refine ⟨_, rfl, ?_, hb⟩
      rw [← e]
      exact RH.out.wide (Nat.le_refl _) hz
theorem szStoreS_any (ao : Option Addr) (n cap : Nat) (left : Int) (w : World) (hn : n ≤ maxLen) (h0 : 0 ≤ left) (h1 : left ≤ 1048576) :
    Calls Tryz.prog 48 #[.slice ao n cap, .int .i64 left] w fun e w' => e = .returned (.int .i64 (less left n)) ∧ w' = w := by
  unfold maxLen at hn
  by_cases h : left < n
  · have e : less left n = -1 := by unfold less; rw [if_pos h]
    rw [e]; clear e
    go_enter Tryz.func48, Tryz.ntmps48
    go_wp2
    go_ret
    exact ⟨rfl, rfl⟩
  · have e : less left n = left - n := by unfold less; rw [if_neg h]
    rw [e]; clear e
    go_enter Tryz.func48, Tryz.ntmps48
    go_wp2
    go_ret
    exact ⟨rfl, rfl⟩
set_option maxHeartbeats 1000000 in
theorem eqStore_same (a v : Int) (f : Bool) (w : World) : Calls Tryz.prog 107 #[.agg #[.int .i64 a, .int .i64 v, .bool f], .agg #[.int .i64 a, .int .i64 v, .bool f]] w fun e w' => e = .returned (.bool true) ∧ Below w.heap.size w w' := by
  go_enter Tryz.func107, Tryz.ntmps107
  go_wp2
  go_ret
  refine ⟨rfl, ?_⟩
  repeat (refine Below.alloc ?_ (by simp <;> omega) _)
  exact Below.refl _ _
end Go.Proofs.YtgnfbiohjdepcaaGreatDoor

namespace Go.Proofs.YtgnfbiohjdepcaaGreatDoor
open Go.RowKit
structure Den where
  dir : Int
  name : ByteArray
  child : Int
def Den.v (x : Den) : Value := .agg #[.int .i64 x.dir, .string x.name, .int .i64 x.child]
def Den.freeB (x : Den) : Bool := x.dir == 0 && (x.name.size == 0 && x.child == -1)
def Den.okB (x : Den) : Bool := x.freeB || (decide (1 ≤ x.child ∧ x.child ≤ 15) && (decide (0 ≤ x.dir ∧ x.dir ≤ 15) && nmB x.name))
theorem noBytes (s : ByteArray) : s.toList = [] ↔ s.size = 0 := by
  rw [ByteArray.toList_eq]
  obtain ⟨⟨x⟩⟩ := s
  show x = [] ↔ x.length = 0
  exact List.length_eq_zero_iff.symm
end Go.Proofs.YtgnfbiohjdepcaaGreatDoor

namespace Go.Proofs.YtgnfbiohjdepcaaGreatDoor
open Go.RowKit
def Den.cells (s : Den) : List Value := [.int .i64 s.dir, .string s.name, .int .i64 s.child]
def dens (ps : List Den) : List Value := ps.flatMap Den.cells
theorem Den.cells_len (s : Den) : s.cells.length = 3 := rfl
theorem dens_len (ps : List Den) : (dens ps).length = ps.length * 3 := flatMap_len _ 3 Den.cells_len ps
theorem dens_at0 (ps : List Den) (k : Nat) (h : k < ps.length) : (dens ps)[k * 3]? = some (.int .i64 ps[k].dir) := flatMap_at _ 3 Den.cells_len ps k 0 h (by omega)
theorem dens_at1 (ps : List Den) (k : Nat) (h : k < ps.length) : (dens ps)[k * 3 + 1]? = some (.string ps[k].name) := flatMap_at _ 3 Den.cells_len ps k 1 h (by omega)
theorem dens_at2 (ps : List Den) (k : Nat) (h : k < ps.length) : (dens ps)[k * 3 + 2]? = some (.int .i64 ps[k].child) := flatMap_at _ 3 Den.cells_len ps k 2 h (by omega)
def RdD (w : World) (v : Value) (ps : List Den) : Prop := Rd w 3 v ps.length (dens ps)
theorem RdD.shape {w : World} {v : Value} {ps : List Den} (h : RdD w v ps) : ∃ ao cap, v = .slice ao ps.length cap ∧ ps.length ≤ cap ∧ (0 < ps.length → ∃ b o, ao = some ⟨b, o, none⟩ ∧ b < w.heap.size ∧
    ∀ k (h : k < ps.length), w.cell? ⟨b, o + k * 3, none⟩ = some (.int .i64 ps[k].dir) ∧ w.cell? ⟨b, o + k * 3 + 1, none⟩ = some (.string ps[k].name) ∧ w.cell? ⟨b, o + k * 3 + 2, none⟩ = some (.int .i64 ps[k].child)) := by
  obtain ⟨_, ao, cap, rfl, h2, h3⟩ := h
  refine ⟨ao, cap, rfl, h2.1, fun hn => ?_⟩
  obtain ⟨b, o, rfl, hb, hc⟩ := h3 hn
  exact ⟨b, o, rfl, hb, fun k hk => ⟨(hc (k * 3) (by omega)).trans (dens_at0 ps k hk), (hc (k * 3 + 1) (by omega)).trans (dens_at1 ps k hk), (hc (k * 3 + 2) (by omega)).trans (dens_at2 ps k hk)⟩⟩
theorem infoDen : (Tryz.prog.info? 147).map (fun i => (i.zero, i.size, i.bytes)) = some (some (.agg #[.int .i64 0, .string ⟨#[]⟩, .int .i64 0]), 3, 32) := by kernel_rfl
end Go.Proofs.YtgnfbiohjdepcaaGreatDoor
