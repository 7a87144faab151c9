/- Several texts laid together: ImK, PiG, PiH, TrA. -/
import Derived.Test.YtmeiionabonhnaaGreatDoorZAD
import Derived.Test.YtmeiionabonhnaaGreatDoorZAE
import Derived.Test.YtmeiionabonhnaaGreatDoorZAF
namespace Go.Proofs.YtmeiionabonhnaaGreatDoor
open Go.RowKit
def hasB (zs : List Int) (n : Int) : Bool := zs.contains n
theorem has_not {zs : List Int} {n : Int} (h : ∀ j (h : j < zs.length), ¬ zs[j] = n) : hasB zs n = false := by
  unfold hasB
  rw [List.contains_eq_any_beq, List.any_eq_false]
  intro z hz
  obtain ⟨j, hj, rfl⟩ := List.getElem_of_mem hz
  simp only [beq_iff_eq]
  exact fun e => h j hj e.symm
set_option maxRecDepth 100000 in
set_option maxHeartbeats 2000000 in
theorem l05Has_any (v : Value) (zs : List Int) (n : Int) (w : World) (h : RdI w v zs) (hn : zs.length ≤ 1048576) :
    Calls Tryz.prog 188 #[v, .int .i64 n] w fun e w' => e = .returned (.bool (hasB zs n)) ∧ w' = w := by
  obtain ⟨aZ, cZ, rfl, _, hcZ⟩ := h.shape
  have HZ := hideIt hcZ
  clear h hcZ
  go_enter Tryz.func188, Tryz.ntmps188
  go_wp2
  go_loop [5] (fun i => ∃ k : Nat, k ≤ zs.length ∧ i = .int .i64 k ∧ Hid (∀ j (h : j < zs.length), j < k → ¬ zs[j] = n)) (fun i => zs.length - (intOf i).toNat)
  case atStart => exact ⟨0, by omega, rfl, fun j h a => absurd a (by omega)⟩
  case round =>
    obtain ⟨k, hk, rfl, H⟩ := hrel
    by_cases hlt : k < zs.length
    · obtain ⟨b, o, rfl, hbl, hcell⟩ := HZ.out (by omega)
      have d0 := hcell k hlt
      have k0 : (0 : Int) ≤ (k : Int) := by omega
      have k1 : (k : Int) < (zs.length : Int) := by omega
      have HY := hideIt (fun e : zs[k] = n => show hasB zs n = true by unfold hasB; rw [← e]; exact List.contains_iff_mem.2 (List.getElem_mem hlt))
      have HX := hideIt (fun (e : ¬ zs[k] = n) j (h : j < zs.length) (a : j < k + 1) => show ¬ zs[j] = n by
        by_cases q : j = k
        · subst q; exact e
        · exact H.out j h (by omega))
      clear hcell
      generalize zs[k] = z at *
      by_cases q : z = n
      · have q1 : (z == n) = true := beq_iff_eq.2 q
        have E := hideIt (HY.out q)
        clear q HX HY
        go_wp2
        go_ret
        exact ⟨ret_bool E.out.symm, rfl⟩
      · have q1 : (z == n) = false := beq_eq_false_iff_ne.2 q
        have E := hideIt (HX.out q)
        clear q HX HY
        go_wp2
        go_round
        case rel => exact ⟨k + 1, by omega, by go_num, E⟩
        case measure => simp [intOf]; omega
    · obtain rfl : k = zs.length := by omega
      have E := hideIt (has_not (fun j h => H.out j h h))
      go_wp2
      go_ret
      exact ⟨ret_bool E.out.symm, rfl⟩
theorem l01Bit_any (b : Bool) (w : World) : Calls Tryz.prog 185 #[.bool b] w fun e w' => e = .returned (.int .i64 (if b = true then 1 else 0)) ∧ w' = w := by
  cases b
  all_goals
    go_enter Tryz.func185, Tryz.ntmps185
    go_wp2
    go_ret
    exact ⟨rfl, rfl⟩
def upD (ds : List Den) (c : Int) : Int := ((ds.find? fun x => x.child == c).map Den.dir).getD (-1)
theorem upD_no {ds : List Den} {c : Int} (h : ∀ j (h : j < ds.length), ¬ ds[j].child = c) : upD ds c = -1 := by
  unfold upD
  rw [List.find?_eq_none.2]
  · rfl
  · intro x hx
    obtain ⟨j, hj, rfl⟩ := List.getElem_of_mem hx
    simp only [beq_iff_eq]
    exact h j hj
theorem upD_yes {ds : List Den} {c : Int} {k : Nat} (hk : k < ds.length) (h : ∀ j (h : j < ds.length), j < k → ¬ ds[j].child = c) (e : ds[k].child = c) : upD ds c = ds[k].dir := by
  unfold upD
  have : ds.find? (fun x => x.child == c) = some ds[k] := List.find?_eq_some_iff_getElem.2 ⟨beq_iff_eq.2 e, k, hk, rfl, fun j hj => by
    have := h j (by omega) hj
    simp [this]⟩
  rw [this]
  rfl
set_option maxRecDepth 100000 in
set_option maxHeartbeats 2000000 in
theorem l05Up_any (v : Value) (ws : List Ino) (ps : List Den) (c : Int) (w : World) (h : RdIm w v ws ps) (hn : ps.length ≤ 1048576) :
    Calls Tryz.prog 240 #[v, .int .i64 c] w fun e w' => e = .returned (.int .i64 (upD ps c)) ∧ Below w.heap.size w w' := by
  obtain ⟨vW, vP, rfl, h1, h2⟩ := h
  obtain ⟨aW, cW, rfl, _⟩ := h1.shape
  obtain ⟨aP, cP, rfl, _, hcP⟩ := h2.shape
  have HZ := hideIt hcP
  clear h1 h2 hcP
  obtain ⟨W, hW⟩ : ∃ W, W = w.alloc (.cells #[.slice aW ws.length cW, .slice aP ps.length cP] 98) := ⟨_, rfl⟩
  have CA : Hid (∀ w', Below W.heap.size W w' → w'.cell? ⟨w.heap.size, 1, none⟩ = some (.slice aP ps.length cP)) := fun w' hb => by
    have : w'.heap[w.heap.size]? = some (.cells #[.slice aW ws.length cW, .slice aP ps.length cP] 98 (0, 0)) := (hb.block _ (by rw [hW]; simp)).trans (by rw [hW]; exact at_new rfl)
    exact (two_cells this).2.1
  have BW : Hid (Below w.heap.size w W) := by rw [hW]; exact (Below.refl _ _).alloc (Nat.le_refl _) _
  have hz : w.heap.size ≤ W.heap.size := BW.out.size
  go_enter Tryz.func240, Tryz.ntmps240
  go_wp2
  rw [← hW]
  clear hW
  go_loopw [5] (fun i wr => ∃ k : Nat, k ≤ ps.length ∧ i = .int .i64 k ∧ Hid (Below W.heap.size W wr ∧ ∀ j (h : j < ps.length), j < k → ¬ ps[j].child = c)) (fun i _ => ps.length - (intOf i).toNat)
  case atStart => exact ⟨0, by omega, rfl, Below.refl _ _, fun j h a => absurd a (by omega)⟩
  case round =>
    obtain ⟨k, hk, rfl, J⟩ := hrel
    have x1 := CA.out wr J.out.1
    by_cases hlt : k < ps.length
    · obtain ⟨b, o, rfl, hbl, hcell⟩ := HZ.out (by omega)
      have BR := below_trans BW.out J.out.1 hz
      obtain ⟨c0, c1, c2⟩ := hcell k hlt
      have d0 := (BR.cell (p := ⟨b, o + k * 3, none⟩) hbl).trans c0
      have d2 := (BR.cell (p := ⟨b, o + k * 3 + 2, none⟩) hbl).trans c2
      have B := hideIt BR
      have k0 : (0 : Int) ≤ (k : Int) := by omega
      have k1 : (k : Int) < (ps.length : Int) := by omega
      have HY := hideIt (fun e : ps[k].child = c => upD_yes hlt J.out.2 e)
      have HX := hideIt (fun (e : ¬ ps[k].child = c) j (h : j < ps.length) (a : j < k + 1) => show ¬ ps[j].child = c by
        by_cases q : j = k
        · subst q; exact e
        · exact J.out.2 j h (by omega))
      clear hcell c0 c1 c2 BR
      generalize ps[k].child = z at *
      generalize ps[k].dir = y at *
      by_cases q : z = c
      · have q1 : (z == c) = true := beq_iff_eq.2 q
        have E := hideIt (HY.out q)
        clear q HX HY
        go_wp2
        go_ret
        exact ⟨ret_int E.out.symm, B.out⟩
      · have q1 : (z == c) = false := beq_eq_false_iff_ne.2 q
        have E : Hid (Below W.heap.size W wr ∧ ∀ j (h : j < ps.length), j < k + 1 → ¬ ps[j].child = c) := ⟨J.out.1, HX.out q⟩
        clear q HX HY
        go_wp2
        go_roundw
        case rel => exact ⟨k + 1, by omega, by go_num, E⟩
        case measure => simp [intOf]; omega
    · obtain rfl : k = ps.length := by omega
      have E := hideIt (upD_no (fun j h => J.out.2 j h h))
      go_wp2
      go_ret
      exact ⟨ret_int E.out.symm, below_trans BW.out J.out.1 hz⟩
def hangs (ds : List Den) : Nat → Int → Bool
  | 0, _ => false
  | n + 1, d => if d = 0 then true else if upD ds d < 0 then false else hangs ds n (upD ds d)
set_option maxRecDepth 100000 in
set_option maxHeartbeats 2000000 in
theorem l05Hangs_any (v : Value) (ws : List Ino) (ps : List Den) (c : Int) (w : World) (h : RdIm w v ws ps) (hn : ps.length ≤ 1048576) :
    Calls Tryz.prog 186 #[v, .int .i64 c] w fun e w' => e = .returned (.bool (hangs ps 16 c)) ∧ Below w.heap.size w w' := by
  have HR := hideIt h
  obtain ⟨vW, vP, rfl, h1, h2⟩ := h
  obtain ⟨aW, cW, rfl, _⟩ := h1.shape
  obtain ⟨aP, cP, rfl, _, hcP⟩ := h2.shape
  clear h1 h2 hcP
  obtain ⟨W, hW⟩ : ∃ W, W = w.alloc (.cells #[.slice aW ws.length cW, .slice aP ps.length cP] 98) := ⟨_, rfl⟩
  have CA : Hid (∀ w', Below W.heap.size W w' → w'.cell? ⟨w.heap.size, 0, none⟩ = some (.slice aW ws.length cW) ∧ w'.cell? ⟨w.heap.size, 1, none⟩ = some (.slice aP ps.length cP)) := fun w' hb => by
    have : w'.heap[w.heap.size]? = some (.cells #[.slice aW ws.length cW, .slice aP ps.length cP] 98 (0, 0)) := (hb.block _ (by rw [hW]; simp)).trans (by rw [hW]; exact at_new rfl)
    exact ⟨(two_cells this).1, (two_cells this).2.1⟩
  have BW : Hid (Below w.heap.size w W) := by rw [hW]; exact (Below.refl _ _).alloc (Nat.le_refl _) _
  have hz : w.heap.size ≤ W.heap.size := BW.out.size
  have LU := hideIt (fun d w1 h => l05Up_any (.agg #[.slice aW ws.length cW, .slice aP ps.length cP]) ws ps d w1 h hn)
  go_enter Tryz.func186, Tryz.ntmps186
  go_wp2
  rw [← hW]
  clear hW
  go_loopw [1, 5] (fun d i wr => ∃ (k : Nat) (z : Int), k ≤ 16 ∧ i = .int .i64 k ∧ d = .int .i64 z ∧ Hid (Below W.heap.size W wr ∧ hangs ps 16 c = hangs ps (16 - k) z)) (fun _ i _ => 16 - (intOf i).toNat)
  case atStart => exact ⟨0, c, by omega, rfl, rfl, Below.refl _ _, rfl⟩
  case round =>
    obtain ⟨k, z, hk, rfl, rfl, J⟩ := hrel
    obtain ⟨x0, x1⟩ := CA.out wr J.out.1
    by_cases hlt : k < 16
    · have ES := hideIt (show hangs ps (16 - k) z = if z = 0 then true else if upD ps z < 0 then false else hangs ps (16 - (k + 1)) (upD ps z) by
        rw [show 16 - k = (16 - (k + 1)) + 1 by omega]; rfl)
      have B := hideIt (below_trans BW.out J.out.1 hz)
      by_cases q : z = 0
      · subst q
        have E := hideIt (show hangs ps 16 c = true by rw [J.out.2, ES.out, if_pos rfl])
        go_wp2
        go_ret
        exact ⟨ret_bool E.out.symm, B.out⟩
      · have q1 : (z == 0) = false := beq_eq_false_iff_ne.2 q
        have R := hideIt (HR.out.below B.out)
        by_cases r : upD ps z < 0
        · have E := hideIt (show hangs ps 16 c = false by rw [J.out.2, ES.out, if_neg q, if_pos r])
          go_wp2_with fail
          refine (LU.out _ _ R.out).mono ?_
          rintro e w1 ⟨rfl, hb1⟩
          have B1 := hideIt (below_trans B.out hb1 B.out.size)
          clear hb1
          go_wp2
          go_ret
          exact ⟨ret_bool E.out.symm, B1.out⟩
        · have E := hideIt (show hangs ps 16 c = hangs ps (16 - (k + 1)) (upD ps z) by rw [J.out.2, ES.out, if_neg q, if_neg r])
          go_wp2_with fail
          refine (LU.out _ _ R.out).mono ?_
          rintro e w1 ⟨rfl, hb1⟩
          have B1 := hideIt (below_trans J.out.1 hb1 J.out.1.size)
          clear hb1
          go_wp2
          go_roundw
          case rel => exact ⟨k + 1, _, by omega, by go_num, rfl, B1.out, E.out⟩
          case measure => simp [intOf]; omega
    · obtain rfl : k = 16 := by omega
      have E := hideIt (show hangs ps 16 c = false by rw [J.out.2]; rfl)
      go_wp2
      go_ret
      exact ⟨ret_bool E.out.symm, below_trans BW.out J.out.1 hz⟩
end Go.Proofs.YtmeiionabonhnaaGreatDoor

namespace Go.Proofs.YtmeiionabonhnaaGreatDoor
open Go.RowKit
theorem has_at {zs : List Int} {n : Int} {k : Nat} (hk : k < zs.length) (h : n = zs[k]) : hasB zs n = true := by
  unfold hasB
  rw [List.contains_eq_any_beq, List.any_eq_true]
  exact ⟨zs[k], List.getElem_mem _, by rw [h]; simp⟩
set_option maxHeartbeats 2000000 in
theorem indexInt_any (v : Value) (zs : List Int) (n : Int) (w : World) (h : RdI w v zs) (hn : zs.length ≤ 1048576) :
    Calls Tryz.prog 239 #[v, .int .i64 n] w fun e w' => ∃ r : Int, e = .returned (.int .i64 r) ∧ (decide (0 ≤ r) = hasB zs n) ∧ w' = w := by
  obtain ⟨aZ, cZ, rfl, _, hcZ⟩ := h.shape
  have HZ := hideIt hcZ
  clear h hcZ
  go_enter Tryz.func239, Tryz.ntmps239
  go_wp2
  go_loop [5, 8] (fun _ i => ∃ k : Nat, k ≤ zs.length ∧ i = .int .i64 k ∧ Hid (∀ j (h : j < zs.length), j < k → ¬ zs[j] = n)) (fun _ i => zs.length - (intOf i).toNat)
  case atStart => exact ⟨0, by omega, rfl, fun j h a => absurd a (by omega)⟩
  case round =>
    obtain ⟨k, hk, rfl, H⟩ := hrel
    by_cases hlt : k < zs.length
    · obtain ⟨b, o, rfl, hbl, hcell⟩ := HZ.out (by omega)
      have hck := hcell k hlt
      clear hcell
      by_cases q : n = zs[k]
      · have q' : (n == zs[k]) = true := by rw [beq_iff_eq]; exact q
        have E := hideIt (has_at hlt q)
        clear q H
        generalize zs[k] = z at *
        go_wp2
        go_ret
        exact ⟨_, rfl, by rw [E.out]; exact decide_eq_true (by omega), rfl⟩
      · have q' : (n == zs[k]) = false := by rw [beq_eq_false_iff_ne]; exact q
        have H' : Hid (∀ j (h : j < zs.length), j < k + 1 → ¬ zs[j] = n) := fun j h a => by
          by_cases e : j = k
          · subst e; exact fun e => q e.symm
          · exact H.out j h (by omega)
        clear q H
        generalize zs[k] = z at hck q'
        go_wp2
        go_round
        case rel => exact ⟨k + 1, by omega, by go_num, H'⟩
        case measure => simp [intOf]; omega
    · have E := hideIt (has_not (fun j h => H.out j h (by omega)))
      clear H
      go_wp2
      go_ret
      exact ⟨_, rfl, by rw [E.out]; rfl, rfl⟩
theorem containsInt_any (v : Value) (zs : List Int) (n : Int) (w : World) (h : RdI w v zs) (hn : zs.length ≤ 1048576) :
    Calls Tryz.prog 183 #[v, .int .i64 n] w fun e w' => e = .returned (.bool (hasB zs n)) ∧ w' = w := by
  have HZ := hideIt h
  obtain ⟨aZ, cZ, rfl, _, _⟩ := h.shape
  clear h
  go_enter Tryz.func183, Tryz.ntmps183
  go_wp2_with fail
  refine (indexInt_any _ zs n _ HZ.out hn).mono ?_
  rintro e w' ⟨r, rfl, hr, hw'⟩
  subst w'
  have R := hideIt hr
  clear hr
  go_wp2
  go_ret
  exact ⟨ret_bool R.out, rfl⟩
theorem Rd.take {w : World} {size : Nat} {ao : Option Addr} {n c : Nat} {xs : List Value} {m : Nat} (h : Rd w size (.slice ao n c) n xs) (hm : m ≤ n) : Rd w size (.slice ao m c) m (xs.take (m * size)) := by
  obtain ⟨h1, ao', cap, e, h2, h3⟩ := h
  cases e
  have hms : m * size ≤ n * size := Nat.mul_le_mul_right _ hm
  refine ⟨by rw [List.length_take, h1]; omega, ao, c, rfl, ⟨by omega, h2.2⟩, fun hp => ?_⟩
  obtain ⟨b, o, e1, e2, e3⟩ := h3 (by omega)
  exact ⟨b, o, e1, e2, fun j hj => by rw [e3 j (by omega), List.getElem?_take, if_pos hj]⟩
theorem RdI.take {w : World} {ao : Option Addr} {c : Nat} {zs : List Int} {m : Nat} (h : RdI w (.slice ao zs.length c) zs) (hm : m ≤ zs.length) : RdI w (.slice ao m c) (zs.take m) := by
  have := Rd.take h hm
  unfold RdI
  have e : (zs.take m).length = m := by rw [List.length_take]; omega
  have e2 : ints (zs.take m) = (ints zs).take (m * 1) := by rw [Nat.mul_one]; simp [ints, List.map_take]
  rw [e, e2]
  exact this
def onceB (zs : List Int) : Bool := decide (∀ k (h : k < zs.length), hasB (zs.take k) zs[k] = false)
theorem onceB_mk {zs : List Int} (h : ∀ k (h : k < zs.length), hasB (zs.take k) zs[k] = false) : onceB zs = true := decide_eq_true h
theorem onceB_not {zs : List Int} {k : Nat} (hk : k < zs.length) (h : hasB (zs.take k) zs[k] = true) : onceB zs = false := decide_eq_false (fun x => by have := x k hk; rw [h] at this; cases this)
set_option maxHeartbeats 2000000 in
theorem noneTwiceInt_any (v : Value) (zs : List Int) (w : World) (h : RdI w v zs) (hn : zs.length ≤ 1048576) :
    Calls Tryz.prog 121 #[v] w fun e w' => e = .returned (.bool (onceB zs)) ∧ w' = w := by
  have HR := hideIt h
  obtain ⟨aZ, cZ, rfl, hcap, hcZ⟩ := h.shape
  have HZ := hideIt hcZ
  clear h hcZ
  go_enter Tryz.func121, Tryz.ntmps121
  go_wp2
  go_loop [3, 4, 7] (fun _ _ i => ∃ k : Nat, k ≤ zs.length ∧ i = .int .i64 k ∧ Hid (∀ j (h : j < zs.length), j < k → hasB (zs.take j) zs[j] = false)) (fun _ _ i => zs.length - (intOf i).toNat)
  case atStart => exact ⟨0, by omega, rfl, fun j h a => absurd a (by omega)⟩
  case round =>
    obtain ⟨k, hk, rfl, H⟩ := hrel
    by_cases hlt : k < zs.length
    · obtain ⟨b, o, rfl, hbl, hcell⟩ := HZ.out (by omega)
      have hck := hcell k hlt
      have RT := hideIt (RdI.take HR.out hk)
      have LT := hideIt (show (zs.take k).length ≤ 1048576 by rw [List.length_take]; omega)
      clear hcell
      cases q : hasB (zs.take k) zs[k] with
      | false =>
        have H' : Hid (∀ j (h : j < zs.length), j < k + 1 → hasB (zs.take j) zs[j] = false) := fun j h a => by
          by_cases e : j = k
          · subst e; exact q
          · exact H.out j h (by omega)
        have Q := hideIt q
        clear q H
        generalize zs[k] = z at hck Q
        go_wp2_with (go_at_call 183; refine (containsInt_any _ (zs.take k) z _ RT.out LT.out).mono ?_; rw [Q.out]; rintro e w' ⟨rfl, rfl⟩)
        go_round
        case rel => exact ⟨k + 1, by omega, by go_num, H'⟩
        case measure => simp [intOf]; omega
      | true =>
        have E := hideIt (onceB_not hlt q)
        have Q := hideIt q
        clear q H
        generalize zs[k] = z at hck Q
        go_wp2_with (go_at_call 183; refine (containsInt_any _ (zs.take k) z _ RT.out LT.out).mono ?_; rw [Q.out]; rintro e w' ⟨rfl, rfl⟩)
        go_ret
        exact ⟨ret_bool E.out.symm, rfl⟩
    · have E := hideIt (onceB_mk (fun j h => H.out j h (by omega)))
      clear H
      go_wp2
      go_ret
      exact ⟨ret_bool E.out.symm, rfl⟩
end Go.Proofs.YtmeiionabonhnaaGreatDoor

namespace Go.Proofs.YtmeiionabonhnaaGreatDoor
open Go.RowKit
structure InI (W w : World) (vL : Value) (zs : List Int) : Prop where
  l : w.ownsRow W.heap.size 3 1 vL zs.length (ints zs)
  b : Below W.heap.size W w
theorem InI.z {W w : World} {vL : Value} {zs : List Int} (h : InI W w vL zs) : W.heap.size ≤ w.heap.size := h.b.size
theorem InI.below {W w w' : World} {vL : Value} {zs : List Int} (h : InI W w vL zs) (hb : Below w.heap.size w w') : InI W w' vL zs :=
  ⟨((own_block h.l).below hb (Nat.le_refl _)).1, below_trans h.b hb h.z⟩
theorem InI.grow {W w w' : World} {vL v' : Value} {zs : List Int} (h : InI W w vL zs) (x : Int) (ho : w'.ownsRow W.heap.size 3 1 v' (zs.length + 1) (ints zs ++ [.int .i64 x])) (hg : w.grownBy w' vL.ownBlock) : InI W w' v' (zs ++ [x]) :=
  ⟨by rw [ints_snoc, List.length_append]; exact ho, h.b.grown hg h.z (fun q hq => (h.l.lt q hq).1)⟩
theorem one_int (x : Int) : ∀ u ∈ [Value.int .i64 x], u.oneCell' = true := by
  intro u hu
  rw [List.mem_singleton.1 hu]
  rfl
def somes (zs : List Int) : List Int := zs.filter fun z => z != 0
def mapped (ws : List Ino) : List Int := ws.flatMap fun x => somes x.map
def mapd (ws : List Ino) (k : Nat) (j : Nat) : List Int := mapped (ws.take k) ++ somes (((ws[k]?).map Ino.map).getD [] |>.take j)
theorem mapd_zero (ws : List Ino) (k : Nat) : mapd ws k 0 = mapped (ws.take k) := by simp [mapd, somes]
theorem mapd_succ {ws : List Ino} {k : Nat} (hk : k < ws.length) {j : Nat} (hj : j < 8) : mapd ws k (j + 1) = if ws[k].map.getD j 0 = 0 then mapd ws k j else mapd ws k j ++ [ws[k].map.getD j 0] := by
  have hl : j < ws[k].map.length := hj
  have e : ws[k].map.getD j 0 = ws[k].map[j] := by rw [List.getD_eq_getElem?_getD, List.getElem?_eq_getElem hl]; rfl
  unfold mapd somes
  rw [List.getElem?_eq_getElem hk]
  simp only [Option.map_some, Option.getD_some]
  rw [List.take_succ_eq_append_getElem hl, List.filter_append, e]
  by_cases h : ws[k].map[j] = 0
  · rw [if_pos h, h]; simp
  · rw [if_neg h]; simp [h]
theorem mapd_full {ws : List Ino} {k : Nat} (hk : k < ws.length) : mapd ws k 8 = mapped (ws.take (k + 1)) := by
  unfold mapd mapped
  rw [List.getElem?_eq_getElem hk, List.take_succ_eq_append_getElem hk, List.flatMap_append]
  simp [Ino.map]
theorem somes_len (zs : List Int) : (somes zs).length ≤ zs.length := List.length_filter_le _ _
theorem mapped_len (ws : List Ino) : (mapped ws).length ≤ 8 * ws.length := by
  induction ws with
  | nil => simp [mapped]
  | cons x ws ih =>
    have h1 := somes_len x.map
    have h2 : x.map.length = 8 := rfl
    unfold mapped at *
    rw [List.flatMap_cons, List.length_append, List.length_cons]
    omega
theorem mapd_len (ws : List Ino) (k j : Nat) (hk : k < ws.length) (hj : j ≤ 8) : (mapd ws k j).length ≤ 8 * ws.length := by
  have h1 := mapped_len (ws.take k)
  have h2 := somes_len (((ws[k]?).map Ino.map).getD [] |>.take j)
  have h3 : (((ws[k]?).map Ino.map).getD [] |>.take j).length ≤ j := by rw [List.length_take]; omega
  unfold mapd
  rw [List.length_append]
  rw [List.length_take] at h1
  omega
set_option maxRecDepth 100000 in
theorem idx8 (x : Ino) (j : Nat) (hj : j < 8) (w : World) : (Instr.index 148 (.agg #[.int .i64 x.m0, .int .i64 x.m1, .int .i64 x.m2, .int .i64 x.m3, .int .i64 x.m4, .int .i64 x.m5, .int .i64 x.m6, .int .i64 x.m7]) (.int .i64 (j : Int))).run Tryz.prog w = .ok (.int .i64 (x.map.getD j 0)) w := by
  rcases (show j = 0 ∨ j = 1 ∨ j = 2 ∨ j = 3 ∨ j = 4 ∨ j = 5 ∨ j = 6 ∨ j = 7 by omega) with rfl | rfl | rfl | rfl | rfl | rfl | rfl | rfl <;> simp [Instr.index, run_underlying Tryz.underlying148, asIntOf, Ino.map, go_sem]
set_option maxRecDepth 100000 in
set_option maxHeartbeats 4000000 in
theorem mappedEntries_any (v : Value) (ws : List Ino) (w : World) (h : RdN w v ws) (hn : ws.length ≤ 4096) :
    Calls Tryz.prog 122 #[v] w fun e w' => ∃ v', e = .returned v' ∧ Row w' 3 1 w.heap.size w'.heap.size v' (mapped ws).length (ints (mapped ws)) ∧ Below w.heap.size w w' := by
  obtain ⟨aW, cW, rfl, _, hcW⟩ := h.shape
  have HW := hideIt hcW
  clear h hcW
  go_enter Tryz.func122, Tryz.ntmps122
  go_wp2
  go_loopw [3, 5, 7, 10] (fun vL _ _ i wr => ∃ k : Nat, k ≤ ws.length ∧ i = .int .i64 k ∧ Hid (InI w wr vL (mapped (ws.take k))) ∧ w.heap.size ≤ wr.heap.size) (fun _ _ _ i _ => ws.length - (intOf i).toNat)
  case atStart => exact ⟨0, by omega, rfl, ⟨World.ownsRow_nil _ _ _ _, Below.refl _ _⟩, Nat.le_refl _⟩
  case round =>
    obtain ⟨k, hk, rfl, I, hz⟩ := hrel
    by_cases hlt : k < ws.length
    · obtain ⟨b, o, rfl, hbl, hcell⟩ := HW.out (by omega)
      obtain ⟨a0, a1, a2, a3, a4, a5, a6, a7, a8, a9, a10⟩ := hcell k hlt
      have d0 := (I.out.b.cell (p := ⟨b, o + k * 11, none⟩) hbl).trans a0
      have d1 := (I.out.b.cell (p := ⟨b, o + k * 11 + 1, none⟩) hbl).trans a1
      have d2 := (I.out.b.cell (p := ⟨b, o + k * 11 + 2, none⟩) hbl).trans a2
      have d3 := (I.out.b.cell (p := ⟨b, o + k * 11 + 3, none⟩) hbl).trans a3
      have d4 := (I.out.b.cell (p := ⟨b, o + k * 11 + 4, none⟩) hbl).trans a4
      have d5 := (I.out.b.cell (p := ⟨b, o + k * 11 + 5, none⟩) hbl).trans a5
      have d6 := (I.out.b.cell (p := ⟨b, o + k * 11 + 6, none⟩) hbl).trans a6
      have d7 := (I.out.b.cell (p := ⟨b, o + k * 11 + 7, none⟩) hbl).trans a7
      have d8 := (I.out.b.cell (p := ⟨b, o + k * 11 + 8, none⟩) hbl).trans a8
      have d9 := (I.out.b.cell (p := ⟨b, o + k * 11 + 9, none⟩) hbl).trans a9
      have d10 := (I.out.b.cell (p := ⟨b, o + k * 11 + 10, none⟩) hbl).trans a10
      have k0 : (0 : Int) ≤ (k : Int) := by omega
      have k1 : (k : Int) < (ws.length : Int) := by omega
      have MZ := hideIt (mapd_zero ws k)
      have MF := hideIt (mapd_full hlt)
      have MS := hideIt (fun j (hj : j < 8) => mapd_succ hlt hj)
      have ML := hideIt (fun j (hj : j ≤ 8) => mapd_len ws k j hlt hj)
      have HM := hideIt (fun j (hj : j < 8) => ws[k].at j hj)
      clear a0 a1 a2 a3 a4 a5 a6 a7 a8 a9 a10 hcell
      generalize ws[k] = x at *
      have START : Hid (InI w (wr.alloc (.cells x.cs.toArray 150)) u3 (mapd ws k 0)) := by
        have := I.out.below ((Below.refl wr.heap.size wr).alloc (Nat.le_refl _) (.cells x.cs.toArray 150))
        unfold Hid
        rw [MZ.out]
        exact this
      unfold Ino.cs at START
      have hz0 := START.out.z
      clear I
      go_wp2
      go_loopw [3, 7, 16] (fun vL _ i wq => ∃ j : Nat, j ≤ 8 ∧ i = .int .i64 j ∧ Hid (InI w wq vL (mapd ws k j)) ∧ w.heap.size ≤ wq.heap.size) (fun _ _ i _ => 8 - (intOf i).toNat)
      case atStart => exact ⟨0, by omega, rfl, START, hz0⟩
      case round =>
        obtain ⟨j, hj, rfl, J, hzj⟩ := hrel
        clear START hz0 d0 d1 d2 d3 d4 d5 d6 d7 d8 d9 d10
        have j0 : (0 : Int) ≤ (j : Int) := by omega
        by_cases hlj : j < 8
        · have j1 : (j : Int) < 8 := by omega
          have ix := idx8 x j hlj
          have MJ := hideIt (MS.out j hlj)
          have hlen := ML.out j (by omega)
          generalize x.map.getD j 0 = z at ix MJ
          by_cases q : z = 0
          · have q' : (z != 0) = false := by rw [q]; rfl
            have G : Hid (InI w wr u3 (mapd ws k (j + 1))) := by unfold Hid; rw [MJ.out, if_pos q]; exact J.out
            clear q J MJ
            go_wp2
            go_roundw
            case rel => exact ⟨j + 1, by omega, by go_num, G, hzj⟩
            case measure => simp [intOf]; omega
          · have q' : (z != 0) = true := by rw [bne_iff_ne]; exact q
            have JB : Hid (InI w (wr.alloc (.cells #[.int .i64 z] 3)) u3 (mapd ws k j)) := J.out.below ((Below.refl _ _).alloc (Nat.le_refl _) _)
            have RB := hideIt (rd_int wr z)
            have hzb := JB.out.z
            have MN : Hid (mapd ws k (j + 1) = mapd ws k j ++ [z]) := by unfold Hid; rw [MJ.out, if_neg q]
            clear q J MJ
            go_wp2_with (at_builtin; refine wpList_append_rd _ rfl (.tmp 21) (.tmp 23) 43 rfl w.heap.size 3 (.int .i64 0) 1 8 Tryz.underlying43 info3 rfl (by decide) _ _ _ rfl JB.out.l _ 1 _ rfl RB.out (one_int _) (by simp [maxLen]; omega) (by omega) (by omega) ?_)
            intro vN wN hownN hgrN
            have G := hideIt (JB.out.grow z hownN hgrN)
            rw [← MN.out] at G
            have hzN := G.out.z
            clear hownN hgrN JB RB
            go_wp2
            go_roundw
            case rel => exact ⟨j + 1, by omega, by go_num, G, hzN⟩
            case measure => simp [intOf]; omega
        · obtain rfl : j = 8 := by omega
          have G : Hid (InI w wr u3 (mapped (ws.take (k + 1)))) := by unfold Hid; rw [← MF.out]; exact J.out
          clear J
          go_wp2
          go_roundw
          case rel => exact ⟨k + 1, by omega, by go_num, G, hzj⟩
          case measure => simp [intOf]; omega
    · obtain rfl : k = ws.length := by omega
      have E := hideIt (show mapped (ws.take ws.length) = mapped ws by rw [List.take_length])
      rw [E.out] at I
      obtain ⟨-, aL, cL, hvL, -⟩ := (own_block I.out.l).rd
      subst hvL
      go_wp2
      go_ret
      exact ⟨_, rfl, own_block I.out.l, I.out.b⟩
end Go.Proofs.YtmeiionabonhnaaGreatDoor

namespace Go.Proofs.YtmeiionabonhnaaGreatDoor
open Go.RowKit
def heatB (hs : List Int) : Bool := decide (hs.length = 128 ∧ ∀ k (h : k < hs.length), 0 ≤ hs[k] ∧ hs[k] ≤ 64)
set_option maxRecDepth 100000 in
set_option maxHeartbeats 4000000 in
theorem specHeatOK_any (v : Value) (hs : List Int) (w : World) (h : RdI w v hs) (_hn : hs.length ≤ 1048576) : Calls Tryz.prog 142 #[v] w fun e w' => e = .returned (.bool (heatB hs)) ∧ w' = w := by
  have NO := hideIt (fun h => show heatB hs = false from decide_eq_false h)
  have YES := hideIt (fun h => show heatB hs = true from decide_eq_true h)
  obtain ⟨ao, cap, rfl, hcap, hc⟩ := h.shape
  by_cases c1 : (hs.length : Int) > 4096
  · rw [NO.out (fun q => by omega)]
    go_enter Tryz.func142, Tryz.ntmps142
    go_wp2
    go_ret
    exact ⟨rfl, rfl⟩
  by_cases c2 : hs.length = 128
  case neg =>
    rw [NO.out (fun q => c2 q.1)]
    have q : ((hs.length : Int) != 128) = true := by rw [bne_iff_ne]; omega
    go_enter Tryz.func142, Tryz.ntmps142
    go_wp2
    go_ret
    exact ⟨rfl, rfl⟩
  obtain ⟨b, o, rfl, hbl, hcell⟩ := hc (by omega)
  have HC := hideIt hcell
  have L128 := hideIt c2
  rw [show heatB hs = heatB hs from rfl]
  generalize hb : heatB hs = hB at *
  clear hb hcell c1
  rw [c2]
  clear c2 hcap
  go_enter Tryz.func142, Tryz.ntmps142
  go_wp2
  go_loopw [3] (fun i wr => ∃ m : Nat, m ≤ 128 ∧ i = .int .i64 (m : Int) ∧ wr = w ∧ Hid (∀ k (h : k < hs.length), k < m → 0 ≤ hs[k] ∧ hs[k] ≤ 64)) (fun i _ => 128 - (intOf i).toNat)
  case atStart => exact ⟨0, by omega, rfl, rfl, fun k _ hk => absurd hk (by omega)⟩
  case round =>
    obtain ⟨m, hm, rfl, rfl, J⟩ := hrel
    have m0 : (0 : Int) ≤ (m : Int) := by omega
    by_cases hlt : m < 128
    · have m1 : (m : Int) < 128 := by omega
      have hl : m < hs.length := by have := L128.out; omega
      have e0 := HC.out m hl
      by_cases q : 0 ≤ hs[m] ∧ hs[m] ≤ 64
      · have G : Hid (∀ k (h : k < hs.length), k < m + 1 → 0 ≤ hs[k] ∧ hs[k] ≤ 64) := fun k hk hkm => by
          rcases Nat.lt_succ_iff_lt_or_eq.1 hkm with r | rfl
          · exact J.out k hk r
          · exact q
        generalize hs[m] = z at *
        clear J
        go_wp2_with fail
        refine (l01In_yes _ _ _ _ q).mono ?_
        rintro e w' ⟨rfl, hw'⟩
        subst w'
        go_wp2
        go_roundw
        case rel => exact ⟨m + 1, by omega, by go_num, (by first | rfl | trivial), G⟩
        case measure => simp [intOf]; omega
      · have E := hideIt (NO.out (fun r => q (r.2 m hl)))
        generalize hs[m] = z at *
        obtain rfl := E.out
        go_wp2_with fail
        refine (l01In_no _ _ _ _ q).mono ?_
        rintro e w' ⟨rfl, hw'⟩
        subst w'
        go_wp2
        go_ret
        exact ⟨rfl, rfl⟩
    · obtain rfl : m = 128 := by omega
      have E := hideIt (YES.out ⟨L128.out, fun k hk => J.out k hk (by have := L128.out; omega)⟩)
      obtain rfl := E.out
      go_wp2
      go_ret
      exact ⟨rfl, rfl⟩
end Go.Proofs.YtmeiionabonhnaaGreatDoor
