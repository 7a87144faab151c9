/- Several texts laid together: ImK, ImL. -/
import Derived.Test.YtmeiionabonhnaaGreatDoorZAF
namespace Go.Proofs.YtmeiionabonhnaaGreatDoor
open Go.RowKit
def hasB (zs : List Int) (n : Int) : Bool := zs.contains n
theorem has_not {zs : List Int} {n : Int} (h : ∀ j (h : j < zs.length), ¬ zs[j] = n) : hasB zs n = false := by
  unfold hasB
  rw [List.contains_eq_any_beq, List.any_eq_false]
  intro z hz
  obtain ⟨j, hj, rfl⟩ := List.getElem_of_mem hz
  simp only [beq_iff_eq]
  exact fun e => h j hj e.symm
set_option maxRecDepth 100000 in
set_option maxHeartbeats 2000000 in
theorem l05Has_any (v : Value) (zs : List Int) (n : Int) (w : World) (h : RdI w v zs) (hn : zs.length ≤ 1048576) :
    Calls Tryz.prog 188 #[v, .int .i64 n] w fun e w' => e = .returned (.bool (hasB zs n)) ∧ w' = w := by
  obtain ⟨aZ, cZ, rfl, _, hcZ⟩ := h.shape
  have HZ := hideIt hcZ
  clear h hcZ
  go_enter Tryz.func188, Tryz.ntmps188
  go_wp2
  go_loop [5] (fun i => ∃ k : Nat, k ≤ zs.length ∧ i = .int .i64 k ∧ Hid (∀ j (h : j < zs.length), j < k → ¬ zs[j] = n)) (fun i => zs.length - (intOf i).toNat)
  case atStart => exact ⟨0, by omega, rfl, fun j h a => absurd a (by omega)⟩
  case round =>
    obtain ⟨k, hk, rfl, H⟩ := hrel
    by_cases hlt : k < zs.length
    · obtain ⟨b, o, rfl, hbl, hcell⟩ := HZ.out (by omega)
      have d0 := hcell k hlt
      have k0 : (0 : Int) ≤ (k : Int) := by omega
      have k1 : (k : Int) < (zs.length : Int) := by omega
      have HY := hideIt (fun e : zs[k] = n => show hasB zs n = true by unfold hasB; rw [← e]; exact List.contains_iff_mem.2 (List.getElem_mem hlt))
      have HX := hideIt (fun (e : ¬ zs[k] = n) j (h : j < zs.length) (a : j < k + 1) => show ¬ zs[j] = n by
        by_cases q : j = k
        · subst q; exact e
        · exact H.out j h (by omega))
      clear hcell
      generalize zs[k] = z at *
      by_cases q : z = n
      · have q1 : (z == n) = true := beq_iff_eq.2 q
        have E := hideIt (HY.out q)
        clear q HX HY
        go_wp2
        go_ret
        exact ⟨ret_bool E.out.symm, rfl⟩
      · have q1 : (z == n) = false := beq_eq_false_iff_ne.2 q
        have E := hideIt (HX.out q)
        clear q HX HY
        go_wp2
        go_round
        case rel => exact ⟨k + 1, by omega, by go_num, E⟩
        case measure => simp [intOf]; omega
    · obtain rfl : k = zs.length := by omega
      have E := hideIt (has_not (fun j h => H.out j h h))
      go_wp2
      go_ret
      exact ⟨ret_bool E.out.symm, rfl⟩
theorem l01Bit_any (b : Bool) (w : World) : Calls Tryz.prog 185 #[.bool b] w fun e w' => e = .returned (.int .i64 (if b = true then 1 else 0)) ∧ w' = w := by
  cases b
  all_goals
    go_enter Tryz.func185, Tryz.ntmps185
    go_wp2
    go_ret
    exact ⟨rfl, rfl⟩
def upD (ds : List Den) (c : Int) : Int := ((ds.find? fun x => x.child == c).map Den.dir).getD (-1)
theorem upD_no {ds : List Den} {c : Int} (h : ∀ j (h : j < ds.length), ¬ ds[j].child = c) : upD ds c = -1 := by
  unfold upD
  rw [List.find?_eq_none.2]
  · rfl
  · intro x hx
    obtain ⟨j, hj, rfl⟩ := List.getElem_of_mem hx
    simp only [beq_iff_eq]
    exact h j hj
theorem upD_yes {ds : List Den} {c : Int} {k : Nat} (hk : k < ds.length) (h : ∀ j (h : j < ds.length), j < k → ¬ ds[j].child = c) (e : ds[k].child = c) : upD ds c = ds[k].dir := by
  unfold upD
  have : ds.find? (fun x => x.child == c) = some ds[k] := List.find?_eq_some_iff_getElem.2 ⟨beq_iff_eq.2 e, k, hk, rfl, fun j hj => by
    have := h j (by omega) hj
    simp [this]⟩
  rw [this]
  rfl
set_option maxRecDepth 100000 in
set_option maxHeartbeats 2000000 in
theorem l05Up_any (v : Value) (ws : List Ino) (ps : List Den) (c : Int) (w : World) (h : RdIm w v ws ps) (hn : ps.length ≤ 1048576) :
    Calls Tryz.prog 240 #[v, .int .i64 c] w fun e w' => e = .returned (.int .i64 (upD ps c)) ∧ Below w.heap.size w w' := by
  obtain ⟨vW, vP, rfl, h1, h2⟩ := h
  obtain ⟨aW, cW, rfl, _⟩ := h1.shape
  obtain ⟨aP, cP, rfl, _, hcP⟩ := h2.shape
  have HZ := hideIt hcP
  clear h1 h2 hcP
  obtain ⟨W, hW⟩ : ∃ W, W = w.alloc (.cells #[.slice aW ws.length cW, .slice aP ps.length cP] 98) := ⟨_, rfl⟩
  have CA : Hid (∀ w', Below W.heap.size W w' → w'.cell? ⟨w.heap.size, 1, none⟩ = some (.slice aP ps.length cP)) := fun w' hb => by
    have : w'.heap[w.heap.size]? = some (.cells #[.slice aW ws.length cW, .slice aP ps.length cP] 98 (0, 0)) := (hb.block _ (by rw [hW]; simp)).trans (by rw [hW]; exact at_new rfl)
    exact (two_cells this).2.1
  have BW : Hid (Below w.heap.size w W) := by rw [hW]; exact (Below.refl _ _).alloc (Nat.le_refl _) _
  have hz : w.heap.size ≤ W.heap.size := BW.out.size
  go_enter Tryz.func240, Tryz.ntmps240
  go_wp2
  rw [← hW]
  clear hW
  go_loopw [5] (fun i wr => ∃ k : Nat, k ≤ ps.length ∧ i = .int .i64 k ∧ Hid (Below W.heap.size W wr ∧ ∀ j (h : j < ps.length), j < k → ¬ ps[j].child = c)) (fun i _ => ps.length - (intOf i).toNat)
  case atStart => exact ⟨0, by omega, rfl, Below.refl _ _, fun j h a => absurd a (by omega)⟩
  case round =>
    obtain ⟨k, hk, rfl, J⟩ := hrel
    have x1 := CA.out wr J.out.1
    by_cases hlt : k < ps.length
    · obtain ⟨b, o, rfl, hbl, hcell⟩ := HZ.out (by omega)
      have BR := below_trans BW.out J.out.1 hz
      obtain ⟨c0, c1, c2⟩ := hcell k hlt
      have d0 := (BR.cell (p := ⟨b, o + k * 3, none⟩) hbl).trans c0
      have d2 := (BR.cell (p := ⟨b, o + k * 3 + 2, none⟩) hbl).trans c2
      have B := hideIt BR
      have k0 : (0 : Int) ≤ (k : Int) := by omega
      have k1 : (k : Int) < (ps.length : Int) := by omega
      have HY := hideIt (fun e : ps[k].child = c => upD_yes hlt J.out.2 e)
      have HX := hideIt (fun (e : ¬ ps[k].child = c) j (h : j < ps.length) (a : j < k + 1) => show ¬ ps[j].child = c by
        by_cases q : j = k
        · subst q; exact e
        · exact J.out.2 j h (by omega))
      clear hcell c0 c1 c2 BR
      generalize ps[k].child = z at *
      generalize ps[k].dir = y at *
      by_cases q : z = c
      · have q1 : (z == c) = true := beq_iff_eq.2 q
        have E := hideIt (HY.out q)
        clear q HX HY
        go_wp2
        go_ret
        exact ⟨ret_int E.out.symm, B.out⟩
      · have q1 : (z == c) = false := beq_eq_false_iff_ne.2 q
        have E : Hid (Below W.heap.size W wr ∧ ∀ j (h : j < ps.length), j < k + 1 → ¬ ps[j].child = c) := ⟨J.out.1, HX.out q⟩
        clear q HX HY
        go_wp2
        go_roundw
        case rel => exact ⟨k + 1, by omega, by go_num, E⟩
        case measure => simp [intOf]; omega
    · obtain rfl : k = ps.length := by omega
      have E := hideIt (upD_no (fun j h => J.out.2 j h h))
      go_wp2
      go_ret
      exact ⟨ret_int E.out.symm, below_trans BW.out J.out.1 hz⟩
def hangs (ds : List Den) : Nat → Int → Bool
  | 0, _ => false
  | n + 1, d => if d = 0 then true else if upD ds d < 0 then false else hangs ds n (upD ds d)
set_option maxRecDepth 100000 in
set_option maxHeartbeats 2000000 in
theorem l05Hangs_any (v : Value) (ws : List Ino) (ps : List Den) (c : Int) (w : World) (h : RdIm w v ws ps) (hn : ps.length ≤ 1048576) :
    Calls Tryz.prog 186 #[v, .int .i64 c] w fun e w' => e = .returned (.bool (hangs ps 16 c)) ∧ Below w.heap.size w w' := by
  have HR := hideIt h
  obtain ⟨vW, vP, rfl, h1, h2⟩ := h
  obtain ⟨aW, cW, rfl, _⟩ := h1.shape
  obtain ⟨aP, cP, rfl, _, hcP⟩ := h2.shape
  clear h1 h2 hcP
  obtain ⟨W, hW⟩ : ∃ W, W = w.alloc (.cells #[.slice aW ws.length cW, .slice aP ps.length cP] 98) := ⟨_, rfl⟩
  have CA : Hid (∀ w', Below W.heap.size W w' → w'.cell? ⟨w.heap.size, 0, none⟩ = some (.slice aW ws.length cW) ∧ w'.cell? ⟨w.heap.size, 1, none⟩ = some (.slice aP ps.length cP)) := fun w' hb => by
    have : w'.heap[w.heap.size]? = some (.cells #[.slice aW ws.length cW, .slice aP ps.length cP] 98 (0, 0)) := (hb.block _ (by rw [hW]; simp)).trans (by rw [hW]; exact at_new rfl)
    exact ⟨(two_cells this).1, (two_cells this).2.1⟩
  have BW : Hid (Below w.heap.size w W) := by rw [hW]; exact (Below.refl _ _).alloc (Nat.le_refl _) _
  have hz : w.heap.size ≤ W.heap.size := BW.out.size
  have LU := hideIt (fun d w1 h => l05Up_any (.agg #[.slice aW ws.length cW, .slice aP ps.length cP]) ws ps d w1 h hn)
  go_enter Tryz.func186, Tryz.ntmps186
  go_wp2
  rw [← hW]
  clear hW
  go_loopw [1, 5] (fun d i wr => ∃ (k : Nat) (z : Int), k ≤ 16 ∧ i = .int .i64 k ∧ d = .int .i64 z ∧ Hid (Below W.heap.size W wr ∧ hangs ps 16 c = hangs ps (16 - k) z)) (fun _ i _ => 16 - (intOf i).toNat)
  case atStart => exact ⟨0, c, by omega, rfl, rfl, Below.refl _ _, rfl⟩
  case round =>
    obtain ⟨k, z, hk, rfl, rfl, J⟩ := hrel
    obtain ⟨x0, x1⟩ := CA.out wr J.out.1
    by_cases hlt : k < 16
    · have ES := hideIt (show hangs ps (16 - k) z = if z = 0 then true else if upD ps z < 0 then false else hangs ps (16 - (k + 1)) (upD ps z) by
        rw [show 16 - k = (16 - (k + 1)) + 1 by omega]; rfl)
      have B := hideIt (below_trans BW.out J.out.1 hz)
      by_cases q : z = 0
      · subst q
        have E := hideIt (show hangs ps 16 c = true by rw [J.out.2, ES.out, if_pos rfl])
        go_wp2
        go_ret
        exact ⟨ret_bool E.out.symm, B.out⟩
      · have q1 : (z == 0) = false := beq_eq_false_iff_ne.2 q
        have R := hideIt (HR.out.below B.out)
        by_cases r : upD ps z < 0
        · have E := hideIt (show hangs ps 16 c = false by rw [J.out.2, ES.out, if_neg q, if_pos r])
          go_wp2_with fail
          refine (LU.out _ _ R.out).mono ?_
          rintro e w1 ⟨rfl, hb1⟩
          have B1 := hideIt (below_trans B.out hb1 B.out.size)
          clear hb1
          go_wp2
          go_ret
          exact ⟨ret_bool E.out.symm, B1.out⟩
        · have E := hideIt (show hangs ps 16 c = hangs ps (16 - (k + 1)) (upD ps z) by rw [J.out.2, ES.out, if_neg q, if_neg r])
          go_wp2_with fail
          refine (LU.out _ _ R.out).mono ?_
          rintro e w1 ⟨rfl, hb1⟩
          have B1 := hideIt (below_trans J.out.1 hb1 J.out.1.size)
          clear hb1
          go_wp2
          go_roundw
          case rel => exact ⟨k + 1, _, by omega, by go_num, rfl, B1.out, E.out⟩
          case measure => simp [intOf]; omega
    · obtain rfl : k = 16 := by omega
      have E := hideIt (show hangs ps 16 c = false by rw [J.out.2]; rfl)
      go_wp2
      go_ret
      exact ⟨ret_bool E.out.symm, below_trans BW.out J.out.1 hz⟩
end Go.Proofs.YtmeiionabonhnaaGreatDoor

namespace Go.Proofs.YtmeiionabonhnaaGreatDoor
open Go.RowKit
def cntD (ds : List Den) (c : Int) (k : Nat) : Nat := ((ds.take k).filter fun x => x.child == c).length
theorem cntD_zero (ds : List Den) (c : Int) : cntD ds c 0 = 0 := rfl
theorem cntD_succ {ds : List Den} {c : Int} {k : Nat} (h : k < ds.length) : cntD ds c (k + 1) = cntD ds c k + (if (ds[k].child == c) = true then 1 else 0) := by
  unfold cntD
  rw [List.take_succ_eq_append_getElem h, List.filter_append, List.length_append]
  congr 1
  cases q : ds[k].child == c <;> simp [List.filter, q]
theorem cntD_le (ds : List Den) (c : Int) (k : Nat) : cntD ds c k ≤ k := by
  unfold cntD
  exact Nat.le_trans (List.length_filter_le _ _) (by simp; omega)
def linkB (ps : List Den) (i : Nat) (x : Ino) : Bool := decide ((if i = 0 then 1 else 0) + (cntD ps i ps.length : Int) = x.links) && (decide (¬ x.kind = 2) || hangs ps 16 i)
def linksB (ws : List Ino) (ps : List Den) : Bool := decide (∀ i (h : i < ws.length), linkB ps i ws[i] = true)
theorem linksB_not {ws : List Ino} {ps : List Den} {i : Nat} (h : i < ws.length) (q : linkB ps i ws[i] = false) : linksB ws ps = false := decide_eq_false (fun e => by rw [e i h] at q; cases q)
theorem l01Bit_t (w : World) : Calls Tryz.prog 185 #[.bool true] w fun e w' => e = .returned (.int .i64 1) ∧ w' = w := l01Bit_any true w
theorem l01Bit_f (w : World) : Calls Tryz.prog 185 #[.bool false] w fun e w' => e = .returned (.int .i64 0) ∧ w' = w := l01Bit_any false w
set_option maxRecDepth 100000 in
set_option maxHeartbeats 4000000 in
theorem l05Links_any (v : Value) (ws : List Ino) (ps : List Den) (w : World) (h : RdIm w v ws ps) (hm : ws.length ≤ 1048576) (hn : ps.length ≤ 1048576) :
    Calls Tryz.prog 128 #[v] w fun e w' => e = .returned (.bool (linksB ws ps)) ∧ Below w.heap.size w w' := by
  have HR := hideIt h
  obtain ⟨vW, vP, rfl, h1, h2⟩ := h
  obtain ⟨aW, cW, rfl, _, hcW⟩ := h1.shape
  obtain ⟨aP, cP, rfl, _, hcP⟩ := h2.shape
  have HW := hideIt hcW
  have HZ := hideIt hcP
  clear h1 h2 hcP hcW
  obtain ⟨W, hW⟩ : ∃ W, W = w.alloc (.cells #[.slice aW ws.length cW, .slice aP ps.length cP] 98) := ⟨_, rfl⟩
  have CA : Hid (∀ w', Below W.heap.size W w' → w'.cell? ⟨w.heap.size, 0, none⟩ = some (.slice aW ws.length cW) ∧ w'.cell? ⟨w.heap.size, 1, none⟩ = some (.slice aP ps.length cP)) := fun w' hb => by
    have : w'.heap[w.heap.size]? = some (.cells #[.slice aW ws.length cW, .slice aP ps.length cP] 98 (0, 0)) := (hb.block _ (by rw [hW]; simp)).trans (by rw [hW]; exact at_new rfl)
    exact ⟨(two_cells this).1, (two_cells this).2.1⟩
  have BW : Hid (Below w.heap.size w W) := by rw [hW]; exact (Below.refl _ _).alloc (Nat.le_refl _) _
  have hz : w.heap.size ≤ W.heap.size := BW.out.size
  have LH := hideIt (fun d w1 h => l05Hangs_any (.agg #[.slice aW ws.length cW, .slice aP ps.length cP]) ws ps d w1 h hn)
  go_enter Tryz.func128, Tryz.ntmps128
  go_wp2
  rw [← hW]
  clear hW
  go_loopw [3] (fun i wr => ∃ k : Nat, k ≤ ws.length ∧ i = .int .i64 k ∧ Hid (Below W.heap.size W wr ∧ ∀ j (h : j < ws.length), j < k → linkB ps j ws[j] = true)) (fun i _ => ws.length - (intOf i).toNat)
  case atStart => exact ⟨0, by omega, rfl, Below.refl _ _, fun j h a => absurd a (by omega)⟩
  case round =>
    obtain ⟨i, hi, rfl, J⟩ := hrel
    obtain ⟨x0, x1⟩ := CA.out wr J.out.1
    by_cases hlt : i < ws.length
    · have i0 : (0 : Int) ≤ (i : Int) := by omega
      have i1 : (i : Int) < (ws.length : Int) := by omega
      obtain ⟨b0, HB, b1, LB⟩ : ∃ b0 : Int, Hid (b0 = if i = 0 then 1 else 0) ∧ (0 ≤ b0 ∧ b0 ≤ 1) ∧ Hid (∀ w1 : World, Calls Tryz.prog 185 #[.bool ((i : Int) == 0)] w1 fun e w' => e = .returned (.int .i64 b0) ∧ w' = w1) := by
        by_cases q : i = 0
        · refine ⟨1, hideIt (by rw [if_pos q]), by omega, fun w1 => ?_⟩
          rw [show ((i : Int) == 0) = true by rw [beq_iff_eq]; omega]
          exact l01Bit_t w1
        · refine ⟨0, hideIt (by rw [if_neg q]), by omega, fun w1 => ?_⟩
          rw [show ((i : Int) == 0) = false by rw [beq_eq_false_iff_ne]; omega]
          exact l01Bit_f w1
      have START : Hid (Below W.heap.size W wr) := J.out.1
      go_wp2_with (go_at_call 185; refine (LB.out _).mono ?_; rintro e w' ⟨rfl, hw'⟩; subst w')
      go_loopw [4, 5] (fun n kk wq => ∃ k : Nat, k ≤ ps.length ∧ kk = .int .i64 k ∧ n = .int .i64 (b0 + (cntD ps i k : Int)) ∧ Hid (Below W.heap.size W wq)) (fun _ kk _ => ps.length - (intOf kk).toNat)
      case atStart => exact ⟨0, by omega, rfl, by rw [cntD_zero]; simp, START⟩
      case round =>
        obtain ⟨k, hk, rfl, rfl, K⟩ := hrel
        obtain ⟨y0, y1⟩ := CA.out wr K.out
        have B := hideIt (below_trans BW.out K.out hz)
        have cl := cntD_le ps i k
        have k0 : (0 : Int) ≤ (k : Int) := by omega
        clear x0 x1 START
        by_cases hlk : k < ps.length
        · obtain ⟨b, o, rfl, hbl, hcell⟩ := HZ.out (by omega)
          obtain ⟨_, _, c2⟩ := hcell k hlk
          have d2 := (B.out.cell (p := ⟨b, o + k * 3 + 2, none⟩) hbl).trans c2
          have k1 : (k : Int) < (ps.length : Int) := by omega
          obtain ⟨t, HT, t1, LT⟩ : ∃ t : Int, Hid ((cntD ps i (k + 1) : Int) = (cntD ps i k : Int) + t) ∧ (0 ≤ t ∧ t ≤ 1) ∧ Hid (∀ w1 : World, Calls Tryz.prog 185 #[.bool (ps[k].child == (i : Int))] w1 fun e w' => e = .returned (.int .i64 t) ∧ w' = w1) := by
            cases q : (ps[k].child == (i : Int))
            · refine ⟨0, hideIt (by rw [cntD_succ hlk, q]; simp), by omega, fun w1 => ?_⟩
              exact l01Bit_f w1
            · refine ⟨1, hideIt (by rw [cntD_succ hlk, q]; simp), by omega, fun w1 => ?_⟩
              exact l01Bit_t w1
          clear hcell c2
          generalize ps[k].child = z at *
          have cc0 : (0 : Int) ≤ (cntD ps i k : Int) ∧ (cntD ps i k : Int) ≤ 1048576 := by omega
          generalize (cntD ps i k : Int) = cc at *
          go_wp2_with (go_at_call 185; refine (LT.out _).mono ?_; rintro e w' ⟨rfl, hw'⟩; subst w')
          go_roundw
          case rel => exact ⟨k + 1, by omega, by go_num, by rw [HT.out, Int.add_assoc], K⟩
          case measure => simp [intOf]; omega
        · obtain rfl : k = ps.length := by omega
          obtain ⟨b, o, rfl, hbl, hcell⟩ := HW.out (by omega)
          obtain ⟨c0, _, c2, _⟩ := hcell i hlt
          have d0 := (B.out.cell (p := ⟨b, o + i * 11, none⟩) hbl).trans c0
          have d2 := (B.out.cell (p := ⟨b, o + i * 11 + 2, none⟩) hbl).trans c2
          have EL := hideIt (show linkB ps i ws[i] = (decide (b0 + (cntD ps i ps.length : Int) = ws[i].links) && (decide (¬ ws[i].kind = 2) || hangs ps 16 i)) by unfold linkB; rw [HB.out])
          have NO := hideIt (fun e => linksB_not (ps := ps) hlt e)
          have YES := hideIt (fun (e : linkB ps i ws[i] = true) j (h : j < ws.length) (a : j < i + 1) => show linkB ps j ws[j] = true by
            by_cases q : j = i
            · subst q; exact e
            · exact J.out.2 j h (by omega))
          clear hcell c0 c2 J HB LB
          have cc0 : (0 : Int) ≤ (cntD ps i ps.length : Int) ∧ (cntD ps i ps.length : Int) ≤ 1048576 := by omega
          generalize (cntD ps i ps.length : Int) = cc at *
          generalize linkB ps i ws[i] = lb at EL NO YES
          generalize ws[i].links = zl at *
          generalize ws[i].kind = zk at *
          by_cases q : b0 + cc = zl
          · by_cases r : zk = 2
            · subst r
              cases hh : hangs ps 16 i with
              | true =>
                have E := hideIt (YES.out (by rw [EL.out, decide_eq_true q, hh]; rfl))
                have HH := hideIt hh
                have R := hideIt (HR.out.below B.out)
                have q1 : (b0 + cc != zl) = false := by rw [q]; simp
                clear hh EL NO YES q
                go_wp2_with fail
                refine (LH.out _ _ R.out).mono ?_
                rw [HH.out]
                rintro e w1 ⟨rfl, hb1⟩
                have B1 := hideIt (below_trans K.out hb1 K.out.size)
                clear hb1
                go_wp2
                go_roundw
                case rel => exact ⟨i + 1, by omega, by go_num, B1.out, E.out⟩
                case measure => simp [intOf]; omega
              | false =>
                have E := hideIt (NO.out (by rw [EL.out, hh]; simp))
                have HH := hideIt hh
                have R := hideIt (HR.out.below B.out)
                have q1 : (b0 + cc != zl) = false := by rw [q]; simp
                clear hh EL NO YES q
                go_wp2_with fail
                refine (LH.out _ _ R.out).mono ?_
                rw [HH.out]
                rintro e w1 ⟨rfl, hb1⟩
                have B1 := hideIt (below_trans B.out hb1 B.out.size)
                clear hb1
                go_wp2
                go_ret
                exact ⟨ret_bool E.out.symm, B1.out⟩
            · have E : Hid (Below W.heap.size W wr ∧ ∀ j (h : j < ws.length), j < i + 1 → linkB ps j ws[j] = true) := ⟨K.out, YES.out (by rw [EL.out, decide_eq_true q, decide_eq_true r]; rfl)⟩
              have r1 : (zk == 2) = false := beq_eq_false_iff_ne.2 r
              have q1 : (b0 + cc != zl) = false := by rw [q]; simp
              clear EL NO YES q r
              go_wp2
              go_roundw
              case rel => exact ⟨i + 1, by omega, by go_num, E⟩
              case measure => simp [intOf]; omega
          · have q1 : (b0 + cc != zl) = true := by rw [bne_iff_ne]; exact q
            have E := hideIt (NO.out (by rw [EL.out, decide_eq_false q]; rfl))
            clear q EL NO YES
            go_wp2
            go_ret
            exact ⟨ret_bool E.out.symm, B.out⟩
    · obtain rfl : i = ws.length := by omega
      have E := hideIt (show linksB ws ps = true from decide_eq_true (fun j h => J.out.2 j h h))
      go_wp2
      go_ret
      exact ⟨ret_bool E.out.symm, below_trans BW.out J.out.1 hz⟩
end Go.Proofs.YtmeiionabonhnaaGreatDoor
