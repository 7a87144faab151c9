/- Several texts laid together: ImJ, ImK. -/
import Derived.Test.YtbjjdkemappelaaGreatDoorZAG
import Derived.Deep.RegionWith
namespace Go.Proofs.YtbjjdkemappelaaGreatDoor
open Go.RowKit
def RdIm (w : World) (v : Value) (ws : List Ino) (ps : List Den) : Prop := ∃ vW vP, v = .agg #[vW, vP] ∧ RdN w vW ws ∧ RdD w vP ps
def RowIm (w : World) (lo hi : Nat) (v : Value) (ws : List Ino) (ps : List Den) : Prop := ∃ vW vP, v = .agg #[vW, vP] ∧ Row w 103 11 lo hi vW ws.length (inos ws) ∧ Row w 182 3 lo hi vP ps.length (dens ps)
theorem RowIm.rd {w : World} {lo hi : Nat} {v : Value} {ws : List Ino} {ps : List Den} (h : RowIm w lo hi v ws ps) : RdIm w v ws ps := by
  obtain ⟨vW, vP, rfl, h1, h2⟩ := h
  exact ⟨vW, vP, rfl, h1.rd, h2.rd⟩
theorem RdIm.below {w w' : World} {v : Value} {ws : List Ino} {ps : List Den} (h : RdIm w v ws ps) (hb : Below w.heap.size w w') : RdIm w' v ws ps := by
  obtain ⟨vW, vP, rfl, h1, h2⟩ := h
  exact ⟨vW, vP, rfl, Rd.below h1 hb, Rd.below h2 hb⟩
theorem RowIm.below {w w' : World} {lo hi : Nat} {v : Value} {ws : List Ino} {ps : List Den} (h : RowIm w lo hi v ws ps) {B : Nat} (hb : Below B w w') (hB : hi ≤ B) : RowIm w' lo hi v ws ps := by
  obtain ⟨vW, vP, rfl, h1, h2⟩ := h
  exact ⟨vW, vP, rfl, h1.below hb hB, h2.below hb hB⟩
end Go.Proofs.YtbjjdkemappelaaGreatDoor

namespace Go.Proofs.YtbjjdkemappelaaGreatDoor
open Go.RowKit
def hasB (zs : List Int) (n : Int) : Bool := zs.contains n
theorem has_not {zs : List Int} {n : Int} (h : ∀ j (h : j < zs.length), ¬ zs[j] = n) : hasB zs n = false := by
  unfold hasB
  rw [List.contains_eq_any_beq, List.any_eq_false]
  intro z hz
  obtain ⟨j, hj, rfl⟩ := List.getElem_of_mem hz
  simp only [beq_iff_eq]
  exact fun e => h j hj e.symm
set_option maxRecDepth 100000 in
set_option maxHeartbeats 2000000 in
theorem l05Has_any (v : Value) (zs : List Int) (n : Int) (w : World) (h : RdI w v zs) (hn : zs.length ≤ 1048576) :
    Calls Tryz.prog 37 #[v, .int .i64 n] w fun e w' => e = .returned (.bool (hasB zs n)) ∧ w' = w := by
  obtain ⟨aZ, cZ, rfl, _, hcZ⟩ := h.shape
  have HZ := hideIt hcZ
  clear h hcZ
  go_enter Tryz.func37, Tryz.ntmps37
  go_wp2
  go_loop [5] (fun i => ∃ k : Nat, k ≤ zs.length ∧ i = .int .i64 k ∧ Hid (∀ j (h : j < zs.length), j < k → ¬ zs[j] = n)) (fun i => zs.length - (intOf i).toNat)
  case atStart => exact ⟨0, by omega, rfl, fun j h a => absurd a (by omega)⟩
  case round =>
    obtain ⟨k, hk, rfl, H⟩ := hrel
    by_cases hlt : k < zs.length
    · obtain ⟨b, o, rfl, hbl, hcell⟩ := HZ.out (by omega)
      have d0 := hcell k hlt
      have k0 : (0 : Int) ≤ (k : Int) := by omega
      have k1 : (k : Int) < (zs.length : Int) := by omega
      have HY := hideIt (fun e : zs[k] = n => show hasB zs n = true by unfold hasB; rw [← e]; exact List.contains_iff_mem.2 (List.getElem_mem hlt))
      have HX := hideIt (fun (e : ¬ zs[k] = n) j (h : j < zs.length) (a : j < k + 1) => show ¬ zs[j] = n by
        by_cases q : j = k
        · subst q; exact e
        · exact H.out j h (by omega))
      clear hcell
      generalize zs[k] = z at *
      by_cases q : z = n
      · have q1 : (z == n) = true := beq_iff_eq.2 q
        have E := hideIt (HY.out q)
        clear q HX HY
        go_wp2
        go_ret
        exact ⟨ret_bool E.out.symm, rfl⟩
      · have q1 : (z == n) = false := beq_eq_false_iff_ne.2 q
        have E := hideIt (HX.out q)
        clear q HX HY
        go_wp2
        go_round
        case rel => exact ⟨k + 1, by omega, by go_num, E⟩
        case measure => simp [intOf]; omega
    · obtain rfl : k = zs.length := by omega
      have E := hideIt (has_not (fun j h => H.out j h h))
      go_wp2
      go_ret
      exact ⟨ret_bool E.out.symm, rfl⟩
theorem l01Bit_any (b : Bool) (w : World) : Calls Tryz.prog 36 #[.bool b] w fun e w' => e = .returned (.int .i64 (if b = true then 1 else 0)) ∧ w' = w := by
  cases b
  all_goals
    go_enter Tryz.func36, Tryz.ntmps36
    go_wp2
    go_ret
    exact ⟨rfl, rfl⟩
def upD (ds : List Den) (c : Int) : Int := ((ds.find? fun x => x.child == c).map Den.dir).getD (-1)
theorem upD_no {ds : List Den} {c : Int} (h : ∀ j (h : j < ds.length), ¬ ds[j].child = c) : upD ds c = -1 := by
  unfold upD
  rw [List.find?_eq_none.2]
  · rfl
  · intro x hx
    obtain ⟨j, hj, rfl⟩ := List.getElem_of_mem hx
    simp only [beq_iff_eq]
    exact h j hj
theorem upD_yes {ds : List Den} {c : Int} {k : Nat} (hk : k < ds.length) (h : ∀ j (h : j < ds.length), j < k → ¬ ds[j].child = c) (e : ds[k].child = c) : upD ds c = ds[k].dir := by
  unfold upD
  have : ds.find? (fun x => x.child == c) = some ds[k] := List.find?_eq_some_iff_getElem.2 ⟨beq_iff_eq.2 e, k, hk, rfl, fun j hj => by
    have := h j (by omega) hj
    simp [this]⟩
  rw [this]
  rfl
set_option maxRecDepth 100000 in
set_option maxHeartbeats 2000000 in
theorem l05Up_any (v : Value) (ws : List Ino) (ps : List Den) (c : Int) (w : World) (h : RdIm w v ws ps) (hn : ps.length ≤ 1048576) :
    Calls Tryz.prog 160 #[v, .int .i64 c] w fun e w' => e = .returned (.int .i64 (upD ps c)) ∧ Below w.heap.size w w' := by
  obtain ⟨vW, vP, rfl, h1, h2⟩ := h
  obtain ⟨aW, cW, rfl, _⟩ := h1.shape
  obtain ⟨aP, cP, rfl, _, hcP⟩ := h2.shape
  have HZ := hideIt hcP
  clear h1 h2 hcP
  obtain ⟨W, hW⟩ : ∃ W, W = w.alloc (.cells #[.slice aW ws.length cW, .slice aP ps.length cP] 76) := ⟨_, rfl⟩
  have CA : Hid (∀ w', Below W.heap.size W w' → w'.cell? ⟨w.heap.size, 1, none⟩ = some (.slice aP ps.length cP)) := fun w' hb => by
    have : w'.heap[w.heap.size]? = some (.cells #[.slice aW ws.length cW, .slice aP ps.length cP] 76 (0, 0)) := (hb.block _ (by rw [hW]; simp)).trans (by rw [hW]; exact at_new rfl)
    exact (two_cells this).2.1
  have BW : Hid (Below w.heap.size w W) := by rw [hW]; exact (Below.refl _ _).alloc (Nat.le_refl _) _
  have hz : w.heap.size ≤ W.heap.size := BW.out.size
  go_enter Tryz.func160, Tryz.ntmps160
  go_wp2
  rw [← hW]
  clear hW
  go_loopw [5] (fun i wr => ∃ k : Nat, k ≤ ps.length ∧ i = .int .i64 k ∧ Hid (Below W.heap.size W wr ∧ ∀ j (h : j < ps.length), j < k → ¬ ps[j].child = c)) (fun i _ => ps.length - (intOf i).toNat)
  case atStart => exact ⟨0, by omega, rfl, Below.refl _ _, fun j h a => absurd a (by omega)⟩
  case round =>
    obtain ⟨k, hk, rfl, J⟩ := hrel
    have x1 := CA.out wr J.out.1
    by_cases hlt : k < ps.length
    · obtain ⟨b, o, rfl, hbl, hcell⟩ := HZ.out (by omega)
      have BR := below_trans BW.out J.out.1 hz
      obtain ⟨c0, c1, c2⟩ := hcell k hlt
      have d0 := (BR.cell (p := ⟨b, o + k * 3, none⟩) hbl).trans c0
      have d2 := (BR.cell (p := ⟨b, o + k * 3 + 2, none⟩) hbl).trans c2
      have B := hideIt BR
      have k0 : (0 : Int) ≤ (k : Int) := by omega
      have k1 : (k : Int) < (ps.length : Int) := by omega
      have HY := hideIt (fun e : ps[k].child = c => upD_yes hlt J.out.2 e)
      have HX := hideIt (fun (e : ¬ ps[k].child = c) j (h : j < ps.length) (a : j < k + 1) => show ¬ ps[j].child = c by
        by_cases q : j = k
        · subst q; exact e
        · exact J.out.2 j h (by omega))
      clear hcell c0 c1 c2 BR
      generalize ps[k].child = z at *
      generalize ps[k].dir = y at *
      by_cases q : z = c
      · have q1 : (z == c) = true := beq_iff_eq.2 q
        have E := hideIt (HY.out q)
        clear q HX HY
        go_wp2
        go_ret
        exact ⟨ret_int E.out.symm, B.out⟩
      · have q1 : (z == c) = false := beq_eq_false_iff_ne.2 q
        have E : Hid (Below W.heap.size W wr ∧ ∀ j (h : j < ps.length), j < k + 1 → ¬ ps[j].child = c) := ⟨J.out.1, HX.out q⟩
        clear q HX HY
        go_wp2
        go_roundw
        case rel => exact ⟨k + 1, by omega, by go_num, E⟩
        case measure => simp [intOf]; omega
    · obtain rfl : k = ps.length := by omega
      have E := hideIt (upD_no (fun j h => J.out.2 j h h))
      go_wp2
      go_ret
      exact ⟨ret_int E.out.symm, below_trans BW.out J.out.1 hz⟩
def hangs (ds : List Den) : Nat → Int → Bool
  | 0, _ => false
  | n + 1, d => if d = 0 then true else if upD ds d < 0 then false else hangs ds n (upD ds d)
set_option maxRecDepth 100000 in
set_option maxHeartbeats 2000000 in
theorem l05Hangs_any (v : Value) (ws : List Ino) (ps : List Den) (c : Int) (w : World) (h : RdIm w v ws ps) (hn : ps.length ≤ 1048576) :
    Calls Tryz.prog 151 #[v, .int .i64 c] w fun e w' => e = .returned (.bool (hangs ps 16 c)) ∧ Below w.heap.size w w' := by
  have HR := hideIt h
  obtain ⟨vW, vP, rfl, h1, h2⟩ := h
  obtain ⟨aW, cW, rfl, _⟩ := h1.shape
  obtain ⟨aP, cP, rfl, _, hcP⟩ := h2.shape
  clear h1 h2 hcP
  obtain ⟨W, hW⟩ : ∃ W, W = w.alloc (.cells #[.slice aW ws.length cW, .slice aP ps.length cP] 76) := ⟨_, rfl⟩
  have CA : Hid (∀ w', Below W.heap.size W w' → w'.cell? ⟨w.heap.size, 0, none⟩ = some (.slice aW ws.length cW) ∧ w'.cell? ⟨w.heap.size, 1, none⟩ = some (.slice aP ps.length cP)) := fun w' hb => by
    have : w'.heap[w.heap.size]? = some (.cells #[.slice aW ws.length cW, .slice aP ps.length cP] 76 (0, 0)) := (hb.block _ (by rw [hW]; simp)).trans (by rw [hW]; exact at_new rfl)
    exact ⟨(two_cells this).1, (two_cells this).2.1⟩
  have BW : Hid (Below w.heap.size w W) := by rw [hW]; exact (Below.refl _ _).alloc (Nat.le_refl _) _
  have hz : w.heap.size ≤ W.heap.size := BW.out.size
  have LU := hideIt (fun d w1 h => l05Up_any (.agg #[.slice aW ws.length cW, .slice aP ps.length cP]) ws ps d w1 h hn)
  go_enter Tryz.func151, Tryz.ntmps151
  go_wp2
  rw [← hW]
  clear hW
  go_loopw [1, 5] (fun d i wr => ∃ (k : Nat) (z : Int), k ≤ 16 ∧ i = .int .i64 k ∧ d = .int .i64 z ∧ Hid (Below W.heap.size W wr ∧ hangs ps 16 c = hangs ps (16 - k) z)) (fun _ i _ => 16 - (intOf i).toNat)
  case atStart => exact ⟨0, c, by omega, rfl, rfl, Below.refl _ _, rfl⟩
  case round =>
    obtain ⟨k, z, hk, rfl, rfl, J⟩ := hrel
    obtain ⟨x0, x1⟩ := CA.out wr J.out.1
    by_cases hlt : k < 16
    · have ES := hideIt (show hangs ps (16 - k) z = if z = 0 then true else if upD ps z < 0 then false else hangs ps (16 - (k + 1)) (upD ps z) by
        rw [show 16 - k = (16 - (k + 1)) + 1 by omega]; rfl)
      have B := hideIt (below_trans BW.out J.out.1 hz)
      by_cases q : z = 0
      · subst q
        have E := hideIt (show hangs ps 16 c = true by rw [J.out.2, ES.out, if_pos rfl])
        go_wp2
        go_ret
        exact ⟨ret_bool E.out.symm, B.out⟩
      · have q1 : (z == 0) = false := beq_eq_false_iff_ne.2 q
        have R := hideIt (HR.out.below B.out)
        by_cases r : upD ps z < 0
        · have E := hideIt (show hangs ps 16 c = false by rw [J.out.2, ES.out, if_neg q, if_pos r])
          go_wp2_with fail
          refine (LU.out _ _ R.out).mono ?_
          rintro e w1 ⟨rfl, hb1⟩
          have B1 := hideIt (below_trans B.out hb1 B.out.size)
          clear hb1
          go_wp2
          go_ret
          exact ⟨ret_bool E.out.symm, B1.out⟩
        · have E := hideIt (show hangs ps 16 c = hangs ps (16 - (k + 1)) (upD ps z) by rw [J.out.2, ES.out, if_neg q, if_neg r])
          go_wp2_with fail
          refine (LU.out _ _ R.out).mono ?_
          rintro e w1 ⟨rfl, hb1⟩
          have B1 := hideIt (below_trans J.out.1 hb1 J.out.1.size)
          clear hb1
          go_wp2
          go_roundw
          case rel => exact ⟨k + 1, _, by omega, by go_num, rfl, B1.out, E.out⟩
          case measure => simp [intOf]; omega
    · obtain rfl : k = 16 := by omega
      have E := hideIt (show hangs ps 16 c = false by rw [J.out.2]; rfl)
      go_wp2
      go_ret
      exact ⟨ret_bool E.out.symm, below_trans BW.out J.out.1 hz⟩
end Go.Proofs.YtbjjdkemappelaaGreatDoor
