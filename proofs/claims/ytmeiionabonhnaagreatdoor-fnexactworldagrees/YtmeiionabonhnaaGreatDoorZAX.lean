/- Several texts laid together: PcA, PcB. -/
import Derived.Test.YtmeiionabonhnaaGreatDoorZAW
import Derived.Deep.LoopGhost
import Derived.Deep.RegionHeld3
namespace Go.Proofs.YtmeiionabonhnaaGreatDoor
open Go.RowKit
def entHit (d : Int) (nm : ByteArray) (x : Den) : Bool := decide (0 ≤ x.child) && (x.dir == d && x.name.toList == nm.toList)
def entAt (ps : List Den) (d : Int) (nm : ByteArray) : Option Nat := ps.findIdx? (entHit d nm)
def entI (ps : List Den) (d : Int) (nm : ByteArray) : Int := match entAt ps d nm with | none => -1 | some k => (k : Int)
def childAt (ps : List Den) (k : Nat) : Int := (ps.getD k ⟨0, ⟨#[]⟩, 0⟩).child
theorem childAt_of {ps : List Den} {k : Nat} (h : k < ps.length) : childAt ps k = ps[k].child := by
  unfold childAt
  rw [List.getD_eq_getElem?_getD, List.getElem?_eq_getElem h]; rfl
theorem ent_no {ps : List Den} {d : Int} {nm : ByteArray} (h : ∀ j (h : j < ps.length), entHit d nm ps[j] = false) : entAt ps d nm = none := by
  unfold entAt
  rw [List.findIdx?_eq_none_iff]
  intro x hx
  obtain ⟨j, hj, rfl⟩ := List.getElem_of_mem hx
  exact h j hj
theorem ent_yes {ps : List Den} {d : Int} {nm : ByteArray} {k : Nat} (hk : k < ps.length) (h : ∀ j (h : j < ps.length), j < k → entHit d nm ps[j] = false) (e : entHit d nm ps[k] = true) : entAt ps d nm = some k := by
  unfold entAt
  rw [List.findIdx?_eq_some_iff_getElem]
  exact ⟨hk, e, fun j hj => by rw [h j (by omega) hj]; simp⟩
theorem ent_some {ps : List Den} {d : Int} {nm : ByteArray} {k : Nat} (h : entAt ps d nm = some k) : ∃ hk : k < ps.length, entHit d nm ps[k] = true := by
  unfold entAt at h
  rw [List.findIdx?_eq_some_iff_getElem] at h
  obtain ⟨hk, e, _⟩ := h
  exact ⟨hk, e⟩
theorem hit_child {d : Int} {nm : ByteArray} {x : Den} (h : entHit d nm x = true) : 0 ≤ x.child := by
  unfold entHit at h
  simp only [Bool.and_eq_true, decide_eq_true_eq] at h
  exact h.1
def wk (ws : List Ino) (ps : List Den) : Int → List ByteArray → Int × Int
  | z, [] => (z, 0)
  | z, n :: ns => if kindAt ws z = 2 then (match entAt ps z n with | none => (0, 5) | some k => wk ws ps (childAt ps k) ns) else (0, 10)
theorem wk_nil (ws : List Ino) (ps : List Den) (z : Int) : wk ws ps z [] = (z, 0) := rfl
theorem wk_nodir {ws : List Ino} {ps : List Den} {z : Int} {n : ByteArray} {ns : List ByteArray} (h : ¬ kindAt ws z = 2) : wk ws ps z (n :: ns) = (0, 10) := by
  show (if kindAt ws z = 2 then _ else _) = _
  rw [if_neg h]
theorem wk_none {ws : List Ino} {ps : List Den} {z : Int} {n : ByteArray} {ns : List ByteArray} (h : kindAt ws z = 2) (e : entAt ps z n = none) : wk ws ps z (n :: ns) = (0, 5) := by
  show (if kindAt ws z = 2 then (match entAt ps z n with | none => (0, 5) | some k => wk ws ps (childAt ps k) ns) else _) = _
  rw [if_pos h, e]
theorem wk_some {ws : List Ino} {ps : List Den} {z : Int} {n : ByteArray} {ns : List ByteArray} {k : Nat} (h : kindAt ws z = 2) (e : entAt ps z n = some k) : wk ws ps z (n :: ns) = wk ws ps (childAt ps k) ns := by
  show (if kindAt ws z = 2 then (match entAt ps z n with | none => (0, 5) | some k => wk ws ps (childAt ps k) ns) else _) = _
  rw [if_pos h, e]
theorem child_range {ws : List Ino} {ps : List Den} (h : imgB ws ps = true) {d : Int} {nm : ByteArray} {k : Nat} (e : entAt ps d nm = some k) : k < ps.length ∧ 0 ≤ childAt ps k ∧ childAt ps k ≤ 15 := by
  obtain ⟨hk, q⟩ := ent_some e
  have := hit_child q
  rw [childAt_of hk]
  rcases pimg_ent h k hk with r | r
  · omega
  · exact ⟨hk, by omega, by omega⟩
set_option maxRecDepth 100000 in
set_option maxHeartbeats 4000000 in
theorem l06Entry_any (v : Value) (ws : List Ino) (ps : List Den) (d : Int) (nm : ByteArray) (w : World) (h : RdIm w v ws ps) (hn : ps.length ≤ 1048576) :
    Calls Tryz.prog 131 #[v, .int .i64 d, .string nm] w fun e w' => e = .returned (.int .i64 (entI ps d nm)) ∧ Below w.heap.size w w' := by
  obtain ⟨vW, vP, rfl, h1, h2⟩ := h
  obtain ⟨aW, cW, rfl, _⟩ := h1.shape
  obtain ⟨aP, cP, rfl, _, hcP⟩ := h2.shape
  have HZ := hideIt hcP
  clear h1 h2 hcP
  obtain ⟨W, hW⟩ : ∃ W, W = w.alloc (.cells #[.slice aW ws.length cW, .slice aP ps.length cP] 98) := ⟨_, rfl⟩
  have CA : Hid (∀ w', Below W.heap.size W w' → w'.cell? ⟨w.heap.size, 1, none⟩ = some (.slice aP ps.length cP)) := fun w' hb => by
    have : w'.heap[w.heap.size]? = some (.cells #[.slice aW ws.length cW, .slice aP ps.length cP] 98 (0, 0)) := (hb.block _ (by rw [hW]; simp)).trans (by rw [hW]; exact at_new rfl)
    exact (two_cells this).2.1
  have BW : Hid (Below w.heap.size w W) := by rw [hW]; exact (Below.refl _ _).alloc (Nat.le_refl _) _
  have hz : w.heap.size ≤ W.heap.size := BW.out.size
  go_enter Tryz.func131, Tryz.ntmps131
  go_wp2
  rw [← hW]
  clear hW
  go_loopg [7] ps.length (fun g i wr => ∃ k : Nat, k + g = ps.length ∧ i = .int .i64 k ∧ Hid (Below W.heap.size W wr ∧ ∀ j (h : j < ps.length), j < k → entHit d nm ps[j] = false))
  case atStart => exact ⟨0, by omega, rfl, Below.refl _ _, fun j h a => absurd a (by omega)⟩
  case round =>
    obtain ⟨k, hk, rfl, J⟩ := hrel
    have x1 := CA.out wr J.out.1
    have B := hideIt (below_trans BW.out J.out.1 hz)
    have k0 : (0 : Int) ≤ (k : Int) := by omega
    by_cases hlt : k < ps.length
    · obtain ⟨b, o, rfl, hbl, hcell⟩ := HZ.out (by omega)
      obtain ⟨c0, c1, c2⟩ := hcell k hlt
      have d0 := (B.out.cell (p := ⟨b, o + k * 3, none⟩) hbl).trans c0
      have d1 := (B.out.cell (p := ⟨b, o + k * 3 + 1, none⟩) hbl).trans c1
      have d2 := (B.out.cell (p := ⟨b, o + k * 3 + 2, none⟩) hbl).trans c2
      have k1 : (k : Int) < (ps.length : Int) := by omega
      have HY := hideIt (fun e : entHit d nm ps[k] = true => show entI ps d nm = (k : Int) by unfold entI; rw [ent_yes hlt J.out.2 e])
      have HX := hideIt (fun (e : entHit d nm ps[k] = false) j (h : j < ps.length) (a : j < k + 1) => show entHit d nm ps[j] = false by
        by_cases q : j = k
        · subst q; exact e
        · exact J.out.2 j h (by omega))
      have EH := hideIt (show entHit d nm ps[k] = (decide (0 ≤ ps[k].child) && (ps[k].dir == d && ps[k].name.toList == nm.toList)) from rfl)
      have J1 := hideIt J.out.1
      clear hcell c0 c1 c2 J
      generalize entHit d nm ps[k] = hit at *
      generalize ps[k].child = y at *
      generalize ps[k].dir = yd at *
      generalize ps[k].name = yn at *
      have BX := hideIt ((Below.refl wr.heap.size wr).alloc (Nat.le_refl _) (.cells #[.int .i64 yd, .string yn, .int .i64 y] 140))
      have B5 := hideIt (below_trans J1.out BX.out J1.out.size)
      have B6 := hideIt (below_trans B.out BX.out B.out.size)
      by_cases q : 0 ≤ y
      case neg =>
        have q1 : ¬ y ≥ 0 := q
        have E := hideIt (HX.out (by rw [EH.out, decide_eq_false q]; rfl))
        clear q HX HY EH
        go_wp2
        go_roundg (ps.length - (k + 1))
        case measure => omega
        case rel => exact ⟨k + 1, by omega, by go_num, B5.out, E.out⟩
      have q1 : y ≥ 0 := q
      by_cases r : yd = d
      case neg =>
        have r1 : (yd == d) = false := beq_eq_false_iff_ne.2 r
        have E := hideIt (HX.out (by rw [EH.out, r1]; simp))
        clear q r HX HY EH
        go_wp2
        go_roundg (ps.length - (k + 1))
        case measure => omega
        case rel => exact ⟨k + 1, by omega, by go_num, B5.out, E.out⟩
      have r1 : (yd == d) = true := beq_iff_eq.2 r
      cases t : (yn.toList == nm.toList) with
      | false =>
        have E := hideIt (HX.out (by rw [EH.out, t]; simp))
        clear q r HX HY EH
        go_wp2
        go_roundg (ps.length - (k + 1))
        case measure => omega
        case rel => exact ⟨k + 1, by omega, by go_num, B5.out, E.out⟩
      | true =>
        have E := hideIt (HY.out (by rw [EH.out, t, r1, decide_eq_true q]; rfl))
        clear q r HX HY EH
        go_wp2
        go_ret
        exact ⟨ret_int E.out.symm, B6.out⟩
    · obtain rfl : k = ps.length := by omega
      have E := hideIt (show entI ps d nm = -1 by unfold entI; rw [ent_no (fun j h => J.out.2 j h h)])
      clear J
      go_wp2
      go_ret
      exact ⟨ret_int E.out.symm, B.out⟩
end Go.Proofs.YtmeiionabonhnaaGreatDoor

namespace Go.Proofs.YtmeiionabonhnaaGreatDoor
open Go.RowKit
set_option maxRecDepth 100000 in
set_option maxHeartbeats 4000000 in
theorem l06Walk_any (v vL : Value) (ws : List Ino) (ps : List Den) (ns : List ByteArray) (w : World) (h : RdIm w v ws ps) (hL : RdT w vL ns) (hi : imgB ws ps = true) (hn : ns.length ≤ 1048576) :
    Calls Tryz.prog 132 #[v, vL] w fun e w' => e = .returned (.tuple #[.int .i64 (wk ws ps 0 ns).1, .int .i64 (wk ws ps 0 ns).2]) ∧ Below w.heap.size w w' := by
  have HR := hideIt h
  have LE := hideIt (fun d nm w1 h => l06Entry_any v ws ps d nm w1 h (by have := (pimg_all hi).2.1; omega))
  obtain ⟨vW, vP, rfl, h1, h2⟩ := h
  obtain ⟨aW, cW, rfl, _, hcW⟩ := h1.shape
  obtain ⟨aP, cP, rfl, _, hcP⟩ := h2.shape
  obtain ⟨aL, cL, rfl, _, hcL⟩ := hL.shape
  have L16 := hideIt (pimg_all hi).1
  have L24 := hideIt (pimg_all hi).2.1
  obtain ⟨bW, oW, rfl, hblW, hcellW⟩ := hcW (by have := L16.out; omega)
  obtain ⟨bP, oP, rfl, hblP, hcellP⟩ := hcP (by have := L24.out; omega)
  have HW : Hid (∀ w', Below w.heap.size w w' → ∀ n : Nat, n < 16 → w'.cell? ⟨bW, oW + n * 11, none⟩ = some (.int .i64 (kindAt ws n))) := fun w' hb n hn => by
    have hnl : n < ws.length := by have := L16.out; omega
    rw [kindAt_of hnl]
    exact (hb.cell (p := ⟨bW, oW + n * 11, none⟩) hblW).trans (hcellW n hnl).1
  have HP : Hid (∀ w', Below w.heap.size w w' → ∀ k (h : k < ps.length), w'.cell? ⟨bP, oP + k * 3 + 2, none⟩ = some (.int .i64 (childAt ps k))) := fun w' hb k hk => by
    rw [childAt_of hk]
    exact (hb.cell (p := ⟨bP, oP + k * 3 + 2, none⟩) hblP).trans (hcellP k hk).2.2
  have HN := hideIt hcL
  have CR := hideIt (fun (d : Int) (nm : ByteArray) (k : Nat) (e : entAt ps d nm = some k) => child_range hi e)
  generalize hres : wk ws ps 0 ns = res
  have HRES := hideIt hres
  clear hres
  clear h1 h2 hcW hcP hcellW hcellP hcL hL hi
  obtain ⟨W, hW⟩ : ∃ W, W = w.alloc (.cells #[.slice (some ⟨bW, oW, none⟩) ws.length cW, .slice (some ⟨bP, oP, none⟩) ps.length cP] 98) := ⟨_, rfl⟩
  have CA : Hid (∀ w', Below W.heap.size W w' → w'.cell? ⟨w.heap.size, 0, none⟩ = some (.slice (some ⟨bW, oW, none⟩) ws.length cW) ∧ w'.cell? ⟨w.heap.size, 1, none⟩ = some (.slice (some ⟨bP, oP, none⟩) ps.length cP)) := fun w' hb => by
    have : w'.heap[w.heap.size]? = some (.cells #[.slice (some ⟨bW, oW, none⟩) ws.length cW, .slice (some ⟨bP, oP, none⟩) ps.length cP] 98 (0, 0)) := (hb.block _ (by rw [hW]; simp)).trans (by rw [hW]; exact at_new rfl)
    exact ⟨(two_cells this).1, (two_cells this).2.1⟩
  have BW : Hid (Below w.heap.size w W) := by rw [hW]; exact (Below.refl _ _).alloc (Nat.le_refl _) _
  have hz : w.heap.size ≤ W.heap.size := BW.out.size
  go_enter Tryz.func132, Tryz.ntmps132
  go_wp2
  rw [← hW]
  clear hW
  go_loopg [6, 7] ns.length (fun g a i wr => ∃ (k : Nat) (z : Nat), k + g = ns.length ∧ z < 16 ∧ a = .int .i64 z ∧ i = .int .i64 k ∧ Hid (Below W.heap.size W wr ∧ res = wk ws ps z (ns.drop k)))
  case atStart => exact ⟨0, 0, by omega, by omega, rfl, rfl, Below.refl _ _, HRES.out.symm⟩
  case round =>
    obtain ⟨k, z, hk, hz16, rfl, rfl, J⟩ := hrel
    obtain ⟨x0, x1⟩ := CA.out wr J.out.1
    have B := hideIt (below_trans BW.out J.out.1 hz)
    have J1 := hideIt J.out.1
    have k0 : (0 : Int) ≤ (k : Int) := by omega
    have z0 : (0 : Int) ≤ (z : Int) := by omega
    have z1 : (z : Int) < (ws.length : Int) := by have := L16.out; omega
    by_cases hlt : k < ns.length
    · have k1 : (k : Int) < (ns.length : Int) := by omega
      have y0 := HW.out wr B.out z hz16
      have JD : Hid (res = wk ws ps z (ns[k] :: ns.drop (k + 1))) := by unfold Hid; rw [J.out.2, List.drop_eq_getElem_cons hlt]
      obtain ⟨bL, oL, rfl, hblL, hcell⟩ := HN.out (by omega)
      have n0 := (B.out.cell (p := ⟨bL, oL + k, none⟩) hblL).trans (hcell k hlt)
      have WN := hideIt (fun (h : ¬ kindAt ws z = 2) => wk_nodir (ps := ps) (n := ns[k]) (ns := ns.drop (k + 1)) h)
      have WO := hideIt (fun (h : kindAt ws z = 2) (e : entAt ps z ns[k] = none) => wk_none (ns := ns.drop (k + 1)) h e)
      have WS := hideIt (fun (h : kindAt ws z = 2) (j : Nat) (e : entAt ps z ns[k] = some j) => wk_some (ns := ns.drop (k + 1)) h e)
      have EI := hideIt (show entI ps z ns[k] = match entAt ps z ns[k] with | none => -1 | some k => (k : Int) from rfl)
      have CR2 := hideIt (fun (j : Nat) (e : entAt ps z ns[k] = some j) => CR.out _ _ _ e)
      have LE2 := hideIt (fun w1 (hb : Below wr.heap.size wr w1) => LE.out (z : Int) ns[k] w1 (HR.out.below (below_trans B.out hb B.out.size)))
      clear J hcell
      generalize kindAt ws z = kk at *
      clear HRES
      generalize ns[k] = nm at *
      by_cases q : kk = 2
      case neg =>
        have q1 : (kk != 2) = true := by rw [bne_iff_ne]; exact q
        obtain rfl := JD.out.trans (WN.out q)
        clear q WN WO WS EI CR2 LE2
        go_wp2
        go_ret2
        exact ⟨rfl, B.out⟩
      have q1 : (kk != 2) = false := by rw [q]; rfl
      have SK : Hid (∀ w', Below wr.heap.size wr w' → (w'.cell? ⟨w.heap.size, 0, none⟩ = some (.slice (some ⟨bW, oW, none⟩) ws.length cW) ∧ w'.cell? ⟨w.heap.size, 1, none⟩ = some (.slice (some ⟨bP, oP, none⟩) ps.length cP)) ∧ w'.cell? ⟨bL, oL + k, none⟩ = some (.string nm)) := fun w' hb => ⟨CA.out w' (below_trans J1.out hb J1.out.size), (hb.cell (p := ⟨bL, oL + k, none⟩) (Nat.lt_of_lt_of_le hblL B.out.size)).trans n0⟩
      cases e : entAt ps z nm with
      | none =>
        have W2 := hideIt (JD.out.trans (WO.out q e))
        rw [e] at EI
        obtain rfl := W2.out
        have EI2 : Hid (entI ps z nm = -1) := EI
        rw [EI2.out] at LE2
        clear q WN WO WS EI CR2 W2 JD e
        go_wp2_with fail
        go_region_held3 (fun w' => (w'.cell? ⟨w.heap.size, 0, none⟩ = some (.slice (some ⟨bW, oW, none⟩) ws.length cW) ∧ w'.cell? ⟨w.heap.size, 1, none⟩ = some (.slice (some ⟨bP, oP, none⟩) ps.length cP)) ∧ w'.cell? ⟨bL, oL + k, none⟩ = some (.string nm))
          (exact SK.out _ (by repeat (first | exact BF.out | exact Below.refl _ _ | refine Below.drew ?_)))
          (first
            | (go_at_call 131; refine (LE2.out _ (by repeat (first | exact Below.refl _ _ | refine Below.drew ?_))).mono ?_; rintro e w1 ⟨rfl, hb1⟩; have BF : Hid (Below wr.heap.size wr w1) := (by first | exact hb1 | exact below_trans (by repeat (first | exact Below.refl _ _ | refine Below.drew ?_)) hb1 (Nat.le_refl _)); clear hb1))
        all_goals
          have B3 := hideIt (below_trans B.out BF.out B.out.size)
          clear SK x0 x1 y0 n0
          go_wp2
          go_ret2
          exact ⟨rfl, (by repeat (first | exact B3.out | refine Below.drew ?_))⟩
      | some j =>
        have W2 := hideIt (JD.out.trans (WS.out q j e))
        obtain ⟨hj, c1, c2⟩ := CR2.out j e
        rw [e] at EI
        have EI2 : Hid (entI ps z nm = (j : Int)) := EI
        rw [EI2.out] at LE2
        obtain ⟨y, hy⟩ : ∃ y : Nat, childAt ps j = (y : Int) := ⟨(childAt ps j).toNat, by omega⟩
        have HJ := hideIt (fun w' (hb : Below w.heap.size w w') => HP.out w' hb j hj)
        rw [hy] at HJ W2
        have y16 : y < 16 := by omega
        have j0 : (0 : Int) ≤ (j : Int) := by omega
        have j1 : (j : Int) < (ps.length : Int) := by omega
        have j2 : ¬ (j : Int) < 0 := by omega
        clear q WN WO WS EI CR2 JD e hy c1 c2
        go_wp2_with fail
        go_region_held3 (fun w' => (w'.cell? ⟨w.heap.size, 0, none⟩ = some (.slice (some ⟨bW, oW, none⟩) ws.length cW) ∧ w'.cell? ⟨w.heap.size, 1, none⟩ = some (.slice (some ⟨bP, oP, none⟩) ps.length cP)) ∧ w'.cell? ⟨bL, oL + k, none⟩ = some (.string nm))
          (exact SK.out _ (by repeat (first | exact BF.out | exact Below.refl _ _ | refine Below.drew ?_)))
          (first
            | (go_at_call 131; refine (LE2.out _ (by repeat (first | exact Below.refl _ _ | refine Below.drew ?_))).mono ?_; rintro e w1 ⟨rfl, hb1⟩; have BF : Hid (Below wr.heap.size wr w1) := (by first | exact hb1 | exact below_trans (by repeat (first | exact Below.refl _ _ | refine Below.drew ?_)) hb1 (Nat.le_refl _)); clear hb1))
        all_goals
          have B3 := hideIt (below_trans B.out BF.out B.out.size)
          have B4 := hideIt (below_trans J1.out BF.out J1.out.size)
          have p1 := (SK.out _ BF.out).1.2
          have p2 := HJ.out _ B3.out
          clear SK x0 x1 y0 n0
          go_wp2
          go_roundg (ns.length - (k + 1))
          case measure => omega
          case rel => exact ⟨k + 1, y, by omega, y16, rfl, by go_num, (by repeat (first | exact B4.out | refine Below.drew ?_)), W2.out⟩
    · obtain rfl : k = ns.length := by omega
      have E : Hid (res = ((z : Int), 0)) := by unfold Hid; rw [J.out.2, List.drop_length]; rfl
      clear HRES J
      obtain rfl := E.out
      go_wp2
      go_ret2
      exact ⟨rfl, B.out⟩
end Go.Proofs.YtmeiionabonhnaaGreatDoor
