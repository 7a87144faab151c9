/- Several texts laid together: PcA, PcB, PcC, PcD, PcE, PcF, PcG. -/
import Derived.Test.YtpljkdbeekplbaaDoorZB
import Derived.Test.YtpljkdbeekplbaaDoorZA
import Derived.Deep.LoopGhost
import Derived.Deep.RegionHeld3
import Derived.Test.YtpljkdbeekplbaaDoorImP
namespace Go.Proofs.YtpljkdbeekplbaaDoor
open Go.RowKit

/-- An entry has this name in this directory. -/
def entHit (d : Int) (nm : ByteArray) (x : Den) : Bool := decide (0 ≤ x.child) && (x.dir == d && x.name.toList == nm.toList)
/-- The first such entry. -/
def entAt (ps : List Den) (d : Int) (nm : ByteArray) : Option Nat := ps.findIdx? (entHit d nm)
def entI (ps : List Den) (d : Int) (nm : ByteArray) : Int := match entAt ps d nm with | none => -1 | some k => (k : Int)
def childAt (ps : List Den) (k : Nat) : Int := (ps.getD k ⟨0, ⟨#[]⟩, 0⟩).child
theorem childAt_of {ps : List Den} {k : Nat} (h : k < ps.length) : childAt ps k = ps[k].child := by
  unfold childAt
  rw [List.getD_eq_getElem?_getD, List.getElem?_eq_getElem h]; rfl
theorem ent_no {ps : List Den} {d : Int} {nm : ByteArray} (h : ∀ j (h : j < ps.length), entHit d nm ps[j] = false) : entAt ps d nm = none := by
  unfold entAt
  rw [List.findIdx?_eq_none_iff]
  intro x hx
  obtain ⟨j, hj, rfl⟩ := List.getElem_of_mem hx
  exact h j hj
theorem ent_yes {ps : List Den} {d : Int} {nm : ByteArray} {k : Nat} (hk : k < ps.length) (h : ∀ j (h : j < ps.length), j < k → entHit d nm ps[j] = false) (e : entHit d nm ps[k] = true) : entAt ps d nm = some k := by
  unfold entAt
  rw [List.findIdx?_eq_some_iff_getElem]
  exact ⟨hk, e, fun j hj => by rw [h j (by omega) hj]; simp⟩
theorem ent_some {ps : List Den} {d : Int} {nm : ByteArray} {k : Nat} (h : entAt ps d nm = some k) : ∃ hk : k < ps.length, entHit d nm ps[k] = true := by
  unfold entAt at h
  rw [List.findIdx?_eq_some_iff_getElem] at h
  obtain ⟨hk, e, _⟩ := h
  exact ⟨hk, e⟩
theorem hit_child {d : Int} {nm : ByteArray} {x : Den} (h : entHit d nm x = true) : 0 ≤ x.child := by
  unfold entHit at h
  simp only [Bool.and_eq_true, decide_eq_true_eq] at h
  exact h.1
/-- Where a path leads, name by name: the inode and a code. -/
def wk (ws : List Ino) (ps : List Den) : Int → List ByteArray → Int × Int
  | z, [] => (z, 0)
  | z, n :: ns => if kindAt ws z = 2 then (match entAt ps z n with | none => (0, 5) | some k => wk ws ps (childAt ps k) ns) else (0, 10)
theorem wk_nil (ws : List Ino) (ps : List Den) (z : Int) : wk ws ps z [] = (z, 0) := rfl
theorem wk_nodir {ws : List Ino} {ps : List Den} {z : Int} {n : ByteArray} {ns : List ByteArray} (h : ¬ kindAt ws z = 2) : wk ws ps z (n :: ns) = (0, 10) := by
  show (if kindAt ws z = 2 then _ else _) = _
  rw [if_neg h]
theorem wk_none {ws : List Ino} {ps : List Den} {z : Int} {n : ByteArray} {ns : List ByteArray} (h : kindAt ws z = 2) (e : entAt ps z n = none) : wk ws ps z (n :: ns) = (0, 5) := by
  show (if kindAt ws z = 2 then (match entAt ps z n with | none => (0, 5) | some k => wk ws ps (childAt ps k) ns) else _) = _
  rw [if_pos h, e]
theorem wk_some {ws : List Ino} {ps : List Den} {z : Int} {n : ByteArray} {ns : List ByteArray} {k : Nat} (h : kindAt ws z = 2) (e : entAt ps z n = some k) : wk ws ps z (n :: ns) = wk ws ps (childAt ps k) ns := by
  show (if kindAt ws z = 2 then (match entAt ps z n with | none => (0, 5) | some k => wk ws ps (childAt ps k) ns) else _) = _
  rw [if_pos h, e]
theorem child_range {ws : List Ino} {ps : List Den} (h : imgB ws ps = true) {d : Int} {nm : ByteArray} {k : Nat} (e : entAt ps d nm = some k) : k < ps.length ∧ 0 ≤ childAt ps k ∧ childAt ps k ≤ 15 := by
  obtain ⟨hk, q⟩ := ent_some e
  have := hit_child q
  rw [childAt_of hk]
  rcases pimg_ent h k hk with r | r
  · omega
  · exact ⟨hk, by omega, by omega⟩
theorem wk_range {ws : List Ino} {ps : List Den} (h : imgB ws ps = true) : ∀ (ns : List ByteArray) (z : Int), 0 ≤ z ∧ z ≤ 15 → 0 ≤ (wk ws ps z ns).1 ∧ (wk ws ps z ns).1 ≤ 15
  | [], z, hz => hz
  | n :: ns, z, hz => by
    by_cases c : kindAt ws z = 2
    · cases e : entAt ps z n with
      | none => rw [wk_none c e]; exact ⟨by decide, by decide⟩
      | some k => rw [wk_some c e]; exact wk_range h ns _ (child_range h e).2
    · rw [wk_nodir c]; exact ⟨by decide, by decide⟩

set_option maxRecDepth 100000 in
set_option maxHeartbeats 4000000 in
theorem l06Entry_any (v : Value) (ws : List Ino) (ps : List Den) (d : Int) (nm : ByteArray) (w : World) (h : RdIm w v ws ps) (hn : ps.length ≤ 1048576) :
    Calls Tryd.prog 113 #[v, .int .i64 d, .string nm] w fun e w' => e = .returned (.int .i64 (entI ps d nm)) ∧ Below w.heap.size w w' := by
  obtain ⟨vW, vP, rfl, h1, h2⟩ := h
  obtain ⟨aW, cW, rfl, _⟩ := h1.shape
  obtain ⟨aP, cP, rfl, _, hcP⟩ := h2.shape
  have HZ := hideIt hcP
  clear h1 h2 hcP
  obtain ⟨W, hW⟩ : ∃ W, W = w.alloc (.cells #[.slice aW ws.length cW, .slice aP ps.length cP] 30) := ⟨_, rfl⟩
  have CA : Hid (∀ w', Below W.heap.size W w' → w'.cell? ⟨w.heap.size, 1, none⟩ = some (.slice aP ps.length cP)) := fun w' hb => by
    have : w'.heap[w.heap.size]? = some (.cells #[.slice aW ws.length cW, .slice aP ps.length cP] 30 (0, 0)) := (hb.block _ (by rw [hW]; simp)).trans (by rw [hW]; exact at_new rfl)
    exact (two_cells this).2.1
  have BW : Hid (Below w.heap.size w W) := by rw [hW]; exact (Below.refl _ _).alloc (Nat.le_refl _) _
  have hz : w.heap.size ≤ W.heap.size := BW.out.size
  go_enter Tryd.func113, Tryd.ntmps113
  go_wp2
  rw [← hW]
  clear hW
  go_loopg [7] ps.length (fun g i wr => ∃ k : Nat, k + g = ps.length ∧ i = .int .i64 k ∧ Hid (Below W.heap.size W wr ∧ ∀ j (h : j < ps.length), j < k → entHit d nm ps[j] = false))
  case atStart => exact ⟨0, by omega, rfl, Below.refl _ _, fun j h a => absurd a (by omega)⟩
  case round =>
    obtain ⟨k, hk, rfl, J⟩ := hrel
    have x1 := CA.out wr J.out.1
    have B := hideIt (below_trans BW.out J.out.1 hz)
    have k0 : (0 : Int) ≤ (k : Int) := by omega
    by_cases hlt : k < ps.length
    · obtain ⟨b, o, rfl, hbl, hcell⟩ := HZ.out (by omega)
      obtain ⟨c0, c1, c2⟩ := hcell k hlt
      have d0 := (B.out.cell (p := ⟨b, o + k * 3, none⟩) hbl).trans c0
      have d1 := (B.out.cell (p := ⟨b, o + k * 3 + 1, none⟩) hbl).trans c1
      have d2 := (B.out.cell (p := ⟨b, o + k * 3 + 2, none⟩) hbl).trans c2
      have k1 : (k : Int) < (ps.length : Int) := by omega
      have HY := hideIt (fun e : entHit d nm ps[k] = true => show entI ps d nm = (k : Int) by unfold entI; rw [ent_yes hlt J.out.2 e])
      have HX := hideIt (fun (e : entHit d nm ps[k] = false) j (h : j < ps.length) (a : j < k + 1) => show entHit d nm ps[j] = false by
        by_cases q : j = k
        · subst q; exact e
        · exact J.out.2 j h (by omega))
      have EH := hideIt (show entHit d nm ps[k] = (decide (0 ≤ ps[k].child) && (ps[k].dir == d && ps[k].name.toList == nm.toList)) from rfl)
      have J1 := hideIt J.out.1
      clear hcell c0 c1 c2 J
      generalize entHit d nm ps[k] = hit at *
      generalize ps[k].child = y at *
      generalize ps[k].dir = yd at *
      generalize ps[k].name = yn at *
      have BX := hideIt ((Below.refl wr.heap.size wr).alloc (Nat.le_refl _) (.cells #[.int .i64 yd, .string yn, .int .i64 y] 79))
      have B5 := hideIt (below_trans J1.out BX.out J1.out.size)
      have B6 := hideIt (below_trans B.out BX.out B.out.size)
      by_cases q : 0 ≤ y
      case neg =>
        have q1 : ¬ y ≥ 0 := q
        have E := hideIt (HX.out (by rw [EH.out, decide_eq_false q]; rfl))
        clear q HX HY EH
        go_wp2
        go_roundg (ps.length - (k + 1))
        case measure => omega
        case rel => exact ⟨k + 1, by omega, by go_num, B5.out, E.out⟩
      have q1 : y ≥ 0 := q
      by_cases r : yd = d
      case neg =>
        have r1 : (yd == d) = false := beq_eq_false_iff_ne.2 r
        have E := hideIt (HX.out (by rw [EH.out, r1]; simp))
        clear q r HX HY EH
        go_wp2
        go_roundg (ps.length - (k + 1))
        case measure => omega
        case rel => exact ⟨k + 1, by omega, by go_num, B5.out, E.out⟩
      have r1 : (yd == d) = true := beq_iff_eq.2 r
      cases t : (yn.toList == nm.toList) with
      | false =>
        have E := hideIt (HX.out (by rw [EH.out, t]; simp))
        clear q r HX HY EH
        go_wp2
        go_roundg (ps.length - (k + 1))
        case measure => omega
        case rel => exact ⟨k + 1, by omega, by go_num, B5.out, E.out⟩
      | true =>
        have E := hideIt (HY.out (by rw [EH.out, t, r1, decide_eq_true q]; rfl))
        clear q r HX HY EH
        go_wp2
        go_ret
        exact ⟨ret_int E.out.symm, B6.out⟩
    · obtain rfl : k = ps.length := by omega
      have E := hideIt (show entI ps d nm = -1 by unfold entI; rw [ent_no (fun j h => J.out.2 j h h)])
      clear J
      go_wp2
      go_ret
      exact ⟨ret_int E.out.symm, B.out⟩
end Go.Proofs.YtpljkdbeekplbaaDoor

namespace Go.Proofs.YtpljkdbeekplbaaDoor
open Go.RowKit

set_option maxRecDepth 100000 in
set_option maxHeartbeats 4000000 in
theorem l06Walk_any (v vL : Value) (ws : List Ino) (ps : List Den) (ns : List ByteArray) (w : World) (h : RdIm w v ws ps) (hL : RdT w vL ns) (hi : imgB ws ps = true) (hn : ns.length ≤ 1048576) :
    Calls Tryd.prog 109 #[v, vL] w fun e w' => e = .returned (.tuple #[.int .i64 (wk ws ps 0 ns).1, .int .i64 (wk ws ps 0 ns).2]) ∧ Below w.heap.size w w' := by
  have HR := hideIt h
  have LE := hideIt (fun d nm w1 h => l06Entry_any v ws ps d nm w1 h (by have := (pimg_all hi).2.1; omega))
  obtain ⟨vW, vP, rfl, h1, h2⟩ := h
  obtain ⟨aW, cW, rfl, _, hcW⟩ := h1.shape
  obtain ⟨aP, cP, rfl, _, hcP⟩ := h2.shape
  obtain ⟨aL, cL, rfl, _, hcL⟩ := hL.shape
  have L16 := hideIt (pimg_all hi).1
  have L24 := hideIt (pimg_all hi).2.1
  obtain ⟨bW, oW, rfl, hblW, hcellW⟩ := hcW (by have := L16.out; omega)
  obtain ⟨bP, oP, rfl, hblP, hcellP⟩ := hcP (by have := L24.out; omega)
  have HW : Hid (∀ w', Below w.heap.size w w' → ∀ n : Nat, n < 16 → w'.cell? ⟨bW, oW + n * 11, none⟩ = some (.int .i64 (kindAt ws n))) := fun w' hb n hn => by
    have hnl : n < ws.length := by have := L16.out; omega
    rw [kindAt_of hnl]
    exact (hb.cell (p := ⟨bW, oW + n * 11, none⟩) hblW).trans (hcellW n hnl).1
  have HP : Hid (∀ w', Below w.heap.size w w' → ∀ k (h : k < ps.length), w'.cell? ⟨bP, oP + k * 3 + 2, none⟩ = some (.int .i64 (childAt ps k))) := fun w' hb k hk => by
    rw [childAt_of hk]
    exact (hb.cell (p := ⟨bP, oP + k * 3 + 2, none⟩) hblP).trans (hcellP k hk).2.2
  have HN := hideIt hcL
  have CR := hideIt (fun (d : Int) (nm : ByteArray) (k : Nat) (e : entAt ps d nm = some k) => child_range hi e)
  generalize hres : wk ws ps 0 ns = res
  have HRES := hideIt hres
  clear hres
  clear h1 h2 hcW hcP hcellW hcellP hcL hL hi
  obtain ⟨W, hW⟩ : ∃ W, W = w.alloc (.cells #[.slice (some ⟨bW, oW, none⟩) ws.length cW, .slice (some ⟨bP, oP, none⟩) ps.length cP] 30) := ⟨_, rfl⟩
  have CA : Hid (∀ w', Below W.heap.size W w' → w'.cell? ⟨w.heap.size, 0, none⟩ = some (.slice (some ⟨bW, oW, none⟩) ws.length cW) ∧ w'.cell? ⟨w.heap.size, 1, none⟩ = some (.slice (some ⟨bP, oP, none⟩) ps.length cP)) := fun w' hb => by
    have : w'.heap[w.heap.size]? = some (.cells #[.slice (some ⟨bW, oW, none⟩) ws.length cW, .slice (some ⟨bP, oP, none⟩) ps.length cP] 30 (0, 0)) := (hb.block _ (by rw [hW]; simp)).trans (by rw [hW]; exact at_new rfl)
    exact ⟨(two_cells this).1, (two_cells this).2.1⟩
  have BW : Hid (Below w.heap.size w W) := by rw [hW]; exact (Below.refl _ _).alloc (Nat.le_refl _) _
  have hz : w.heap.size ≤ W.heap.size := BW.out.size
  go_enter Tryd.func109, Tryd.ntmps109
  go_wp2
  rw [← hW]
  clear hW
  go_loopg [6, 7] ns.length (fun g a i wr => ∃ (k : Nat) (z : Nat), k + g = ns.length ∧ z < 16 ∧ a = .int .i64 z ∧ i = .int .i64 k ∧ Hid (Below W.heap.size W wr ∧ res = wk ws ps z (ns.drop k)))
  case atStart => exact ⟨0, 0, by omega, by omega, rfl, rfl, Below.refl _ _, HRES.out.symm⟩
  case round =>
    obtain ⟨k, z, hk, hz16, rfl, rfl, J⟩ := hrel
    obtain ⟨x0, x1⟩ := CA.out wr J.out.1
    have B := hideIt (below_trans BW.out J.out.1 hz)
    have J1 := hideIt J.out.1
    have k0 : (0 : Int) ≤ (k : Int) := by omega
    have z0 : (0 : Int) ≤ (z : Int) := by omega
    have z1 : (z : Int) < (ws.length : Int) := by have := L16.out; omega
    by_cases hlt : k < ns.length
    · have k1 : (k : Int) < (ns.length : Int) := by omega
      have y0 := HW.out wr B.out z hz16
      have JD : Hid (res = wk ws ps z (ns[k] :: ns.drop (k + 1))) := by unfold Hid; rw [J.out.2, List.drop_eq_getElem_cons hlt]
      obtain ⟨bL, oL, rfl, hblL, hcell⟩ := HN.out (by omega)
      have n0 := (B.out.cell (p := ⟨bL, oL + k, none⟩) hblL).trans (hcell k hlt)
      have WN := hideIt (fun (h : ¬ kindAt ws z = 2) => wk_nodir (ps := ps) (n := ns[k]) (ns := ns.drop (k + 1)) h)
      have WO := hideIt (fun (h : kindAt ws z = 2) (e : entAt ps z ns[k] = none) => wk_none (ns := ns.drop (k + 1)) h e)
      have WS := hideIt (fun (h : kindAt ws z = 2) (j : Nat) (e : entAt ps z ns[k] = some j) => wk_some (ns := ns.drop (k + 1)) h e)
      have EI := hideIt (show entI ps z ns[k] = match entAt ps z ns[k] with | none => -1 | some k => (k : Int) from rfl)
      have CR2 := hideIt (fun (j : Nat) (e : entAt ps z ns[k] = some j) => CR.out _ _ _ e)
      have LE2 := hideIt (fun w1 (hb : Below wr.heap.size wr w1) => LE.out (z : Int) ns[k] w1 (HR.out.below (below_trans B.out hb B.out.size)))
      clear J hcell
      generalize kindAt ws z = kk at *
      clear HRES
      generalize ns[k] = nm at *
      by_cases q : kk = 2
      case neg =>
        have q1 : (kk != 2) = true := by rw [bne_iff_ne]; exact q
        obtain rfl := JD.out.trans (WN.out q)
        clear q WN WO WS EI CR2 LE2
        go_wp2
        go_ret2
        exact ⟨rfl, B.out⟩
      have q1 : (kk != 2) = false := by rw [q]; rfl
      have SK : Hid (∀ w', Below wr.heap.size wr w' → (w'.cell? ⟨w.heap.size, 0, none⟩ = some (.slice (some ⟨bW, oW, none⟩) ws.length cW) ∧ w'.cell? ⟨w.heap.size, 1, none⟩ = some (.slice (some ⟨bP, oP, none⟩) ps.length cP)) ∧ w'.cell? ⟨bL, oL + k, none⟩ = some (.string nm)) := fun w' hb => ⟨CA.out w' (below_trans J1.out hb J1.out.size), (hb.cell (p := ⟨bL, oL + k, none⟩) (Nat.lt_of_lt_of_le hblL B.out.size)).trans n0⟩
      cases e : entAt ps z nm with
      | none =>
        have W2 := hideIt (JD.out.trans (WO.out q e))
        rw [e] at EI
        obtain rfl := W2.out
        have EI2 : Hid (entI ps z nm = -1) := EI
        rw [EI2.out] at LE2
        clear q WN WO WS EI CR2 W2 JD e
        go_wp2_with fail
        go_region_held3 (fun w' => (w'.cell? ⟨w.heap.size, 0, none⟩ = some (.slice (some ⟨bW, oW, none⟩) ws.length cW) ∧ w'.cell? ⟨w.heap.size, 1, none⟩ = some (.slice (some ⟨bP, oP, none⟩) ps.length cP)) ∧ w'.cell? ⟨bL, oL + k, none⟩ = some (.string nm))
          (exact SK.out _ (by repeat (first | exact BF.out | exact Below.refl _ _ | refine Below.drew ?_)))
          (first
            | (go_at_call 113; refine (LE2.out _ (by repeat (first | exact Below.refl _ _ | refine Below.drew ?_))).mono ?_; rintro e w1 ⟨rfl, hb1⟩; have BF : Hid (Below wr.heap.size wr w1) := (by first | exact hb1 | exact below_trans (by repeat (first | exact Below.refl _ _ | refine Below.drew ?_)) hb1 (Nat.le_refl _)); clear hb1))
        all_goals
          have B3 := hideIt (below_trans B.out BF.out B.out.size)
          clear SK x0 x1 y0 n0
          go_wp2
          go_ret2
          exact ⟨rfl, (by repeat (first | exact B3.out | refine Below.drew ?_))⟩
      | some j =>
        have W2 := hideIt (JD.out.trans (WS.out q j e))
        obtain ⟨hj, c1, c2⟩ := CR2.out j e
        rw [e] at EI
        have EI2 : Hid (entI ps z nm = (j : Int)) := EI
        rw [EI2.out] at LE2
        obtain ⟨y, hy⟩ : ∃ y : Nat, childAt ps j = (y : Int) := ⟨(childAt ps j).toNat, by omega⟩
        have HJ := hideIt (fun w' (hb : Below w.heap.size w w') => HP.out w' hb j hj)
        rw [hy] at HJ W2
        have y16 : y < 16 := by omega
        have j0 : (0 : Int) ≤ (j : Int) := by omega
        have j1 : (j : Int) < (ps.length : Int) := by omega
        have j2 : ¬ (j : Int) < 0 := by omega
        clear q WN WO WS EI CR2 JD e hy c1 c2
        go_wp2_with fail
        go_region_held3 (fun w' => (w'.cell? ⟨w.heap.size, 0, none⟩ = some (.slice (some ⟨bW, oW, none⟩) ws.length cW) ∧ w'.cell? ⟨w.heap.size, 1, none⟩ = some (.slice (some ⟨bP, oP, none⟩) ps.length cP)) ∧ w'.cell? ⟨bL, oL + k, none⟩ = some (.string nm))
          (exact SK.out _ (by repeat (first | exact BF.out | exact Below.refl _ _ | refine Below.drew ?_)))
          (first
            | (go_at_call 113; refine (LE2.out _ (by repeat (first | exact Below.refl _ _ | refine Below.drew ?_))).mono ?_; rintro e w1 ⟨rfl, hb1⟩; have BF : Hid (Below wr.heap.size wr w1) := (by first | exact hb1 | exact below_trans (by repeat (first | exact Below.refl _ _ | refine Below.drew ?_)) hb1 (Nat.le_refl _)); clear hb1))
        all_goals
          have B3 := hideIt (below_trans B.out BF.out B.out.size)
          have B4 := hideIt (below_trans J1.out BF.out J1.out.size)
          have p1 := (SK.out _ BF.out).1.2
          have p2 := HJ.out _ B3.out
          clear SK x0 x1 y0 n0
          go_wp2
          go_roundg (ns.length - (k + 1))
          case measure => omega
          case rel => exact ⟨k + 1, y, by omega, y16, rfl, by go_num, (by repeat (first | exact B4.out | refine Below.drew ?_)), W2.out⟩
    · obtain rfl : k = ns.length := by omega
      have E : Hid (res = ((z : Int), 0)) := by unfold Hid; rw [J.out.2, List.drop_length]; rfl
      clear HRES J
      obtain rfl := E.out
      go_wp2
      go_ret2
      exact ⟨rfl, B.out⟩
end Go.Proofs.YtpljkdbeekplbaaDoor

namespace Go.Proofs.YtpljkdbeekplbaaDoor
open Go.RowKit

/-- What Lookup answers: of names, of a text. -/
def lkI (ws : List Ino) (ps : List Den) (s : ByteArray) : Int × Int := if spB s = true then wk ws ps 0 (spL s) else (0, 12)
def lkR (ws : List Ino) (ps : List Den) (s : ByteArray) : Int × Int := if 65536 < s.size then (0, 2) else if imgB ws ps = true then lkI ws ps s else (0, 1)
/-- What Parent answers. -/
def paN (ws : List Ino) (ps : List Den) (xs : List ByteArray) (x : ByteArray) : Int × ByteArray × Int := if (wk ws ps 0 xs).2 = 0 then (if kindAt ws (wk ws ps 0 xs).1 = 2 then ((wk ws ps 0 xs).1, x, 0) else (0, ⟨#[]⟩, 10)) else (0, ⟨#[]⟩, (wk ws ps 0 xs).2)
def paL (ws : List Ino) (ps : List Den) (ns : List ByteArray) : Int × ByteArray × Int := if ns = [] then (0, ⟨#[]⟩, 19) else paN ws ps ns.dropLast (ns.getLastD ⟨#[]⟩)
def paI (ws : List Ino) (ps : List Den) (s : ByteArray) : Int × ByteArray × Int := if spB s = true then paL ws ps (spL s) else (0, ⟨#[]⟩, 12)
def paR (ws : List Ino) (ps : List Den) (s : ByteArray) : Int × ByteArray × Int := if 65536 < s.size then (0, ⟨#[]⟩, 2) else if imgB ws ps = true then paI ws ps s else (0, ⟨#[]⟩, 1)
theorem paL_snoc (ws : List Ino) (ps : List Den) (xs : List ByteArray) (x : ByteArray) : paL ws ps (xs ++ [x]) = paN ws ps xs x := by
  unfold paL
  rw [if_neg (by simp), List.dropLast_concat]
  congr 1
  simp
theorem snoc_of {ns : List ByteArray} (h : ¬ ns = []) : ∃ xs x, ns = xs ++ [x] := ⟨ns.dropLast, ns.getLast h, (List.dropLast_concat_getLast h).symm⟩

set_option maxRecDepth 100000 in
set_option maxHeartbeats 4000000 in
theorem l06Lookup_any (v : Value) (ws : List Ino) (ps : List Den) (s : ByteArray) (w : World) (h : RdIm w v ws ps) (hi : imgB ws ps = true) (hs : s.size ≤ 65536) :
    Calls Tryd.prog 66 #[v, .string s] w fun e w' => e = .returned (.tuple #[.int .i64 (lkI ws ps s).1, .int .i64 (lkI ws ps s).2]) ∧ Below w.heap.size w w' := by
  have HR := hideIt h
  have LS := hideIt (fun w1 => l06Split_any s w1 hs)
  have LW := hideIt (fun vL w1 h hL => l06Walk_any v vL ws ps (spL s) w1 h hL hi (by have := @spL_len s; omega))
  have EL := hideIt (show lkI ws ps s = if spB s = true then wk ws ps 0 (spL s) else (0, 12) from rfl)
  obtain ⟨vW, vP, rfl, h1, h2⟩ := h
  obtain ⟨aW, cW, rfl, _, _⟩ := h1.shape
  obtain ⟨aP, cP, rfl, _, _⟩ := h2.shape
  clear h1 h2 hi
  have CA : Hid (∀ w', Below (w.alloc (.cells #[.slice aW ws.length cW, .slice aP ps.length cP] 30)).heap.size (w.alloc (.cells #[.slice aW ws.length cW, .slice aP ps.length cP] 30)) w' → w'.cell? ⟨w.heap.size, 0, none⟩ = some (.slice aW ws.length cW) ∧ w'.cell? ⟨w.heap.size, 1, none⟩ = some (.slice aP ps.length cP)) := fun w' hb => by
    have : w'.heap[w.heap.size]? = some (.cells #[.slice aW ws.length cW, .slice aP ps.length cP] 30 (0, 0)) := (hb.block _ (by simp)).trans (at_new rfl)
    exact ⟨(two_cells this).1, (two_cells this).2.1⟩
  have BW : Hid (Below w.heap.size w (w.alloc (.cells #[.slice aW ws.length cW, .slice aP ps.length cP] 30))) := (Below.refl _ _).alloc (Nat.le_refl _) _
  generalize lkI ws ps s = res at *
  generalize wk ws ps 0 (spL s) = rw0 at *
  cases c : spB s with
  | false =>
    rw [c] at LS EL
    obtain rfl := EL.out
    clear EL LW
    go_enter Tryd.func66, Tryd.ntmps66
    go_wp2_with fail
    refine (LS.out _).mono ?_
    rintro e w1 ⟨v1, rfl, hr1, hb1⟩
    have B1 := hideIt (below_trans BW.out hb1 BW.out.size)
    clear hr1 hb1
    go_wp2
    go_ret2
    exact ⟨rfl, B1.out⟩
  | true =>
    rw [c] at LS EL
    obtain rfl : res = rw0 := EL.out
    clear EL
    go_enter Tryd.func66, Tryd.ntmps66
    go_wp2_with fail
    refine (LS.out _).mono ?_
    rintro e w1 ⟨v1, rfl, hr1, hb1⟩
    have B1 := hideIt (below_trans BW.out hb1 BW.out.size)
    obtain ⟨x0, x1⟩ := CA.out _ hb1
    have R1 := hideIt hr1
    clear hr1 hb1
    go_wp2_with fail
    refine (LW.out _ _ (HR.out.below B1.out) R1.out).mono ?_
    rintro e w2 ⟨rfl, hb2⟩
    have B2 := hideIt (below_trans B1.out hb2 B1.out.size)
    clear hb2 x0 x1
    go_wp2
    go_ret2
    exact ⟨rfl, B2.out⟩

set_option maxRecDepth 100000 in
set_option maxHeartbeats 4000000 in
theorem specLookup_any (v : Value) (ws : List Ino) (ps : List Den) (s : ByteArray) (w : World) (h : RdIm w v ws ps) (hw : ws.length ≤ 1048576) (hp : ps.length ≤ 1048576) (hr : ∀ k (h : k < ws.length), ws[k].R) (hs : ∀ k (h : k < ps.length), ps[k].name.size ≤ maxLen) :
    Calls Tryd.prog 27 #[v, .string s] w fun e w' => e = .returned (.tuple #[.int .i64 (lkR ws ps s).1, .int .i64 (lkR ws ps s).2]) ∧ Below w.heap.size w w' := by
  have HR := hideIt h
  have LI := hideIt (fun w1 h => specImageOK_any v ws ps w1 h hw hp hr hs)
  have LL := hideIt (fun w1 h hi hs => l06Lookup_any v ws ps s w1 h hi hs)
  have EL := hideIt (show lkR ws ps s = if 65536 < s.size then (0, 2) else if imgB ws ps = true then lkI ws ps s else (0, 1) from rfl)
  obtain ⟨vW, vP, rfl, h1, h2⟩ := h
  obtain ⟨aW, cW, rfl, _, _⟩ := h1.shape
  obtain ⟨aP, cP, rfl, _, _⟩ := h2.shape
  clear h1 h2 hr hs
  have CA : Hid (∀ w', Below (w.alloc (.cells #[.slice aW ws.length cW, .slice aP ps.length cP] 30)).heap.size (w.alloc (.cells #[.slice aW ws.length cW, .slice aP ps.length cP] 30)) w' → w'.cell? ⟨w.heap.size, 0, none⟩ = some (.slice aW ws.length cW) ∧ w'.cell? ⟨w.heap.size, 1, none⟩ = some (.slice aP ps.length cP)) := fun w' hb => by
    have : w'.heap[w.heap.size]? = some (.cells #[.slice aW ws.length cW, .slice aP ps.length cP] 30 (0, 0)) := (hb.block _ (by simp)).trans (at_new rfl)
    exact ⟨(two_cells this).1, (two_cells this).2.1⟩
  have BW : Hid (Below w.heap.size w (w.alloc (.cells #[.slice aW ws.length cW, .slice aP ps.length cP] 30))) := (Below.refl _ _).alloc (Nat.le_refl _) _
  obtain ⟨x0, x1⟩ := CA.out _ (Below.refl _ _)
  generalize lkR ws ps s = res at *
  by_cases c1 : 65536 < s.size
  · rw [if_pos c1] at EL
    have c2 : (s.size : Int) > 65536 := by omega
    obtain rfl := EL.out
    clear EL c1 LL
    go_enter Tryd.func27, Tryd.ntmps27
    go_wp2
    go_ret2
    exact ⟨rfl, BW.out⟩
  rw [if_neg c1] at EL
  have c2 : ¬ (s.size : Int) > 65536 := by omega
  have LL2 := hideIt (fun w1 h hi => LL.out w1 h hi (by omega))
  clear LL c1
  generalize lkI ws ps s = r1 at *
  cases c3 : imgB ws ps with
  | false =>
    rw [c3] at EL LI
    obtain rfl := EL.out
    clear EL LL2 c3
    go_enter Tryd.func27, Tryd.ntmps27
    go_wp2_with fail
    refine (LI.out _ (HR.out.below BW.out)).mono ?_
    rintro e w1 ⟨rfl, hb1⟩
    have B1 := hideIt (below_trans BW.out hb1 BW.out.size)
    clear hb1 x0 x1
    go_wp2
    go_ret2
    exact ⟨rfl, B1.out⟩
  | true =>
    have C3 := hideIt c3
    rw [c3] at EL LI
    obtain rfl : res = r1 := EL.out
    clear EL c3
    go_enter Tryd.func27, Tryd.ntmps27
    go_wp2_with fail
    refine (LI.out _ (HR.out.below BW.out)).mono ?_
    rintro e w1 ⟨rfl, hb1⟩
    have B1 := hideIt (below_trans BW.out hb1 BW.out.size)
    clear x0 x1
    obtain ⟨x0, x1⟩ := CA.out _ hb1
    clear hb1
    go_wp2_with fail
    refine (LL2.out _ (HR.out.below B1.out) C3.out).mono ?_
    rintro e w2 ⟨rfl, hb2⟩
    have B2 := hideIt (below_trans B1.out hb2 B1.out.size)
    clear hb2 x0 x1
    go_wp2
    go_ret2
    exact ⟨rfl, B2.out⟩
end Go.Proofs.YtpljkdbeekplbaaDoor

namespace Go.Proofs.YtpljkdbeekplbaaDoor
open Go.RowKit

theorem ret_isi {a c : Int} {b : ByteArray} {r : Int × ByteArray × Int} (h : r = (a, b, c)) : Ending.returned (.tuple #[.int .i64 a, .string b, .int .i64 c]) = .returned (.tuple #[.int .i64 r.1, .string r.2.1, .int .i64 r.2.2]) := by rw [h]

set_option maxRecDepth 100000 in
set_option maxHeartbeats 4000000 in
theorem l06Parent_any (v : Value) (ws : List Ino) (ps : List Den) (s : ByteArray) (w : World) (h : RdIm w v ws ps) (hi : imgB ws ps = true) (hs : s.size ≤ 65536) :
    Calls Tryd.prog 71 #[v, .string s] w fun e w' => e = .returned (.tuple #[.int .i64 (paI ws ps s).1, .string (paI ws ps s).2.1, .int .i64 (paI ws ps s).2.2]) ∧ Below w.heap.size w w' := by
  have HR := hideIt h
  have LS := hideIt (fun w1 => l06Split_any s w1 hs)
  have LW := hideIt (fun vL ns w1 h hL hn => l06Walk_any v vL ws ps ns w1 h hL hi hn)
  have WR := hideIt (fun ns => wk_range hi ns 0 (by omega))
  have SL := hideIt (@spL_len s)
  have EL := hideIt (show paI ws ps s = if spB s = true then paL ws ps (spL s) else (0, ⟨#[]⟩, 12) from rfl)
  have L16 := hideIt (pimg_all hi).1
  obtain ⟨vW, vP, rfl, h1, h2⟩ := h
  obtain ⟨aW, cW, rfl, _, hcW⟩ := h1.shape
  obtain ⟨aP, cP, rfl, _, _⟩ := h2.shape
  obtain ⟨bW, oW, rfl, hblW, hcellW⟩ := hcW (by have := L16.out; omega)
  have HW : Hid (∀ w', Below w.heap.size w w' → ∀ n : Nat, n < 16 → w'.cell? ⟨bW, oW + n * 11, none⟩ = some (.int .i64 (kindAt ws n))) := fun w' hb n hn => by
    have hnl : n < ws.length := by have := L16.out; omega
    rw [kindAt_of hnl]
    exact (hb.cell (p := ⟨bW, oW + n * 11, none⟩) hblW).trans (hcellW n hnl).1
  clear h1 h2 hi hcW hcellW
  have CA : Hid (∀ w', Below (w.alloc (.cells #[.slice (some ⟨bW, oW, none⟩) ws.length cW, .slice aP ps.length cP] 30)).heap.size (w.alloc (.cells #[.slice (some ⟨bW, oW, none⟩) ws.length cW, .slice aP ps.length cP] 30)) w' → w'.cell? ⟨w.heap.size, 0, none⟩ = some (.slice (some ⟨bW, oW, none⟩) ws.length cW) ∧ w'.cell? ⟨w.heap.size, 1, none⟩ = some (.slice aP ps.length cP)) := fun w' hb => by
    have : w'.heap[w.heap.size]? = some (.cells #[.slice (some ⟨bW, oW, none⟩) ws.length cW, .slice aP ps.length cP] 30 (0, 0)) := (hb.block _ (by simp)).trans (at_new rfl)
    exact ⟨(two_cells this).1, (two_cells this).2.1⟩
  have BW : Hid (Below w.heap.size w (w.alloc (.cells #[.slice (some ⟨bW, oW, none⟩) ws.length cW, .slice aP ps.length cP] 30))) := (Below.refl _ _).alloc (Nat.le_refl _) _
  generalize hres : paI ws ps s = res at *
  clear hres
  cases c : spB s with
  | false =>
    rw [c] at LS EL
    obtain rfl := EL.out
    clear EL LW
    go_enter Tryd.func71, Tryd.ntmps71
    go_wp2_with fail
    refine (LS.out _).mono ?_
    rintro e w1 ⟨v1, rfl, hr1, hb1⟩
    have B1 := hideIt (below_trans BW.out hb1 BW.out.size)
    clear hr1 hb1
    go_wp2
    go_ret3
    exact ⟨rfl, B1.out⟩
  | true =>
  rw [c] at LS EL
  have EL2 : Hid (res = paL ws ps (spL s)) := EL
  clear EL c
  generalize spL s = ns at *
  by_cases c1 : ns = []
  · subst c1
    obtain rfl := EL2.out
    clear EL2 LW
    go_enter Tryd.func71, Tryd.ntmps71
    go_wp2_with fail
    refine (LS.out _).mono ?_
    rintro e w1 ⟨v1, rfl, hr1, hb1⟩
    have B1 := hideIt (below_trans BW.out hb1 BW.out.size)
    obtain ⟨aL, cL, rfl, _, _⟩ := hr1.shape
    clear hr1 hb1
    simp only [List.length_nil]
    go_wp2
    go_ret3
    exact ⟨rfl, B1.out⟩
  obtain ⟨xs, x, rfl⟩ := snoc_of c1
  rw [paL_snoc] at EL2
  clear c1
  have EP := hideIt (show paN ws ps xs x = if (wk ws ps 0 xs).2 = 0 then (if kindAt ws (wk ws ps 0 xs).1 = 2 then ((wk ws ps 0 xs).1, x, 0) else (0, ⟨#[]⟩, 10)) else (0, ⟨#[]⟩, (wk ws ps 0 xs).2) from rfl)
  rw [EP.out] at EL2
  clear EP
  have sl := SL.out
  rw [List.length_append, List.length_cons, List.length_nil, Nat.zero_add] at sl
  have wr1 := WR.out xs
  have LW2 := hideIt (fun vL w1 h hL => LW.out vL xs w1 h hL (by omega))
  obtain ⟨z, hz⟩ : ∃ z : Nat, (wk ws ps 0 xs).1 = (z : Int) := ⟨((wk ws ps 0 xs).1).toNat, by omega⟩
  have z16 : z < 16 := by omega
  rw [hz] at EL2 LW2
  clear LW WR SL wr1 hz
  generalize (wk ws ps 0 xs).2 = wc at *
  go_enter Tryd.func71, Tryd.ntmps71
  go_wp2_with fail
  refine (LS.out _).mono ?_
  rintro e w1 ⟨v1, rfl, hr1, hb1⟩
  have B1 := hideIt (below_trans BW.out hb1 BW.out.size)
  have BA := hideIt hb1
  have hbn : (w.alloc (.cells #[.slice (some ⟨bW, oW, none⟩) ws.length cW, .slice aP ps.length cP] 30)).heap.size ≤ w1.heap.size := hb1.size
  obtain ⟨x0, x1⟩ := CA.out _ hb1
  have R1 := hideIt hr1
  obtain ⟨aL, cL, rfl, hcap, hcL⟩ := hr1.shape
  obtain ⟨b, o, rfl, hbl, hcell⟩ := hcL (by rw [List.length_append]; simp)
  have hx : w1.cell? ⟨b, o + xs.length, none⟩ = some (.string x) := by
    have := hcell xs.length (by rw [List.length_append]; simp)
    simpa using this
  have RT : Hid (RdT w1 (.slice (some ⟨b, o, none⟩) xs.length cL) xs) := by
    have := rdt_take R1.out (m := xs.length) (by rw [List.length_append]; omega)
    rw [List.take_left] at this
    exact this
  rw [List.length_append, List.length_cons, List.length_nil, Nat.zero_add] at hcap
  simp only [List.length_append, List.length_cons, List.length_nil, Nat.zero_add]
  clear hr1 hb1 hcL hcell R1 LS
  generalize xs.length = n at *
  have n0 : (((n + 1 : Nat) : Int) == 0) = false := by rw [beq_eq_false_iff_ne]; omega
  have nw : IntKind.i64.wrap (((n + 1 : Nat) : Int) - 1) = (n : Int) := by
    rw [show (((n + 1 : Nat) : Int) - 1) = (n : Int) by omega, IntKind.wrap_i64]
    omega
  have ncap : (n : Int) ≤ (cL : Int) := by omega
  have nw2 : IntKind.i64.wrap ((n : Int) + 1 - 1) = (n : Int) := by rw [IntKind.wrap_i64]; omega
  have nw3 : IntKind.i64.wrap (n : Int) = (n : Int) := by rw [IntKind.wrap_i64]; omega
  have nn0 : (0 : Int) ≤ (n : Int) := by omega
  have nn1 : (n : Int) < ((n + 1 : Nat) : Int) := by omega
  have nn2 : (n : Int) < (n : Int) + 1 := by omega
  have z0 : (0 : Int) ≤ (z : Int) := by omega
  have z1 : (z : Int) < (ws.length : Int) := by have := L16.out; omega
  have SK : Hid (∀ w', Below w1.heap.size w1 w' → w'.cell? ⟨w.heap.size, 0, none⟩ = some (.slice (some ⟨bW, oW, none⟩) ws.length cW) ∧ w'.cell? ⟨w.heap.size, 1, none⟩ = some (.slice aP ps.length cP)) := fun w' hb => CA.out w' (below_trans BA.out hb hbn)
  have HX : Hid (∀ w', Below w1.heap.size w1 w' → w'.cell? ⟨b, o + n, none⟩ = some (.string x)) := fun w' hb => (hb.cell (p := ⟨b, o + n, none⟩) hbl).trans hx
  have LW3 := hideIt (fun w2 (hb : Below w1.heap.size w1 w2) => LW2.out _ w2 (HR.out.below (below_trans B1.out hb B1.out.size)) (Rd.below RT.out hb))
  clear LW2 RT hx
  by_cases q : wc = 0
  case neg =>
    rw [if_neg q] at EL2
    obtain rfl := EL2.out
    have q1 : (wc != 0) = true := by rw [bne_iff_ne]; exact q
    clear EL2 q
    go_wp2_with fail
    go_region_held3 (fun w' => w'.cell? ⟨w.heap.size, 0, none⟩ = some (.slice (some ⟨bW, oW, none⟩) ws.length cW) ∧ w'.cell? ⟨w.heap.size, 1, none⟩ = some (.slice aP ps.length cP))
      (exact SK.out _ (by repeat (first | exact BF.out | exact Below.refl _ _ | refine Below.drew ?_)))
      (first
        | (go_at_call 109; refine (LW3.out _ (by repeat (first | exact Below.refl _ _ | refine Below.drew ?_))).mono ?_; rintro e w2 ⟨rfl, hb2⟩; have BF : Hid (Below w1.heap.size w1 w2) := (by first | exact hb2 | exact below_trans (by repeat (first | exact Below.refl _ _ | refine Below.drew ?_)) hb2 (Nat.le_refl _)); clear hb2))
    all_goals
      have B3 := hideIt (below_trans B1.out BF.out B1.out.size)
      clear SK x0 x1
      go_wp2
      go_ret3
      exact ⟨rfl, (by repeat (first | exact B3.out | refine Below.drew ?_))⟩
  rw [if_pos q] at EL2
  subst q
  have HZ := hideIt (fun w' hb => HW.out w' hb z z16)
  by_cases r : kindAt ws z = 2
  case neg =>
    rw [if_neg r] at EL2
    obtain rfl := EL2.out
    have r1 : (kindAt ws z != 2) = true := by rw [bne_iff_ne]; exact r
    clear EL2 r
    generalize kindAt ws z = kz at *
    go_wp2_with fail
    go_region_held3 (fun w' => w'.cell? ⟨w.heap.size, 0, none⟩ = some (.slice (some ⟨bW, oW, none⟩) ws.length cW) ∧ w'.cell? ⟨w.heap.size, 1, none⟩ = some (.slice aP ps.length cP))
      (exact SK.out _ (by repeat (first | exact BF.out | exact Below.refl _ _ | refine Below.drew ?_)))
      (first
        | (go_at_call 109; refine (LW3.out _ (by repeat (first | exact Below.refl _ _ | refine Below.drew ?_))).mono ?_; rintro e w2 ⟨rfl, hb2⟩; have BF : Hid (Below w1.heap.size w1 w2) := (by first | exact hb2 | exact below_trans (by repeat (first | exact Below.refl _ _ | refine Below.drew ?_)) hb2 (Nat.le_refl _)); clear hb2))
    all_goals
      have B3 := hideIt (below_trans B1.out BF.out B1.out.size)
      clear x0 x1
      obtain ⟨x0, x1⟩ := SK.out _ BF.out
      have y0 := HZ.out _ B3.out
      clear SK
      go_wp2
      go_ret3
      exact ⟨rfl, (by repeat (first | exact B3.out | refine Below.drew ?_))⟩
  rw [if_pos r] at EL2
  obtain rfl := EL2.out
  have r1 : (kindAt ws z != 2) = false := by rw [r]; rfl
  clear EL2 r
  generalize kindAt ws z = kz at *
  go_wp2_with fail
  go_region_held3 (fun w' => w'.cell? ⟨w.heap.size, 0, none⟩ = some (.slice (some ⟨bW, oW, none⟩) ws.length cW) ∧ w'.cell? ⟨w.heap.size, 1, none⟩ = some (.slice aP ps.length cP))
    (exact SK.out _ (by repeat (first | exact BF.out | exact Below.refl _ _ | refine Below.drew ?_)))
    (first
      | (go_at_call 109; refine (LW3.out _ (by repeat (first | exact Below.refl _ _ | refine Below.drew ?_))).mono ?_; rintro e w2 ⟨rfl, hb2⟩; have BF : Hid (Below w1.heap.size w1 w2) := (by first | exact hb2 | exact below_trans (by repeat (first | exact Below.refl _ _ | refine Below.drew ?_)) hb2 (Nat.le_refl _)); clear hb2))
  all_goals
    have B3 := hideIt (below_trans B1.out BF.out B1.out.size)
    clear x0 x1
    obtain ⟨x0, x1⟩ := SK.out _ BF.out
    have y0 := HZ.out _ B3.out
    have hx := HX.out _ BF.out
    clear SK
    go_wp2_with fail
    go_region_held3 (fun w' => w'.cell? ⟨b, o + n, none⟩ = some (.string x))
      (exact HX.out _ (by repeat (first | exact BF.out | refine Below.drew ?_)))
      (fail)
    all_goals
      go_wp2
      go_ret3
      exact ⟨rfl, (by repeat (first | exact B3.out | refine Below.drew ?_))⟩

set_option maxRecDepth 100000 in
set_option maxHeartbeats 4000000 in
theorem specParent_any (v : Value) (ws : List Ino) (ps : List Den) (s : ByteArray) (w : World) (h : RdIm w v ws ps) (hw : ws.length ≤ 1048576) (hp : ps.length ≤ 1048576) (hr : ∀ k (h : k < ws.length), ws[k].R) (hs : ∀ k (h : k < ps.length), ps[k].name.size ≤ maxLen) :
    Calls Tryd.prog 30 #[v, .string s] w fun e w' => e = .returned (.tuple #[.int .i64 (paR ws ps s).1, .string (paR ws ps s).2.1, .int .i64 (paR ws ps s).2.2]) ∧ Below w.heap.size w w' := by
  have HR := hideIt h
  have LI := hideIt (fun w1 h => specImageOK_any v ws ps w1 h hw hp hr hs)
  have LL := hideIt (fun w1 h hi hs => l06Parent_any v ws ps s w1 h hi hs)
  have EL := hideIt (show paR ws ps s = if 65536 < s.size then (0, ⟨#[]⟩, 2) else if imgB ws ps = true then paI ws ps s else (0, ⟨#[]⟩, 1) from rfl)
  obtain ⟨vW, vP, rfl, h1, h2⟩ := h
  obtain ⟨aW, cW, rfl, _, _⟩ := h1.shape
  obtain ⟨aP, cP, rfl, _, _⟩ := h2.shape
  clear h1 h2 hr hs
  have CA : Hid (∀ w', Below (w.alloc (.cells #[.slice aW ws.length cW, .slice aP ps.length cP] 30)).heap.size (w.alloc (.cells #[.slice aW ws.length cW, .slice aP ps.length cP] 30)) w' → w'.cell? ⟨w.heap.size, 0, none⟩ = some (.slice aW ws.length cW) ∧ w'.cell? ⟨w.heap.size, 1, none⟩ = some (.slice aP ps.length cP)) := fun w' hb => by
    have : w'.heap[w.heap.size]? = some (.cells #[.slice aW ws.length cW, .slice aP ps.length cP] 30 (0, 0)) := (hb.block _ (by simp)).trans (at_new rfl)
    exact ⟨(two_cells this).1, (two_cells this).2.1⟩
  have BW : Hid (Below w.heap.size w (w.alloc (.cells #[.slice aW ws.length cW, .slice aP ps.length cP] 30))) := (Below.refl _ _).alloc (Nat.le_refl _) _
  obtain ⟨x0, x1⟩ := CA.out _ (Below.refl _ _)
  generalize paR ws ps s = res at *
  by_cases c1 : 65536 < s.size
  · rw [if_pos c1] at EL
    have c2 : (s.size : Int) > 65536 := by omega
    obtain rfl := EL.out
    clear EL c1 LL
    go_enter Tryd.func30, Tryd.ntmps30
    go_wp2
    go_ret3
    exact ⟨rfl, BW.out⟩
  rw [if_neg c1] at EL
  have c2 : ¬ (s.size : Int) > 65536 := by omega
  have LL2 := hideIt (fun w1 h hi => LL.out w1 h hi (by omega))
  clear LL c1
  generalize paI ws ps s = r1 at *
  cases c3 : imgB ws ps with
  | false =>
    rw [c3] at EL LI
    obtain rfl := EL.out
    clear EL LL2 c3
    go_enter Tryd.func30, Tryd.ntmps30
    go_wp2_with fail
    refine (LI.out _ (HR.out.below BW.out)).mono ?_
    rintro e w1 ⟨rfl, hb1⟩
    have B1 := hideIt (below_trans BW.out hb1 BW.out.size)
    clear hb1 x0 x1
    go_wp2
    go_ret3
    exact ⟨rfl, B1.out⟩
  | true =>
    have C3 := hideIt c3
    rw [c3] at EL LI
    obtain rfl : res = r1 := EL.out
    clear EL c3
    go_enter Tryd.func30, Tryd.ntmps30
    go_wp2_with fail
    refine (LI.out _ (HR.out.below BW.out)).mono ?_
    rintro e w1 ⟨rfl, hb1⟩
    have B1 := hideIt (below_trans BW.out hb1 BW.out.size)
    clear x0 x1
    obtain ⟨x0, x1⟩ := CA.out _ hb1
    clear hb1
    go_wp2_with fail
    refine (LL2.out _ (HR.out.below B1.out) C3.out).mono ?_
    rintro e w2 ⟨rfl, hb2⟩
    have B2 := hideIt (below_trans B1.out hb2 B1.out.size)
    clear hb2 x0 x1
    go_wp2
    go_ret3
    exact ⟨rfl, B2.out⟩
end Go.Proofs.YtpljkdbeekplbaaDoor

namespace Go.Proofs.YtpljkdbeekplbaaDoor
open Go.RowKit

/-- An entry has this name in this directory, as the program asks. -/
def pgHit (d : Int) (nm : ByteArray) (x : Den) : Bool := x.dir == d && x.name.toList == nm.toList
theorem pg_hit {ws : List Ino} {ps : List Den} (h : imgB ws ps = true) {nm : ByteArray} (hn : 1 ≤ nm.size) (d : Int) (k : Nat) (hk : k < ps.length) : entHit d nm ps[k] = pgHit d nm ps[k] := by
  unfold entHit pgHit
  rcases pimg_ent h k hk with ⟨h1, h2⟩ | ⟨h1, _⟩
  · have : (ps[k].name.toList == nm.toList) = false := by
      rw [beq_eq_false_iff_ne]
      intro e
      have := congrArg List.length e
      rw [Lib.toList_data, Lib.toList_data, ← Lib.size_eq, ← Lib.size_eq] at this
      omega
    rw [this]; simp
  · rw [decide_eq_true (show 0 ≤ ps[k].child by omega), Bool.true_and]

set_option maxRecDepth 100000 in
set_option maxHeartbeats 8000000 in
theorem goDown_any (v vL : Value) (ws : List Ino) (ps : List Den) (ns : List ByteArray) (w : World) (h : RdIm w v ws ps) (hL : RdT w vL ns) (hi : imgB ws ps = true) (hn : ns.length ≤ 1048576) (hs : ∀ k (h : k < ns.length), 1 ≤ ns[k].size) :
    Calls Tryd.prog 70 #[v, vL] w fun e w' => e = .returned (.tuple #[.int .i64 (wk ws ps 0 ns).1, .int .i64 (wk ws ps 0 ns).2]) ∧ Below w.heap.size w w' := by
  have HR := hideIt h
  have LD := hideIt (fun (i : Nat) (hi16 : i < 16) w1 h => isDir_any v ws ps (i : Int) w1 h (pimg_all hi).1 (by omega))
  obtain ⟨vW, vP, rfl, h1, h2⟩ := h
  obtain ⟨aW, cW, rfl, _, _⟩ := h1.shape
  obtain ⟨aP, cP, rfl, _, hcP⟩ := h2.shape
  obtain ⟨aL, cL, rfl, _, hcL⟩ := hL.shape
  have L24 := hideIt (pimg_all hi).2.1
  obtain ⟨bP, oP, rfl, hblP, hcellP⟩ := hcP (by have := L24.out; omega)
  have pl : ps.length ≤ 4096 := by have := L24.out; omega
  have HP := hideIt hcellP
  have HN := hideIt hcL
  have HS := hideIt hs
  have PH := hideIt (fun (nm : ByteArray) (hn : 1 ≤ nm.size) d k hk => pg_hit hi hn d k hk)
  have CR := hideIt (fun (d : Int) (nm : ByteArray) (k : Nat) (e : entAt ps d nm = some k) => child_range hi e)
  generalize hres : wk ws ps 0 ns = res
  have HRES := hideIt hres
  clear hres h1 h2 hcP hcellP hcL hL hi hs
  obtain ⟨W, hW⟩ : ∃ W, W = w.alloc (.cells #[.slice aW ws.length cW, .slice (some ⟨bP, oP, none⟩) ps.length cP] 30) := ⟨_, rfl⟩
  have CA : Hid (∀ w', Below W.heap.size W w' → w'.cell? ⟨w.heap.size, 0, none⟩ = some (.slice aW ws.length cW) ∧ w'.cell? ⟨w.heap.size, 1, none⟩ = some (.slice (some ⟨bP, oP, none⟩) ps.length cP)) := fun w' hb => by
    have : w'.heap[w.heap.size]? = some (.cells #[.slice aW ws.length cW, .slice (some ⟨bP, oP, none⟩) ps.length cP] 30 (0, 0)) := (hb.block _ (by rw [hW]; simp)).trans (by rw [hW]; exact at_new rfl)
    exact ⟨(two_cells this).1, (two_cells this).2.1⟩
  have BW : Hid (Below w.heap.size w W) := by rw [hW]; exact (Below.refl _ _).alloc (Nat.le_refl _) _
  have hzW : w.heap.size ≤ W.heap.size := BW.out.size
  go_enter Tryd.func70, Tryd.ntmps70
  go_wp2_with fail
  go_step3
  go_wp2_with fail
  go_step3
  go_wp2_with fail
  rw [← hW]
  clear hW
  go_loopg [6, 13] ns.length (fun g a i wr => ∃ (k : Nat) (z : Nat), k + g = ns.length ∧ z < 16 ∧ a = .int .i64 z ∧ i = .int .i64 k ∧ Hid (Below W.heap.size W wr ∧ res = wk ws ps z (ns.drop k)))
  case atStart => exact ⟨0, 0, by omega, by omega, rfl, rfl, Below.refl _ _, HRES.out.symm⟩
  case round =>
    obtain ⟨k, z, hk, hz16, rfl, rfl, J⟩ := hrel
    obtain ⟨x0, x1⟩ := CA.out wr J.out.1
    have B := hideIt (below_trans BW.out J.out.1 hzW)
    have J1 := hideIt J.out.1
    have k0 : (0 : Int) ≤ (k : Int) := by omega
    by_cases hlt : k < ns.length
    · have k1 : (k : Int) < (ns.length : Int) := by omega
      have JD : Hid (res = wk ws ps z (ns[k] :: ns.drop (k + 1))) := by unfold Hid; rw [J.out.2, List.drop_eq_getElem_cons hlt]
      obtain ⟨bL, oL, rfl, hblL, hcell⟩ := HN.out (by omega)
      have n0 := (B.out.cell (p := ⟨bL, oL + k, none⟩) hblL).trans (hcell k hlt)
      have WN := hideIt (fun (h : ¬ kindAt ws z = 2) => wk_nodir (ps := ps) (n := ns[k]) (ns := ns.drop (k + 1)) h)
      have WO := hideIt (fun (h : kindAt ws z = 2) (e : entAt ps z ns[k] = none) => wk_none (ns := ns.drop (k + 1)) h e)
      have WS := hideIt (fun (h : kindAt ws z = 2) (j : Nat) (e : entAt ps z ns[k] = some j) => wk_some (ns := ns.drop (k + 1)) h e)
      have PK := hideIt (fun j hj => PH.out ns[k] (HS.out k hlt) (z : Int) j hj)
      have CR2 := hideIt (fun (j : Nat) (e : entAt ps z ns[k] = some j) => CR.out _ _ _ e)
      have LD2 := hideIt (fun w1 h => LD.out z hz16 w1 h)
      clear J hcell HRES
      generalize kindAt ws (z : Int) = kk at *
      generalize ns[k] = nm at *
      by_cases q : kk = 2
      case neg =>
        have q1 : (kk == 2) = false := by rw [beq_eq_false_iff_ne]; exact q
        rw [q1] at LD2
        obtain rfl := JD.out.trans (WN.out q)
        clear q q1 WN WO WS CR2 PK
        go_wp2_with fail
        refine (LD2.out _ (HR.out.below B.out)).mono ?_
        rintro e w1 ⟨rfl, hb1⟩
        have B1 := hideIt (below_trans B.out hb1 B.out.size)
        clear hb1 x0 x1 n0
        go_wp2
        try rw [Exit.noGoto_ret]
        go_ret2
        exact ⟨rfl, B1.out⟩
      have q1 : (kk == 2) = true := by rw [q]; rfl
      rw [q1] at LD2
      clear q1
      have Q := hideIt q
      clear q
      go_wp2_with fail
      refine (LD2.out _ (HR.out.below B.out)).mono ?_
      rintro e w1 ⟨rfl, hb1⟩
      have B1 := hideIt (below_trans B.out hb1 B.out.size)
      have J2 := hideIt (below_trans J1.out hb1 J1.out.size)
      clear hb1 x0 x1 n0 LD2
      obtain ⟨x0, x1⟩ := CA.out w1 J2.out
      generalize gk = G0 at *
      have hz1 : w.heap.size ≤ w1.heap.size := B1.out.size
      clear B J1
      go_wp2_with fail
      go_loopg [6, 24] ps.length (fun g2 a i wq => ∃ j : Nat, j + g2 = ps.length ∧ a = .int .i64 z ∧ i = .int .i64 j ∧ Hid (Below w1.heap.size w1 wq ∧ ∀ m (h : m < ps.length), m < j → entHit (z : Int) nm ps[m] = false))
      case atStart => exact ⟨0, by omega, rfl, rfl, Below.refl _ _, fun m h a => absurd a (by omega)⟩
      case round =>
        obtain ⟨j, hj, rfl, rfl, K⟩ := hrel
        have KW := hideIt (below_trans B1.out K.out.1 hz1)
        have K2 := hideIt (below_trans J2.out K.out.1 J2.out.size)
        have j0 : (0 : Int) ≤ (j : Int) := by omega
        by_cases hlj : j < ps.length
        · obtain ⟨a0, a1, a2⟩ := HP.out j hlj
          have d0 := (KW.out.cell (p := ⟨bP, oP + j * 3, none⟩) hblP).trans a0
          have d1 := (KW.out.cell (p := ⟨bP, oP + j * 3 + 1, none⟩) hblP).trans a1
          have d2 := (KW.out.cell (p := ⟨bP, oP + j * 3 + 2, none⟩) hblP).trans a2
          have j1 : (j : Int) < (ps.length : Int) := by omega
          have EH : Hid (entHit (z : Int) nm ps[j] = (ps[j].dir == (z : Int) && ps[j].name.toList == nm.toList)) := PK.out j hlj
          have HY := hideIt (fun e : entHit (z : Int) nm ps[j] = true => ent_yes hlj K.out.2 e)
          have HX := hideIt (fun (e : entHit (z : Int) nm ps[j] = false) m (h : m < ps.length) (a : m < j + 1) => show entHit (z : Int) nm ps[m] = false by
            by_cases q : m = j
            · subst q; exact e
            · exact K.out.2 m h (by omega))
          have CJ := hideIt (childAt_of hlj)
          have K1 := hideIt K.out.1
          clear a0 a1 a2 K
          generalize entHit (z : Int) nm ps[j] = hit at *
          generalize ps[j].child = y at *
          generalize ps[j].dir = yd at *
          generalize ps[j].name = yn at *
          have BX := hideIt ((Below.refl wr.heap.size wr).alloc (Nat.le_refl _) (.cells #[.int .i64 yd, .string yn, .int .i64 y] 79))
          have B5 := hideIt (below_trans K1.out BX.out K1.out.size)
          have B6 := hideIt (below_trans K2.out BX.out K2.out.size)
          by_cases r : yd = (z : Int)
          case neg =>
            have r1 : (yd == (z : Int)) = false := beq_eq_false_iff_ne.2 r
            have E := hideIt (HX.out (by rw [EH.out, r1]; rfl))
            clear r HX HY EH
            go_wp2
            go_roundg (ps.length - (j + 1))
            case measure => omega
            case rel => exact ⟨j + 1, by omega, rfl, by go_num, B5.out, E.out⟩
          have r1 : (yd == (z : Int)) = true := beq_iff_eq.2 r
          cases t : (yn.toList == nm.toList) with
          | false =>
            have E := hideIt (HX.out (by rw [EH.out, t]; simp))
            clear r HX HY EH
            go_wp2
            go_roundg (ps.length - (j + 1))
            case measure => omega
            case rel => exact ⟨j + 1, by omega, rfl, by go_num, B5.out, E.out⟩
          | true =>
            have E1 := HY.out (by rw [EH.out, t, r1]; rfl)
            obtain ⟨_, c1, c2⟩ := CR2.out j E1
            have W2 := hideIt (JD.out.trans (WS.out Q.out j E1))
            rw [CJ.out] at c1 c2 W2
            obtain ⟨yn2, hy⟩ : ∃ n : Nat, y = (n : Int) := ⟨y.toNat, by omega⟩
            subst hy
            have y16 : yn2 < 16 := by omega
            clear r HX HY EH E1 CJ
            go_wp2
            go_roundg (ns.length - (k + 1))
            case measure => omega
            case rel => exact ⟨k + 1, yn2, by omega, y16, rfl, by go_num, B6.out, W2.out⟩
        · obtain rfl : j = ps.length := by omega
          have E := hideIt (JD.out.trans (WO.out Q.out (ent_no (fun m h => K.out.2 m h h))))
          obtain rfl := E.out
          clear K E
          go_wp2
          try rw [Exit.noGoto_ret]
          go_ret2
          exact ⟨rfl, KW.out⟩
    · obtain rfl : k = ns.length := by omega
      have E : Hid (res = ((z : Int), 0)) := by unfold Hid; rw [J.out.2, List.drop_length]; rfl
      clear HRES J
      obtain rfl := E.out
      go_wp2
      try rw [Exit.noGoto_ret]
      go_ret2
      exact ⟨rfl, B.out⟩
end Go.Proofs.YtpljkdbeekplbaaDoor

namespace Go.Proofs.YtpljkdbeekplbaaDoor
open Go.RowKit

/-- What splitIn answers. -/
def siC (ws : List Ino) (ps : List Den) (s : ByteArray) : Int := if 65536 < s.size then 2 else if imgB ws ps = true then spC s else 1
def siL (ws : List Ino) (ps : List Den) (s : ByteArray) : List ByteArray := if imgB ws ps = true then spR s else []
theorem spL_short {s : ByteArray} : ∀ k (h : k < (spL s).length), 1 ≤ (spL s)[k].size := by
  intro k hk
  have hm : (spL s)[k] ∈ spL s := List.getElem_mem hk
  generalize (spL s)[k] = x at hm
  unfold spL at hm
  split at hm
  · cases hm
  · split at hm
    · rename_i h
      unfold spN at h
      simp only [Bool.and_eq_true, List.all_eq_true] at h
      exact (nmB_true (h.2.2 x hm)).1
    · cases hm
theorem si_lk (ws : List Ino) (ps : List Den) (s : ByteArray) : (¬ siC ws ps s = 0 → lkR ws ps s = (0, siC ws ps s) ∧ paR ws ps s = (0, ⟨#[]⟩, siC ws ps s)) ∧ (siC ws ps s = 0 → imgB ws ps = true ∧ siL ws ps s = spL s ∧ lkR ws ps s = wk ws ps 0 (spL s) ∧ paR ws ps s = paL ws ps (spL s)) := by
  unfold siC lkR paR siL
  by_cases c1 : 65536 < s.size
  · rw [if_pos c1, if_pos c1, if_pos c1]
    exact ⟨fun _ => ⟨rfl, rfl⟩, fun h => by cases h⟩
  · rw [if_neg c1, if_neg c1, if_neg c1]
    by_cases c2 : imgB ws ps = true
    · rw [if_pos c2, if_pos c2, if_pos c2, if_pos c2]
      obtain ⟨X1, X2⟩ := sp_short c1
      unfold lkI paI
      cases c3 : spB s with
      | false =>
        obtain ⟨e1, e2⟩ := X2 c3
        rw [e1, e2]
        exact ⟨fun _ => ⟨rfl, rfl⟩, fun h => by cases h⟩
      | true =>
        obtain ⟨e1, e2⟩ := X1 c3
        rw [e1, e2]
        exact ⟨fun h => absurd rfl h, fun _ => ⟨c2, rfl, rfl, rfl⟩⟩
    · rw [if_neg c2, if_neg c2, if_neg c2, if_neg c2]
      exact ⟨fun _ => ⟨rfl, rfl⟩, fun h => by cases h⟩

set_option maxRecDepth 100000 in
set_option maxHeartbeats 4000000 in
theorem splitIn_any (v : Value) (ws : List Ino) (ps : List Den) (s : ByteArray) (w : World) (h : RdIm w v ws ps) (hw : ws.length ≤ 1048576) (hp : ps.length ≤ 1048576) (hT : TS w) (hE : ED w) (hF : FD w) (hr : ∀ k (h : k < ws.length), ws[k].R) (hs : ∀ k (h : k < ps.length), ps[k].name.size ≤ maxLen) :
    Calls Tryd.prog 69 #[v, .string s] w fun e w' => ∃ v', e = .returned (.tuple #[v', .int .i64 (siC ws ps s)]) ∧ RdT w' v' (siL ws ps s) ∧ Below w.heap.size w w' := by
  have HR := hideIt h
  have LI := hideIt (fun w1 (hb : Below w.heap.size w w1) => implImageOK_any v ws ps w1 (h.below hb) hw hp (hT.below hb) (hE.below hb) (hF.below hb) hr hs)
  have LS := hideIt (fun w1 => implSplitPath_any s w1)
  have EC := hideIt (show siC ws ps s = if 65536 < s.size then 2 else if imgB ws ps = true then spC s else 1 from rfl)
  have EL := hideIt (show siL ws ps s = if imgB ws ps = true then spR s else [] from rfl)
  have XL := hideIt (fun h => sp_long (s := s) h)
  have X0 : Hid (¬ 65536 < s.size → ¬ spC s = 2) := fun h => by
    obtain ⟨X1, X2⟩ := sp_short h
    cases c : spB s
    · rw [(X2 c).1]; decide
    · rw [(X1 c).1]; decide
  obtain ⟨vW, vP, rfl, h1, h2⟩ := h
  obtain ⟨aW, cW, rfl, _, _⟩ := h1.shape
  obtain ⟨aP, cP, rfl, _, _⟩ := h2.shape
  clear h1 h2 hr hs hT hE hF
  have CA : Hid (∀ w', Below (w.alloc (.cells #[.slice aW ws.length cW, .slice aP ps.length cP] 30)).heap.size (w.alloc (.cells #[.slice aW ws.length cW, .slice aP ps.length cP] 30)) w' → w'.cell? ⟨w.heap.size, 0, none⟩ = some (.slice aW ws.length cW) ∧ w'.cell? ⟨w.heap.size, 1, none⟩ = some (.slice aP ps.length cP)) := fun w' hb => by
    have : w'.heap[w.heap.size]? = some (.cells #[.slice aW ws.length cW, .slice aP ps.length cP] 30 (0, 0)) := (hb.block _ (by simp)).trans (at_new rfl)
    exact ⟨(two_cells this).1, (two_cells this).2.1⟩
  have BW : Hid (Below w.heap.size w (w.alloc (.cells #[.slice aW ws.length cW, .slice aP ps.length cP] 30))) := (Below.refl _ _).alloc (Nat.le_refl _) _
  generalize siC ws ps s = sc at *
  generalize siL ws ps s = sl at *
  by_cases c1 : 65536 < s.size
  · obtain ⟨e1, e2⟩ := XL.out c1
    rw [if_pos c1] at EC
    have E2 : Hid (sl = []) := by unfold Hid; rw [EL.out, e2]; split <;> rfl
    rw [e1, e2] at LS
    obtain rfl := EC.out
    obtain rfl := E2.out
    clear EC EL E2 c1 e1 e2
    go_enter Tryd.func69, Tryd.ntmps69
    go_wp2_with fail
    refine (LS.out _).mono ?_
    rintro e w1 ⟨v1, rfl, hr1, hb1⟩
    have B1 := hideIt (below_trans BW.out hb1 BW.out.size)
    have R1 : Hid (RdT w1 v1 []) := hr1.rd
    clear hr1 hb1
    go_wp2
    go_ret2
    exact ⟨_, rfl, R1.out, B1.out⟩
  have q2 : Hid ((spC s != 2) = true) := by unfold Hid; rw [bne_iff_ne]; exact X0.out c1
  rw [if_neg c1] at EC
  clear XL X0 c1
  generalize spC s = cc at *
  generalize spR s = rr at *
  have q3 := q2.out
  cases c3 : imgB ws ps with
  | false =>
    rw [c3] at EC EL LI
    obtain rfl := EC.out
    obtain rfl := EL.out
    clear EC EL c3
    go_enter Tryd.func69, Tryd.ntmps69
    go_wp2_with fail
    refine (LS.out _).mono ?_
    rintro e w1 ⟨v1, rfl, hr1, hb1⟩
    have B1 := hideIt (below_trans BW.out hb1 BW.out.size)
    obtain ⟨x0, x1⟩ := CA.out _ hb1
    clear hr1 hb1
    go_wp2_with fail
    refine (LI.out _ B1.out).mono ?_
    rintro e w2 ⟨rfl, hb2⟩
    have B2 := hideIt (below_trans B1.out hb2 B1.out.size)
    clear hb2 x0 x1
    go_wp2
    go_ret2
    exact ⟨_, rfl, rdt_empty _, B2.out⟩
  | true =>
    rw [c3] at EC EL LI
    obtain rfl : sc = cc := EC.out
    obtain rfl : sl = rr := EL.out
    clear EC EL c3
    go_enter Tryd.func69, Tryd.ntmps69
    go_wp2_with fail
    refine (LS.out _).mono ?_
    rintro e w1 ⟨v1, rfl, hr1, hb1⟩
    have B1 := hideIt (below_trans BW.out hb1 BW.out.size)
    have R1 : Hid (RdT w1 v1 sl) := hr1.rd
    obtain ⟨x0, x1⟩ := CA.out _ hb1
    clear hr1 hb1
    go_wp2_with fail
    refine (LI.out _ B1.out).mono ?_
    rintro e w2 ⟨rfl, hb2⟩
    have B2 := hideIt (below_trans B1.out hb2 B1.out.size)
    have R2 : Hid (RdT w2 v1 sl) := Rd.below R1.out hb2
    clear hb2 x0 x1
    go_wp2
    go_ret2
    exact ⟨_, rfl, R2.out, B2.out⟩

set_option maxRecDepth 100000 in
set_option maxHeartbeats 4000000 in
theorem implLookup_any (v : Value) (ws : List Ino) (ps : List Den) (s : ByteArray) (w : World) (h : RdIm w v ws ps) (hw : ws.length ≤ 1048576) (hp : ps.length ≤ 1048576) (hT : TS w) (hE : ED w) (hF : FD w) (hr : ∀ k (h : k < ws.length), ws[k].R) (hs : ∀ k (h : k < ps.length), ps[k].name.size ≤ maxLen) :
    Calls Tryd.prog 29 #[v, .string s] w fun e w' => e = .returned (.tuple #[.int .i64 (lkR ws ps s).1, .int .i64 (lkR ws ps s).2]) ∧ Below w.heap.size w w' := by
  have HR := hideIt h
  have LS := hideIt (fun w1 (hb : Below w.heap.size w w1) => splitIn_any v ws ps s w1 (h.below hb) hw hp (hT.below hb) (hE.below hb) (hF.below hb) hr hs)
  have LG := hideIt (fun vL w1 h hL hi => goDown_any v vL ws ps (spL s) w1 h hL hi (by have := @spL_len s; omega) spL_short)
  obtain ⟨NO, YES⟩ := si_lk ws ps s
  have NO := hideIt NO
  have YES := hideIt YES
  obtain ⟨vW, vP, rfl, h1, h2⟩ := h
  obtain ⟨aW, cW, rfl, _, _⟩ := h1.shape
  obtain ⟨aP, cP, rfl, _, _⟩ := h2.shape
  clear h1 h2 hr hs hT hE hF
  have CA : Hid (∀ w', Below (w.alloc (.cells #[.slice aW ws.length cW, .slice aP ps.length cP] 30)).heap.size (w.alloc (.cells #[.slice aW ws.length cW, .slice aP ps.length cP] 30)) w' → w'.cell? ⟨w.heap.size, 0, none⟩ = some (.slice aW ws.length cW) ∧ w'.cell? ⟨w.heap.size, 1, none⟩ = some (.slice aP ps.length cP)) := fun w' hb => by
    have : w'.heap[w.heap.size]? = some (.cells #[.slice aW ws.length cW, .slice aP ps.length cP] 30 (0, 0)) := (hb.block _ (by simp)).trans (at_new rfl)
    exact ⟨(two_cells this).1, (two_cells this).2.1⟩
  have BW : Hid (Below w.heap.size w (w.alloc (.cells #[.slice aW ws.length cW, .slice aP ps.length cP] 30))) := (Below.refl _ _).alloc (Nat.le_refl _) _
  obtain ⟨x0, x1⟩ := CA.out _ (Below.refl _ _)
  generalize siC ws ps s = sc at *
  generalize siL ws ps s = sl at *
  generalize lkR ws ps s = res at *
  generalize paR ws ps s = res2 at *
  by_cases c : sc = 0
  · obtain ⟨c1, rfl, rfl, _⟩ := YES.out c
    have C1 := hideIt c1
    subst c
    clear NO YES c1
    generalize wk ws ps 0 (spL s) = r1 at *
    go_enter Tryd.func29, Tryd.ntmps29
    go_wp2_with fail
    refine (LS.out _ BW.out).mono ?_
    rintro e w1 ⟨v1, rfl, hr1, hb1⟩
    have B1 := hideIt (below_trans BW.out hb1 BW.out.size)
    have R1 := hideIt hr1
    clear x0 x1
    obtain ⟨x0, x1⟩ := CA.out _ hb1
    clear hr1 hb1
    go_wp2_with fail
    refine (LG.out _ _ (HR.out.below B1.out) R1.out C1.out).mono ?_
    rintro e w2 ⟨rfl, hb2⟩
    have B2 := hideIt (below_trans B1.out hb2 B1.out.size)
    clear hb2 x0 x1
    go_wp2
    go_ret2
    exact ⟨rfl, B2.out⟩
  · obtain ⟨rfl, _⟩ := NO.out c
    have q : (sc != 0) = true := by rw [bne_iff_ne]; exact c
    clear NO YES c
    go_enter Tryd.func29, Tryd.ntmps29
    go_wp2_with fail
    refine (LS.out _ BW.out).mono ?_
    rintro e w1 ⟨v1, rfl, hr1, hb1⟩
    have B1 := hideIt (below_trans BW.out hb1 BW.out.size)
    clear hr1 hb1 x0 x1
    go_wp2
    go_ret2
    exact ⟨rfl, B1.out⟩
end Go.Proofs.YtpljkdbeekplbaaDoor

namespace Go.Proofs.YtpljkdbeekplbaaDoor
open Go.RowKit

set_option maxRecDepth 100000 in
set_option maxHeartbeats 8000000 in
theorem implParent_any (v : Value) (ws : List Ino) (ps : List Den) (s : ByteArray) (w : World) (h : RdIm w v ws ps) (hw : ws.length ≤ 1048576) (hp : ps.length ≤ 1048576) (hT : TS w) (hE : ED w) (hF : FD w) (hr : ∀ k (h : k < ws.length), ws[k].R) (hs : ∀ k (h : k < ps.length), ps[k].name.size ≤ maxLen) :
    Calls Tryd.prog 31 #[v, .string s] w fun e w' => e = .returned (.tuple #[.int .i64 (paR ws ps s).1, .string (paR ws ps s).2.1, .int .i64 (paR ws ps s).2.2]) ∧ Below w.heap.size w w' := by
  have HR := hideIt h
  have LS := hideIt (fun w1 (hb : Below w.heap.size w w1) => splitIn_any v ws ps s w1 (h.below hb) hw hp (hT.below hb) (hE.below hb) (hF.below hb) hr hs)
  have LG := hideIt (fun vL ns w1 h hL hi hn hs => goDown_any v vL ws ps ns w1 h hL hi hn hs)
  have LD := hideIt (fun (i : Nat) w1 h (hl : ws.length = 16) (hi16 : i < 16) => isDir_any v ws ps (i : Int) w1 h hl (by omega))
  have SS := hideIt (@spL_short s)
  have SL := hideIt (@spL_len s)
  obtain ⟨NO, YES⟩ := si_lk ws ps s
  have NO := hideIt NO
  have YES := hideIt YES
  obtain ⟨vW, vP, rfl, h1, h2⟩ := h
  obtain ⟨aW, cW, rfl, _, _⟩ := h1.shape
  obtain ⟨aP, cP, rfl, _, _⟩ := h2.shape
  clear h1 h2 hr hs hT hE hF
  have CA : Hid (∀ w', Below (w.alloc (.cells #[.slice aW ws.length cW, .slice aP ps.length cP] 30)).heap.size (w.alloc (.cells #[.slice aW ws.length cW, .slice aP ps.length cP] 30)) w' → w'.cell? ⟨w.heap.size, 0, none⟩ = some (.slice aW ws.length cW) ∧ w'.cell? ⟨w.heap.size, 1, none⟩ = some (.slice aP ps.length cP)) := fun w' hb => by
    have : w'.heap[w.heap.size]? = some (.cells #[.slice aW ws.length cW, .slice aP ps.length cP] 30 (0, 0)) := (hb.block _ (by simp)).trans (at_new rfl)
    exact ⟨(two_cells this).1, (two_cells this).2.1⟩
  have BW : Hid (Below w.heap.size w (w.alloc (.cells #[.slice aW ws.length cW, .slice aP ps.length cP] 30))) := (Below.refl _ _).alloc (Nat.le_refl _) _
  obtain ⟨x0, x1⟩ := CA.out _ (Below.refl _ _)
  generalize siC ws ps s = sc at *
  generalize siL ws ps s = sl at *
  generalize lkR ws ps s = res2 at *
  generalize paR ws ps s = res at *
  by_cases c : sc = 0
  case neg =>
    obtain ⟨_, rfl⟩ := NO.out c
    have q : (sc != 0) = true := by rw [bne_iff_ne]; exact c
    clear NO YES c
    go_enter Tryd.func31, Tryd.ntmps31
    go_wp2_with fail
    refine (LS.out _ BW.out).mono ?_
    rintro e w1 ⟨v1, rfl, hr1, hb1⟩
    have B1 := hideIt (below_trans BW.out hb1 BW.out.size)
    clear hr1 hb1 x0 x1
    go_wp2
    go_ret3
    exact ⟨rfl, B1.out⟩
  obtain ⟨c1, rfl, _, hres⟩ := YES.out c
  have C1 := hideIt c1
  have EL2 := hideIt hres
  have WR := hideIt (fun ns => wk_range c1 ns 0 (by omega))
  have L16 := hideIt (pimg_all c1).1
  subst c
  clear NO YES c1 hres
  generalize spL s = ns at *
  by_cases c2 : ns = []
  · subst c2
    obtain rfl := EL2.out
    clear EL2 LG
    go_enter Tryd.func31, Tryd.ntmps31
    go_wp2_with fail
    refine (LS.out _ BW.out).mono ?_
    rintro e w1 ⟨v1, rfl, hr1, hb1⟩
    have B1 := hideIt (below_trans BW.out hb1 BW.out.size)
    obtain ⟨aL, cL, rfl, _, _⟩ := hr1.shape
    clear hr1 hb1 x0 x1
    simp only [List.length_nil]
    go_wp2
    go_ret3
    exact ⟨rfl, B1.out⟩
  obtain ⟨xs, x, rfl⟩ := snoc_of c2
  rw [paL_snoc] at EL2
  clear c2
  have EP := hideIt (show paN ws ps xs x = if (wk ws ps 0 xs).2 = 0 then (if kindAt ws (wk ws ps 0 xs).1 = 2 then ((wk ws ps 0 xs).1, x, 0) else (0, ⟨#[]⟩, 10)) else (0, ⟨#[]⟩, (wk ws ps 0 xs).2) from rfl)
  rw [EP.out] at EL2
  clear EP
  have sl := SL.out
  rw [List.length_append, List.length_cons, List.length_nil, Nat.zero_add] at sl
  have S1 : Hid (∀ k (h : k < xs.length), 1 ≤ xs[k].size) := fun k hk => by
    have := SS.out k (by rw [List.length_append]; omega)
    rw [List.getElem_append_left hk] at this
    exact this
  have wr1 := WR.out xs
  have LW2 := hideIt (fun vL w1 h hL => LG.out vL xs w1 h hL C1.out (by omega) S1.out)
  obtain ⟨z, hz⟩ : ∃ z : Nat, (wk ws ps 0 xs).1 = (z : Int) := ⟨((wk ws ps 0 xs).1).toNat, by omega⟩
  have z16 : z < 16 := by omega
  rw [hz] at EL2 LW2
  clear LG WR SL SS S1 wr1 hz
  have LD2 := hideIt (fun w1 h => LD.out z w1 h L16.out z16)
  clear LD
  generalize (wk ws ps 0 xs).2 = wc at *
  go_enter Tryd.func31, Tryd.ntmps31
  go_wp2_with fail
  refine (LS.out _ BW.out).mono ?_
  rintro e w1 ⟨v1, rfl, hr1, hb1⟩
  have B1 := hideIt (below_trans BW.out hb1 BW.out.size)
  have BA := hideIt hb1
  have hbn : (w.alloc (.cells #[.slice aW ws.length cW, .slice aP ps.length cP] 30)).heap.size ≤ w1.heap.size := hb1.size
  clear x0 x1
  obtain ⟨x0, x1⟩ := CA.out _ hb1
  have R1 := hideIt hr1
  obtain ⟨aL, cL, rfl, hcap, hcL⟩ := hr1.shape
  obtain ⟨b, o, rfl, hbl, hcell⟩ := hcL (by rw [List.length_append]; simp)
  have hx : w1.cell? ⟨b, o + xs.length, none⟩ = some (.string x) := by
    have := hcell xs.length (by rw [List.length_append]; simp)
    simpa using this
  have RT : Hid (RdT w1 (.slice (some ⟨b, o, none⟩) xs.length cL) xs) := by
    have := rdt_take R1.out (m := xs.length) (by rw [List.length_append]; omega)
    rw [List.take_left] at this
    exact this
  rw [List.length_append, List.length_cons, List.length_nil, Nat.zero_add] at hcap
  simp only [List.length_append, List.length_cons, List.length_nil, Nat.zero_add]
  clear hr1 hb1 hcL hcell R1 LS
  generalize xs.length = n at *
  have n0 : (((n + 1 : Nat) : Int) == 0) = false := by rw [beq_eq_false_iff_ne]; omega
  have nw : IntKind.i64.wrap (((n + 1 : Nat) : Int) - 1) = (n : Int) := by
    rw [show (((n + 1 : Nat) : Int) - 1) = (n : Int) by omega, IntKind.wrap_i64]
    omega
  have ncap : (n : Int) ≤ (cL : Int) := by omega
  have nw2 : IntKind.i64.wrap ((n : Int) + 1 - 1) = (n : Int) := by rw [IntKind.wrap_i64]; omega
  have nw3 : IntKind.i64.wrap (n : Int) = (n : Int) := by rw [IntKind.wrap_i64]; omega
  have nn0 : (0 : Int) ≤ (n : Int) := by omega
  have nn1 : (n : Int) < ((n + 1 : Nat) : Int) := by omega
  have nn2 : (n : Int) < (n : Int) + 1 := by omega
  have SK : Hid (∀ w', Below w1.heap.size w1 w' → w'.cell? ⟨w.heap.size, 0, none⟩ = some (.slice aW ws.length cW) ∧ w'.cell? ⟨w.heap.size, 1, none⟩ = some (.slice aP ps.length cP)) := fun w' hb => CA.out w' (below_trans BA.out hb hbn)
  have HX : Hid (∀ w', Below w1.heap.size w1 w' → w'.cell? ⟨b, o + n, none⟩ = some (.string x)) := fun w' hb => (hb.cell (p := ⟨b, o + n, none⟩) hbl).trans hx
  have LW3 := hideIt (fun w2 (hb : Below w1.heap.size w1 w2) => LW2.out _ w2 (HR.out.below (below_trans B1.out hb B1.out.size)) (Rd.below RT.out hb))
  clear LW2 RT hx
  by_cases q : wc = 0
  case neg =>
    rw [if_neg q] at EL2
    obtain rfl := EL2.out
    have q1 : (wc != 0) = true := by rw [bne_iff_ne]; exact q
    clear EL2 q
    go_wp2_with fail
    go_region_held3 (fun w' => w'.cell? ⟨w.heap.size, 0, none⟩ = some (.slice aW ws.length cW) ∧ w'.cell? ⟨w.heap.size, 1, none⟩ = some (.slice aP ps.length cP))
      (exact SK.out _ (by repeat (first | exact BF.out | exact Below.refl _ _ | refine Below.drew ?_)))
      (first
        | (go_at_call 70; refine (LW3.out _ (by repeat (first | exact Below.refl _ _ | refine Below.drew ?_))).mono ?_; rintro e w2 ⟨rfl, hb2⟩; have BF : Hid (Below w1.heap.size w1 w2) := (by first | exact hb2 | exact below_trans (by repeat (first | exact Below.refl _ _ | refine Below.drew ?_)) hb2 (Nat.le_refl _)); clear hb2))
    all_goals
      have B3 := hideIt (below_trans B1.out BF.out B1.out.size)
      clear SK x0 x1
      go_wp2
      go_ret3
      exact ⟨rfl, (by repeat (first | exact B3.out | refine Below.drew ?_))⟩
  rw [if_pos q] at EL2
  subst q
  by_cases r : kindAt ws z = 2
  case neg =>
    rw [if_neg r] at EL2
    obtain rfl := EL2.out
    have r1 : (kindAt ws z == 2) = false := by rw [beq_eq_false_iff_ne]; exact r
    rw [r1] at LD2
    clear EL2 r r1
    go_wp2_with fail
    go_region_held3 (fun w' => w'.cell? ⟨w.heap.size, 0, none⟩ = some (.slice aW ws.length cW) ∧ w'.cell? ⟨w.heap.size, 1, none⟩ = some (.slice aP ps.length cP))
      (exact SK.out _ (by repeat (first | exact BF.out | exact Below.refl _ _ | refine Below.drew ?_)))
      (first
        | (go_at_call 70; refine (LW3.out _ (by repeat (first | exact Below.refl _ _ | refine Below.drew ?_))).mono ?_; rintro e w2 ⟨rfl, hb2⟩; have BF : Hid (Below w1.heap.size w1 w2) := (by first | exact hb2 | exact below_trans (by repeat (first | exact Below.refl _ _ | refine Below.drew ?_)) hb2 (Nat.le_refl _)); clear hb2))
    all_goals
      have B3 := hideIt (below_trans B1.out BF.out B1.out.size)
      clear x0 x1
      obtain ⟨x0, x1⟩ := SK.out _ BF.out
      clear SK
      go_wp2_with fail
      refine (LD2.out _ (HR.out.below (by repeat (first | exact B3.out | refine Below.drew ?_)))).mono ?_
      rintro e w3 ⟨rfl, hb3⟩
      have B4 : Hid (Below w.heap.size w w3) := below_trans (by repeat (first | exact B3.out | refine Below.drew ?_)) hb3 (by have := B3.out.size; simp <;> omega)
      clear hb3 x0 x1
      go_wp2
      go_ret3
      exact ⟨rfl, B4.out⟩
  rw [if_pos r] at EL2
  obtain rfl := EL2.out
  have r1 : (kindAt ws z == 2) = true := by rw [r]; rfl
  rw [r1] at LD2
  clear EL2 r r1
  go_wp2_with fail
  go_region_held3 (fun w' => w'.cell? ⟨w.heap.size, 0, none⟩ = some (.slice aW ws.length cW) ∧ w'.cell? ⟨w.heap.size, 1, none⟩ = some (.slice aP ps.length cP))
    (exact SK.out _ (by repeat (first | exact BF.out | exact Below.refl _ _ | refine Below.drew ?_)))
    (first
      | (go_at_call 70; refine (LW3.out _ (by repeat (first | exact Below.refl _ _ | refine Below.drew ?_))).mono ?_; rintro e w2 ⟨rfl, hb2⟩; have BF : Hid (Below w1.heap.size w1 w2) := (by first | exact hb2 | exact below_trans (by repeat (first | exact Below.refl _ _ | refine Below.drew ?_)) hb2 (Nat.le_refl _)); clear hb2))
  all_goals
    have B3 := hideIt (below_trans B1.out BF.out B1.out.size)
    clear x0 x1
    obtain ⟨x0, x1⟩ := SK.out _ BF.out
    clear SK
    go_wp2_with fail
    refine (LD2.out _ (HR.out.below (by repeat (first | exact B3.out | refine Below.drew ?_)))).mono ?_
    rintro e w3 ⟨rfl, hb3⟩
    have B4 : Hid (Below w.heap.size w w3) := below_trans (by repeat (first | exact B3.out | refine Below.drew ?_)) hb3 (by have := B3.out.size; simp <;> omega)
    have B5 : Hid (Below w1.heap.size w1 w3) := below_trans (by repeat (first | exact BF.out | refine Below.drew ?_)) hb3 (by have := BF.out.size; simp <;> omega)
    have hx := HX.out _ B5.out
    clear hb3 x0 x1
    go_wp2_with fail
    go_region_held3 (fun w' => w'.cell? ⟨b, o + n, none⟩ = some (.string x))
      (exact HX.out _ (by repeat (first | exact B5.out | refine Below.drew ?_)))
      (fail)
    all_goals
      go_wp2
      go_ret3
      exact ⟨rfl, (by repeat (first | exact B4.out | refine Below.drew ?_))⟩
end Go.Proofs.YtpljkdbeekplbaaDoor
