/- Several texts laid together: PcB, PcC, PiP. -/
import Derived.Test.YtgnfbiohjdepcaaGreatDoorZAQ
import Derived.Test.YtgnfbiohjdepcaaGreatDoorZAP
namespace Go.Proofs.YtgnfbiohjdepcaaGreatDoor
open Go.RowKit
set_option maxRecDepth 100000 in
set_option maxHeartbeats 4000000 in
theorem l06Walk_any (v vL : Value) (ws : List Ino) (ps : List Den) (ns : List ByteArray) (w : World) (h : RdIm w v ws ps) (hL : RdT w vL ns) (hi : imgB ws ps = true) (hn : ns.length ≤ 1048576) :
    Calls Tryz.prog 121 #[v, vL] w fun e w' => e = .returned (.tuple #[.int .i64 (wk ws ps 0 ns).1, .int .i64 (wk ws ps 0 ns).2]) ∧ Below w.heap.size w w' := by
  have HR := hideIt h
  have LE := hideIt (fun d nm w1 h => l06Entry_any v ws ps d nm w1 h (by have := (pimg_all hi).2.1; omega))
  obtain ⟨vW, vP, rfl, h1, h2⟩ := h
  obtain ⟨aW, cW, rfl, _, hcW⟩ := h1.shape
  obtain ⟨aP, cP, rfl, _, hcP⟩ := h2.shape
  obtain ⟨aL, cL, rfl, _, hcL⟩ := hL.shape
  have L16 := hideIt (pimg_all hi).1
  have L24 := hideIt (pimg_all hi).2.1
  obtain ⟨bW, oW, rfl, hblW, hcellW⟩ := hcW (by have := L16.out; omega)
  obtain ⟨bP, oP, rfl, hblP, hcellP⟩ := hcP (by have := L24.out; omega)
  have HW : Hid (∀ w', Below w.heap.size w w' → ∀ n : Nat, n < 16 → w'.cell? ⟨bW, oW + n * 11, none⟩ = some (.int .i64 (kindAt ws n))) := fun w' hb n hn => by
    have hnl : n < ws.length := by have := L16.out; omega
    rw [kindAt_of hnl]
    exact (hb.cell (p := ⟨bW, oW + n * 11, none⟩) hblW).trans (hcellW n hnl).1
  have HP : Hid (∀ w', Below w.heap.size w w' → ∀ k (h : k < ps.length), w'.cell? ⟨bP, oP + k * 3 + 2, none⟩ = some (.int .i64 (childAt ps k))) := fun w' hb k hk => by
    rw [childAt_of hk]
    exact (hb.cell (p := ⟨bP, oP + k * 3 + 2, none⟩) hblP).trans (hcellP k hk).2.2
  have HN := hideIt hcL
  have CR := hideIt (fun (d : Int) (nm : ByteArray) (k : Nat) (e : entAt ps d nm = some k) => child_range hi e)
  generalize hres : wk ws ps 0 ns = res
  have HRES := hideIt hres
  clear hres
  clear h1 h2 hcW hcP hcellW hcellP hcL hL hi
  obtain ⟨W, hW⟩ : ∃ W, W = w.alloc (.cells #[.slice (some ⟨bW, oW, none⟩) ws.length cW, .slice (some ⟨bP, oP, none⟩) ps.length cP] 62) := ⟨_, rfl⟩
  have CA : Hid (∀ w', Below W.heap.size W w' → w'.cell? ⟨w.heap.size, 0, none⟩ = some (.slice (some ⟨bW, oW, none⟩) ws.length cW) ∧ w'.cell? ⟨w.heap.size, 1, none⟩ = some (.slice (some ⟨bP, oP, none⟩) ps.length cP)) := fun w' hb => by
    have : w'.heap[w.heap.size]? = some (.cells #[.slice (some ⟨bW, oW, none⟩) ws.length cW, .slice (some ⟨bP, oP, none⟩) ps.length cP] 62 (0, 0)) := (hb.block _ (by rw [hW]; simp)).trans (by rw [hW]; exact at_new rfl)
    exact ⟨(two_cells this).1, (two_cells this).2.1⟩
  have BW : Hid (Below w.heap.size w W) := by rw [hW]; exact (Below.refl _ _).alloc (Nat.le_refl _) _
  have hz : w.heap.size ≤ W.heap.size := BW.out.size
  go_enter Tryz.func121, Tryz.ntmps121
  go_wp2
  rw [← hW]
  clear hW
  go_loopg [6, 7] ns.length (fun g a i wr => ∃ (k : Nat) (z : Nat), k + g = ns.length ∧ z < 16 ∧ a = .int .i64 z ∧ i = .int .i64 k ∧ Hid (Below W.heap.size W wr ∧ res = wk ws ps z (ns.drop k)))
  case atStart => exact ⟨0, 0, by omega, by omega, rfl, rfl, Below.refl _ _, HRES.out.symm⟩
  case round =>
    obtain ⟨k, z, hk, hz16, rfl, rfl, J⟩ := hrel
    obtain ⟨x0, x1⟩ := CA.out wr J.out.1
    have B := hideIt (below_trans BW.out J.out.1 hz)
    have J1 := hideIt J.out.1
    have k0 : (0 : Int) ≤ (k : Int) := by omega
    have z0 : (0 : Int) ≤ (z : Int) := by omega
    have z1 : (z : Int) < (ws.length : Int) := by have := L16.out; omega
    by_cases hlt : k < ns.length
    · have k1 : (k : Int) < (ns.length : Int) := by omega
      have y0 := HW.out wr B.out z hz16
      have JD : Hid (res = wk ws ps z (ns[k] :: ns.drop (k + 1))) := by unfold Hid; rw [J.out.2, List.drop_eq_getElem_cons hlt]
      obtain ⟨bL, oL, rfl, hblL, hcell⟩ := HN.out (by omega)
      have n0 := (B.out.cell (p := ⟨bL, oL + k, none⟩) hblL).trans (hcell k hlt)
      have WN := hideIt (fun (h : ¬ kindAt ws z = 2) => wk_nodir (ps := ps) (n := ns[k]) (ns := ns.drop (k + 1)) h)
      have WO := hideIt (fun (h : kindAt ws z = 2) (e : entAt ps z ns[k] = none) => wk_none (ns := ns.drop (k + 1)) h e)
      have WS := hideIt (fun (h : kindAt ws z = 2) (j : Nat) (e : entAt ps z ns[k] = some j) => wk_some (ns := ns.drop (k + 1)) h e)
      have EI := hideIt (show entI ps z ns[k] = match entAt ps z ns[k] with | none => -1 | some k => (k : Int) from rfl)
      have CR2 := hideIt (fun (j : Nat) (e : entAt ps z ns[k] = some j) => CR.out _ _ _ e)
      have LE2 := hideIt (fun w1 (hb : Below wr.heap.size wr w1) => LE.out (z : Int) ns[k] w1 (HR.out.below (below_trans B.out hb B.out.size)))
      clear J hcell
      generalize kindAt ws z = kk at *
      clear HRES
      generalize ns[k] = nm at *
      by_cases q : kk = 2
      case neg =>
        have q1 : (kk != 2) = true := by rw [bne_iff_ne]; exact q
        obtain rfl := JD.out.trans (WN.out q)
        clear q WN WO WS EI CR2 LE2
        go_wp2
        go_ret2
        exact ⟨rfl, B.out⟩
      have q1 : (kk != 2) = false := by rw [q]; rfl
      have SK : Hid (∀ w', Below wr.heap.size wr w' → (w'.cell? ⟨w.heap.size, 0, none⟩ = some (.slice (some ⟨bW, oW, none⟩) ws.length cW) ∧ w'.cell? ⟨w.heap.size, 1, none⟩ = some (.slice (some ⟨bP, oP, none⟩) ps.length cP)) ∧ w'.cell? ⟨bL, oL + k, none⟩ = some (.string nm)) := fun w' hb => ⟨CA.out w' (below_trans J1.out hb J1.out.size), (hb.cell (p := ⟨bL, oL + k, none⟩) (Nat.lt_of_lt_of_le hblL B.out.size)).trans n0⟩
      cases e : entAt ps z nm with
      | none =>
        have W2 := hideIt (JD.out.trans (WO.out q e))
        rw [e] at EI
        obtain rfl := W2.out
        have EI2 : Hid (entI ps z nm = -1) := EI
        rw [EI2.out] at LE2
        clear q WN WO WS EI CR2 W2 JD e
        go_wp2_with fail
        go_region_held3 (fun w' => (w'.cell? ⟨w.heap.size, 0, none⟩ = some (.slice (some ⟨bW, oW, none⟩) ws.length cW) ∧ w'.cell? ⟨w.heap.size, 1, none⟩ = some (.slice (some ⟨bP, oP, none⟩) ps.length cP)) ∧ w'.cell? ⟨bL, oL + k, none⟩ = some (.string nm))
          (exact SK.out _ (by repeat (first | exact BF.out | exact Below.refl _ _ | refine Below.drew ?_)))
          (first
            | (go_at_call 147; refine (LE2.out _ (by repeat (first | exact Below.refl _ _ | refine Below.drew ?_))).mono ?_; rintro e w1 ⟨rfl, hb1⟩; have BF : Hid (Below wr.heap.size wr w1) := (by first | exact hb1 | exact below_trans (by repeat (first | exact Below.refl _ _ | refine Below.drew ?_)) hb1 (Nat.le_refl _)); clear hb1))
        all_goals
          have B3 := hideIt (below_trans B.out BF.out B.out.size)
          clear SK x0 x1 y0 n0
          go_wp2
          go_ret2
          exact ⟨rfl, (by repeat (first | exact B3.out | refine Below.drew ?_))⟩
      | some j =>
        have W2 := hideIt (JD.out.trans (WS.out q j e))
        obtain ⟨hj, c1, c2⟩ := CR2.out j e
        rw [e] at EI
        have EI2 : Hid (entI ps z nm = (j : Int)) := EI
        rw [EI2.out] at LE2
        obtain ⟨y, hy⟩ : ∃ y : Nat, childAt ps j = (y : Int) := ⟨(childAt ps j).toNat, by omega⟩
        have HJ := hideIt (fun w' (hb : Below w.heap.size w w') => HP.out w' hb j hj)
        rw [hy] at HJ W2
        have y16 : y < 16 := by omega
        have j0 : (0 : Int) ≤ (j : Int) := by omega
        have j1 : (j : Int) < (ps.length : Int) := by omega
        have j2 : ¬ (j : Int) < 0 := by omega
        clear q WN WO WS EI CR2 JD e hy c1 c2
        go_wp2_with fail
        go_region_held3 (fun w' => (w'.cell? ⟨w.heap.size, 0, none⟩ = some (.slice (some ⟨bW, oW, none⟩) ws.length cW) ∧ w'.cell? ⟨w.heap.size, 1, none⟩ = some (.slice (some ⟨bP, oP, none⟩) ps.length cP)) ∧ w'.cell? ⟨bL, oL + k, none⟩ = some (.string nm))
          (exact SK.out _ (by repeat (first | exact BF.out | exact Below.refl _ _ | refine Below.drew ?_)))
          (first
            | (go_at_call 147; refine (LE2.out _ (by repeat (first | exact Below.refl _ _ | refine Below.drew ?_))).mono ?_; rintro e w1 ⟨rfl, hb1⟩; have BF : Hid (Below wr.heap.size wr w1) := (by first | exact hb1 | exact below_trans (by repeat (first | exact Below.refl _ _ | refine Below.drew ?_)) hb1 (Nat.le_refl _)); clear hb1))
        all_goals
          have B3 := hideIt (below_trans B.out BF.out B.out.size)
          have B4 := hideIt (below_trans J1.out BF.out J1.out.size)
          have p1 := (SK.out _ BF.out).1.2
          have p2 := HJ.out _ B3.out
          clear SK x0 x1 y0 n0
          go_wp2
          go_roundg (ns.length - (k + 1))
          case measure => omega
          case rel => exact ⟨k + 1, y, by omega, y16, rfl, by go_num, (by repeat (first | exact B4.out | refine Below.drew ?_)), W2.out⟩
    · obtain rfl : k = ns.length := by omega
      have E : Hid (res = ((z : Int), 0)) := by unfold Hid; rw [J.out.2, List.drop_length]; rfl
      clear HRES J
      obtain rfl := E.out
      go_wp2
      go_ret2
      exact ⟨rfl, B.out⟩
end Go.Proofs.YtgnfbiohjdepcaaGreatDoor

namespace Go.Proofs.YtgnfbiohjdepcaaGreatDoor
open Go.RowKit
def lkI (ws : List Ino) (ps : List Den) (s : ByteArray) : Int × Int := if spB s = true then wk ws ps 0 (spL s) else (0, 12)
def lkR (ws : List Ino) (ps : List Den) (s : ByteArray) : Int × Int := if 65536 < s.size then (0, 2) else if imgB ws ps = true then lkI ws ps s else (0, 1)
def paN (ws : List Ino) (ps : List Den) (xs : List ByteArray) (x : ByteArray) : Int × ByteArray × Int := if (wk ws ps 0 xs).2 = 0 then (if kindAt ws (wk ws ps 0 xs).1 = 2 then ((wk ws ps 0 xs).1, x, 0) else (0, ⟨#[]⟩, 10)) else (0, ⟨#[]⟩, (wk ws ps 0 xs).2)
def paL (ws : List Ino) (ps : List Den) (ns : List ByteArray) : Int × ByteArray × Int := if ns = [] then (0, ⟨#[]⟩, 19) else paN ws ps ns.dropLast (ns.getLastD ⟨#[]⟩)
def paI (ws : List Ino) (ps : List Den) (s : ByteArray) : Int × ByteArray × Int := if spB s = true then paL ws ps (spL s) else (0, ⟨#[]⟩, 12)
def paR (ws : List Ino) (ps : List Den) (s : ByteArray) : Int × ByteArray × Int := if 65536 < s.size then (0, ⟨#[]⟩, 2) else if imgB ws ps = true then paI ws ps s else (0, ⟨#[]⟩, 1)
set_option maxRecDepth 100000 in
set_option maxHeartbeats 4000000 in
theorem l06Lookup_any (v : Value) (ws : List Ino) (ps : List Den) (s : ByteArray) (w : World) (h : RdIm w v ws ps) (hi : imgB ws ps = true) (hs : s.size ≤ 65536) :
    Calls Tryz.prog 85 #[v, .string s] w fun e w' => e = .returned (.tuple #[.int .i64 (lkI ws ps s).1, .int .i64 (lkI ws ps s).2]) ∧ Below w.heap.size w w' := by
  have HR := hideIt h
  have LS := hideIt (fun w1 => l06Split_any s w1 hs)
  have LW := hideIt (fun vL w1 h hL => l06Walk_any v vL ws ps (spL s) w1 h hL hi (by have := @spL_len s; omega))
  have EL := hideIt (show lkI ws ps s = if spB s = true then wk ws ps 0 (spL s) else (0, 12) from rfl)
  obtain ⟨vW, vP, rfl, h1, h2⟩ := h
  obtain ⟨aW, cW, rfl, _, _⟩ := h1.shape
  obtain ⟨aP, cP, rfl, _, _⟩ := h2.shape
  clear h1 h2 hi
  have CA : Hid (∀ w', Below (w.alloc (.cells #[.slice aW ws.length cW, .slice aP ps.length cP] 62)).heap.size (w.alloc (.cells #[.slice aW ws.length cW, .slice aP ps.length cP] 62)) w' → w'.cell? ⟨w.heap.size, 0, none⟩ = some (.slice aW ws.length cW) ∧ w'.cell? ⟨w.heap.size, 1, none⟩ = some (.slice aP ps.length cP)) := fun w' hb => by
    have : w'.heap[w.heap.size]? = some (.cells #[.slice aW ws.length cW, .slice aP ps.length cP] 62 (0, 0)) := (hb.block _ (by simp)).trans (at_new rfl)
    exact ⟨(two_cells this).1, (two_cells this).2.1⟩
  have BW : Hid (Below w.heap.size w (w.alloc (.cells #[.slice aW ws.length cW, .slice aP ps.length cP] 62))) := (Below.refl _ _).alloc (Nat.le_refl _) _
  generalize lkI ws ps s = res at *
  generalize wk ws ps 0 (spL s) = rw0 at *
  cases c : spB s with
  | false =>
    rw [c] at LS EL
    obtain rfl := EL.out
    clear EL LW
    go_enter Tryz.func85, Tryz.ntmps85
    go_wp2_with fail
    refine (LS.out _).mono ?_
    rintro e w1 ⟨v1, rfl, hr1, hb1⟩
    have B1 := hideIt (below_trans BW.out hb1 BW.out.size)
    clear hr1 hb1
    go_wp2
    go_ret2
    exact ⟨rfl, B1.out⟩
  | true =>
    rw [c] at LS EL
    obtain rfl : res = rw0 := EL.out
    clear EL
    go_enter Tryz.func85, Tryz.ntmps85
    go_wp2_with fail
    refine (LS.out _).mono ?_
    rintro e w1 ⟨v1, rfl, hr1, hb1⟩
    have B1 := hideIt (below_trans BW.out hb1 BW.out.size)
    obtain ⟨x0, x1⟩ := CA.out _ hb1
    have R1 := hideIt hr1
    clear hr1 hb1
    go_wp2_with fail
    refine (LW.out _ _ (HR.out.below B1.out) R1.out).mono ?_
    rintro e w2 ⟨rfl, hb2⟩
    have B2 := hideIt (below_trans B1.out hb2 B1.out.size)
    clear hb2 x0 x1
    go_wp2
    go_ret2
    exact ⟨rfl, B2.out⟩
end Go.Proofs.YtgnfbiohjdepcaaGreatDoor

namespace Go.Proofs.YtgnfbiohjdepcaaGreatDoor
open Go.RowKit
def firstIx (p : Nat → Bool) (n : Nat) : Int := match (List.range n).find? p with | some i => (i : Int) | none => -1
theorem first_at {p : Nat → Bool} {n k : Nat} (hk : k < n) (h : ∀ j, j < k → p j = false) (e : p k = true) : firstIx p n = (k : Int) := by
  have : (List.range n).find? p = some k := List.find?_range_eq_some.2 ⟨e, List.mem_range.2 hk, fun j hj => by rw [h j hj]; rfl⟩
  unfold firstIx
  rw [this]
theorem first_none {p : Nat → Bool} {n : Nat} (h : ∀ j, j < n → p j = false) : firstIx p n = -1 := by
  have : (List.range n).find? p = none := List.find?_eq_none.2 (fun j hj => by rw [h j (List.mem_range.1 hj)]; decide)
  unfold firstIx
  rw [this]
theorem first_bound (p : Nat → Bool) (n : Nat) : -1 ≤ firstIx p n ∧ firstIx p n < n := by
  unfold firstIx
  split
  · rename_i i h
    have := List.mem_range.1 (List.mem_of_find?_eq_some h)
    omega
  · omega
def tellV (r : Int) : Int := if r < 0 then 0 else r
def tellC (r : Int) : Int := if r < 0 then 7 else 0
def ubC (b : Bool) (t : Int) : Int := if b = true then (if t = 1 ∨ t = 2 then 0 else 4) else 1
def ubL (b : Bool) (ms : List Int) (t : Int) : List Int := if b = true ∧ (t = 1 ∨ t = 2) then usedOf ms t else []
theorem img_parts {ws : List Ino} {ps : List Den} (h : imgB ws ps = true) : ws.length = 16 ∧ ps.length = 24 ∧ kindAt ws 0 = 2 ∧ okNs ws = true := by
  unfold imgB at h
  simp only [Bool.and_eq_true, decide_eq_true_eq, beq_iff_eq] at h
  exact ⟨h.1, h.2.1, h.2.2.1, h.2.2.2.1⟩
theorem used_succ {l : List Int} {t : Int} {k : Nat} (hk : k < l.length) : usedOf (l.take (k + 1)) t = if l[k] % 4 = t then usedOf (l.take k) t ++ [l[k] / 4] else usedOf (l.take k) t := by
  unfold usedOf
  rw [List.take_succ_eq_append_getElem hk, List.filter_append, List.map_append]
  by_cases h : l[k] % 4 = t
  · rw [if_pos h]; simp [h]
  · rw [if_neg h]; simp [h]
set_option maxRecDepth 100000 in
set_option maxHeartbeats 4000000 in
theorem implUsedBy_any (v : Value) (ws : List Ino) (ps : List Den) (t : Int) (w : World) (h : RdIm w v ws ps) (hw : ws.length ≤ 1048576) (hp : ps.length ≤ 1048576) (hT : TS w) (hE : ED w) (hF : FD w) (hr : ∀ k (h : k < ws.length), ws[k].R) (hs : ∀ k (h : k < ps.length), ps[k].name.size ≤ maxLen) :
    Calls Tryz.prog 141 #[v, .int .i64 t] w fun e w' => ∃ v', e = .returned (.tuple #[v', .int .i64 (ubC (imgB ws ps) t)]) ∧ Row w' 3 1 w.heap.size w'.heap.size v' (ubL (imgB ws ps) (mapped ws) t).length (ints (ubL (imgB ws ps) (mapped ws) t)) ∧ Below w.heap.size w w' := by
  have LI := hideIt (fun w1 (hb : Below w.heap.size w w1) => implImageOK_any v ws ps w1 (h.below hb) hw hp (hT.below hb) (hE.below hb) (hF.below hb) hr hs)
  have T := hideIt hT
  obtain ⟨vW, vP, rfl, h1, h2⟩ := h
  have RW := hideIt h1
  obtain ⟨aW, cW, rfl, _, _⟩ := h1.shape
  obtain ⟨aP, cP, rfl, _, _⟩ := h2.shape
  have LM := hideIt (fun w1 (hb : Below w.heap.size w w1) (hl : ws.length ≤ 4096) => mappedEntries_any (.slice aW ws.length cW) ws w1 (Rd.below RW.out hb) hl)
  clear h1 h2 hr hs hT hE hF
  have CA : Hid (∀ w', Below (w.alloc (.cells #[.slice aW ws.length cW, .slice aP ps.length cP] 62)).heap.size (w.alloc (.cells #[.slice aW ws.length cW, .slice aP ps.length cP] 62)) w' → w'.cell? ⟨w.heap.size, 0, none⟩ = some (.slice aW ws.length cW) ∧ w'.cell? ⟨w.heap.size, 1, none⟩ = some (.slice aP ps.length cP)) := fun w' hb => by
    have : w'.heap[w.heap.size]? = some (.cells #[.slice aW ws.length cW, .slice aP ps.length cP] 62 (0, 0)) := (hb.block _ (by simp)).trans (at_new rfl)
    exact ⟨(two_cells this).1, (two_cells this).2.1⟩
  have BW : Hid (Below w.heap.size w (w.alloc (.cells #[.slice aW ws.length cW, .slice aP ps.length cP] 62))) := (Below.refl _ _).alloc (Nat.le_refl _) _
  obtain ⟨x0, x1⟩ := CA.out _ (Below.refl _ _)
  cases c1 : imgB ws ps with
  | false =>
    rw [c1] at LI
    rw [show ubC false t = 1 from rfl, show ubL false (mapped ws) t = [] from if_neg (fun h => by cases h.1)]
    clear c1
    go_enter Tryz.func141, Tryz.ntmps141
    go_wp2_with fail
    refine (LI.out _ BW.out).mono ?_
    rintro e w1 ⟨rfl, hb1⟩
    have B1 := hideIt (below_trans BW.out hb1 BW.out.size)
    clear hb1 x0 x1
    go_wp2
    go_ret2
    exact ⟨_, rfl, Row.nil _ _ _ _ _, B1.out⟩
  | true =>
  rw [c1] at LI
  by_cases c2 : t = 1 ∨ t = 2
  case neg =>
    rw [show ubC true t = 4 by unfold ubC; rw [if_pos rfl, if_neg c2], show ubL true (mapped ws) t = [] from if_neg (fun h => c2 h.2)]
    have q1 : (t != 1) = true := by rw [bne_iff_ne]; exact fun e => c2 (.inl e)
    have q2 : (t != 2) = true := by rw [bne_iff_ne]; exact fun e => c2 (.inr e)
    clear c1 c2
    go_enter Tryz.func141, Tryz.ntmps141
    go_wp2_with fail
    refine (LI.out _ BW.out).mono ?_
    rintro e w1 ⟨rfl, hb1⟩
    have B1 := hideIt (below_trans BW.out hb1 BW.out.size)
    clear hb1 x0 x1
    go_wp2
    go_ret2
    exact ⟨_, rfl, Row.nil _ _ _ _ _, B1.out⟩
  rw [show ubC true t = 0 by unfold ubC; rw [if_pos rfl, if_pos c2], show ubL true (mapped ws) t = usedOf (mapped ws) t from if_pos ⟨rfl, c2⟩]
  have HL := hideIt (show ws.length ≤ 4096 by have := (img_parts c1).1; omega)
  have ml : (mapped ws).length ≤ 128 := by have := mapped_len ws; have := (img_parts c1).1; omega
  have TI : Hid (∀ k (h : k < (mapped ws).length), tieB (mapped ws)[k] = true) := fun k hk => by
    have hm := List.getElem_mem hk
    generalize (mapped ws)[k] = e at hm ⊢
    unfold mapped at hm
    obtain ⟨x, hx, he⟩ := List.mem_flatMap.1 hm
    obtain ⟨i, hi, rfl⟩ := List.getElem_of_mem hx
    unfold somes at he
    exact okNs_ties (img_parts c1).2.2.2 i hi e (List.mem_filter.1 he).1
  have qq : ((t != 1) = false ∨ ((t != 1) = true ∧ (t != 2) = false)) := by rcases c2 with rfl | rfl <;> simp
  have TB : -10 ≤ t ∧ t ≤ 10 := by omega
  clear c1 c2
  generalize mapped ws = ms at *
  rcases qq with q1 | ⟨q1, q2⟩
  all_goals
    go_enter Tryz.func141, Tryz.ntmps141
    go_wp2_with fail
    refine (LI.out _ BW.out).mono ?_
    rintro e w1 ⟨rfl, hb1⟩
    have B1 := hideIt (below_trans BW.out hb1 BW.out.size)
    clear x0 x1
    obtain ⟨x0, x1⟩ := CA.out _ hb1
    clear hb1
    go_wp2_with fail
    refine (LM.out _ B1.out HL.out).mono ?_
    rintro e w2 ⟨v2, rfl, hr2, hb2⟩
    obtain ⟨-, aM, cM, hvM, -⟩ := hr2.rd
    subst hvM
    have R2 : Hid (RdI w2 (.slice aM ms.length cM) ms) := hr2.rd
    have B2 := hideIt (below_trans B1.out hb2 B1.out.size)
    have hz2 : w.heap.size ≤ w2.heap.size := B2.out.size
    obtain ⟨aZ, cZ, eZ, _, hcZ⟩ := R2.out.shape
    have HZ := hideIt hcZ
    obtain ⟨rfl, rfl⟩ : aZ = aM ∧ cZ = cM := by cases eZ; exact ⟨rfl, rfl⟩
    clear eZ hcZ hr2 hb2 x0 x1
    go_wp2
    go_loopw [6, 8, 9, 10, 11, 25] (fun vL _ _ _ _ i wr => ∃ k : Nat, k ≤ ms.length ∧ i = .int .i64 k ∧ Hid (InI w2 wr vL (usedOf (ms.take k) t)) ∧ w2.heap.size ≤ wr.heap.size) (fun _ _ _ _ _ i _ => ms.length - (intOf i).toNat)
    case atStart => exact ⟨0, by omega, rfl, ⟨World.ownsRow_nil _ _ _ _, Below.refl _ _⟩, Nat.le_refl _⟩
    case round =>
      obtain ⟨k, hk, rfl, I, hz⟩ := hrel
      by_cases hlt : k < ms.length
      · obtain ⟨b, o, rfl, hbl, hcell⟩ := HZ.out (by omega)
        have hck := (I.out.b.cell (p := ⟨b, o + k, none⟩) hbl).trans (hcell k hlt)
        have k0 : (0 : Int) ≤ (k : Int) := by omega
        have k1 : (k : Int) < (ms.length : Int) := by omega
        have US := hideIt (used_succ (t := t) hlt)
        have UL := usedOf_len (ms.take k) t
        rw [List.length_take] at UL
        obtain ⟨t1, t2, t3⟩ := tie_in (TI.out k hlt)
        have t4 := tie_small (TI.out k hlt)
        have LT := hideIt (fun w3 (hT : TS w3) => implTierOf_any ms[k] w3 hT (by omega) (by omega))
        rw [t1, t2, t3] at LT
        have TW := hideIt (T.out.below (below_trans B2.out I.out.b hz2))
        clear hcell t1 t2 t3
        generalize ms[k] = z at hck US LT t4
        by_cases r : z % 4 = t
        · have r' : (z % 4 == t) = true := by rw [beq_iff_eq]; exact r
          have JB : Hid (InI w2 (wr.alloc (.cells #[.int .i64 (z / 4)] 3)) u6 (usedOf (ms.take k) t)) := I.out.below ((Below.refl _ _).alloc (Nat.le_refl _) _)
          have RB := hideIt (rd_int wr (z / 4))
          have hzb := JB.out.z
          have MN : Hid (usedOf (ms.take (k + 1)) t = usedOf (ms.take k) t ++ [z / 4]) := by unfold Hid; rw [US.out, if_pos r]
          clear r I US
          go_wp2_with (first
            | (go_at_call 60; refine (LT.out _ TW.out).mono ?_; rintro e w' ⟨rfl, rfl⟩)
            | (at_builtin; refine wpList_append_rd _ rfl (.tmp 38) (.tmp 40) 22 rfl w2.heap.size 3 (.int .i64 0) 1 8 Tryz.underlying22 info3 rfl (by decide) _ _ _ rfl JB.out.l _ 1 _ rfl RB.out (one_int _) (by simp [maxLen]; omega) (by omega) (by omega) ?_))
          intro vN wN hownN hgrN
          have G := hideIt (JB.out.grow (z / 4) hownN hgrN)
          rw [← MN.out] at G
          have hzN := G.out.z
          clear hownN hgrN JB RB
          go_wp2
          go_roundw
          case rel => exact ⟨k + 1, by omega, by go_num, G, hzN⟩
          case measure => simp [intOf]; omega
        · have r' : (z % 4 == t) = false := by rw [beq_eq_false_iff_ne]; exact r
          have G : Hid (InI w2 wr u6 (usedOf (ms.take (k + 1)) t)) := by unfold Hid; rw [US.out, if_neg r]; exact I.out
          clear r I US
          go_wp2_with (go_at_call 60; refine (LT.out _ TW.out).mono ?_; rintro e w' ⟨rfl, rfl⟩)
          go_roundw
          case rel => exact ⟨k + 1, by omega, by go_num, G, hz⟩
          case measure => simp [intOf]; omega
      · obtain rfl : k = ms.length := by omega
        have E := hideIt (show usedOf (ms.take ms.length) t = usedOf ms t by rw [List.take_length])
        rw [E.out] at I
        obtain ⟨-, aL, cL, hvL, -⟩ := (own_block I.out.l).rd
        subst hvL
        go_wp2
        go_ret2
        exact ⟨_, rfl, (own_block I.out.l).wide hz2 (Nat.le_refl _), below_trans B2.out I.out.b hz2⟩
end Go.Proofs.YtgnfbiohjdepcaaGreatDoor
