/- Going down a path: by the program. -/
import Derived.Test.YtcilodgoognmnaaGreatDoorZBH
import Derived.Test.YtcilodgoognmnaaGreatDoorZBL
import Derived.Test.YtcilodgoognmnaaGreatDoorZBM
namespace Go.Proofs.YtcilodgoognmnaaGreatDoor
open Go.RowKit

/-- An entry has this name in this directory, as the program asks. -/
def pgHit (d : Int) (nm : ByteArray) (x : Den) : Bool := x.dir == d && x.name.toList == nm.toList
theorem pg_hit {ws : List Ino} {ps : List Den} (h : imgB ws ps = true) {nm : ByteArray} (hn : 1 ≤ nm.size) (d : Int) (k : Nat) (hk : k < ps.length) : entHit d nm ps[k] = pgHit d nm ps[k] := by
  unfold entHit pgHit
  rcases pimg_ent h k hk with ⟨h1, h2⟩ | ⟨h1, _⟩
  · have : (ps[k].name.toList == nm.toList) = false := by
      rw [beq_eq_false_iff_ne]
      intro e
      have := congrArg List.length e
      rw [Lib.toList_data, Lib.toList_data, ← Lib.size_eq, ← Lib.size_eq] at this
      omega
    rw [this]; simp
  · rw [decide_eq_true (show 0 ≤ ps[k].child by omega), Bool.true_and]

set_option maxRecDepth 100000 in
set_option maxHeartbeats 8000000 in
theorem goDown_any (v vL : Value) (ws : List Ino) (ps : List Den) (ns : List ByteArray) (w : World) (h : RdIm w v ws ps) (hL : RdT w vL ns) (hi : imgB ws ps = true) (hn : ns.length ≤ 1048576) (hs : ∀ k (h : k < ns.length), 1 ≤ ns[k].size) :
    Calls Tryz.prog 157 #[v, vL] w fun e w' => e = .returned (.tuple #[.int .i64 (wk ws ps 0 ns).1, .int .i64 (wk ws ps 0 ns).2]) ∧ Below w.heap.size w w' := by
  have HR := hideIt h
  have LD := hideIt (fun (i : Nat) (hi16 : i < 16) w1 h => isDir_any v ws ps (i : Int) w1 h (pimg_all hi).1 (by omega))
  obtain ⟨vW, vP, rfl, h1, h2⟩ := h
  obtain ⟨aW, cW, rfl, _, _⟩ := h1.shape
  obtain ⟨aP, cP, rfl, _, hcP⟩ := h2.shape
  obtain ⟨aL, cL, rfl, _, hcL⟩ := hL.shape
  have L24 := hideIt (pimg_all hi).2.1
  obtain ⟨bP, oP, rfl, hblP, hcellP⟩ := hcP (by have := L24.out; omega)
  have pl : ps.length ≤ 4096 := by have := L24.out; omega
  have HP := hideIt hcellP
  have HN := hideIt hcL
  have HS := hideIt hs
  have PH := hideIt (fun (nm : ByteArray) (hn : 1 ≤ nm.size) d k hk => pg_hit hi hn d k hk)
  have CR := hideIt (fun (d : Int) (nm : ByteArray) (k : Nat) (e : entAt ps d nm = some k) => child_range hi e)
  generalize hres : wk ws ps 0 ns = res
  have HRES := hideIt hres
  clear hres h1 h2 hcP hcellP hcL hL hi hs
  obtain ⟨W, hW⟩ : ∃ W, W = w.alloc (.cells #[.slice aW ws.length cW, .slice (some ⟨bP, oP, none⟩) ps.length cP] 63) := ⟨_, rfl⟩
  have CA : Hid (∀ w', Below W.heap.size W w' → w'.cell? ⟨w.heap.size, 0, none⟩ = some (.slice aW ws.length cW) ∧ w'.cell? ⟨w.heap.size, 1, none⟩ = some (.slice (some ⟨bP, oP, none⟩) ps.length cP)) := fun w' hb => by
    have : w'.heap[w.heap.size]? = some (.cells #[.slice aW ws.length cW, .slice (some ⟨bP, oP, none⟩) ps.length cP] 63 (0, 0)) := (hb.block _ (by rw [hW]; simp)).trans (by rw [hW]; exact at_new rfl)
    exact ⟨(two_cells this).1, (two_cells this).2.1⟩
  have BW : Hid (Below w.heap.size w W) := by rw [hW]; exact (Below.refl _ _).alloc (Nat.le_refl _) _
  have hzW : w.heap.size ≤ W.heap.size := BW.out.size
  go_enter Tryz.func157, Tryz.ntmps157
  go_wp2_with fail
  go_step3
  go_wp2_with fail
  go_step3
  go_wp2_with fail
  rw [← hW]
  clear hW
  go_loopg [6, 13] ns.length (fun g a i wr => ∃ (k : Nat) (z : Nat), k + g = ns.length ∧ z < 16 ∧ a = .int .i64 z ∧ i = .int .i64 k ∧ Hid (Below W.heap.size W wr ∧ res = wk ws ps z (ns.drop k)))
  case atStart => exact ⟨0, 0, by omega, by omega, rfl, rfl, Below.refl _ _, HRES.out.symm⟩
  case round =>
    obtain ⟨k, z, hk, hz16, rfl, rfl, J⟩ := hrel
    obtain ⟨x0, x1⟩ := CA.out wr J.out.1
    have B := hideIt (below_trans BW.out J.out.1 hzW)
    have J1 := hideIt J.out.1
    have k0 : (0 : Int) ≤ (k : Int) := by omega
    by_cases hlt : k < ns.length
    · have k1 : (k : Int) < (ns.length : Int) := by omega
      have JD : Hid (res = wk ws ps z (ns[k] :: ns.drop (k + 1))) := by unfold Hid; rw [J.out.2, List.drop_eq_getElem_cons hlt]
      obtain ⟨bL, oL, rfl, hblL, hcell⟩ := HN.out (by omega)
      have n0 := (B.out.cell (p := ⟨bL, oL + k, none⟩) hblL).trans (hcell k hlt)
      have WN := hideIt (fun (h : ¬ kindAt ws z = 2) => wk_nodir (ps := ps) (n := ns[k]) (ns := ns.drop (k + 1)) h)
      have WO := hideIt (fun (h : kindAt ws z = 2) (e : entAt ps z ns[k] = none) => wk_none (ns := ns.drop (k + 1)) h e)
      have WS := hideIt (fun (h : kindAt ws z = 2) (j : Nat) (e : entAt ps z ns[k] = some j) => wk_some (ns := ns.drop (k + 1)) h e)
      have PK := hideIt (fun j hj => PH.out ns[k] (HS.out k hlt) (z : Int) j hj)
      have CR2 := hideIt (fun (j : Nat) (e : entAt ps z ns[k] = some j) => CR.out _ _ _ e)
      have LD2 := hideIt (fun w1 h => LD.out z hz16 w1 h)
      clear J hcell HRES
      generalize kindAt ws (z : Int) = kk at *
      generalize ns[k] = nm at *
      by_cases q : kk = 2
      case neg =>
        have q1 : (kk == 2) = false := by rw [beq_eq_false_iff_ne]; exact q
        rw [q1] at LD2
        obtain rfl := JD.out.trans (WN.out q)
        clear q q1 WN WO WS CR2 PK
        go_wp2_with fail
        refine (LD2.out _ (HR.out.below B.out)).mono ?_
        rintro e w1 ⟨rfl, hb1⟩
        have B1 := hideIt (below_trans B.out hb1 B.out.size)
        clear hb1 x0 x1 n0
        go_wp2
        try rw [Exit.noGoto_ret]
        go_ret2
        exact ⟨rfl, B1.out⟩
      have q1 : (kk == 2) = true := by rw [q]; rfl
      rw [q1] at LD2
      clear q1
      have Q := hideIt q
      clear q
      go_wp2_with fail
      refine (LD2.out _ (HR.out.below B.out)).mono ?_
      rintro e w1 ⟨rfl, hb1⟩
      have B1 := hideIt (below_trans B.out hb1 B.out.size)
      have J2 := hideIt (below_trans J1.out hb1 J1.out.size)
      clear hb1 x0 x1 n0 LD2
      obtain ⟨x0, x1⟩ := CA.out w1 J2.out
      generalize gk = G0 at *
      have hz1 : w.heap.size ≤ w1.heap.size := B1.out.size
      clear B J1
      go_wp2_with fail
      go_loopg [6, 24] ps.length (fun g2 a i wq => ∃ j : Nat, j + g2 = ps.length ∧ a = .int .i64 z ∧ i = .int .i64 j ∧ Hid (Below w1.heap.size w1 wq ∧ ∀ m (h : m < ps.length), m < j → entHit (z : Int) nm ps[m] = false))
      case atStart => exact ⟨0, by omega, rfl, rfl, Below.refl _ _, fun m h a => absurd a (by omega)⟩
      case round =>
        obtain ⟨j, hj, rfl, rfl, K⟩ := hrel
        have KW := hideIt (below_trans B1.out K.out.1 hz1)
        have K2 := hideIt (below_trans J2.out K.out.1 J2.out.size)
        have j0 : (0 : Int) ≤ (j : Int) := by omega
        by_cases hlj : j < ps.length
        · obtain ⟨a0, a1, a2⟩ := HP.out j hlj
          have d0 := (KW.out.cell (p := ⟨bP, oP + j * 3, none⟩) hblP).trans a0
          have d1 := (KW.out.cell (p := ⟨bP, oP + j * 3 + 1, none⟩) hblP).trans a1
          have d2 := (KW.out.cell (p := ⟨bP, oP + j * 3 + 2, none⟩) hblP).trans a2
          have j1 : (j : Int) < (ps.length : Int) := by omega
          have EH : Hid (entHit (z : Int) nm ps[j] = (ps[j].dir == (z : Int) && ps[j].name.toList == nm.toList)) := PK.out j hlj
          have HY := hideIt (fun e : entHit (z : Int) nm ps[j] = true => ent_yes hlj K.out.2 e)
          have HX := hideIt (fun (e : entHit (z : Int) nm ps[j] = false) m (h : m < ps.length) (a : m < j + 1) => show entHit (z : Int) nm ps[m] = false by
            by_cases q : m = j
            · subst q; exact e
            · exact K.out.2 m h (by omega))
          have CJ := hideIt (childAt_of hlj)
          have K1 := hideIt K.out.1
          clear a0 a1 a2 K
          generalize entHit (z : Int) nm ps[j] = hit at *
          generalize ps[j].child = y at *
          generalize ps[j].dir = yd at *
          generalize ps[j].name = yn at *
          have BX := hideIt ((Below.refl wr.heap.size wr).alloc (Nat.le_refl _) (.cells #[.int .i64 yd, .string yn, .int .i64 y] 180))
          have B5 := hideIt (below_trans K1.out BX.out K1.out.size)
          have B6 := hideIt (below_trans K2.out BX.out K2.out.size)
          by_cases r : yd = (z : Int)
          case neg =>
            have r1 : (yd == (z : Int)) = false := beq_eq_false_iff_ne.2 r
            have E := hideIt (HX.out (by rw [EH.out, r1]; rfl))
            clear r HX HY EH
            go_wp2
            go_roundg (ps.length - (j + 1))
            case measure => omega
            case rel => exact ⟨j + 1, by omega, rfl, by go_num, B5.out, E.out⟩
          have r1 : (yd == (z : Int)) = true := beq_iff_eq.2 r
          cases t : (yn.toList == nm.toList) with
          | false =>
            have E := hideIt (HX.out (by rw [EH.out, t]; simp))
            clear r HX HY EH
            go_wp2
            go_roundg (ps.length - (j + 1))
            case measure => omega
            case rel => exact ⟨j + 1, by omega, rfl, by go_num, B5.out, E.out⟩
          | true =>
            have E1 := HY.out (by rw [EH.out, t, r1]; rfl)
            obtain ⟨_, c1, c2⟩ := CR2.out j E1
            have W2 := hideIt (JD.out.trans (WS.out Q.out j E1))
            rw [CJ.out] at c1 c2 W2
            obtain ⟨yn2, hy⟩ : ∃ n : Nat, y = (n : Int) := ⟨y.toNat, by omega⟩
            subst hy
            have y16 : yn2 < 16 := by omega
            clear r HX HY EH E1 CJ
            go_wp2
            go_roundg (ns.length - (k + 1))
            case measure => omega
            case rel => exact ⟨k + 1, yn2, by omega, y16, rfl, by go_num, B6.out, W2.out⟩
        · obtain rfl : j = ps.length := by omega
          have E := hideIt (JD.out.trans (WO.out Q.out (ent_no (fun m h => K.out.2 m h h))))
          obtain rfl := E.out
          clear K E
          go_wp2
          try rw [Exit.noGoto_ret]
          go_ret2
          exact ⟨rfl, KW.out⟩
    · obtain rfl : k = ns.length := by omega
      have E : Hid (res = ((z : Int), 0)) := by unfold Hid; rw [J.out.2, List.drop_length]; rfl
      clear HRES J
      obtain rfl := E.out
      go_wp2
      try rw [Exit.noGoto_ret]
      go_ret2
      exact ⟨rfl, B.out⟩
end Go.Proofs.YtcilodgoognmnaaGreatDoor
