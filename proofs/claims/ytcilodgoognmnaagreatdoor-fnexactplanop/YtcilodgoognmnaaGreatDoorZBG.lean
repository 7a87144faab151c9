/- Several texts laid together: PcE, PcF, PlB. -/
import Derived.Test.YtcilodgoognmnaaGreatDoorZAY
import Derived.Test.YtcilodgoognmnaaGreatDoorZBF
import Derived.Test.YtcilodgoognmnaaGreatDoorZAR
import Derived.Test.YtcilodgoognmnaaGreatDoorZAG
import Derived.Maps.OwnSet
import Derived.Deep.LoopGhost
namespace Go.Proofs.YtcilodgoognmnaaGreatDoor
open Go.RowKit

/-- An entry has this name in this directory, as the program asks. -/
def pgHit (d : Int) (nm : ByteArray) (x : Den) : Bool := x.dir == d && x.name.toList == nm.toList
theorem pg_hit {ws : List Ino} {ps : List Den} (h : imgB ws ps = true) {nm : ByteArray} (hn : 1 ≤ nm.size) (d : Int) (k : Nat) (hk : k < ps.length) : entHit d nm ps[k] = pgHit d nm ps[k] := by
  unfold entHit pgHit
  rcases pimg_ent h k hk with ⟨h1, h2⟩ | ⟨h1, _⟩
  · have : (ps[k].name.toList == nm.toList) = false := by
      rw [beq_eq_false_iff_ne]
      intro e
      have := congrArg List.length e
      rw [Lib.toList_data, Lib.toList_data, ← Lib.size_eq, ← Lib.size_eq] at this
      omega
    rw [this]; simp
  · rw [decide_eq_true (show 0 ≤ ps[k].child by omega), Bool.true_and]

set_option maxRecDepth 100000 in
set_option maxHeartbeats 8000000 in
theorem goDown_any (v vL : Value) (ws : List Ino) (ps : List Den) (ns : List ByteArray) (w : World) (h : RdIm w v ws ps) (hL : RdT w vL ns) (hi : imgB ws ps = true) (hn : ns.length ≤ 1048576) (hs : ∀ k (h : k < ns.length), 1 ≤ ns[k].size) :
    Calls Tryz.prog 157 #[v, vL] w fun e w' => e = .returned (.tuple #[.int .i64 (wk ws ps 0 ns).1, .int .i64 (wk ws ps 0 ns).2]) ∧ Below w.heap.size w w' := by
  have HR := hideIt h
  have LD := hideIt (fun (i : Nat) (hi16 : i < 16) w1 h => isDir_any v ws ps (i : Int) w1 h (pimg_all hi).1 (by omega))
  obtain ⟨vW, vP, rfl, h1, h2⟩ := h
  obtain ⟨aW, cW, rfl, _, _⟩ := h1.shape
  obtain ⟨aP, cP, rfl, _, hcP⟩ := h2.shape
  obtain ⟨aL, cL, rfl, _, hcL⟩ := hL.shape
  have L24 := hideIt (pimg_all hi).2.1
  obtain ⟨bP, oP, rfl, hblP, hcellP⟩ := hcP (by have := L24.out; omega)
  have pl : ps.length ≤ 4096 := by have := L24.out; omega
  have HP := hideIt hcellP
  have HN := hideIt hcL
  have HS := hideIt hs
  have PH := hideIt (fun (nm : ByteArray) (hn : 1 ≤ nm.size) d k hk => pg_hit hi hn d k hk)
  have CR := hideIt (fun (d : Int) (nm : ByteArray) (k : Nat) (e : entAt ps d nm = some k) => child_range hi e)
  generalize hres : wk ws ps 0 ns = res
  have HRES := hideIt hres
  clear hres h1 h2 hcP hcellP hcL hL hi hs
  obtain ⟨W, hW⟩ : ∃ W, W = w.alloc (.cells #[.slice aW ws.length cW, .slice (some ⟨bP, oP, none⟩) ps.length cP] 63) := ⟨_, rfl⟩
  have CA : Hid (∀ w', Below W.heap.size W w' → w'.cell? ⟨w.heap.size, 0, none⟩ = some (.slice aW ws.length cW) ∧ w'.cell? ⟨w.heap.size, 1, none⟩ = some (.slice (some ⟨bP, oP, none⟩) ps.length cP)) := fun w' hb => by
    have : w'.heap[w.heap.size]? = some (.cells #[.slice aW ws.length cW, .slice (some ⟨bP, oP, none⟩) ps.length cP] 63 (0, 0)) := (hb.block _ (by rw [hW]; simp)).trans (by rw [hW]; exact at_new rfl)
    exact ⟨(two_cells this).1, (two_cells this).2.1⟩
  have BW : Hid (Below w.heap.size w W) := by rw [hW]; exact (Below.refl _ _).alloc (Nat.le_refl _) _
  have hzW : w.heap.size ≤ W.heap.size := BW.out.size
  go_enter Tryz.func157, Tryz.ntmps157
  go_wp2_with fail
  go_step3
  go_wp2_with fail
  go_step3
  go_wp2_with fail
  rw [← hW]
  clear hW
  go_loopg [6, 13] ns.length (fun g a i wr => ∃ (k : Nat) (z : Nat), k + g = ns.length ∧ z < 16 ∧ a = .int .i64 z ∧ i = .int .i64 k ∧ Hid (Below W.heap.size W wr ∧ res = wk ws ps z (ns.drop k)))
  case atStart => exact ⟨0, 0, by omega, by omega, rfl, rfl, Below.refl _ _, HRES.out.symm⟩
  case round =>
    obtain ⟨k, z, hk, hz16, rfl, rfl, J⟩ := hrel
    obtain ⟨x0, x1⟩ := CA.out wr J.out.1
    have B := hideIt (below_trans BW.out J.out.1 hzW)
    have J1 := hideIt J.out.1
    have k0 : (0 : Int) ≤ (k : Int) := by omega
    by_cases hlt : k < ns.length
    · have k1 : (k : Int) < (ns.length : Int) := by omega
      have JD : Hid (res = wk ws ps z (ns[k] :: ns.drop (k + 1))) := by unfold Hid; rw [J.out.2, List.drop_eq_getElem_cons hlt]
      obtain ⟨bL, oL, rfl, hblL, hcell⟩ := HN.out (by omega)
      have n0 := (B.out.cell (p := ⟨bL, oL + k, none⟩) hblL).trans (hcell k hlt)
      have WN := hideIt (fun (h : ¬ kindAt ws z = 2) => wk_nodir (ps := ps) (n := ns[k]) (ns := ns.drop (k + 1)) h)
      have WO := hideIt (fun (h : kindAt ws z = 2) (e : entAt ps z ns[k] = none) => wk_none (ns := ns.drop (k + 1)) h e)
      have WS := hideIt (fun (h : kindAt ws z = 2) (j : Nat) (e : entAt ps z ns[k] = some j) => wk_some (ns := ns.drop (k + 1)) h e)
      have PK := hideIt (fun j hj => PH.out ns[k] (HS.out k hlt) (z : Int) j hj)
      have CR2 := hideIt (fun (j : Nat) (e : entAt ps z ns[k] = some j) => CR.out _ _ _ e)
      have LD2 := hideIt (fun w1 h => LD.out z hz16 w1 h)
      clear J hcell HRES
      generalize kindAt ws (z : Int) = kk at *
      generalize ns[k] = nm at *
      by_cases q : kk = 2
      case neg =>
        have q1 : (kk == 2) = false := by rw [beq_eq_false_iff_ne]; exact q
        rw [q1] at LD2
        obtain rfl := JD.out.trans (WN.out q)
        clear q q1 WN WO WS CR2 PK
        go_wp2_with fail
        refine (LD2.out _ (HR.out.below B.out)).mono ?_
        rintro e w1 ⟨rfl, hb1⟩
        have B1 := hideIt (below_trans B.out hb1 B.out.size)
        clear hb1 x0 x1 n0
        go_wp2
        try rw [Exit.noGoto_ret]
        go_ret2
        exact ⟨rfl, B1.out⟩
      have q1 : (kk == 2) = true := by rw [q]; rfl
      rw [q1] at LD2
      clear q1
      have Q := hideIt q
      clear q
      go_wp2_with fail
      refine (LD2.out _ (HR.out.below B.out)).mono ?_
      rintro e w1 ⟨rfl, hb1⟩
      have B1 := hideIt (below_trans B.out hb1 B.out.size)
      have J2 := hideIt (below_trans J1.out hb1 J1.out.size)
      clear hb1 x0 x1 n0 LD2
      obtain ⟨x0, x1⟩ := CA.out w1 J2.out
      generalize gk = G0 at *
      have hz1 : w.heap.size ≤ w1.heap.size := B1.out.size
      clear B J1
      go_wp2_with fail
      go_loopg [6, 24] ps.length (fun g2 a i wq => ∃ j : Nat, j + g2 = ps.length ∧ a = .int .i64 z ∧ i = .int .i64 j ∧ Hid (Below w1.heap.size w1 wq ∧ ∀ m (h : m < ps.length), m < j → entHit (z : Int) nm ps[m] = false))
      case atStart => exact ⟨0, by omega, rfl, rfl, Below.refl _ _, fun m h a => absurd a (by omega)⟩
      case round =>
        obtain ⟨j, hj, rfl, rfl, K⟩ := hrel
        have KW := hideIt (below_trans B1.out K.out.1 hz1)
        have K2 := hideIt (below_trans J2.out K.out.1 J2.out.size)
        have j0 : (0 : Int) ≤ (j : Int) := by omega
        by_cases hlj : j < ps.length
        · obtain ⟨a0, a1, a2⟩ := HP.out j hlj
          have d0 := (KW.out.cell (p := ⟨bP, oP + j * 3, none⟩) hblP).trans a0
          have d1 := (KW.out.cell (p := ⟨bP, oP + j * 3 + 1, none⟩) hblP).trans a1
          have d2 := (KW.out.cell (p := ⟨bP, oP + j * 3 + 2, none⟩) hblP).trans a2
          have j1 : (j : Int) < (ps.length : Int) := by omega
          have EH : Hid (entHit (z : Int) nm ps[j] = (ps[j].dir == (z : Int) && ps[j].name.toList == nm.toList)) := PK.out j hlj
          have HY := hideIt (fun e : entHit (z : Int) nm ps[j] = true => ent_yes hlj K.out.2 e)
          have HX := hideIt (fun (e : entHit (z : Int) nm ps[j] = false) m (h : m < ps.length) (a : m < j + 1) => show entHit (z : Int) nm ps[m] = false by
            by_cases q : m = j
            · subst q; exact e
            · exact K.out.2 m h (by omega))
          have CJ := hideIt (childAt_of hlj)
          have K1 := hideIt K.out.1
          clear a0 a1 a2 K
          generalize entHit (z : Int) nm ps[j] = hit at *
          generalize ps[j].child = y at *
          generalize ps[j].dir = yd at *
          generalize ps[j].name = yn at *
          have BX := hideIt ((Below.refl wr.heap.size wr).alloc (Nat.le_refl _) (.cells #[.int .i64 yd, .string yn, .int .i64 y] 180))
          have B5 := hideIt (below_trans K1.out BX.out K1.out.size)
          have B6 := hideIt (below_trans K2.out BX.out K2.out.size)
          by_cases r : yd = (z : Int)
          case neg =>
            have r1 : (yd == (z : Int)) = false := beq_eq_false_iff_ne.2 r
            have E := hideIt (HX.out (by rw [EH.out, r1]; rfl))
            clear r HX HY EH
            go_wp2
            go_roundg (ps.length - (j + 1))
            case measure => omega
            case rel => exact ⟨j + 1, by omega, rfl, by go_num, B5.out, E.out⟩
          have r1 : (yd == (z : Int)) = true := beq_iff_eq.2 r
          cases t : (yn.toList == nm.toList) with
          | false =>
            have E := hideIt (HX.out (by rw [EH.out, t]; simp))
            clear r HX HY EH
            go_wp2
            go_roundg (ps.length - (j + 1))
            case measure => omega
            case rel => exact ⟨j + 1, by omega, rfl, by go_num, B5.out, E.out⟩
          | true =>
            have E1 := HY.out (by rw [EH.out, t, r1]; rfl)
            obtain ⟨_, c1, c2⟩ := CR2.out j E1
            have W2 := hideIt (JD.out.trans (WS.out Q.out j E1))
            rw [CJ.out] at c1 c2 W2
            obtain ⟨yn2, hy⟩ : ∃ n : Nat, y = (n : Int) := ⟨y.toNat, by omega⟩
            subst hy
            have y16 : yn2 < 16 := by omega
            clear r HX HY EH E1 CJ
            go_wp2
            go_roundg (ns.length - (k + 1))
            case measure => omega
            case rel => exact ⟨k + 1, yn2, by omega, y16, rfl, by go_num, B6.out, W2.out⟩
        · obtain rfl : j = ps.length := by omega
          have E := hideIt (JD.out.trans (WO.out Q.out (ent_no (fun m h => K.out.2 m h h))))
          obtain rfl := E.out
          clear K E
          go_wp2
          try rw [Exit.noGoto_ret]
          go_ret2
          exact ⟨rfl, KW.out⟩
    · obtain rfl : k = ns.length := by omega
      have E : Hid (res = ((z : Int), 0)) := by unfold Hid; rw [J.out.2, List.drop_length]; rfl
      clear HRES J
      obtain rfl := E.out
      go_wp2
      try rw [Exit.noGoto_ret]
      go_ret2
      exact ⟨rfl, B.out⟩
end Go.Proofs.YtcilodgoognmnaaGreatDoor

namespace Go.Proofs.YtcilodgoognmnaaGreatDoor
open Go.RowKit

/-- What splitIn answers. -/
def siC (ws : List Ino) (ps : List Den) (s : ByteArray) : Int := if 65536 < s.size then 2 else if imgB ws ps = true then spC s else 1
def siL (ws : List Ino) (ps : List Den) (s : ByteArray) : List ByteArray := if imgB ws ps = true then spR s else []
theorem spL_short {s : ByteArray} : ∀ k (h : k < (spL s).length), 1 ≤ (spL s)[k].size := by
  intro k hk
  have hm : (spL s)[k] ∈ spL s := List.getElem_mem hk
  generalize (spL s)[k] = x at hm
  unfold spL at hm
  split at hm
  · cases hm
  · split at hm
    · rename_i h
      unfold spN at h
      simp only [Bool.and_eq_true, List.all_eq_true] at h
      exact (nmB_true (h.2.2 x hm)).1
    · cases hm
theorem si_lk (ws : List Ino) (ps : List Den) (s : ByteArray) : (¬ siC ws ps s = 0 → lkR ws ps s = (0, siC ws ps s) ∧ paR ws ps s = (0, ⟨#[]⟩, siC ws ps s)) ∧ (siC ws ps s = 0 → imgB ws ps = true ∧ siL ws ps s = spL s ∧ lkR ws ps s = wk ws ps 0 (spL s) ∧ paR ws ps s = paL ws ps (spL s)) := by
  unfold siC lkR paR siL
  by_cases c1 : 65536 < s.size
  · rw [if_pos c1, if_pos c1, if_pos c1]
    exact ⟨fun _ => ⟨rfl, rfl⟩, fun h => by cases h⟩
  · rw [if_neg c1, if_neg c1, if_neg c1]
    by_cases c2 : imgB ws ps = true
    · rw [if_pos c2, if_pos c2, if_pos c2, if_pos c2]
      obtain ⟨X1, X2⟩ := sp_short c1
      unfold lkI paI
      cases c3 : spB s with
      | false =>
        obtain ⟨e1, e2⟩ := X2 c3
        rw [e1, e2]
        exact ⟨fun _ => ⟨rfl, rfl⟩, fun h => by cases h⟩
      | true =>
        obtain ⟨e1, e2⟩ := X1 c3
        rw [e1, e2]
        exact ⟨fun h => absurd rfl h, fun _ => ⟨c2, rfl, rfl, rfl⟩⟩
    · rw [if_neg c2, if_neg c2, if_neg c2, if_neg c2]
      exact ⟨fun _ => ⟨rfl, rfl⟩, fun h => by cases h⟩

set_option maxRecDepth 100000 in
set_option maxHeartbeats 4000000 in
theorem splitIn_any (v : Value) (ws : List Ino) (ps : List Den) (s : ByteArray) (w : World) (h : RdIm w v ws ps) (hw : ws.length ≤ 1048576) (hp : ps.length ≤ 1048576) (hT : TS w) (hE : ED w) (hF : FD w) (hr : ∀ k (h : k < ws.length), ws[k].R) (hs : ∀ k (h : k < ps.length), ps[k].name.size ≤ maxLen) :
    Calls Tryz.prog 156 #[v, .string s] w fun e w' => ∃ v', e = .returned (.tuple #[v', .int .i64 (siC ws ps s)]) ∧ RdT w' v' (siL ws ps s) ∧ Below w.heap.size w w' := by
  have HR := hideIt h
  have LI := hideIt (fun w1 (hb : Below w.heap.size w w1) => implImageOK_any v ws ps w1 (h.below hb) hw hp (hT.below hb) (hE.below hb) (hF.below hb) hr hs)
  have LS := hideIt (fun w1 => implSplitPath_any s w1)
  have EC := hideIt (show siC ws ps s = if 65536 < s.size then 2 else if imgB ws ps = true then spC s else 1 from rfl)
  have EL := hideIt (show siL ws ps s = if imgB ws ps = true then spR s else [] from rfl)
  have XL := hideIt (fun h => sp_long (s := s) h)
  have X0 : Hid (¬ 65536 < s.size → ¬ spC s = 2) := fun h => by
    obtain ⟨X1, X2⟩ := sp_short h
    cases c : spB s
    · rw [(X2 c).1]; decide
    · rw [(X1 c).1]; decide
  obtain ⟨vW, vP, rfl, h1, h2⟩ := h
  obtain ⟨aW, cW, rfl, _, _⟩ := h1.shape
  obtain ⟨aP, cP, rfl, _, _⟩ := h2.shape
  clear h1 h2 hr hs hT hE hF
  have CA : Hid (∀ w', Below (w.alloc (.cells #[.slice aW ws.length cW, .slice aP ps.length cP] 63)).heap.size (w.alloc (.cells #[.slice aW ws.length cW, .slice aP ps.length cP] 63)) w' → w'.cell? ⟨w.heap.size, 0, none⟩ = some (.slice aW ws.length cW) ∧ w'.cell? ⟨w.heap.size, 1, none⟩ = some (.slice aP ps.length cP)) := fun w' hb => by
    have : w'.heap[w.heap.size]? = some (.cells #[.slice aW ws.length cW, .slice aP ps.length cP] 63 (0, 0)) := (hb.block _ (by simp)).trans (at_new rfl)
    exact ⟨(two_cells this).1, (two_cells this).2.1⟩
  have BW : Hid (Below w.heap.size w (w.alloc (.cells #[.slice aW ws.length cW, .slice aP ps.length cP] 63))) := (Below.refl _ _).alloc (Nat.le_refl _) _
  generalize siC ws ps s = sc at *
  generalize siL ws ps s = sl at *
  by_cases c1 : 65536 < s.size
  · obtain ⟨e1, e2⟩ := XL.out c1
    rw [if_pos c1] at EC
    have E2 : Hid (sl = []) := by unfold Hid; rw [EL.out, e2]; split <;> rfl
    rw [e1, e2] at LS
    obtain rfl := EC.out
    obtain rfl := E2.out
    clear EC EL E2 c1 e1 e2
    go_enter Tryz.func156, Tryz.ntmps156
    go_wp2_with fail
    refine (LS.out _).mono ?_
    rintro e w1 ⟨v1, rfl, hr1, hb1⟩
    have B1 := hideIt (below_trans BW.out hb1 BW.out.size)
    have R1 : Hid (RdT w1 v1 []) := hr1.rd
    clear hr1 hb1
    go_wp2
    go_ret2
    exact ⟨_, rfl, R1.out, B1.out⟩
  have q2 : Hid ((spC s != 2) = true) := by unfold Hid; rw [bne_iff_ne]; exact X0.out c1
  rw [if_neg c1] at EC
  clear XL X0 c1
  generalize spC s = cc at *
  generalize spR s = rr at *
  have q3 := q2.out
  cases c3 : imgB ws ps with
  | false =>
    rw [c3] at EC EL LI
    obtain rfl := EC.out
    obtain rfl := EL.out
    clear EC EL c3
    go_enter Tryz.func156, Tryz.ntmps156
    go_wp2_with fail
    refine (LS.out _).mono ?_
    rintro e w1 ⟨v1, rfl, hr1, hb1⟩
    have B1 := hideIt (below_trans BW.out hb1 BW.out.size)
    obtain ⟨x0, x1⟩ := CA.out _ hb1
    clear hr1 hb1
    go_wp2_with fail
    refine (LI.out _ B1.out).mono ?_
    rintro e w2 ⟨rfl, hb2⟩
    have B2 := hideIt (below_trans B1.out hb2 B1.out.size)
    clear hb2 x0 x1
    go_wp2
    go_ret2
    exact ⟨_, rfl, rdt_empty _, B2.out⟩
  | true =>
    rw [c3] at EC EL LI
    obtain rfl : sc = cc := EC.out
    obtain rfl : sl = rr := EL.out
    clear EC EL c3
    go_enter Tryz.func156, Tryz.ntmps156
    go_wp2_with fail
    refine (LS.out _).mono ?_
    rintro e w1 ⟨v1, rfl, hr1, hb1⟩
    have B1 := hideIt (below_trans BW.out hb1 BW.out.size)
    have R1 : Hid (RdT w1 v1 sl) := hr1.rd
    obtain ⟨x0, x1⟩ := CA.out _ hb1
    clear hr1 hb1
    go_wp2_with fail
    refine (LI.out _ B1.out).mono ?_
    rintro e w2 ⟨rfl, hb2⟩
    have B2 := hideIt (below_trans B1.out hb2 B1.out.size)
    have R2 : Hid (RdT w2 v1 sl) := Rd.below R1.out hb2
    clear hb2 x0 x1
    go_wp2
    go_ret2
    exact ⟨_, rfl, R2.out, B2.out⟩

set_option maxRecDepth 100000 in
set_option maxHeartbeats 4000000 in
theorem implLookup_any (v : Value) (ws : List Ino) (ps : List Den) (s : ByteArray) (w : World) (h : RdIm w v ws ps) (hw : ws.length ≤ 1048576) (hp : ps.length ≤ 1048576) (hT : TS w) (hE : ED w) (hF : FD w) (hr : ∀ k (h : k < ws.length), ws[k].R) (hs : ∀ k (h : k < ps.length), ps[k].name.size ≤ maxLen) :
    Calls Tryz.prog 96 #[v, .string s] w fun e w' => e = .returned (.tuple #[.int .i64 (lkR ws ps s).1, .int .i64 (lkR ws ps s).2]) ∧ Below w.heap.size w w' := by
  have HR := hideIt h
  have LS := hideIt (fun w1 (hb : Below w.heap.size w w1) => splitIn_any v ws ps s w1 (h.below hb) hw hp (hT.below hb) (hE.below hb) (hF.below hb) hr hs)
  have LG := hideIt (fun vL w1 h hL hi => goDown_any v vL ws ps (spL s) w1 h hL hi (by have := @spL_len s; omega) spL_short)
  obtain ⟨NO, YES⟩ := si_lk ws ps s
  have NO := hideIt NO
  have YES := hideIt YES
  obtain ⟨vW, vP, rfl, h1, h2⟩ := h
  obtain ⟨aW, cW, rfl, _, _⟩ := h1.shape
  obtain ⟨aP, cP, rfl, _, _⟩ := h2.shape
  clear h1 h2 hr hs hT hE hF
  have CA : Hid (∀ w', Below (w.alloc (.cells #[.slice aW ws.length cW, .slice aP ps.length cP] 63)).heap.size (w.alloc (.cells #[.slice aW ws.length cW, .slice aP ps.length cP] 63)) w' → w'.cell? ⟨w.heap.size, 0, none⟩ = some (.slice aW ws.length cW) ∧ w'.cell? ⟨w.heap.size, 1, none⟩ = some (.slice aP ps.length cP)) := fun w' hb => by
    have : w'.heap[w.heap.size]? = some (.cells #[.slice aW ws.length cW, .slice aP ps.length cP] 63 (0, 0)) := (hb.block _ (by simp)).trans (at_new rfl)
    exact ⟨(two_cells this).1, (two_cells this).2.1⟩
  have BW : Hid (Below w.heap.size w (w.alloc (.cells #[.slice aW ws.length cW, .slice aP ps.length cP] 63))) := (Below.refl _ _).alloc (Nat.le_refl _) _
  obtain ⟨x0, x1⟩ := CA.out _ (Below.refl _ _)
  generalize siC ws ps s = sc at *
  generalize siL ws ps s = sl at *
  generalize lkR ws ps s = res at *
  generalize paR ws ps s = res2 at *
  by_cases c : sc = 0
  · obtain ⟨c1, rfl, rfl, _⟩ := YES.out c
    have C1 := hideIt c1
    subst c
    clear NO YES c1
    generalize wk ws ps 0 (spL s) = r1 at *
    go_enter Tryz.func96, Tryz.ntmps96
    go_wp2_with fail
    refine (LS.out _ BW.out).mono ?_
    rintro e w1 ⟨v1, rfl, hr1, hb1⟩
    have B1 := hideIt (below_trans BW.out hb1 BW.out.size)
    have R1 := hideIt hr1
    clear x0 x1
    obtain ⟨x0, x1⟩ := CA.out _ hb1
    clear hr1 hb1
    go_wp2_with fail
    refine (LG.out _ _ (HR.out.below B1.out) R1.out C1.out).mono ?_
    rintro e w2 ⟨rfl, hb2⟩
    have B2 := hideIt (below_trans B1.out hb2 B1.out.size)
    clear hb2 x0 x1
    go_wp2
    go_ret2
    exact ⟨rfl, B2.out⟩
  · obtain ⟨rfl, _⟩ := NO.out c
    have q : (sc != 0) = true := by rw [bne_iff_ne]; exact c
    clear NO YES c
    go_enter Tryz.func96, Tryz.ntmps96
    go_wp2_with fail
    refine (LS.out _ BW.out).mono ?_
    rintro e w1 ⟨v1, rfl, hr1, hb1⟩
    have B1 := hideIt (below_trans BW.out hb1 BW.out.size)
    clear hr1 hb1 x0 x1
    go_wp2
    go_ret2
    exact ⟨rfl, B1.out⟩
end Go.Proofs.YtcilodgoognmnaaGreatDoor

namespace Go.Proofs.YtcilodgoognmnaaGreatDoor
open Go.RowKit Go.Maps Go.MapKept Go.ChangeMaps Go.WideShapes
open Go.WideElems (Fit rd rg pl rd_val elemAt)

theorem ownsMap_clear {H : Type} {P : Program} {k e t : TypeId} {R : Value → Option (DataW H × List MemPlace)} {w : World} {b n : Nat} {D : DataW H} (h : w.ownsMap P k R b n D) (ht : P.underlying t = some (.map k e)) (ty : TypeId) :
    ∃ w', (Builtin.clear_ #[t] ty #[.map (some b)]).run P w = .ok (.tuple #[]) w' ∧ w'.ownsMap P k R b 0 (.map []) ∧ w.grownBy w' (some b) := by
  obtain ⟨es, clock, hb, F, hs, rfl⟩ := h
  refine ⟨setBlock w b (.map #[] clock), ?_, ⟨#[], clock, heap_setBlock_same hb _, ⟨by simp, stamped_empty clock, by simp⟩, Nat.le_refl _, rfl⟩, ⟨rfl, rfl, rfl, by simp [setBlock], fun i _ hi => heap_setBlock_other hb _ (fun e => hi (by rw [e]))⟩⟩
  simp [Builtin.clear_, run_underlying ht, MapKept.run_getObj_map hb, MapKept.run_setObj_map _ hb, Result.andThen, setBlock]
/-- The map's types. -/
theorem mapU : Tryz.prog.underlying 261 = some (.map 9 3) := by kernel_rfl
theorem strU : Tryz.prog.underlying 9 = some .string := by kernel_rfl
theorem intU : Tryz.prog.underlying 3 = some (.int .i64) := by kernel_rfl
theorem strK : Keyed Tryz.prog 9 := string_keyed strU
theorem intZ (w : World) : (zeroValue 3).run Tryz.prog w = .ok (.int .i64 0) w := by kernel_rfl
/-- A block is the map that reads as D. -/
def Mp (w : World) (b : Nat) (D : DataW Unit) : Prop := w.ownsMap Tryz.prog 9 (plainElem Tryz.prog 3) b 4096 D
theorem Mp.lt {w : World} {b : Nat} {D : DataW Unit} (h : Mp w b D) : b < w.heap.size := World.ownsMap.lt h
theorem Mp.below {w w' : World} {b : Nat} {D : DataW Unit} (h : Mp w b D) (hb : Below w.heap.size w w') : Mp w' b D := by
  have hl := h.lt
  obtain ⟨es, cl, q, r⟩ := h
  exact ⟨es, cl, (hb.block b hl).trans q, r⟩
theorem grownB {w w' : World} (h : Below w.heap.size w w') (row : Option Nat) : w.grownBy w' row := ⟨h.os, h.tape, h.output, h.size, fun i hi _ => h.block i hi⟩
/-- A cell does not lie in the map's block. -/
theorem Mp.ne {w : World} {b : Nat} {D : DataW Unit} (h : Mp w b D) {a : Addr} {v : Value} (hc : w.cell? a = some v) : some a.block ≠ some b := by
  obtain ⟨es, cl, q, _⟩ := h
  intro e
  injection e with e
  subst e
  simp [World.cell?, q] at hc
theorem Mp.neg {w : World} {b : Nat} {D : DataW Unit} (h : Mp w b D) {g : Nat} {cs : Array Value} {t : TypeId} {fr} (hc : w.heap[g]? = some (.cells cs t fr)) : some g ≠ some b := by
  obtain ⟨es, cl, q, _⟩ := h
  intro e
  injection e with e
  subst e
  rw [q] at hc
  cases hc
theorem FD.grown {w w' : World} {b : Nat} {D : DataW Unit} (h : FD w) (m : Mp w b D) (hg : w.grownBy w' (some b)) : FD w' := by
  have hl := h.lt
  obtain ⟨t, fr, h⟩ := h
  exact ⟨t, fr, (hg.block _ hl (m.neg h)).trans h⟩
set_option maxRecDepth 100000 in
set_option maxHeartbeats 4000000 in
theorem turnTo_any (v : Value) (ws : List Ino) (ps : List Den) (d : Int) (b : Nat) (D : DataW Unit) (w : World) (h : RdIm w v ws ps) (hi : imgB ws ps = true) (hm : Mp w b D) (hF : FD w) :
    Calls Tryz.prog 235 #[.map (some b), v, .int .i64 d] w fun e w' => e = .returned (.tuple #[]) ∧ Mp w' b (mpD ps d ps.length) ∧ w.grownBy w' (some b) := by
  have HL := hideIt (pimg_all hi).2.1
  have HF := hideIt (fun j hj => free_child hi j hj)
  have HN := hideIt (fun j hj => pimg_ent hi j hj)
  obtain ⟨vW, vP, rfl, h1, h2⟩ := h
  obtain ⟨aW, cW, rfl, _⟩ := h1.shape
  obtain ⟨aP, cP, rfl, _, hcP⟩ := h2.shape
  have HZ := hideIt hcP
  clear h1 h2 hcP hi
  obtain ⟨W, hW⟩ : ∃ W, W = w.alloc (.cells #[.slice aW ws.length cW, .slice aP ps.length cP] 63) := ⟨_, rfl⟩
  have BW : Hid (Below w.heap.size w W) := by rw [hW]; exact (Below.refl _ _).alloc (Nat.le_refl _) _
  have M : Hid (Mp W b D) := hm.below BW.out
  have hbl : b < w.heap.size := hm.lt
  have BL := hideIt hbl
  have CA : Hid (W.cell? ⟨w.heap.size, 1, none⟩ = some (.slice aP ps.length cP)) := by
    have : W.heap[w.heap.size]? = some (.cells #[.slice aW ws.length cW, .slice aP ps.length cP] 63 (0, 0)) := by rw [hW]; exact at_new rfl
    exact (two_cells this).2.1
  have F := hideIt (hF.below BW.out)
  have MW := hideIt hm
  clear hF hm hbl
  go_enter Tryz.func235, Tryz.ntmps235
  go_wp2_with fail
  rw [← hW]
  clear hW
  obtain ⟨w1, hrun, hown1, hg1⟩ := ownsMap_clear M.out mapU 0
  rw [hrun]
  clear hrun
  have x1 := hg1.cell CA.out (M.out.ne CA.out)
  have F1 := hideIt (F.out.grown M.out hg1)
  have G1 := hideIt ((grownB BW.out (some b)).trans hg1)
  have hz1 : w.heap.size ≤ w1.heap.size := G1.out.size
  have O1 := hideIt hown1
  clear hown1 hg1 CA M F
  go_wp2
  go_loopg [6, 7, 12] ps.length (fun g _ _ i wr => ∃ k : Nat, k + g = ps.length ∧ i = .int .i64 k ∧ Hid (wr.ownsMap Tryz.prog 9 (plainElem Tryz.prog 3) b k (mpD ps d k)) ∧ Hid (w.grownBy wr (some b)) ∧ Hid (FD wr))
  case atStart => exact ⟨0, by omega, rfl, O1, G1, F1⟩
  case round =>
    obtain ⟨k, hk, rfl, O, G, F⟩ := hrel
    have k0 : (0 : Int) ≤ (k : Int) := by omega
    by_cases hlt : k < ps.length
    · obtain ⟨bP, o, rfl, hbl, hcell⟩ := HZ.out (by omega)
      obtain ⟨a0, a1, a2⟩ := hcell k hlt
      have d0 := G.out.cell a0 (MW.out.ne a0)
      have d1 := G.out.cell a1 (MW.out.ne a1)
      have d2 := G.out.cell a2 (MW.out.ne a2)
      have k1 : (k : Int) < (ps.length : Int) := by omega
      have DF := den_free ps[k]
      have FC := HF.out k hlt
      have PE := HN.out k hlt
      have STEP := hideIt (show mpD ps d (k + 1) = if decide (0 ≤ ps[k].child) && ps[k].dir == d then (mpD ps d k).put (keyB ps[k].name) (.lit (.int .i64 (k : Int))) else mpD ps d k by
        rw [← childAt_of hlt, ← getD_of hlt]; rfl)
      have k4096 : k < 4096 := by have := HL.out; omega
      have hg24 : gk - 1 < gk := by omega
      have hk' : (k + 1) + (gk - 1) = ps.length := by omega
      clear a0 a1 a2 hcell
      generalize ps[k] = x at *
      have BA : Hid (Below wr.heap.size wr (wr.alloc (.cells #[.int .i64 x.dir, .string x.name, .int .i64 x.child] 180))) := (Below.refl _ _).alloc (Nat.le_refl _) _
      have OB : Hid ((wr.alloc (.cells #[.int .i64 x.dir, .string x.name, .int .i64 x.child] 180)).ownsMap Tryz.prog 9 (plainElem Tryz.prog 3) b k (mpD ps d k)) := O.out.alloc _
      have FB := hideIt (F.out.below BA.out)
      have GB := hideIt (G.out.trans (grownB BA.out (some b)))
      obtain ⟨f0, f1, f2⟩ := FD.cells FB.out
      clear O F G
      cases hf : x.freeB with
      | true =>
        have O2 : Hid ((wr.alloc (.cells #[.int .i64 x.dir, .string x.name, .int .i64 x.child] 180)).ownsMap Tryz.prog 9 (plainElem Tryz.prog 3) b (k + 1) (mpD ps d (k + 1))) := by
          unfold Hid
          rw [STEP.out, if_neg (by rw [hf] at FC; rw [← FC]; simp)]
          exact OB.out.mono (by omega)
        rw [hf] at DF
        clear FC PE STEP OB BA hf
        go_wp2
        go_roundg (gk - 1)
        case measure => exact hg24
        case rel => exact ⟨k + 1, hk', by go_num, O2, GB, FB⟩
      | false =>
        have fc : 0 ≤ x.child := by
          rw [hf] at FC
          have := FC.symm
          simpa using this
        have hn : x.name.size ≤ maxLen := by
          rcases PE with q | q
          · omega
          · have := (nmB_true q.2.2.1).2.1
            unfold maxLen
            omega
        rw [hf] at DF
        rw [decide_eq_true fc, Bool.true_and] at STEP
        clear FC PE hf
        cases q : (x.dir == d) with
        | false =>
          have O2 : Hid ((wr.alloc (.cells #[.int .i64 x.dir, .string x.name, .int .i64 x.child] 180)).ownsMap Tryz.prog 9 (plainElem Tryz.prog 3) b (k + 1) (mpD ps d (k + 1))) := by
            unfold Hid
            rw [STEP.out, if_neg (by rw [q]; decide)]
            exact OB.out.mono (by omega)
          clear STEP OB BA
          go_wp2
          go_roundg (gk - 1)
          case measure => exact hg24
          case rel => exact ⟨k + 1, hk', by go_num, O2, GB, FB⟩
        | true =>
          rw [q, if_pos rfl] at STEP
          have key : Hid (keyOf Tryz.prog 9 (.string x.name) = some (keyB x.name)) := WideMaps.keyOf_string_mk strU hn
          clear BA hn fc
          go_wp2_with (at_mapUpdate; refine wpList_mapUpdate_own _ rfl _ _ _ 261 rfl 9 3 strK mapU _ b k _ rfl OB.out (by unfold maxLen; omega) _ _ _ rfl rfl key.out _ [] (plainElem_int intU (WalkArith.wf_i64 (by omega))) ?_)
          intro wN hownN hgrN
          rw [← STEP.out] at hownN
          have O2 := hideIt hownN
          have F2 := hideIt (FB.out.grown (OB.out.mono (by omega)) hgrN)
          have G2 := hideIt (GB.out.trans hgrN)
          clear hownN hgrN OB FB GB STEP
          go_wp2
          go_roundg (gk - 1)
          case measure => exact hg24
          case rel => exact ⟨k + 1, hk', by go_num, O2, G2, F2⟩
    · obtain rfl : k = ps.length := by omega
      go_wp2
      refine bodyPost_end (v := .tuple #[]) (by simp [results, Tryz.results235, go_sem]) rfl ?_
      exact ⟨rfl, O.out.mono (by have := HL.out; omega), G.out⟩
end Go.Proofs.YtcilodgoognmnaaGreatDoor
