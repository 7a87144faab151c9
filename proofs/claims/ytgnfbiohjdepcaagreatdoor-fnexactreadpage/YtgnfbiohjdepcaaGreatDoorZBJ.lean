/- Several texts laid together: PbE, PcE. -/
import Derived.Test.YtgnfbiohjdepcaaGreatDoorZBI
import Derived.Test.YtgnfbiohjdepcaaGreatDoorZAQ
import Derived.Test.YtgnfbiohjdepcaaGreatDoorZAI
import Derived.Test.YtgnfbiohjdepcaaGreatDoorZAR
namespace Go.Proofs.YtgnfbiohjdepcaaGreatDoor
open Go.RowKit
def restP (s : ByteArray) : ByteArray := mkB (Lib.trimPrefix s.data.toList [47])
def aheadB (s : ByteArray) : Bool := Lib.hasPrefix s.data.toList [47]
theorem ahead_no {s : ByteArray} (h : aheadB s = false) : spN s = false := by
  unfold aheadB Lib.hasPrefix at h
  unfold spN
  cases hl : s.data.toList with
  | nil => rw [pcs_none hl]; rfl
  | cons c l =>
    have hc : ¬ c = 47 := fun e => by subst e; rw [hl] at h; simp [List.isPrefixOf] at h
    obtain ⟨x, r, e, hx⟩ := pcs_other hl hc
    rw [e]
    have : x.toList.isEmpty = false := by
      rw [Lib.toList_data]
      rw [Lib.size_eq] at hx
      cases h : x.data.toList with
      | nil => rw [h] at hx; exact absurd rfl hx
      | cons _ _ => rfl
    show (_ && (x.toList.isEmpty && _)) = false
    rw [this]; simp
theorem ahead_yes {s : ByteArray} (h : aheadB s = true) : spN s = (decide ((pcs (restP s)).length ≤ 6) && (pcs (restP s)).all nmB) ∧ (pcs s).drop 1 = pcs (restP s) := by
  unfold aheadB Lib.hasPrefix at h
  cases hl : s.data.toList with
  | nil => rw [hl] at h; simp [List.isPrefixOf] at h
  | cons c l =>
    have hc : c = 47 := by rw [hl] at h; simp [List.isPrefixOf] at h; exact h.symm
    subst hc
    have hr : restP s = mkB l := by unfold restP Lib.trimPrefix Lib.hasPrefix; rw [hl]; simp [List.isPrefixOf]
    have hp := pcs_slash hl
    have p1 := pcs_pos (restP s)
    unfold spN
    rw [hp, hr]
    rw [hr] at p1
    refine ⟨?_, rfl⟩
    have e1 : (mkB [] :: pcs (mkB l)).length = (pcs (mkB l)).length + 1 := rfl
    rw [e1]
    have e2 : decide (2 ≤ (pcs (mkB l)).length + 1 ∧ (pcs (mkB l)).length + 1 ≤ 7) = decide ((pcs (mkB l)).length ≤ 6) := by
      by_cases q : (pcs (mkB l)).length ≤ 6
      · rw [decide_eq_true q, decide_eq_true (by omega)]
      · rw [decide_eq_false q, decide_eq_false (by omega)]
    rw [e2]
    have e3 : ((mkB [] :: pcs (mkB l)).getD 0 ⟨#[]⟩).toList.isEmpty = true := by
      show (mkB []).toList.isEmpty = true
      rw [Lib.toList_data, mkB_data]
      rfl
    rw [e3]
    rfl
theorem rest_size (s : ByteArray) : (restP s).size ≤ s.size := by
  unfold restP
  rw [Lib.size_eq, mkB_data, Lib.size_eq]
  unfold Lib.trimPrefix
  split
  · rw [List.length_drop]; omega
  · exact Nat.le_refl _
set_option maxRecDepth 100000 in
set_option maxHeartbeats 4000000 in
theorem everyName_any (v : Value) (ss : List ByteArray) (w : World) (h : RdT w v ss) (hn : ss.length ≤ 1048576) (hs : ∀ k (h : k < ss.length), ss[k].size ≤ maxLen) :
    Calls Tryz.prog 164 #[v, .func (.func 165) #[] #[]] w fun e w' => e = .returned (.bool (ss.all nmB)) ∧ Below w.heap.size w w' := by
  obtain ⟨aP, cP, rfl, _, hcP⟩ := h.shape
  have HP := hideIt hcP
  have HS := hideIt hs
  have SF : Hid (∀ j (h : j < ss.length), nmB ss[j] = false → ss.all nmB = false) := fun j h q => by
    rw [List.all_eq_false]
    exact ⟨ss[j], List.getElem_mem _, by rw [q]; simp⟩
  have SA : Hid ((∀ j (h : j < ss.length), nmB ss[j] = true) → ss.all nmB = true) := fun h => by
    rw [List.all_eq_true]
    intro x hx
    obtain ⟨j, hj, rfl⟩ := List.getElem_of_mem hx
    exact h j hj
  clear h hcP hs
  go_enter Tryz.func164, Tryz.ntmps164
  go_wp2
  go_loopw [6, 9] (fun _ i wr => ∃ k : Nat, k ≤ ss.length ∧ i = .int .i64 k ∧ Hid (Below w.heap.size w wr ∧ ∀ j (h : j < ss.length), j < k → nmB ss[j] = true)) (fun _ i _ => ss.length - (intOf i).toNat)
  case atStart => exact ⟨0, by omega, rfl, Below.refl _ _, fun j h a => absurd a (by omega)⟩
  case round =>
    obtain ⟨k, hk, rfl, H⟩ := hrel
    have H1 := hideIt H.out.1
    have hz : w.heap.size ≤ wr.heap.size := H.out.1.size
    by_cases hlt : k < ss.length
    · obtain ⟨b, o, rfl, hbl, hcell⟩ := HP.out (by omega)
      have d0 := (H1.out.cell (p := ⟨b, o + k, none⟩) hbl).trans (hcell k hlt)
      have k0 : (0 : Int) ≤ (k : Int) := by omega
      have k1 : (k : Int) < (ss.length : Int) := by omega
      have LI := hideIt (fun w1 => isShortName_any ss[k] w1 (HS.out k hlt))
      have H2 : Hid (∀ j (h : j < ss.length), j < k → nmB ss[j] = true) := H.out.2
      clear hcell H
      cases q : nmB ss[k] with
      | true =>
        have H' : Hid (∀ j (h : j < ss.length), j < k + 1 → nmB ss[j] = true) := fun j h a => by
          by_cases e : j = k
          · subst e; exact q
          · exact H2.out j h (by omega)
        rw [q] at LI
        clear q H2
        generalize ss[k] = x at d0 LI
        go_wp2_with fail
        refine (LI.out _).mono ?_
        rintro e w1 ⟨rfl, hb1⟩
        have B3 := hideIt (below_trans H1.out hb1 H1.out.size)
        clear hb1 d0
        go_wp2
        go_roundw
        case rel => exact ⟨k + 1, by omega, by go_num, B3.out, H'.out⟩
        case measure => simp [intOf]; omega
      | false =>
        have E := hideIt (SF.out k hlt q)
        rw [q] at LI
        clear q H2
        generalize ss[k] = x at d0 LI
        go_wp2_with fail
        refine (LI.out _).mono ?_
        rintro e w1 ⟨rfl, hb1⟩
        have B3 := hideIt (below_trans H1.out hb1 H1.out.size)
        clear hb1 d0
        go_wp2
        go_ret
        exact ⟨ret_bool E.out.symm, B3.out⟩
    · have E := hideIt (SA.out (fun j h => H.out.2 j h (by omega)))
      clear H
      go_wp2
      go_ret
      exact ⟨ret_bool E.out.symm, H1.out⟩
theorem row_strs (w : World) (P : List ByteArray) (h : P.length ≤ 1048576) : Row (w.alloc (.cells (strs P).toArray 9)) 9 1 w.heap.size (w.alloc (.cells (strs P).toArray 9)).heap.size (.slice (some ⟨w.heap.size, 0, none⟩) P.length P.length) P.length (strs P) := by
  have := World.ownsRow_lit (e := 9) (size := 1) (base := w.heap.size) w (strs P).toArray P.length (Nat.le_refl _) (by simp [maxLen]; omega) (by simp [strs])
  exact own_block this
set_option maxRecDepth 100000 in
set_option maxHeartbeats 4000000 in
theorem implSplitPath_any (s : ByteArray) (w : World) :
    Calls Tryz.prog 148 #[.string s] w fun e w' => ∃ v', e = .returned (.tuple #[v', .int .i64 (spC s)]) ∧ Row w' 9 1 w.heap.size w'.heap.size v' (spR s).length (strs (spR s)) ∧ Below w.heap.size w w' := by
  by_cases c1 : 65536 < s.size
  · obtain ⟨E1, E2⟩ := sp_long c1
    rw [E1, E2]
    have c2 : (s.size : Int) > 65536 := by omega
    clear c1 E1 E2
    go_enter Tryz.func148, Tryz.ntmps148
    go_wp2
    go_ret2
    exact ⟨_, rfl, Row.nil _ _ _ _ _, Below.refl _ _⟩
  have c2 : ¬ (s.size : Int) > 65536 := by omega
  obtain ⟨X1, X2⟩ := sp_short c1
  cases c3 : slashB s with
  | true =>
    obtain ⟨E1, E2⟩ := sp_slash c3
    obtain ⟨E3, E4⟩ := X1 E1
    rw [E3, E4, E2]
    have c4 : (s.toList == [47]) = true := c3
    clear c1 c3 E1 E2 E3 E4 X1 X2
    go_enter Tryz.func148, Tryz.ntmps148
    go_wp2
    go_ret2
    exact ⟨_, rfl, Row.nil _ _ _ _ _, Below.refl _ _⟩
  | false =>
  have c4 : (s.toList == [47]) = false := c3
  have NO : Hid (spN s = false → spC s = 12 ∧ spR s = []) := fun h => X2 (sp_no c3 h).1
  have YES : Hid (spN s = true → spC s = 0 ∧ spR s = (pcs s).drop 1) := fun h => by
    obtain ⟨a, b⟩ := sp_yes c3 h
    obtain ⟨c, d⟩ := X1 a
    exact ⟨c, d.trans b⟩
  have LP : Hid (∀ w1 : World, Calls Tryz.prog 162 #[.string s, .string ⟨#[47]⟩] w1 fun e w' => e = .returned (.tuple #[.string (restP s), .bool (aheadB s)]) ∧ w' = w1) := fun w1 => cutPrefix_any s ⟨#[47]⟩ w1
  have RS := rest_size s
  have LS := hideIt (fun w1 => split_slash (restP s) w1 (by omega))
  have PL := pcs_len (restP s)
  have RW := hideIt (fun w1 => row_strs w1 (pcs (restP s)) (by omega))
  have LE := hideIt (fun v w1 h => everyName_any v (pcs (restP s)) w1 h (by omega) (fun k hk => by have := pcs_size (restP s) k hk; unfold maxLen; omega))
  have AN := hideIt (fun h => ahead_no (s := s) h)
  have AY := hideIt (fun h => ahead_yes (s := s) h)
  have BE := hideIt (fun w1 : World => (Below.refl w1.heap.size w1).alloc (Nat.le_refl _) (.cells (strs (pcs (restP s))).toArray 9))
  clear c1 c3 X1 X2
  generalize spC s = sc at *
  generalize spR s = sr at *
  generalize spN s = sn at *
  generalize (pcs s).drop 1 = P1 at *
  generalize hRS : restP s = R at *
  generalize aheadB s = ah at *
  generalize pcs R = P at *
  clear hRS
  cases ah with
  | false =>
    obtain ⟨e1, e2⟩ := NO.out (AN.out rfl)
    subst e1 e2
    clear NO YES AN AY LE RW
    go_enter Tryz.func148, Tryz.ntmps148
    go_wp2_with fail
    refine (LP.out _).mono ?_
    rintro e w1 ⟨rfl, hw1⟩
    subst w1
    go_wp2_with fail
    refine (LS.out _).mono ?_
    rintro e w1 ⟨rfl, hw1⟩
    have B1 := hideIt (BE.out w)
    rw [← hw1] at B1
    clear hw1
    go_wp2
    go_ret2
    exact ⟨_, rfl, Row.nil _ _ _ _ _, B1.out⟩
  | true =>
  obtain ⟨a1, a2⟩ := AY.out rfl
  have A1 := hideIt a1
  rw [a2] at YES
  clear a2 AY
  by_cases n1 : P.length ≤ 6
  case neg =>
    obtain ⟨e1, e2⟩ := NO.out (by rw [A1.out, decide_eq_false n1]; rfl)
    have n2 : (P.length : Int) > 6 := by omega
    subst e1 e2
    clear NO YES AN LE RW A1 a1
    go_enter Tryz.func148, Tryz.ntmps148
    go_wp2_with fail
    refine (LP.out _).mono ?_
    rintro e w1 ⟨rfl, hw1⟩
    subst w1
    go_wp2_with fail
    refine (LS.out _).mono ?_
    rintro e w1 ⟨rfl, hw1⟩
    have B1 := hideIt (BE.out w)
    rw [← hw1] at B1
    clear hw1
    go_wp2
    go_ret2
    exact ⟨_, rfl, Row.nil _ _ _ _ _, B1.out⟩
  have n2 : ¬ (P.length : Int) > 6 := by omega
  have A2 : Hid (sn = P.all nmB) := by unfold Hid; rw [A1.out, decide_eq_true n1]; rfl
  clear A1 a1
  cases c5 : P.all nmB with
  | false =>
    obtain ⟨e1, e2⟩ := NO.out (by rw [A2.out, c5])
    rw [c5] at LE
    subst e1 e2
    clear NO YES AN A2 c5
    go_enter Tryz.func148, Tryz.ntmps148
    go_wp2_with fail
    refine (LP.out _).mono ?_
    rintro e w1 ⟨rfl, hw1⟩
    subst w1
    go_wp2_with fail
    refine (LS.out _).mono ?_
    rintro e w1 ⟨rfl, hw1⟩
    have B1 := hideIt (BE.out w)
    have R1 := hideIt (RW.out w)
    rw [← hw1] at B1 R1
    clear hw1 RW BE
    go_wp2_with fail
    refine (LE.out _ _ R1.out.rd).mono ?_
    rintro e w2 ⟨rfl, hb2⟩
    have B2 := hideIt (below_trans B1.out hb2 B1.out.size)
    clear hb2
    go_wp2
    go_ret2
    exact ⟨_, rfl, Row.nil _ _ _ _ _, B2.out⟩
  | true =>
    obtain ⟨e1, e2⟩ := YES.out (by rw [A2.out, c5])
    rw [c5] at LE
    subst e1 e2
    clear NO YES AN A2 c5
    go_enter Tryz.func148, Tryz.ntmps148
    go_wp2_with fail
    refine (LP.out _).mono ?_
    rintro e w1 ⟨rfl, hw1⟩
    subst w1
    go_wp2_with fail
    refine (LS.out _).mono ?_
    rintro e w1 ⟨rfl, hw1⟩
    have B1 := hideIt (BE.out w)
    have R1 := hideIt (RW.out w)
    rw [← hw1] at B1 R1
    clear hw1 RW BE
    go_wp2_with fail
    refine (LE.out _ _ R1.out.rd).mono ?_
    rintro e w2 ⟨rfl, hb2⟩
    have B2 := hideIt (below_trans B1.out hb2 B1.out.size)
    have R2 := hideIt ((R1.out.below hb2 (Nat.le_refl _)).wide (Nat.le_refl _) hb2.size)
    clear hb2
    go_wp2
    go_ret2
    exact ⟨_, rfl, R2.out, B2.out⟩
end Go.Proofs.YtgnfbiohjdepcaaGreatDoor

namespace Go.Proofs.YtgnfbiohjdepcaaGreatDoor
open Go.RowKit
def pgHit (d : Int) (nm : ByteArray) (x : Den) : Bool := x.dir == d && x.name.toList == nm.toList
theorem pg_hit {ws : List Ino} {ps : List Den} (h : imgB ws ps = true) {nm : ByteArray} (hn : 1 ≤ nm.size) (d : Int) (k : Nat) (hk : k < ps.length) : entHit d nm ps[k] = pgHit d nm ps[k] := by
  unfold entHit pgHit
  rcases pimg_ent h k hk with ⟨h1, h2⟩ | ⟨h1, _⟩
  · have : (ps[k].name.toList == nm.toList) = false := by
      rw [beq_eq_false_iff_ne]
      intro e
      have := congrArg List.length e
      rw [Lib.toList_data, Lib.toList_data, ← Lib.size_eq, ← Lib.size_eq] at this
      omega
    rw [this]; simp
  · rw [decide_eq_true (show 0 ≤ ps[k].child by omega), Bool.true_and]
set_option maxRecDepth 100000 in
set_option maxHeartbeats 8000000 in
theorem goDown_any (v vL : Value) (ws : List Ino) (ps : List Den) (ns : List ByteArray) (w : World) (h : RdIm w v ws ps) (hL : RdT w vL ns) (hi : imgB ws ps = true) (hn : ns.length ≤ 1048576) (hs : ∀ k (h : k < ns.length), 1 ≤ ns[k].size) :
    Calls Tryz.prog 123 #[v, vL] w fun e w' => e = .returned (.tuple #[.int .i64 (wk ws ps 0 ns).1, .int .i64 (wk ws ps 0 ns).2]) ∧ Below w.heap.size w w' := by
  have HR := hideIt h
  have LD := hideIt (fun (i : Nat) (hi16 : i < 16) w1 h => isDir_any v ws ps (i : Int) w1 h (pimg_all hi).1 (by omega))
  obtain ⟨vW, vP, rfl, h1, h2⟩ := h
  obtain ⟨aW, cW, rfl, _, _⟩ := h1.shape
  obtain ⟨aP, cP, rfl, _, hcP⟩ := h2.shape
  obtain ⟨aL, cL, rfl, _, hcL⟩ := hL.shape
  have L24 := hideIt (pimg_all hi).2.1
  obtain ⟨bP, oP, rfl, hblP, hcellP⟩ := hcP (by have := L24.out; omega)
  have pl : ps.length ≤ 4096 := by have := L24.out; omega
  have HP := hideIt hcellP
  have HN := hideIt hcL
  have HS := hideIt hs
  have PH := hideIt (fun (nm : ByteArray) (hn : 1 ≤ nm.size) d k hk => pg_hit hi hn d k hk)
  have CR := hideIt (fun (d : Int) (nm : ByteArray) (k : Nat) (e : entAt ps d nm = some k) => child_range hi e)
  generalize hres : wk ws ps 0 ns = res
  have HRES := hideIt hres
  clear hres h1 h2 hcP hcellP hcL hL hi hs
  obtain ⟨W, hW⟩ : ∃ W, W = w.alloc (.cells #[.slice aW ws.length cW, .slice (some ⟨bP, oP, none⟩) ps.length cP] 62) := ⟨_, rfl⟩
  have CA : Hid (∀ w', Below W.heap.size W w' → w'.cell? ⟨w.heap.size, 0, none⟩ = some (.slice aW ws.length cW) ∧ w'.cell? ⟨w.heap.size, 1, none⟩ = some (.slice (some ⟨bP, oP, none⟩) ps.length cP)) := fun w' hb => by
    have : w'.heap[w.heap.size]? = some (.cells #[.slice aW ws.length cW, .slice (some ⟨bP, oP, none⟩) ps.length cP] 62 (0, 0)) := (hb.block _ (by rw [hW]; simp)).trans (by rw [hW]; exact at_new rfl)
    exact ⟨(two_cells this).1, (two_cells this).2.1⟩
  have BW : Hid (Below w.heap.size w W) := by rw [hW]; exact (Below.refl _ _).alloc (Nat.le_refl _) _
  have hzW : w.heap.size ≤ W.heap.size := BW.out.size
  go_enter Tryz.func123, Tryz.ntmps123
  go_wp2_with fail
  go_step3
  go_wp2_with fail
  go_step3
  go_wp2_with fail
  rw [← hW]
  clear hW
  go_loopg [6, 13] ns.length (fun g a i wr => ∃ (k : Nat) (z : Nat), k + g = ns.length ∧ z < 16 ∧ a = .int .i64 z ∧ i = .int .i64 k ∧ Hid (Below W.heap.size W wr ∧ res = wk ws ps z (ns.drop k)))
  case atStart => exact ⟨0, 0, by omega, by omega, rfl, rfl, Below.refl _ _, HRES.out.symm⟩
  case round =>
    obtain ⟨k, z, hk, hz16, rfl, rfl, J⟩ := hrel
    obtain ⟨x0, x1⟩ := CA.out wr J.out.1
    have B := hideIt (below_trans BW.out J.out.1 hzW)
    have J1 := hideIt J.out.1
    have k0 : (0 : Int) ≤ (k : Int) := by omega
    by_cases hlt : k < ns.length
    · have k1 : (k : Int) < (ns.length : Int) := by omega
      have JD : Hid (res = wk ws ps z (ns[k] :: ns.drop (k + 1))) := by unfold Hid; rw [J.out.2, List.drop_eq_getElem_cons hlt]
      obtain ⟨bL, oL, rfl, hblL, hcell⟩ := HN.out (by omega)
      have n0 := (B.out.cell (p := ⟨bL, oL + k, none⟩) hblL).trans (hcell k hlt)
      have WN := hideIt (fun (h : ¬ kindAt ws z = 2) => wk_nodir (ps := ps) (n := ns[k]) (ns := ns.drop (k + 1)) h)
      have WO := hideIt (fun (h : kindAt ws z = 2) (e : entAt ps z ns[k] = none) => wk_none (ns := ns.drop (k + 1)) h e)
      have WS := hideIt (fun (h : kindAt ws z = 2) (j : Nat) (e : entAt ps z ns[k] = some j) => wk_some (ns := ns.drop (k + 1)) h e)
      have PK := hideIt (fun j hj => PH.out ns[k] (HS.out k hlt) (z : Int) j hj)
      have CR2 := hideIt (fun (j : Nat) (e : entAt ps z ns[k] = some j) => CR.out _ _ _ e)
      have LD2 := hideIt (fun w1 h => LD.out z hz16 w1 h)
      clear J hcell HRES
      generalize kindAt ws (z : Int) = kk at *
      generalize ns[k] = nm at *
      by_cases q : kk = 2
      case neg =>
        have q1 : (kk == 2) = false := by rw [beq_eq_false_iff_ne]; exact q
        rw [q1] at LD2
        obtain rfl := JD.out.trans (WN.out q)
        clear q q1 WN WO WS CR2 PK
        go_wp2_with fail
        refine (LD2.out _ (HR.out.below B.out)).mono ?_
        rintro e w1 ⟨rfl, hb1⟩
        have B1 := hideIt (below_trans B.out hb1 B.out.size)
        clear hb1 x0 x1 n0
        go_wp2
        try rw [Exit.noGoto_ret]
        go_ret2
        exact ⟨rfl, B1.out⟩
      have q1 : (kk == 2) = true := by rw [q]; rfl
      rw [q1] at LD2
      clear q1
      have Q := hideIt q
      clear q
      go_wp2_with fail
      refine (LD2.out _ (HR.out.below B.out)).mono ?_
      rintro e w1 ⟨rfl, hb1⟩
      have B1 := hideIt (below_trans B.out hb1 B.out.size)
      have J2 := hideIt (below_trans J1.out hb1 J1.out.size)
      clear hb1 x0 x1 n0 LD2
      obtain ⟨x0, x1⟩ := CA.out w1 J2.out
      generalize gk = G0 at *
      have hz1 : w.heap.size ≤ w1.heap.size := B1.out.size
      clear B J1
      go_wp2_with fail
      go_loopg [6, 24] ps.length (fun g2 a i wq => ∃ j : Nat, j + g2 = ps.length ∧ a = .int .i64 z ∧ i = .int .i64 j ∧ Hid (Below w1.heap.size w1 wq ∧ ∀ m (h : m < ps.length), m < j → entHit (z : Int) nm ps[m] = false))
      case atStart => exact ⟨0, by omega, rfl, rfl, Below.refl _ _, fun m h a => absurd a (by omega)⟩
      case round =>
        obtain ⟨j, hj, rfl, rfl, K⟩ := hrel
        have KW := hideIt (below_trans B1.out K.out.1 hz1)
        have K2 := hideIt (below_trans J2.out K.out.1 J2.out.size)
        have j0 : (0 : Int) ≤ (j : Int) := by omega
        by_cases hlj : j < ps.length
        · obtain ⟨a0, a1, a2⟩ := HP.out j hlj
          have d0 := (KW.out.cell (p := ⟨bP, oP + j * 3, none⟩) hblP).trans a0
          have d1 := (KW.out.cell (p := ⟨bP, oP + j * 3 + 1, none⟩) hblP).trans a1
          have d2 := (KW.out.cell (p := ⟨bP, oP + j * 3 + 2, none⟩) hblP).trans a2
          have j1 : (j : Int) < (ps.length : Int) := by omega
          have EH : Hid (entHit (z : Int) nm ps[j] = (ps[j].dir == (z : Int) && ps[j].name.toList == nm.toList)) := PK.out j hlj
          have HY := hideIt (fun e : entHit (z : Int) nm ps[j] = true => ent_yes hlj K.out.2 e)
          have HX := hideIt (fun (e : entHit (z : Int) nm ps[j] = false) m (h : m < ps.length) (a : m < j + 1) => show entHit (z : Int) nm ps[m] = false by
            by_cases q : m = j
            · subst q; exact e
            · exact K.out.2 m h (by omega))
          have CJ := hideIt (childAt_of hlj)
          have K1 := hideIt K.out.1
          clear a0 a1 a2 K
          generalize entHit (z : Int) nm ps[j] = hit at *
          generalize ps[j].child = y at *
          generalize ps[j].dir = yd at *
          generalize ps[j].name = yn at *
          have BX := hideIt ((Below.refl wr.heap.size wr).alloc (Nat.le_refl _) (.cells #[.int .i64 yd, .string yn, .int .i64 y] 147))
          have B5 := hideIt (below_trans K1.out BX.out K1.out.size)
          have B6 := hideIt (below_trans K2.out BX.out K2.out.size)
          by_cases r : yd = (z : Int)
          case neg =>
            have r1 : (yd == (z : Int)) = false := beq_eq_false_iff_ne.2 r
            have E := hideIt (HX.out (by rw [EH.out, r1]; rfl))
            clear r HX HY EH
            go_wp2
            go_roundg (ps.length - (j + 1))
            case measure => omega
            case rel => exact ⟨j + 1, by omega, rfl, by go_num, B5.out, E.out⟩
          have r1 : (yd == (z : Int)) = true := beq_iff_eq.2 r
          cases t : (yn.toList == nm.toList) with
          | false =>
            have E := hideIt (HX.out (by rw [EH.out, t]; simp))
            clear r HX HY EH
            go_wp2
            go_roundg (ps.length - (j + 1))
            case measure => omega
            case rel => exact ⟨j + 1, by omega, rfl, by go_num, B5.out, E.out⟩
          | true =>
            have E1 := HY.out (by rw [EH.out, t, r1]; rfl)
            obtain ⟨_, c1, c2⟩ := CR2.out j E1
            have W2 := hideIt (JD.out.trans (WS.out Q.out j E1))
            rw [CJ.out] at c1 c2 W2
            obtain ⟨yn2, hy⟩ : ∃ n : Nat, y = (n : Int) := ⟨y.toNat, by omega⟩
            subst hy
            have y16 : yn2 < 16 := by omega
            clear r HX HY EH E1 CJ
            go_wp2
            go_roundg (ns.length - (k + 1))
            case measure => omega
            case rel => exact ⟨k + 1, yn2, by omega, y16, rfl, by go_num, B6.out, W2.out⟩
        · obtain rfl : j = ps.length := by omega
          have E := hideIt (JD.out.trans (WO.out Q.out (ent_no (fun m h => K.out.2 m h h))))
          obtain rfl := E.out
          clear K E
          go_wp2
          try rw [Exit.noGoto_ret]
          go_ret2
          exact ⟨rfl, KW.out⟩
    · obtain rfl : k = ns.length := by omega
      have E : Hid (res = ((z : Int), 0)) := by unfold Hid; rw [J.out.2, List.drop_length]; rfl
      clear HRES J
      obtain rfl := E.out
      go_wp2
      try rw [Exit.noGoto_ret]
      go_ret2
      exact ⟨rfl, B.out⟩
end Go.Proofs.YtgnfbiohjdepcaaGreatDoor
