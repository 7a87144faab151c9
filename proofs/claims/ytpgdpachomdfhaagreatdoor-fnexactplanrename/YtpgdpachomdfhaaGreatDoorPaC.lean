/- What stands beneath what: by the program. -/
import Derived.Test.YtpgdpachomdfhaaGreatDoorZBI
import Derived.Deep.LoopGhost
import Derived.WalkMore
namespace Go.Proofs.YtpgdpachomdfhaaGreatDoor
open Go.RowKit

set_option maxRecDepth 100000 in
set_option maxHeartbeats 2000000 in
theorem isDir_any (v : Value) (ws : List Ino) (ps : List Den) (i : Int) (w : World) (h : RdIm w v ws ps) (hl : ws.length = 16) (h0 : 0 ≤ i ∧ i ≤ 15) :
    Calls Tryz.prog 46 #[v, .int .i64 i] w fun e w' => e = .returned (.bool (kindAt ws i == 2)) ∧ Below w.heap.size w w' := by
  obtain ⟨vW, vP, rfl, h1, h2⟩ := h
  obtain ⟨aW, cW, rfl, _, hcW⟩ := h1.shape
  obtain ⟨aP, cP, rfl, _, _⟩ := h2.shape
  obtain ⟨n, rfl⟩ : ∃ n : Nat, i = (n : Int) := ⟨i.toNat, by omega⟩
  have hn : n < ws.length := by omega
  obtain ⟨bW, oW, rfl, hblW, hcellW⟩ := hcW (by omega)
  have BW : Hid (Below w.heap.size w (w.alloc (.cells #[.slice (some ⟨bW, oW, none⟩) ws.length cW, .slice aP ps.length cP] 33))) := (Below.refl _ _).alloc (Nat.le_refl _) _
  have k0 := (BW.out.cell (p := ⟨bW, oW + n * 11, none⟩) hblW).trans (hcellW n hn).1
  rw [← kindAt_of hn] at k0
  have n0 : (0 : Int) ≤ (n : Int) := by omega
  have n1 : (n : Int) < (ws.length : Int) := by omega
  clear h1 h2 hcW hcellW hl h0 hn
  generalize kindAt ws (n : Int) = kk at *
  go_enter Tryz.func46, Tryz.ntmps46
  go_wp2
  go_ret
  exact ⟨rfl, BW.out⟩

theorem ben_step {ps : List Den} (u0 : upD ps 0 = -1) {x b : Int} (h : hangs ps 16 x = true) (hx : 0 ≤ x) (q : ¬ x = b) : (x = 0 → benN ps 16 x b = false) ∧ (¬ x = 0 → 0 ≤ upD ps x ∧ hangs ps 16 (upD ps x) = true ∧ benN ps 16 x b = benN ps 16 (upD ps x) b) := by
  have n0 : ¬ x < 0 := by omega
  have e : benN ps 16 x b = benN ps 15 (upD ps x) b := by rw [show (16 : Nat) = 15 + 1 from rfl, benN_succ, if_neg n0, if_neg q]
  refine ⟨fun z => ?_, fun z => ?_⟩
  · rw [e, z, u0, benN_neg ps 15 (-1) b (by omega)]
  · obtain ⟨h1, h2⟩ := hang_step (k := 15) h z
    refine ⟨h1, hangs_mono 15 _ h2, ?_⟩
    rw [e, ben_fuel u0 15 16 _ b h2 h1 (by omega)]
/-- How far below the root one is. -/
def deep (ps : List Den) : Nat → Int → Nat
  | 0, _ => 0
  | n + 1, x => if x = 0 then 0 else 1 + deep ps n (upD ps x)
theorem deep_fuel {ps : List Den} : ∀ (k n : Nat) (a : Int), hangs ps k a = true → k ≤ n → deep ps n a = deep ps k a
  | 0, _, _, h, _ => by rw [hangs_none] at h; cases h
  | k + 1, 0, _, _, hn => absurd hn (by omega)
  | k + 1, n + 1, a, h, hn => by
    show (if a = 0 then 0 else 1 + deep ps n (upD ps a)) = (if a = 0 then 0 else 1 + deep ps k (upD ps a))
    by_cases r : a = 0
    · rw [if_pos r, if_pos r]
    · rw [if_neg r, if_neg r, deep_fuel k n _ (hang_step h r).2 (by omega)]
theorem deep_step {ps : List Den} {x : Int} (h : hangs ps 16 x = true) (q : ¬ x = 0) : deep ps 16 (upD ps x) < deep ps 16 x := by
  have e : deep ps 16 x = 1 + deep ps 15 (upD ps x) := by
    show (if x = 0 then 0 else 1 + deep ps 15 (upD ps x)) = _
    rw [if_neg q]
  rw [e, deep_fuel 15 16 _ (hang_step (k := 15) h q).2 (by omega)]
  omega

set_option maxRecDepth 100000 in
set_option maxHeartbeats 4000000 in
theorem implBeneath_any (v : Value) (ws : List Ino) (ps : List Den) (a b : Int) (w : World) (h : RdIm w v ws ps) (hw : ws.length ≤ 1048576) (hp : ps.length ≤ 1048576) (hT : TS w) (hE : ED w) (hF : FD w) (hr : ∀ k (h : k < ws.length), ws[k].R) (hs : ∀ k (h : k < ps.length), ps[k].name.size ≤ maxLen) :
    Calls Tryz.prog 48 #[v, .int .i64 a, .int .i64 b] w fun e w' => e = .returned (.tuple #[.bool (beV ws ps a b), .int .i64 (beC ws ps a b)]) ∧ Below w.heap.size w w' := by
  have HRD := hideIt h
  have LI := hideIt (fun w1 (hb : Below w.heap.size w w1) => implImageOK_any v ws ps w1 (h.below hb) hw hp (hT.below hb) (hE.below hb) (hF.below hb) hr hs)
  have LD := hideIt (fun i w1 h (hl : ws.length = 16) (h0 : 0 ≤ i ∧ i ≤ 15) => isDir_any v ws ps i w1 h hl h0)
  obtain ⟨vW, vP, rfl, h1, h2⟩ := h
  obtain ⟨aW, cW, rfl, _, _⟩ := h1.shape
  obtain ⟨aP, cP, rfl, _, hcP⟩ := h2.shape
  have HP := hideIt hcP
  clear h1 h2 hr hs hcP hT hE hF
  obtain ⟨W, hW⟩ : ∃ W, W = w.alloc (.cells #[.slice aW ws.length cW, .slice aP ps.length cP] 33) := ⟨_, rfl⟩
  have CA : Hid (∀ w', Below W.heap.size W w' → w'.cell? ⟨w.heap.size, 0, none⟩ = some (.slice aW ws.length cW) ∧ w'.cell? ⟨w.heap.size, 1, none⟩ = some (.slice aP ps.length cP)) := fun w' hb => by
    have : w'.heap[w.heap.size]? = some (.cells #[.slice aW ws.length cW, .slice aP ps.length cP] 33 (0, 0)) := (hb.block _ (by rw [hW]; simp)).trans (by rw [hW]; exact at_new rfl)
    exact ⟨(two_cells this).1, (two_cells this).2.1⟩
  have BW : Hid (Below w.heap.size w W) := by rw [hW]; exact (Below.refl _ _).alloc (Nat.le_refl _) _
  have hzW : w.heap.size ≤ W.heap.size := BW.out.size
  cases c1 : imgB ws ps with
  | false =>
    obtain ⟨E1, E2⟩ := be_not (a := a) (b := b) c1
    rw [c1] at LI
    rw [E1, E2]
    clear c1 E1 E2
    go_enter Tryz.func48, Tryz.ntmps48
    go_wp2_with fail
    go_step3
    go_wp2_with fail
    rw [← hW]
    clear hW
    refine (LI.out _ BW.out).mono ?_
    rintro e w1 ⟨rfl, hb1⟩
    have B1 := hideIt (below_trans BW.out hb1 BW.out.size)
    have BA1 := hideIt hb1
    obtain ⟨x0, x1⟩ := CA.out _ hb1
    clear hb1
    go_wp2
    try rw [Exit.noGoto_ret]
    go_ret2
    exact ⟨rfl, B1.out⟩
  | true =>
  have C1 := hideIt c1
  rw [c1] at LI
  by_cases c2 : 0 ≤ a ∧ a ≤ 15
  case neg =>
    obtain ⟨E1, E2⟩ := be_range (a := a) (b := b) c1 (fun q => c2 q.1)
    rw [E1, E2]
    have C2 : Hid (¬ (0 ≤ a ∧ a < 16)) := fun q => c2 (by omega)
    clear c1 E1 E2 c2
    go_enter Tryz.func48, Tryz.ntmps48
    go_wp2_with fail
    go_step3
    go_wp2_with fail
    rw [← hW]
    clear hW
    refine (LI.out _ BW.out).mono ?_
    rintro e w1 ⟨rfl, hb1⟩
    have B1 := hideIt (below_trans BW.out hb1 BW.out.size)
    have BA1 := hideIt hb1
    obtain ⟨x0, x1⟩ := CA.out _ hb1
    clear hb1
    go_wp2_with fail
    refine (isIndex_no _ _ _ C2.out).mono ?_
    rintro e w2 ⟨rfl, hw2⟩
    subst w2
    go_wp2
    try rw [Exit.noGoto_ret]
    go_ret2
    exact ⟨rfl, B1.out⟩
  by_cases c3 : 0 ≤ b ∧ b ≤ 15
  case neg =>
    obtain ⟨E1, E2⟩ := be_range (a := a) (b := b) c1 (fun q => c3 q.2)
    rw [E1, E2]
    have C2 : Hid (0 ≤ a ∧ a < 16) := by unfold Hid; omega
    have C3 : Hid (¬ (0 ≤ b ∧ b < 16)) := fun q => c3 (by omega)
    clear c1 E1 E2 c2 c3
    go_enter Tryz.func48, Tryz.ntmps48
    go_wp2_with fail
    go_step3
    go_wp2_with fail
    rw [← hW]
    clear hW
    refine (LI.out _ BW.out).mono ?_
    rintro e w1 ⟨rfl, hb1⟩
    have B1 := hideIt (below_trans BW.out hb1 BW.out.size)
    have BA1 := hideIt hb1
    obtain ⟨x0, x1⟩ := CA.out _ hb1
    clear hb1
    go_wp2_with fail
    refine (isIndex_yes _ _ _ C2.out).mono ?_
    rintro e w2 ⟨rfl, hw2⟩
    subst w2
    go_wp2_with fail
    refine (isIndex_no _ _ _ C3.out).mono ?_
    rintro e w2 ⟨rfl, hw2⟩
    subst w2
    go_wp2
    try rw [Exit.noGoto_ret]
    go_ret2
    exact ⟨rfl, B1.out⟩
  have L16 := hideIt (pimg_all c1).1
  have L24 := hideIt (pimg_all c1).2.1
  have U0 := hideIt (pimg_root c1)
  have C2 : Hid (0 ≤ a ∧ a < 16) := by unfold Hid; omega
  have C3 : Hid (0 ≤ b ∧ b < 16) := by unfold Hid; omega
  have D2 := hideIt c2
  have D3 := hideIt c3
  have NO := hideIt (fun r => be_nodir C1.out ⟨D2.out, D3.out⟩ r)
  have YES := hideIt (fun r => be_ok C1.out ⟨D2.out, D3.out⟩ r)
  have HG := hideIt (fun hk => pimg_hangs C1.out D2.out hk)
  have HD : Hid (∀ k (h : k < ps.length), ps[k].child = 0 → False) := fun k h e => by
    rcases pimg_ent C1.out k h with q | q <;> omega
  have LA := hideIt (fun w1 (hb : Below w.heap.size w w1) => LD.out a w1 (HRD.out.below hb) L16.out D2.out)
  have LB := hideIt (fun w1 (hb : Below w.heap.size w w1) => LD.out b w1 (HRD.out.below hb) L16.out D3.out)
  clear c1 c2 c3 LD
  generalize kindAt ws a = ka at *
  generalize kindAt ws b = kb at *
  generalize beC ws ps a b = ec at *
  generalize beV ws ps a b = ev at *
  by_cases c4 : ka = 2
  case neg =>
    obtain ⟨E1, E2⟩ := NO.out (fun q => c4 q.1)
    have Q1 : Hid ((ka == 2) = false) := by unfold Hid; rw [beq_eq_false_iff_ne]; exact c4
    subst E1 E2
    clear c4 NO YES HG
    go_enter Tryz.func48, Tryz.ntmps48
    go_wp2_with fail
    go_step3
    go_wp2_with fail
    rw [← hW]
    clear hW
    refine (LI.out _ BW.out).mono ?_
    rintro e w1 ⟨rfl, hb1⟩
    have B1 := hideIt (below_trans BW.out hb1 BW.out.size)
    have BA1 := hideIt hb1
    obtain ⟨x0, x1⟩ := CA.out _ hb1
    clear hb1
    go_wp2_with fail
    refine (isIndex_yes _ _ _ C2.out).mono ?_
    rintro e w2 ⟨rfl, hw2⟩
    subst w2
    go_wp2_with fail
    refine (isIndex_yes _ _ _ C3.out).mono ?_
    rintro e w2 ⟨rfl, hw2⟩
    subst w2
    go_wp2_with fail
    refine (LA.out _ B1.out).mono ?_
    rw [Q1.out]
    rintro e w3 ⟨rfl, hb⟩
    have B3 := hideIt (below_trans B1.out hb B1.out.size)
    have BA3 := hideIt (below_trans BA1.out hb BA1.out.size)
    clear hb x0 x1
    obtain ⟨x0, x1⟩ := CA.out _ BA3.out
    go_wp2
    try rw [Exit.noGoto_ret]
    go_ret2
    exact ⟨rfl, B3.out⟩
  by_cases c5 : kb = 2
  case neg =>
    obtain ⟨E1, E2⟩ := NO.out (fun q => c5 q.2)
    have Q1 : Hid ((ka == 2) = true) := by unfold Hid; rw [c4]; rfl
    have Q2 : Hid ((kb == 2) = false) := by unfold Hid; rw [beq_eq_false_iff_ne]; exact c5
    subst E1 E2
    clear c4 c5 NO YES HG
    go_enter Tryz.func48, Tryz.ntmps48
    go_wp2_with fail
    go_step3
    go_wp2_with fail
    rw [← hW]
    clear hW
    refine (LI.out _ BW.out).mono ?_
    rintro e w1 ⟨rfl, hb1⟩
    have B1 := hideIt (below_trans BW.out hb1 BW.out.size)
    have BA1 := hideIt hb1
    obtain ⟨x0, x1⟩ := CA.out _ hb1
    clear hb1
    go_wp2_with fail
    refine (isIndex_yes _ _ _ C2.out).mono ?_
    rintro e w2 ⟨rfl, hw2⟩
    subst w2
    go_wp2_with fail
    refine (isIndex_yes _ _ _ C3.out).mono ?_
    rintro e w2 ⟨rfl, hw2⟩
    subst w2
    go_wp2_with fail
    refine (LA.out _ B1.out).mono ?_
    rw [Q1.out]
    rintro e w3 ⟨rfl, hb⟩
    have B3 := hideIt (below_trans B1.out hb B1.out.size)
    have BA3 := hideIt (below_trans BA1.out hb BA1.out.size)
    clear hb x0 x1
    obtain ⟨x0, x1⟩ := CA.out _ BA3.out
    go_wp2_with fail
    refine (LB.out _ B3.out).mono ?_
    rw [Q2.out]
    rintro e w4 ⟨rfl, hb⟩
    have B4 := hideIt (below_trans B3.out hb B3.out.size)
    have BA4 := hideIt (below_trans BA3.out hb BA3.out.size)
    clear hb x0 x1
    obtain ⟨x0, x1⟩ := CA.out _ BA4.out
    go_wp2
    try rw [Exit.noGoto_ret]
    go_ret2
    exact ⟨rfl, B4.out⟩
  obtain ⟨E1, E2⟩ := YES.out ⟨c4, c5⟩
  have Q1 : Hid ((ka == 2) = true) := by unfold Hid; rw [c4]; rfl
  have Q2 : Hid ((kb == 2) = true) := by unfold Hid; rw [c5]; rfl
  have G := hideIt (HG.out c4)
  have ST := hideIt (fun x h hx q => ben_step U0.out (x := x) (b := b) h hx q)
  have EV : Hid (ev = benN ps 16 a b) := E2.trans (ben_fuel U0.out 16 17 a b G.out D2.out.1 (by omega))
  subst E1
  clear c4 c5 NO YES HG E2
  go_enter Tryz.func48, Tryz.ntmps48
  go_wp2_with fail
  go_step3
  go_wp2_with fail
  rw [← hW]
  clear hW
  refine (LI.out _ BW.out).mono ?_
  rintro e w1 ⟨rfl, hb1⟩
  have B1 := hideIt (below_trans BW.out hb1 BW.out.size)
  have BA1 := hideIt hb1
  obtain ⟨x0, x1⟩ := CA.out _ hb1
  clear hb1
  go_wp2_with fail
  refine (isIndex_yes _ _ _ C2.out).mono ?_
  rintro e w2 ⟨rfl, hw2⟩
  subst w2
  go_wp2_with fail
  refine (isIndex_yes _ _ _ C3.out).mono ?_
  rintro e w2 ⟨rfl, hw2⟩
  subst w2
  go_wp2_with fail
  refine (LA.out _ B1.out).mono ?_
  rw [Q1.out]
  rintro e w3 ⟨rfl, hb⟩
  have B3 := hideIt (below_trans B1.out hb B1.out.size)
  have BA3 := hideIt (below_trans BA1.out hb BA1.out.size)
  clear hb x0 x1
  obtain ⟨x0, x1⟩ := CA.out _ BA3.out
  go_wp2_with fail
  refine (LB.out _ B3.out).mono ?_
  rw [Q2.out]
  rintro e w4 ⟨rfl, hb⟩
  have B4 := hideIt (below_trans B3.out hb B3.out.size)
  have BA4 := hideIt (below_trans BA3.out hb BA3.out.size)
  clear hb x0 x1
  obtain ⟨x0, x1⟩ := CA.out _ BA4.out

  clear B3 BA3 B1 BA1 LA LB LI Q1 Q2 x0 x1
  have hz4 : W.heap.size ≤ w4.heap.size := BA4.out.size
  go_wp2_with fail
  go_step3
  go_wp2_with fail
  go_loopg [1] (deep ps 16 a) (fun g d wr => ∃ z : Int, d = .int .i64 z ∧ Hid ((0 ≤ z ∧ hangs ps 16 z = true) ∧ benN ps 16 a b = benN ps 16 z b ∧ Below w4.heap.size w4 wr ∧ deep ps 16 z ≤ g))
  case atStart => exact ⟨a, rfl, ⟨D2.out.1, G.out⟩, rfl, Below.refl _ _, Nat.le_refl _⟩
  case round =>
    obtain ⟨z, rfl, J⟩ := hrel
    have JW := hideIt (below_trans B4.out J.out.2.2.1 B4.out.size)
    have JA := hideIt (below_trans BA4.out J.out.2.2.1 hz4)
    obtain ⟨x0, x1⟩ := CA.out _ JA.out
    by_cases q : z = b
    · have q1 : (z != b) = false := by rw [q]; simp
      have E : Hid (ev = true) := by
        unfold Hid
        rw [EV.out, J.out.2.1, q, show (16 : Nat) = 15 + 1 from rfl, benN_succ, if_neg (by have := J.out.1.1; omega), if_pos rfl]
      clear J q
      obtain rfl := E.out
      go_wp2
      try rw [Exit.noGoto_ret]
      go_ret2
      exact ⟨rfl, JW.out⟩
    · have q1 : (z != b) = true := by rw [bne_iff_ne]; exact q
      obtain ⟨S0, S1⟩ := ST.out z J.out.1.2 J.out.1.1 q
      have S0 := hideIt S0
      have S1 := hideIt S1
      have J3 := hideIt J.out.2.2.1
      have DS := hideIt (fun q => deep_step (ps := ps) (x := z) J.out.1.2 q)
      clear q
      go_wp2_with fail
      generalize gk = G0 at *
      generalize hV : wr = V at *
      clear hV
      have hzV : w4.heap.size ≤ V.heap.size := J3.out.size
      have JD := hideIt J.out
      clear J
      go_loopg [1, 37] ps.length (fun g2 d i wq => ∃ k : Nat, k + g2 = ps.length ∧ d = .int .i64 z ∧ i = .int .i64 k ∧ Hid (Below V.heap.size V wq ∧ ∀ j (h : j < ps.length), j < k → ¬ ps[j].child = z))
      case atStart => exact ⟨0, by omega, rfl, rfl, Below.refl _ _, fun j h a => absurd a (by omega)⟩
      case round =>
        obtain ⟨k, hk, rfl, rfl, K⟩ := hrel
        have KW := hideIt (below_trans JW.out K.out.1 JW.out.size)
        have K4 := hideIt (below_trans J3.out K.out.1 hzV)
        have k0 : (0 : Int) ≤ (k : Int) := by omega
        by_cases hlt : k < ps.length
        · obtain ⟨b0, o0, rfl, hbl, hcell⟩ := HP.out (by omega)
          obtain ⟨a0, a1, a2⟩ := hcell k hlt
          have d0 := (KW.out.cell (p := ⟨b0, o0 + k * 3, none⟩) hbl).trans a0
          have d1 := (KW.out.cell (p := ⟨b0, o0 + k * 3 + 1, none⟩) hbl).trans a1
          have d2 := (KW.out.cell (p := ⟨b0, o0 + k * 3 + 2, none⟩) hbl).trans a2
          have k1 : (k : Int) < (ps.length : Int) := by omega
          have HY := hideIt (fun e : ps[k].child = z => upD_yes hlt K.out.2 e)
          have HX := hideIt (fun (e : ¬ ps[k].child = z) j (h : j < ps.length) (a : j < k + 1) => show ¬ ps[j].child = z by
            by_cases q : j = k
            · subst q; exact e
            · exact K.out.2 j h (by omega))
          have HZ := hideIt (fun e : ps[k].child = z => fun z0 : z = 0 => HD.out k hlt (e.trans z0))
          have K1 := hideIt K.out.1
          clear hcell a0 a1 a2 K
          generalize ps[k].child = y at *
          generalize ps[k].dir = yd at *
          generalize ps[k].name = yn at *
          have BX := hideIt ((Below.refl wr.heap.size wr).alloc (Nat.le_refl _) (.cells #[.int .i64 yd, .string yn, .int .i64 y] 54))
          by_cases q : y = z
          · have q1 : (y == z) = true := beq_iff_eq.2 q
            have E := hideIt (HY.out q)
            have z0 := HZ.out q
            have S2 := hideIt (S1.out z0)
            have D2' := hideIt (DS.out z0)
            have B5 := hideIt (below_trans K4.out BX.out K4.out.size)
            rw [E.out] at S2 D2'
            clear q HX HY HZ
            go_wp2
            go_roundg (deep ps 16 yd)
            case measure => have := JD.out.2.2.2; have := D2'.out; omega
            case rel => exact ⟨yd, rfl, ⟨S2.out.1, S2.out.2.1⟩, by rw [JD.out.2.1, S2.out.2.2], B5.out, Nat.le_refl _⟩
          · have q1 : (y == z) = false := beq_eq_false_iff_ne.2 q
            have E := hideIt (HX.out q)
            have B5 := hideIt (below_trans K1.out BX.out K1.out.size)
            clear q HX HY HZ
            go_wp2
            go_roundg (ps.length - (k + 1))
            case measure => omega
            case rel => exact ⟨k + 1, by omega, rfl, by go_num, B5.out, E.out⟩
        · obtain rfl : k = ps.length := by omega
          have E : Hid (ev = false) := by
            unfold Hid
            have un := upD_no (fun j h => K.out.2 j h h)
            have z0 : z = 0 := Classical.byContradiction fun n => by have := (S1.out n).1; omega
            rw [EV.out, JD.out.2.1]
            exact S0.out z0
          clear K
          obtain rfl := E.out
          go_wp2
          try rw [Exit.noGoto_ret]
          go_ret2
          exact ⟨rfl, KW.out⟩
end Go.Proofs.YtpgdpachomdfhaaGreatDoor
