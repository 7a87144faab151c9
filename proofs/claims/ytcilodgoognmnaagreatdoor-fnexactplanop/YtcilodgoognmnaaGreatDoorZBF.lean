/- Several texts laid together: PaC, ShL, PbB, PbE. -/
import Derived.Test.YtcilodgoognmnaaGreatDoorZAP
import Derived.Deep.LoopGhost
import Derived.WalkMore
import Derived.Test.YtcilodgoognmnaaGreatDoorRows
import Derived.Shelf.Small.Strs
import Derived.Shelf.Small.Wraps
import Derived.Shelf.Strings.Search3
import Derived.Shelf.Strings.Count
import Derived.Shelf.Strings.Split
import Derived.Test.YtcilodgoognmnaaGreatDoorZAM
import Derived.Test.YtcilodgoognmnaaGreatDoorZAN
import Derived.Test.YtcilodgoognmnaaGreatDoorZAG
namespace Go.Proofs.YtcilodgoognmnaaGreatDoor
open Go.RowKit

set_option maxRecDepth 100000 in
set_option maxHeartbeats 2000000 in
theorem isDir_any (v : Value) (ws : List Ino) (ps : List Den) (i : Int) (w : World) (h : RdIm w v ws ps) (hl : ws.length = 16) (h0 : 0 ≤ i ∧ i ≤ 15) :
    Calls Tryz.prog 97 #[v, .int .i64 i] w fun e w' => e = .returned (.bool (kindAt ws i == 2)) ∧ Below w.heap.size w w' := by
  obtain ⟨vW, vP, rfl, h1, h2⟩ := h
  obtain ⟨aW, cW, rfl, _, hcW⟩ := h1.shape
  obtain ⟨aP, cP, rfl, _, _⟩ := h2.shape
  obtain ⟨n, rfl⟩ : ∃ n : Nat, i = (n : Int) := ⟨i.toNat, by omega⟩
  have hn : n < ws.length := by omega
  obtain ⟨bW, oW, rfl, hblW, hcellW⟩ := hcW (by omega)
  have BW : Hid (Below w.heap.size w (w.alloc (.cells #[.slice (some ⟨bW, oW, none⟩) ws.length cW, .slice aP ps.length cP] 63))) := (Below.refl _ _).alloc (Nat.le_refl _) _
  have k0 := (BW.out.cell (p := ⟨bW, oW + n * 11, none⟩) hblW).trans (hcellW n hn).1
  rw [← kindAt_of hn] at k0
  have n0 : (0 : Int) ≤ (n : Int) := by omega
  have n1 : (n : Int) < (ws.length : Int) := by omega
  clear h1 h2 hcW hcellW hl h0 hn
  generalize kindAt ws (n : Int) = kk at *
  go_enter Tryz.func97, Tryz.ntmps97
  go_wp2
  go_ret
  exact ⟨rfl, BW.out⟩

theorem ben_step {ps : List Den} (u0 : upD ps 0 = -1) {x b : Int} (h : hangs ps 16 x = true) (hx : 0 ≤ x) (q : ¬ x = b) : (x = 0 → benN ps 16 x b = false) ∧ (¬ x = 0 → 0 ≤ upD ps x ∧ hangs ps 16 (upD ps x) = true ∧ benN ps 16 x b = benN ps 16 (upD ps x) b) := by
  have n0 : ¬ x < 0 := by omega
  have e : benN ps 16 x b = benN ps 15 (upD ps x) b := by rw [show (16 : Nat) = 15 + 1 from rfl, benN_succ, if_neg n0, if_neg q]
  refine ⟨fun z => ?_, fun z => ?_⟩
  · rw [e, z, u0, benN_neg ps 15 (-1) b (by omega)]
  · obtain ⟨h1, h2⟩ := hang_step (k := 15) h z
    refine ⟨h1, hangs_mono 15 _ h2, ?_⟩
    rw [e, ben_fuel u0 15 16 _ b h2 h1 (by omega)]
/-- How far below the root one is. -/
def deep (ps : List Den) : Nat → Int → Nat
  | 0, _ => 0
  | n + 1, x => if x = 0 then 0 else 1 + deep ps n (upD ps x)
theorem deep_fuel {ps : List Den} : ∀ (k n : Nat) (a : Int), hangs ps k a = true → k ≤ n → deep ps n a = deep ps k a
  | 0, _, _, h, _ => by rw [hangs_none] at h; cases h
  | k + 1, 0, _, _, hn => absurd hn (by omega)
  | k + 1, n + 1, a, h, hn => by
    show (if a = 0 then 0 else 1 + deep ps n (upD ps a)) = (if a = 0 then 0 else 1 + deep ps k (upD ps a))
    by_cases r : a = 0
    · rw [if_pos r, if_pos r]
    · rw [if_neg r, if_neg r, deep_fuel k n _ (hang_step h r).2 (by omega)]
theorem deep_step {ps : List Den} {x : Int} (h : hangs ps 16 x = true) (q : ¬ x = 0) : deep ps 16 (upD ps x) < deep ps 16 x := by
  have e : deep ps 16 x = 1 + deep ps 15 (upD ps x) := by
    show (if x = 0 then 0 else 1 + deep ps 15 (upD ps x)) = _
    rw [if_neg q]
  rw [e, deep_fuel 15 16 _ (hang_step (k := 15) h q).2 (by omega)]
  omega

set_option maxRecDepth 100000 in
set_option maxHeartbeats 4000000 in
theorem implBeneath_any (v : Value) (ws : List Ino) (ps : List Den) (a b : Int) (w : World) (h : RdIm w v ws ps) (hw : ws.length ≤ 1048576) (hp : ps.length ≤ 1048576) (hT : TS w) (hE : ED w) (hF : FD w) (hr : ∀ k (h : k < ws.length), ws[k].R) (hs : ∀ k (h : k < ps.length), ps[k].name.size ≤ maxLen) :
    Calls Tryz.prog 237 #[v, .int .i64 a, .int .i64 b] w fun e w' => e = .returned (.tuple #[.bool (beV ws ps a b), .int .i64 (beC ws ps a b)]) ∧ Below w.heap.size w w' := by
  have HRD := hideIt h
  have LI := hideIt (fun w1 (hb : Below w.heap.size w w1) => implImageOK_any v ws ps w1 (h.below hb) hw hp (hT.below hb) (hE.below hb) (hF.below hb) hr hs)
  have LD := hideIt (fun i w1 h (hl : ws.length = 16) (h0 : 0 ≤ i ∧ i ≤ 15) => isDir_any v ws ps i w1 h hl h0)
  obtain ⟨vW, vP, rfl, h1, h2⟩ := h
  obtain ⟨aW, cW, rfl, _, _⟩ := h1.shape
  obtain ⟨aP, cP, rfl, _, hcP⟩ := h2.shape
  have HP := hideIt hcP
  clear h1 h2 hr hs hcP hT hE hF
  obtain ⟨W, hW⟩ : ∃ W, W = w.alloc (.cells #[.slice aW ws.length cW, .slice aP ps.length cP] 63) := ⟨_, rfl⟩
  have CA : Hid (∀ w', Below W.heap.size W w' → w'.cell? ⟨w.heap.size, 0, none⟩ = some (.slice aW ws.length cW) ∧ w'.cell? ⟨w.heap.size, 1, none⟩ = some (.slice aP ps.length cP)) := fun w' hb => by
    have : w'.heap[w.heap.size]? = some (.cells #[.slice aW ws.length cW, .slice aP ps.length cP] 63 (0, 0)) := (hb.block _ (by rw [hW]; simp)).trans (by rw [hW]; exact at_new rfl)
    exact ⟨(two_cells this).1, (two_cells this).2.1⟩
  have BW : Hid (Below w.heap.size w W) := by rw [hW]; exact (Below.refl _ _).alloc (Nat.le_refl _) _
  have hzW : w.heap.size ≤ W.heap.size := BW.out.size
  cases c1 : imgB ws ps with
  | false =>
    obtain ⟨E1, E2⟩ := be_not (a := a) (b := b) c1
    rw [c1] at LI
    rw [E1, E2]
    clear c1 E1 E2
    go_enter Tryz.func237, Tryz.ntmps237
    go_wp2_with fail
    go_step3
    go_wp2_with fail
    rw [← hW]
    clear hW
    refine (LI.out _ BW.out).mono ?_
    rintro e w1 ⟨rfl, hb1⟩
    have B1 := hideIt (below_trans BW.out hb1 BW.out.size)
    have BA1 := hideIt hb1
    obtain ⟨x0, x1⟩ := CA.out _ hb1
    clear hb1
    go_wp2
    try rw [Exit.noGoto_ret]
    go_ret2
    exact ⟨rfl, B1.out⟩
  | true =>
  have C1 := hideIt c1
  rw [c1] at LI
  by_cases c2 : 0 ≤ a ∧ a ≤ 15
  case neg =>
    obtain ⟨E1, E2⟩ := be_range (a := a) (b := b) c1 (fun q => c2 q.1)
    rw [E1, E2]
    have C2 : Hid (¬ (0 ≤ a ∧ a < 16)) := fun q => c2 (by omega)
    clear c1 E1 E2 c2
    go_enter Tryz.func237, Tryz.ntmps237
    go_wp2_with fail
    go_step3
    go_wp2_with fail
    rw [← hW]
    clear hW
    refine (LI.out _ BW.out).mono ?_
    rintro e w1 ⟨rfl, hb1⟩
    have B1 := hideIt (below_trans BW.out hb1 BW.out.size)
    have BA1 := hideIt hb1
    obtain ⟨x0, x1⟩ := CA.out _ hb1
    clear hb1
    go_wp2_with fail
    refine (isIndex_no _ _ _ C2.out).mono ?_
    rintro e w2 ⟨rfl, hw2⟩
    subst w2
    go_wp2
    try rw [Exit.noGoto_ret]
    go_ret2
    exact ⟨rfl, B1.out⟩
  by_cases c3 : 0 ≤ b ∧ b ≤ 15
  case neg =>
    obtain ⟨E1, E2⟩ := be_range (a := a) (b := b) c1 (fun q => c3 q.2)
    rw [E1, E2]
    have C2 : Hid (0 ≤ a ∧ a < 16) := by unfold Hid; omega
    have C3 : Hid (¬ (0 ≤ b ∧ b < 16)) := fun q => c3 (by omega)
    clear c1 E1 E2 c2 c3
    go_enter Tryz.func237, Tryz.ntmps237
    go_wp2_with fail
    go_step3
    go_wp2_with fail
    rw [← hW]
    clear hW
    refine (LI.out _ BW.out).mono ?_
    rintro e w1 ⟨rfl, hb1⟩
    have B1 := hideIt (below_trans BW.out hb1 BW.out.size)
    have BA1 := hideIt hb1
    obtain ⟨x0, x1⟩ := CA.out _ hb1
    clear hb1
    go_wp2_with fail
    refine (isIndex_yes _ _ _ C2.out).mono ?_
    rintro e w2 ⟨rfl, hw2⟩
    subst w2
    go_wp2_with fail
    refine (isIndex_no _ _ _ C3.out).mono ?_
    rintro e w2 ⟨rfl, hw2⟩
    subst w2
    go_wp2
    try rw [Exit.noGoto_ret]
    go_ret2
    exact ⟨rfl, B1.out⟩
  have L16 := hideIt (pimg_all c1).1
  have L24 := hideIt (pimg_all c1).2.1
  have U0 := hideIt (pimg_root c1)
  have C2 : Hid (0 ≤ a ∧ a < 16) := by unfold Hid; omega
  have C3 : Hid (0 ≤ b ∧ b < 16) := by unfold Hid; omega
  have D2 := hideIt c2
  have D3 := hideIt c3
  have NO := hideIt (fun r => be_nodir C1.out ⟨D2.out, D3.out⟩ r)
  have YES := hideIt (fun r => be_ok C1.out ⟨D2.out, D3.out⟩ r)
  have HG := hideIt (fun hk => pimg_hangs C1.out D2.out hk)
  have HD : Hid (∀ k (h : k < ps.length), ps[k].child = 0 → False) := fun k h e => by
    rcases pimg_ent C1.out k h with q | q <;> omega
  have LA := hideIt (fun w1 (hb : Below w.heap.size w w1) => LD.out a w1 (HRD.out.below hb) L16.out D2.out)
  have LB := hideIt (fun w1 (hb : Below w.heap.size w w1) => LD.out b w1 (HRD.out.below hb) L16.out D3.out)
  clear c1 c2 c3 LD
  generalize kindAt ws a = ka at *
  generalize kindAt ws b = kb at *
  generalize beC ws ps a b = ec at *
  generalize beV ws ps a b = ev at *
  by_cases c4 : ka = 2
  case neg =>
    obtain ⟨E1, E2⟩ := NO.out (fun q => c4 q.1)
    have Q1 : Hid ((ka == 2) = false) := by unfold Hid; rw [beq_eq_false_iff_ne]; exact c4
    subst E1 E2
    clear c4 NO YES HG
    go_enter Tryz.func237, Tryz.ntmps237
    go_wp2_with fail
    go_step3
    go_wp2_with fail
    rw [← hW]
    clear hW
    refine (LI.out _ BW.out).mono ?_
    rintro e w1 ⟨rfl, hb1⟩
    have B1 := hideIt (below_trans BW.out hb1 BW.out.size)
    have BA1 := hideIt hb1
    obtain ⟨x0, x1⟩ := CA.out _ hb1
    clear hb1
    go_wp2_with fail
    refine (isIndex_yes _ _ _ C2.out).mono ?_
    rintro e w2 ⟨rfl, hw2⟩
    subst w2
    go_wp2_with fail
    refine (isIndex_yes _ _ _ C3.out).mono ?_
    rintro e w2 ⟨rfl, hw2⟩
    subst w2
    go_wp2_with fail
    refine (LA.out _ B1.out).mono ?_
    rw [Q1.out]
    rintro e w3 ⟨rfl, hb⟩
    have B3 := hideIt (below_trans B1.out hb B1.out.size)
    have BA3 := hideIt (below_trans BA1.out hb BA1.out.size)
    clear hb x0 x1
    obtain ⟨x0, x1⟩ := CA.out _ BA3.out
    go_wp2
    try rw [Exit.noGoto_ret]
    go_ret2
    exact ⟨rfl, B3.out⟩
  by_cases c5 : kb = 2
  case neg =>
    obtain ⟨E1, E2⟩ := NO.out (fun q => c5 q.2)
    have Q1 : Hid ((ka == 2) = true) := by unfold Hid; rw [c4]; rfl
    have Q2 : Hid ((kb == 2) = false) := by unfold Hid; rw [beq_eq_false_iff_ne]; exact c5
    subst E1 E2
    clear c4 c5 NO YES HG
    go_enter Tryz.func237, Tryz.ntmps237
    go_wp2_with fail
    go_step3
    go_wp2_with fail
    rw [← hW]
    clear hW
    refine (LI.out _ BW.out).mono ?_
    rintro e w1 ⟨rfl, hb1⟩
    have B1 := hideIt (below_trans BW.out hb1 BW.out.size)
    have BA1 := hideIt hb1
    obtain ⟨x0, x1⟩ := CA.out _ hb1
    clear hb1
    go_wp2_with fail
    refine (isIndex_yes _ _ _ C2.out).mono ?_
    rintro e w2 ⟨rfl, hw2⟩
    subst w2
    go_wp2_with fail
    refine (isIndex_yes _ _ _ C3.out).mono ?_
    rintro e w2 ⟨rfl, hw2⟩
    subst w2
    go_wp2_with fail
    refine (LA.out _ B1.out).mono ?_
    rw [Q1.out]
    rintro e w3 ⟨rfl, hb⟩
    have B3 := hideIt (below_trans B1.out hb B1.out.size)
    have BA3 := hideIt (below_trans BA1.out hb BA1.out.size)
    clear hb x0 x1
    obtain ⟨x0, x1⟩ := CA.out _ BA3.out
    go_wp2_with fail
    refine (LB.out _ B3.out).mono ?_
    rw [Q2.out]
    rintro e w4 ⟨rfl, hb⟩
    have B4 := hideIt (below_trans B3.out hb B3.out.size)
    have BA4 := hideIt (below_trans BA3.out hb BA3.out.size)
    clear hb x0 x1
    obtain ⟨x0, x1⟩ := CA.out _ BA4.out
    go_wp2
    try rw [Exit.noGoto_ret]
    go_ret2
    exact ⟨rfl, B4.out⟩
  obtain ⟨E1, E2⟩ := YES.out ⟨c4, c5⟩
  have Q1 : Hid ((ka == 2) = true) := by unfold Hid; rw [c4]; rfl
  have Q2 : Hid ((kb == 2) = true) := by unfold Hid; rw [c5]; rfl
  have G := hideIt (HG.out c4)
  have ST := hideIt (fun x h hx q => ben_step U0.out (x := x) (b := b) h hx q)
  have EV : Hid (ev = benN ps 16 a b) := E2.trans (ben_fuel U0.out 16 17 a b G.out D2.out.1 (by omega))
  subst E1
  clear c4 c5 NO YES HG E2
  go_enter Tryz.func237, Tryz.ntmps237
  go_wp2_with fail
  go_step3
  go_wp2_with fail
  rw [← hW]
  clear hW
  refine (LI.out _ BW.out).mono ?_
  rintro e w1 ⟨rfl, hb1⟩
  have B1 := hideIt (below_trans BW.out hb1 BW.out.size)
  have BA1 := hideIt hb1
  obtain ⟨x0, x1⟩ := CA.out _ hb1
  clear hb1
  go_wp2_with fail
  refine (isIndex_yes _ _ _ C2.out).mono ?_
  rintro e w2 ⟨rfl, hw2⟩
  subst w2
  go_wp2_with fail
  refine (isIndex_yes _ _ _ C3.out).mono ?_
  rintro e w2 ⟨rfl, hw2⟩
  subst w2
  go_wp2_with fail
  refine (LA.out _ B1.out).mono ?_
  rw [Q1.out]
  rintro e w3 ⟨rfl, hb⟩
  have B3 := hideIt (below_trans B1.out hb B1.out.size)
  have BA3 := hideIt (below_trans BA1.out hb BA1.out.size)
  clear hb x0 x1
  obtain ⟨x0, x1⟩ := CA.out _ BA3.out
  go_wp2_with fail
  refine (LB.out _ B3.out).mono ?_
  rw [Q2.out]
  rintro e w4 ⟨rfl, hb⟩
  have B4 := hideIt (below_trans B3.out hb B3.out.size)
  have BA4 := hideIt (below_trans BA3.out hb BA3.out.size)
  clear hb x0 x1
  obtain ⟨x0, x1⟩ := CA.out _ BA4.out

  clear B3 BA3 B1 BA1 LA LB LI Q1 Q2 x0 x1
  have hz4 : W.heap.size ≤ w4.heap.size := BA4.out.size
  go_wp2_with fail
  go_step3
  go_wp2_with fail
  go_loopg [1] (deep ps 16 a) (fun g d wr => ∃ z : Int, d = .int .i64 z ∧ Hid ((0 ≤ z ∧ hangs ps 16 z = true) ∧ benN ps 16 a b = benN ps 16 z b ∧ Below w4.heap.size w4 wr ∧ deep ps 16 z ≤ g))
  case atStart => exact ⟨a, rfl, ⟨D2.out.1, G.out⟩, rfl, Below.refl _ _, Nat.le_refl _⟩
  case round =>
    obtain ⟨z, rfl, J⟩ := hrel
    have JW := hideIt (below_trans B4.out J.out.2.2.1 B4.out.size)
    have JA := hideIt (below_trans BA4.out J.out.2.2.1 hz4)
    obtain ⟨x0, x1⟩ := CA.out _ JA.out
    by_cases q : z = b
    · have q1 : (z != b) = false := by rw [q]; simp
      have E : Hid (ev = true) := by
        unfold Hid
        rw [EV.out, J.out.2.1, q, show (16 : Nat) = 15 + 1 from rfl, benN_succ, if_neg (by have := J.out.1.1; omega), if_pos rfl]
      clear J q
      obtain rfl := E.out
      go_wp2
      try rw [Exit.noGoto_ret]
      go_ret2
      exact ⟨rfl, JW.out⟩
    · have q1 : (z != b) = true := by rw [bne_iff_ne]; exact q
      obtain ⟨S0, S1⟩ := ST.out z J.out.1.2 J.out.1.1 q
      have S0 := hideIt S0
      have S1 := hideIt S1
      have J3 := hideIt J.out.2.2.1
      have DS := hideIt (fun q => deep_step (ps := ps) (x := z) J.out.1.2 q)
      clear q
      go_wp2_with fail
      generalize gk = G0 at *
      generalize hV : wr = V at *
      clear hV
      have hzV : w4.heap.size ≤ V.heap.size := J3.out.size
      have JD := hideIt J.out
      clear J
      go_loopg [1, 37] ps.length (fun g2 d i wq => ∃ k : Nat, k + g2 = ps.length ∧ d = .int .i64 z ∧ i = .int .i64 k ∧ Hid (Below V.heap.size V wq ∧ ∀ j (h : j < ps.length), j < k → ¬ ps[j].child = z))
      case atStart => exact ⟨0, by omega, rfl, rfl, Below.refl _ _, fun j h a => absurd a (by omega)⟩
      case round =>
        obtain ⟨k, hk, rfl, rfl, K⟩ := hrel
        have KW := hideIt (below_trans JW.out K.out.1 JW.out.size)
        have K4 := hideIt (below_trans J3.out K.out.1 hzV)
        have k0 : (0 : Int) ≤ (k : Int) := by omega
        by_cases hlt : k < ps.length
        · obtain ⟨b0, o0, rfl, hbl, hcell⟩ := HP.out (by omega)
          obtain ⟨a0, a1, a2⟩ := hcell k hlt
          have d0 := (KW.out.cell (p := ⟨b0, o0 + k * 3, none⟩) hbl).trans a0
          have d1 := (KW.out.cell (p := ⟨b0, o0 + k * 3 + 1, none⟩) hbl).trans a1
          have d2 := (KW.out.cell (p := ⟨b0, o0 + k * 3 + 2, none⟩) hbl).trans a2
          have k1 : (k : Int) < (ps.length : Int) := by omega
          have HY := hideIt (fun e : ps[k].child = z => upD_yes hlt K.out.2 e)
          have HX := hideIt (fun (e : ¬ ps[k].child = z) j (h : j < ps.length) (a : j < k + 1) => show ¬ ps[j].child = z by
            by_cases q : j = k
            · subst q; exact e
            · exact K.out.2 j h (by omega))
          have HZ := hideIt (fun e : ps[k].child = z => fun z0 : z = 0 => HD.out k hlt (e.trans z0))
          have K1 := hideIt K.out.1
          clear hcell a0 a1 a2 K
          generalize ps[k].child = y at *
          generalize ps[k].dir = yd at *
          generalize ps[k].name = yn at *
          have BX := hideIt ((Below.refl wr.heap.size wr).alloc (Nat.le_refl _) (.cells #[.int .i64 yd, .string yn, .int .i64 y] 180))
          by_cases q : y = z
          · have q1 : (y == z) = true := beq_iff_eq.2 q
            have E := hideIt (HY.out q)
            have z0 := HZ.out q
            have S2 := hideIt (S1.out z0)
            have D2' := hideIt (DS.out z0)
            have B5 := hideIt (below_trans K4.out BX.out K4.out.size)
            rw [E.out] at S2 D2'
            clear q HX HY HZ
            go_wp2
            go_roundg (deep ps 16 yd)
            case measure => have := JD.out.2.2.2; have := D2'.out; omega
            case rel => exact ⟨yd, rfl, ⟨S2.out.1, S2.out.2.1⟩, by rw [JD.out.2.1, S2.out.2.2], B5.out, Nat.le_refl _⟩
          · have q1 : (y == z) = false := beq_eq_false_iff_ne.2 q
            have E := hideIt (HX.out q)
            have B5 := hideIt (below_trans K1.out BX.out K1.out.size)
            clear q HX HY HZ
            go_wp2
            go_roundg (ps.length - (k + 1))
            case measure => omega
            case rel => exact ⟨k + 1, by omega, rfl, by go_num, B5.out, E.out⟩
        · obtain rfl : k = ps.length := by omega
          have E : Hid (ev = false) := by
            unfold Hid
            have un := upD_no (fun j h => K.out.2 j h h)
            have z0 : z = 0 := Classical.byContradiction fun n => by have := (S1.out n).1; omega
            rw [EV.out, JD.out.2.1]
            exact S0.out z0
          clear K
          obtain rfl := E.out
          go_wp2
          try rw [Exit.noGoto_ret]
          go_ret2
          exact ⟨rfl, KW.out⟩
end Go.Proofs.YtcilodgoognmnaaGreatDoor

namespace Go.Proofs.YtcilodgoognmnaaGreatDoor
open Go.Shelf Go.RowKit

def lays103_ren : Go.Shelf.Ren := ⟨fun | 103 => 238 | 210 => 263 | 206 => 271 | n => n, fun | 9 => 9 | 4 => 4 | 24 => 239 | 3 => 3 | n => n, fun | n => n⟩
theorem lays103 : Go.Proofs.Lays.n103 Tryz.prog lays103_ren := {
  mixed := by kernel_rfl
  f103 := Tryz.func238.trans (congrArg some (by kernel_rfl))
  f206 := Tryz.func271.trans (congrArg some (by kernel_rfl))
  f210 := Tryz.func263.trans (congrArg some (by kernel_rfl))
  t3 := Tryz.underlying3
  a3 := Tryz.isAgg3
  z3 := Tryz.sizeOf3
  v3 := Tryz.zeroValue3
  t4 := Tryz.underlying4
  a4 := Tryz.isAgg4
  z4 := Tryz.sizeOf4
  v4 := Tryz.zeroValue4
  t9 := Tryz.underlying9
  a9 := Tryz.isAgg9
  z9 := Tryz.sizeOf9
  v9 := Tryz.zeroValue9
  t24 := Tryz.underlying239
  a24 := Tryz.isAgg239
  z24 := Tryz.sizeOf239
  v24 := Tryz.zeroValue239 }
def lays146_ren : Go.Shelf.Ren := ⟨fun | 146 => 239 | 221 => 264 | 268 => 272 | 138 => 273 | 143 => 274 | 195 => 276 | 197 => 277 | 218 => 278 | 219 => 279 | 260 => 280 | 217 => 281 | 225 => 282 | 224 => 283 | 267 => 284 | 266 => 285 | 314 => 286 | n => n, fun | 9 => 9 | 31 => 73 | 3 => 3 | 4 => 4 | 0 => 0 | 105 => 305 | 21 => 21 | 5 => 5 | 46 => 258 | 119 => 308 | 139 => 311 | 138 => 310 | 146 => 312 | 51 => 287 | n => n, fun | 1 => 4 | 3 => 5 | 4 => 6 | n => n⟩
theorem lays146 : Go.Proofs.Lays.n146 Tryz.prog lays146_ren := {
  mixed := by kernel_rfl
  f138 := Tryz.func273.trans (congrArg some (by kernel_rfl))
  f143 := Tryz.func274.trans (congrArg some (by kernel_rfl))
  f146 := Tryz.func239.trans (congrArg some (by kernel_rfl))
  f195 := Tryz.func276.trans (congrArg some (by kernel_rfl))
  f197 := Tryz.func277.trans (congrArg some (by kernel_rfl))
  f217 := Tryz.func281.trans (congrArg some (by kernel_rfl))
  f218 := Tryz.func278.trans (congrArg some (by kernel_rfl))
  f219 := Tryz.func279.trans (congrArg some (by kernel_rfl))
  f221 := Tryz.func264.trans (congrArg some (by kernel_rfl))
  f224 := Tryz.func283.trans (congrArg some (by kernel_rfl))
  f225 := Tryz.func282.trans (congrArg some (by kernel_rfl))
  f260 := Tryz.func280.trans (congrArg some (by kernel_rfl))
  f266 := Tryz.func285.trans (congrArg some (by kernel_rfl))
  f267 := Tryz.func284.trans (congrArg some (by kernel_rfl))
  f268 := Tryz.func272.trans (congrArg some (by kernel_rfl))
  f314 := Tryz.func286.trans (congrArg some (by kernel_rfl))
  t0 := Tryz.underlying0
  a0 := Tryz.isAgg0
  z0 := Tryz.sizeOf0
  v0 := Tryz.zeroValue0
  t3 := Tryz.underlying3
  a3 := Tryz.isAgg3
  z3 := Tryz.sizeOf3
  v3 := Tryz.zeroValue3
  t4 := Tryz.underlying4
  a4 := Tryz.isAgg4
  z4 := Tryz.sizeOf4
  v4 := Tryz.zeroValue4
  t5 := Tryz.underlying5
  a5 := Tryz.isAgg5
  z5 := Tryz.sizeOf5
  v5 := Tryz.zeroValue5
  t9 := Tryz.underlying9
  a9 := Tryz.isAgg9
  z9 := Tryz.sizeOf9
  v9 := Tryz.zeroValue9
  t21 := Tryz.underlying21
  a21 := Tryz.isAgg21
  z21 := Tryz.sizeOf21
  v21 := Tryz.zeroValue21
  t31 := Tryz.underlying73
  a31 := Tryz.isAgg73
  z31 := Tryz.sizeOf73
  v31 := Tryz.zeroValue73
  t46 := Tryz.underlying258
  a46 := Tryz.isAgg258
  z46 := Tryz.sizeOf258
  v46 := Tryz.zeroValue258
  t51 := Tryz.underlying287
  a51 := Tryz.isAgg287
  z51 := Tryz.sizeOf287
  v51 := Tryz.zeroValue287
  t105 := Tryz.underlying305
  a105 := Tryz.isAgg305
  z105 := Tryz.sizeOf305
  v105 := Tryz.zeroValue305
  t119 := Tryz.underlying308
  a119 := Tryz.isAgg308
  z119 := Tryz.sizeOf308
  t138 := Tryz.underlying310
  a138 := Tryz.isAgg310
  z138 := Tryz.sizeOf310
  v138 := Tryz.zeroValue310
  t139 := Tryz.underlying311
  a139 := Tryz.isAgg311
  z139 := Tryz.sizeOf311
  v139 := Tryz.zeroValue311
  t146 := Tryz.underlying312
  a146 := Tryz.isAgg312
  z146 := Tryz.sizeOf312
  v146 := Tryz.zeroValue312
  g1 := by kernel_rfl
  g3 := by kernel_rfl
  g4 := by kernel_rfl }
end Go.Proofs.YtcilodgoognmnaaGreatDoor

namespace Go.Proofs.YtcilodgoognmnaaGreatDoor
open Go.Shelf Go.RowKit Go.Lib

theorem cutPrefix_any (s p : ByteArray) (w : World) :
    Calls Tryz.prog 238 #[.string s, .string p] w fun e w' => e = .returned (.tuple #[.string ⟨(Lib.trimPrefix s.data.toList p.data.toList).toArray⟩, .bool (Lib.hasPrefix s.data.toList p.data.toList)]) ∧ w' = w := Any.strings_CutPrefix lays103 s p w
theorem index_slash (x : ByteArray) (w : World) : Calls Tryz.prog 274 #[.string x, .string ⟨#[47]⟩] w fun e w' => e = .returned (.int .i64 (Lib.indexB x ⟨#[47]⟩)) ∧ w' = w := by
  refine (show Calls Tryz.prog 274 #[.string x, .string ⟨#[47]⟩] w fun e w' => e = .returned (.int .i64 (Lib.indexByte x.data.toList 47)) ∧ w' = w from Any.strings_Index_one (ρ := lays146_ren) { lays146 with } x 47 w).mono fun e w' ⟨he, hw⟩ => ⟨?_, hw⟩
  rw [he]
  show _ = Ending.returned (Value.int .i64 (Lib.index x.data.toList [47]))
  rw [Lib.index_one]
theorem count_slash (x : ByteArray) (w : World) : Calls Tryz.prog 273 #[.string x, .string ⟨#[47]⟩] w fun e w' => e = .returned (.int .i64 (Lib.countB x ⟨#[47]⟩)) ∧ w' = w := by
  refine (show Calls Tryz.prog 273 #[.string x, .string ⟨#[47]⟩] w fun e w' => e = .returned (.int .i64 (Lib.countByte x.data.toList 47)) ∧ w' = w from Any.strings_Count_one (ρ := lays146_ren) { lays146 with } x 47 w).mono fun e w' ⟨he, hw⟩ => ⟨?_, hw⟩
  rw [he]
  show _ = Ending.returned (Value.int .i64 ((Lib.count x.data.toList [47] : Nat) : Int))
  rw [Lib.count_one]
  rfl

set_option maxRecDepth 100000 in
set_option maxHeartbeats 1000000 in
theorem split_slash (s : ByteArray) (w : World) (hs : s.size < 4294967281) :
    Calls Tryz.prog 239 #[.string s, .string ⟨#[47]⟩] w fun e w' =>
      e = .returned (.slice (some ⟨w.heap.size, 0, none⟩) (pcs s).length (pcs s).length) ∧ w' = w.alloc (.cells (strs (pcs s)).toArray 9) := by
  have hle := Lib.countB_le ⟨#[47]⟩ (by decide) s.size s (Nat.le_refl _)
  have hlen := Lib.splitB_all ⟨#[47]⟩ (by decide) 0 _ s rfl
  have c : Calls Tryz.prog 264 #[.string s, .string ⟨#[47]⟩, .int .i64 ((0 : Nat) : Int), .int .i64 (-1)] w fun e w' =>
      e = .returned (.slice (some ⟨w.heap.size, 0, none⟩) (Lib.splitB ⟨#[47]⟩ 0 (Lib.countB s ⟨#[47]⟩ + 1 - 1) s).length (Lib.countB s ⟨#[47]⟩ + 1)) ∧ w' = w.alloc (.cells (Lib.cellsOf (Lib.splitB ⟨#[47]⟩ 0 (Lib.countB s ⟨#[47]⟩ + 1 - 1) s) (Lib.countB s ⟨#[47]⟩ + 1)) 9) :=
    Any.strings_genSplit_core (ρ := lays146_ren) { lays146 with } (by kernel_rfl) s ⟨#[47]⟩ 0 (-1) (Lib.countB s ⟨#[47]⟩ + 1) w hs (by decide) (Nat.zero_le _) (fun x _ _ => index_slash x _) (count_slash s w) (by decide) (by decide) (by rw [if_pos (by decide)]; omega)
  rw [Nat.add_sub_cancel, hlen] at c
  have e2 : Lib.cellsOf (Lib.splitB ⟨#[47]⟩ 0 (Lib.countB s ⟨#[47]⟩) s) (Lib.countB s ⟨#[47]⟩ + 1) = ((Lib.splitB ⟨#[47]⟩ 0 (Lib.countB s ⟨#[47]⟩) s).map Value.string).toArray := by rw [← hlen]; exact Lib.cellsOf_full _
  rw [e2, split_pcs, count_pcs] at c
  have C := hideIt c
  clear c hle hlen e2
  unfold strs
  generalize (pcs s).length = n at *
  generalize ((pcs s).map Value.string).toArray = cs at *
  go_enter Tryz.func239, Tryz.ntmps239
  go_wp2_with (go_at_call 264; refine C.out.mono ?_; rintro e w' ⟨rfl, hw⟩; rw [hw])
  go_ret
  exact ⟨rfl, rfl⟩
end Go.Proofs.YtcilodgoognmnaaGreatDoor

namespace Go.Proofs.YtcilodgoognmnaaGreatDoor
open Go.RowKit

/-- What is behind a slash. -/
def restB (s : ByteArray) : ByteArray := mkB (Lib.trimPrefix s.data.toList [47])
def aheadB (s : ByteArray) : Bool := Lib.hasPrefix s.data.toList [47]
theorem ahead_no {s : ByteArray} (h : aheadB s = false) : spN s = false := by
  unfold aheadB Lib.hasPrefix at h
  unfold spN
  cases hl : s.data.toList with
  | nil => rw [pcs_none hl]; rfl
  | cons c l =>
    have hc : ¬ c = 47 := fun e => by subst e; rw [hl] at h; simp [List.isPrefixOf] at h
    obtain ⟨x, r, e, hx⟩ := pcs_other hl hc
    rw [e]
    have : x.toList.isEmpty = false := by
      rw [Lib.toList_data]
      rw [Lib.size_eq] at hx
      cases h : x.data.toList with
      | nil => rw [h] at hx; exact absurd rfl hx
      | cons _ _ => rfl
    show (_ && (x.toList.isEmpty && _)) = false
    rw [this]; simp
theorem ahead_yes {s : ByteArray} (h : aheadB s = true) : spN s = (decide ((pcs (restB s)).length ≤ 6) && (pcs (restB s)).all nmB) ∧ (pcs s).drop 1 = pcs (restB s) := by
  unfold aheadB Lib.hasPrefix at h
  cases hl : s.data.toList with
  | nil => rw [hl] at h; simp [List.isPrefixOf] at h
  | cons c l =>
    have hc : c = 47 := by rw [hl] at h; simp [List.isPrefixOf] at h; exact h.symm
    subst hc
    have hr : restB s = mkB l := by unfold restB Lib.trimPrefix Lib.hasPrefix; rw [hl]; simp [List.isPrefixOf]
    have hp := pcs_slash hl
    have p1 := pcs_pos (restB s)
    unfold spN
    rw [hp, hr]
    rw [hr] at p1
    refine ⟨?_, rfl⟩
    have e1 : (mkB [] :: pcs (mkB l)).length = (pcs (mkB l)).length + 1 := rfl
    rw [e1]
    have e2 : decide (2 ≤ (pcs (mkB l)).length + 1 ∧ (pcs (mkB l)).length + 1 ≤ 7) = decide ((pcs (mkB l)).length ≤ 6) := by
      by_cases q : (pcs (mkB l)).length ≤ 6
      · rw [decide_eq_true q, decide_eq_true (by omega)]
      · rw [decide_eq_false q, decide_eq_false (by omega)]
    rw [e2]
    have e3 : ((mkB [] :: pcs (mkB l)).getD 0 ⟨#[]⟩).toList.isEmpty = true := by
      show (mkB []).toList.isEmpty = true
      rw [Lib.toList_data, mkB_data]
      rfl
    rw [e3]
    rfl
theorem rest_size (s : ByteArray) : (restB s).size ≤ s.size := by
  unfold restB
  rw [Lib.size_eq, mkB_data, Lib.size_eq]
  unfold Lib.trimPrefix
  split
  · rw [List.length_drop]; omega
  · exact Nat.le_refl _

set_option maxRecDepth 100000 in
set_option maxHeartbeats 4000000 in
theorem everyName_any (v : Value) (ss : List ByteArray) (w : World) (h : RdT w v ss) (hn : ss.length ≤ 1048576) (hs : ∀ k (h : k < ss.length), ss[k].size ≤ maxLen) :
    Calls Tryz.prog 240 #[v, .func (.func 224) #[] #[]] w fun e w' => e = .returned (.bool (ss.all nmB)) ∧ Below w.heap.size w w' := by
  obtain ⟨aP, cP, rfl, _, hcP⟩ := h.shape
  have HP := hideIt hcP
  have HS := hideIt hs
  have SF : Hid (∀ j (h : j < ss.length), nmB ss[j] = false → ss.all nmB = false) := fun j h q => by
    rw [List.all_eq_false]
    exact ⟨ss[j], List.getElem_mem _, by rw [q]; simp⟩
  have SA : Hid ((∀ j (h : j < ss.length), nmB ss[j] = true) → ss.all nmB = true) := fun h => by
    rw [List.all_eq_true]
    intro x hx
    obtain ⟨j, hj, rfl⟩ := List.getElem_of_mem hx
    exact h j hj
  clear h hcP hs
  go_enter Tryz.func240, Tryz.ntmps240
  go_wp2
  go_loopw [6, 9] (fun _ i wr => ∃ k : Nat, k ≤ ss.length ∧ i = .int .i64 k ∧ Hid (Below w.heap.size w wr ∧ ∀ j (h : j < ss.length), j < k → nmB ss[j] = true)) (fun _ i _ => ss.length - (intOf i).toNat)
  case atStart => exact ⟨0, by omega, rfl, Below.refl _ _, fun j h a => absurd a (by omega)⟩
  case round =>
    obtain ⟨k, hk, rfl, H⟩ := hrel
    have H1 := hideIt H.out.1
    have hz : w.heap.size ≤ wr.heap.size := H.out.1.size
    by_cases hlt : k < ss.length
    · obtain ⟨b, o, rfl, hbl, hcell⟩ := HP.out (by omega)
      have d0 := (H1.out.cell (p := ⟨b, o + k, none⟩) hbl).trans (hcell k hlt)
      have k0 : (0 : Int) ≤ (k : Int) := by omega
      have k1 : (k : Int) < (ss.length : Int) := by omega
      have LI := hideIt (fun w1 => isShortName_any ss[k] w1 (HS.out k hlt))
      have H2 : Hid (∀ j (h : j < ss.length), j < k → nmB ss[j] = true) := H.out.2
      clear hcell H
      cases q : nmB ss[k] with
      | true =>
        have H' : Hid (∀ j (h : j < ss.length), j < k + 1 → nmB ss[j] = true) := fun j h a => by
          by_cases e : j = k
          · subst e; exact q
          · exact H2.out j h (by omega)
        rw [q] at LI
        clear q H2
        generalize ss[k] = x at d0 LI
        go_wp2_with fail
        refine (LI.out _).mono ?_
        rintro e w1 ⟨rfl, hb1⟩
        have B3 := hideIt (below_trans H1.out hb1 H1.out.size)
        clear hb1 d0
        go_wp2
        go_roundw
        case rel => exact ⟨k + 1, by omega, by go_num, B3.out, H'.out⟩
        case measure => simp [intOf]; omega
      | false =>
        have E := hideIt (SF.out k hlt q)
        rw [q] at LI
        clear q H2
        generalize ss[k] = x at d0 LI
        go_wp2_with fail
        refine (LI.out _).mono ?_
        rintro e w1 ⟨rfl, hb1⟩
        have B3 := hideIt (below_trans H1.out hb1 H1.out.size)
        clear hb1 d0
        go_wp2
        go_ret
        exact ⟨ret_bool E.out.symm, B3.out⟩
    · have E := hideIt (SA.out (fun j h => H.out.2 j h (by omega)))
      clear H
      go_wp2
      go_ret
      exact ⟨ret_bool E.out.symm, H1.out⟩

theorem row_strs (w : World) (P : List ByteArray) (h : P.length ≤ 1048576) : Row (w.alloc (.cells (strs P).toArray 9)) 9 1 w.heap.size (w.alloc (.cells (strs P).toArray 9)).heap.size (.slice (some ⟨w.heap.size, 0, none⟩) P.length P.length) P.length (strs P) := by
  have := World.ownsRow_lit (e := 9) (size := 1) (base := w.heap.size) w (strs P).toArray P.length (Nat.le_refl _) (by simp [maxLen]; omega) (by simp [strs])
  exact own_block this

set_option maxRecDepth 100000 in
set_option maxHeartbeats 4000000 in
theorem implSplitPath_any (s : ByteArray) (w : World) :
    Calls Tryz.prog 207 #[.string s] w fun e w' => ∃ v', e = .returned (.tuple #[v', .int .i64 (spC s)]) ∧ Row w' 9 1 w.heap.size w'.heap.size v' (spR s).length (strs (spR s)) ∧ Below w.heap.size w w' := by
  by_cases c1 : 65536 < s.size
  · obtain ⟨E1, E2⟩ := sp_long c1
    rw [E1, E2]
    have c2 : (s.size : Int) > 65536 := by omega
    clear c1 E1 E2
    go_enter Tryz.func207, Tryz.ntmps207
    go_wp2
    go_ret2
    exact ⟨_, rfl, Row.nil _ _ _ _ _, Below.refl _ _⟩
  have c2 : ¬ (s.size : Int) > 65536 := by omega
  obtain ⟨X1, X2⟩ := sp_short c1
  cases c3 : slashB s with
  | true =>
    obtain ⟨E1, E2⟩ := sp_slash c3
    obtain ⟨E3, E4⟩ := X1 E1
    rw [E3, E4, E2]
    have c4 : (s.toList == [47]) = true := c3
    clear c1 c3 E1 E2 E3 E4 X1 X2
    go_enter Tryz.func207, Tryz.ntmps207
    go_wp2
    go_ret2
    exact ⟨_, rfl, Row.nil _ _ _ _ _, Below.refl _ _⟩
  | false =>
  have c4 : (s.toList == [47]) = false := c3
  have NO : Hid (spN s = false → spC s = 12 ∧ spR s = []) := fun h => X2 (sp_no c3 h).1
  have YES : Hid (spN s = true → spC s = 0 ∧ spR s = (pcs s).drop 1) := fun h => by
    obtain ⟨a, b⟩ := sp_yes c3 h
    obtain ⟨c, d⟩ := X1 a
    exact ⟨c, d.trans b⟩
  have LP : Hid (∀ w1 : World, Calls Tryz.prog 238 #[.string s, .string ⟨#[47]⟩] w1 fun e w' => e = .returned (.tuple #[.string (restB s), .bool (aheadB s)]) ∧ w' = w1) := fun w1 => cutPrefix_any s ⟨#[47]⟩ w1
  have RS := rest_size s
  have LS := hideIt (fun w1 => split_slash (restB s) w1 (by omega))
  have PL := pcs_len (restB s)
  have RW := hideIt (fun w1 => row_strs w1 (pcs (restB s)) (by omega))
  have LE := hideIt (fun v w1 h => everyName_any v (pcs (restB s)) w1 h (by omega) (fun k hk => by have := pcs_size (restB s) k hk; unfold maxLen; omega))
  have AN := hideIt (fun h => ahead_no (s := s) h)
  have AY := hideIt (fun h => ahead_yes (s := s) h)
  have BE := hideIt (fun w1 : World => (Below.refl w1.heap.size w1).alloc (Nat.le_refl _) (.cells (strs (pcs (restB s))).toArray 9))
  clear c1 c3 X1 X2
  generalize spC s = sc at *
  generalize spR s = sr at *
  generalize spN s = sn at *
  generalize (pcs s).drop 1 = P1 at *
  generalize hRS : restB s = R at *
  generalize aheadB s = ah at *
  generalize pcs R = P at *
  clear hRS
  cases ah with
  | false =>
    obtain ⟨e1, e2⟩ := NO.out (AN.out rfl)
    subst e1 e2
    clear NO YES AN AY LE RW
    go_enter Tryz.func207, Tryz.ntmps207
    go_wp2_with fail
    refine (LP.out _).mono ?_
    rintro e w1 ⟨rfl, hw1⟩
    subst w1
    go_wp2_with fail
    refine (LS.out _).mono ?_
    rintro e w1 ⟨rfl, hw1⟩
    have B1 := hideIt (BE.out w)
    rw [← hw1] at B1
    clear hw1
    go_wp2
    go_ret2
    exact ⟨_, rfl, Row.nil _ _ _ _ _, B1.out⟩
  | true =>
  obtain ⟨a1, a2⟩ := AY.out rfl
  have A1 := hideIt a1
  rw [a2] at YES
  clear a2 AY
  by_cases n1 : P.length ≤ 6
  case neg =>
    obtain ⟨e1, e2⟩ := NO.out (by rw [A1.out, decide_eq_false n1]; rfl)
    have n2 : (P.length : Int) > 6 := by omega
    subst e1 e2
    clear NO YES AN LE RW A1 a1
    go_enter Tryz.func207, Tryz.ntmps207
    go_wp2_with fail
    refine (LP.out _).mono ?_
    rintro e w1 ⟨rfl, hw1⟩
    subst w1
    go_wp2_with fail
    refine (LS.out _).mono ?_
    rintro e w1 ⟨rfl, hw1⟩
    have B1 := hideIt (BE.out w)
    rw [← hw1] at B1
    clear hw1
    go_wp2
    go_ret2
    exact ⟨_, rfl, Row.nil _ _ _ _ _, B1.out⟩
  have n2 : ¬ (P.length : Int) > 6 := by omega
  have A2 : Hid (sn = P.all nmB) := by unfold Hid; rw [A1.out, decide_eq_true n1]; rfl
  clear A1 a1
  cases c5 : P.all nmB with
  | false =>
    obtain ⟨e1, e2⟩ := NO.out (by rw [A2.out, c5])
    rw [c5] at LE
    subst e1 e2
    clear NO YES AN A2 c5
    go_enter Tryz.func207, Tryz.ntmps207
    go_wp2_with fail
    refine (LP.out _).mono ?_
    rintro e w1 ⟨rfl, hw1⟩
    subst w1
    go_wp2_with fail
    refine (LS.out _).mono ?_
    rintro e w1 ⟨rfl, hw1⟩
    have B1 := hideIt (BE.out w)
    have R1 := hideIt (RW.out w)
    rw [← hw1] at B1 R1
    clear hw1 RW BE
    go_wp2_with fail
    refine (LE.out _ _ R1.out.rd).mono ?_
    rintro e w2 ⟨rfl, hb2⟩
    have B2 := hideIt (below_trans B1.out hb2 B1.out.size)
    clear hb2
    go_wp2
    go_ret2
    exact ⟨_, rfl, Row.nil _ _ _ _ _, B2.out⟩
  | true =>
    obtain ⟨e1, e2⟩ := YES.out (by rw [A2.out, c5])
    rw [c5] at LE
    subst e1 e2
    clear NO YES AN A2 c5
    go_enter Tryz.func207, Tryz.ntmps207
    go_wp2_with fail
    refine (LP.out _).mono ?_
    rintro e w1 ⟨rfl, hw1⟩
    subst w1
    go_wp2_with fail
    refine (LS.out _).mono ?_
    rintro e w1 ⟨rfl, hw1⟩
    have B1 := hideIt (BE.out w)
    have R1 := hideIt (RW.out w)
    rw [← hw1] at B1 R1
    clear hw1 RW BE
    go_wp2_with fail
    refine (LE.out _ _ R1.out.rd).mono ?_
    rintro e w2 ⟨rfl, hb2⟩
    have B2 := hideIt (below_trans B1.out hb2 B1.out.size)
    have R2 := hideIt ((R1.out.below hb2 (Nat.le_refl _)).wide (Nat.le_refl _) hb2.size)
    clear hb2
    go_wp2
    go_ret2
    exact ⟨_, rfl, R2.out, B2.out⟩

end Go.Proofs.YtcilodgoognmnaaGreatDoor
