/- Inodes and entries, each alone: by the program. -/
import Derived.Test.YtbjjdkemappelaaGreatDoorImX
import Derived.Test.YtbjjdkemappelaaGreatDoorZAH
namespace Go.Proofs.YtbjjdkemappelaaGreatDoor
open Go.RowKit
def okNs (ws : List Ino) : Bool := decide (∀ k (h : k < ws.length), inoB ws[k] = true)
theorem okNs_mk {ws : List Ino} (h : ∀ k (h : k < ws.length), inoB ws[k] = true) : okNs ws = true := decide_eq_true h
theorem okNs_not {ws : List Ino} {k : Nat} (hk : k < ws.length) (h : inoB ws[k] = false) : okNs ws = false := decide_eq_false (fun x => by have := x k hk; rw [h] at this; cases this)
theorem okDs_mk {ps : List Den} (h : ∀ k (h : k < ps.length), ps[k].okB = true) : okDs ps = true := decide_eq_true h
theorem okDs_not {ps : List Den} {k : Nat} (hk : k < ps.length) (h : ps[k].okB = false) : okDs ps = false := decide_eq_false (fun x => by have := x k hk; rw [h] at this; cases this)
set_option maxRecDepth 100000 in
set_option maxHeartbeats 4000000 in
theorem everyInode_any (v : Value) (ws : List Ino) (w : World) (h : RdN w v ws) (hn : ws.length ≤ 1048576) (hT : TS w) (hE : ED w) (hr : ∀ k (h : k < ws.length), ws[k].R) :
    Calls Tryz.prog 139 #[v, .func (.func 140) #[] #[]] w fun e w' => e = .returned (.bool (okNs ws)) ∧ Below w.heap.size w w' := by
  obtain ⟨aW, cW, rfl, _, hcW⟩ := h.shape
  have HW := hideIt hcW
  have T := hideIt hT
  have E0 := hideIt hE
  have HR := hideIt hr
  clear h hcW hT hE hr
  go_enter Tryz.func139, Tryz.ntmps139
  go_wp2
  go_loopw [6, 9] (fun _ i wr => ∃ k : Nat, k ≤ ws.length ∧ i = .int .i64 k ∧ Hid (Below w.heap.size w wr ∧ ∀ j (h : j < ws.length), j < k → inoB ws[j] = true)) (fun _ i _ => ws.length - (intOf i).toNat)
  case atStart => exact ⟨0, by omega, rfl, Below.refl _ _, fun j h a => absurd a (by omega)⟩
  case round =>
    obtain ⟨k, hk, rfl, H⟩ := hrel
    have H1 := hideIt H.out.1
    have hz : w.heap.size ≤ wr.heap.size := H.out.1.size
    by_cases hlt : k < ws.length
    · obtain ⟨b, o, rfl, hbl, hcell⟩ := HW.out (by omega)
      obtain ⟨a0, a1, a2, a3, a4, a5, a6, a7, a8, a9, a10⟩ := hcell k hlt
      have d0 := (H1.out.cell (p := ⟨b, o + k * 11, none⟩) hbl).trans a0
      have d1 := (H1.out.cell (p := ⟨b, o + k * 11 + 1, none⟩) hbl).trans a1
      have d2 := (H1.out.cell (p := ⟨b, o + k * 11 + 2, none⟩) hbl).trans a2
      have d3 := (H1.out.cell (p := ⟨b, o + k * 11 + 3, none⟩) hbl).trans a3
      have d4 := (H1.out.cell (p := ⟨b, o + k * 11 + 4, none⟩) hbl).trans a4
      have d5 := (H1.out.cell (p := ⟨b, o + k * 11 + 5, none⟩) hbl).trans a5
      have d6 := (H1.out.cell (p := ⟨b, o + k * 11 + 6, none⟩) hbl).trans a6
      have d7 := (H1.out.cell (p := ⟨b, o + k * 11 + 7, none⟩) hbl).trans a7
      have d8 := (H1.out.cell (p := ⟨b, o + k * 11 + 8, none⟩) hbl).trans a8
      have d9 := (H1.out.cell (p := ⟨b, o + k * 11 + 9, none⟩) hbl).trans a9
      have d10 := (H1.out.cell (p := ⟨b, o + k * 11 + 10, none⟩) hbl).trans a10
      have k0 : (0 : Int) ≤ (k : Int) := by omega
      have k1 : (k : Int) < (ws.length : Int) := by omega
      have B2 := hideIt (H1.out.alloc hz (.cells ws[k].cs.toArray 103))
      have LI := hideIt (fun w1 (h : Below w.heap.size w w1) => isInode_any ws[k] w1 (T.out.below h) (E0.out.below h) (HR.out k hlt))
      have H2 : Hid (∀ j (h : j < ws.length), j < k → inoB ws[j] = true) := H.out.2
      clear a0 a1 a2 a3 a4 a5 a6 a7 a8 a9 a10 hcell H
      cases q : inoB ws[k] with
      | true =>
        have H' : Hid (∀ j (h : j < ws.length), j < k + 1 → inoB ws[j] = true) := fun j h a => by
          by_cases e : j = k
          · subst e; exact q
          · exact H2.out j h (by omega)
        rw [q] at LI
        clear q H2
        generalize ws[k] = x at d0 d1 d2 d3 d4 d5 d6 d7 d8 d9 d10 B2 LI
        go_wp2_with fail
        refine (LI.out _ B2.out).mono ?_
        rintro e w1 ⟨rfl, hb1⟩
        have B3 := hideIt (below_trans B2.out hb1 B2.out.size)
        clear hb1 d0 d1 d2 d3 d4 d5 d6 d7 d8 d9 d10
        go_wp2
        go_roundw
        case rel => exact ⟨k + 1, by omega, by go_num, B3.out, H'.out⟩
        case measure => simp [intOf]; omega
      | false =>
        have E := hideIt (okNs_not hlt q)
        rw [q] at LI
        clear q H2
        generalize ws[k] = x at d0 d1 d2 d3 d4 d5 d6 d7 d8 d9 d10 B2 LI
        go_wp2_with fail
        refine (LI.out _ B2.out).mono ?_
        rintro e w1 ⟨rfl, hb1⟩
        have B3 := hideIt (below_trans B2.out hb1 B2.out.size)
        clear hb1 d0 d1 d2 d3 d4 d5 d6 d7 d8 d9 d10
        go_wp2
        go_ret
        exact ⟨ret_bool E.out.symm, B3.out⟩
    · have E := hideIt (okNs_mk (fun j h => H.out.2 j h (by omega)))
      clear H
      go_wp2
      go_ret
      exact ⟨ret_bool E.out.symm, H1.out⟩
set_option maxRecDepth 100000 in
set_option maxHeartbeats 4000000 in
theorem everyDirent_any (v : Value) (ps : List Den) (w : World) (h : RdD w v ps) (hn : ps.length ≤ 1048576) (hF : FD w) (hs : ∀ k (h : k < ps.length), ps[k].name.size ≤ maxLen) :
    Calls Tryz.prog 141 #[v, .func (.func 142) #[] #[]] w fun e w' => e = .returned (.bool (okDs ps)) ∧ Below w.heap.size w w' := by
  obtain ⟨aP, cP, rfl, _, hcP⟩ := h.shape
  have HP := hideIt hcP
  have F := hideIt hF
  have HS := hideIt hs
  clear h hcP hF hs
  go_enter Tryz.func141, Tryz.ntmps141
  go_wp2
  go_loopw [6, 9] (fun _ i wr => ∃ k : Nat, k ≤ ps.length ∧ i = .int .i64 k ∧ Hid (Below w.heap.size w wr ∧ ∀ j (h : j < ps.length), j < k → ps[j].okB = true)) (fun _ i _ => ps.length - (intOf i).toNat)
  case atStart => exact ⟨0, by omega, rfl, Below.refl _ _, fun j h a => absurd a (by omega)⟩
  case round =>
    obtain ⟨k, hk, rfl, H⟩ := hrel
    have H1 := hideIt H.out.1
    have hz : w.heap.size ≤ wr.heap.size := H.out.1.size
    by_cases hlt : k < ps.length
    · obtain ⟨b, o, rfl, hbl, hcell⟩ := HP.out (by omega)
      obtain ⟨a0, a1, a2⟩ := hcell k hlt
      have d0 := (H1.out.cell (p := ⟨b, o + k * 3, none⟩) hbl).trans a0
      have d1 := (H1.out.cell (p := ⟨b, o + k * 3 + 1, none⟩) hbl).trans a1
      have d2 := (H1.out.cell (p := ⟨b, o + k * 3 + 2, none⟩) hbl).trans a2
      have k0 : (0 : Int) ≤ (k : Int) := by omega
      have k1 : (k : Int) < (ps.length : Int) := by omega
      have B2 := hideIt (H1.out.alloc hz (.cells #[.int .i64 ps[k].dir, .string ps[k].name, .int .i64 ps[k].child] 182))
      have LI := hideIt (fun w1 (h : Below w.heap.size w w1) => isDirent_any ps[k] w1 (F.out.below h) (HS.out k hlt))
      have H2 : Hid (∀ j (h : j < ps.length), j < k → ps[j].okB = true) := H.out.2
      clear a0 a1 a2 hcell H
      cases q : ps[k].okB with
      | true =>
        have H' : Hid (∀ j (h : j < ps.length), j < k + 1 → ps[j].okB = true) := fun j h a => by
          by_cases e : j = k
          · subst e; exact q
          · exact H2.out j h (by omega)
        rw [q] at LI
        clear q H2
        generalize ps[k] = x at d0 d1 d2 B2 LI
        go_wp2_with fail
        refine (LI.out _ B2.out).mono ?_
        rintro e w1 ⟨rfl, hb1⟩
        have B3 := hideIt (below_trans B2.out hb1 B2.out.size)
        clear hb1 d0 d1 d2
        go_wp2
        go_roundw
        case rel => exact ⟨k + 1, by omega, by go_num, B3.out, H'.out⟩
        case measure => simp [intOf]; omega
      | false =>
        have E := hideIt (okDs_not hlt q)
        rw [q] at LI
        clear q H2
        generalize ps[k] = x at d0 d1 d2 B2 LI
        go_wp2_with fail
        refine (LI.out _ B2.out).mono ?_
        rintro e w1 ⟨rfl, hb1⟩
        have B3 := hideIt (below_trans B2.out hb1 B2.out.size)
        clear hb1 d0 d1 d2
        go_wp2
        go_ret
        exact ⟨ret_bool E.out.symm, B3.out⟩
    · have E := hideIt (okDs_mk (fun j h => H.out.2 j h (by omega)))
      clear H
      go_wp2
      go_ret
      exact ⟨ret_bool E.out.symm, H1.out⟩
def partsB (ws : List Ino) (ps : List Den) : Bool := decide (ws.length = 16) && (decide (ps.length = 24) && (okNs ws && okDs ps))
set_option maxRecDepth 100000 in
set_option maxHeartbeats 4000000 in
theorem partsOK_any (v : Value) (ws : List Ino) (ps : List Den) (w : World) (h : RdIm w v ws ps) (hw : ws.length ≤ 1048576) (hp : ps.length ≤ 1048576) (hT : TS w) (hE : ED w) (hF : FD w) (hr : ∀ k (h : k < ws.length), ws[k].R) (hs : ∀ k (h : k < ps.length), ps[k].name.size ≤ maxLen) :
    Calls Tryz.prog 106 #[v] w fun e w' => e = .returned (.bool (partsB ws ps)) ∧ Below w.heap.size w w' := by
  obtain ⟨vW, vP, rfl, h1, h2⟩ := h
  have RW := hideIt h1
  have RP := hideIt h2
  obtain ⟨aW, cW, rfl, _, _⟩ := h1.shape
  obtain ⟨aP, cP, rfl, _, _⟩ := h2.shape
  have BW := hideIt ((Below.refl w.heap.size w).alloc (Nat.le_refl _) (.cells #[.slice aW ws.length cW, .slice aP ps.length cP] 76))
  have CA : Hid (∀ w', Below (w.alloc (.cells #[.slice aW ws.length cW, .slice aP ps.length cP] 76)).heap.size (w.alloc (.cells #[.slice aW ws.length cW, .slice aP ps.length cP] 76)) w' → w'.cell? ⟨w.heap.size, 0, none⟩ = some (.slice aW ws.length cW) ∧ w'.cell? ⟨w.heap.size, 1, none⟩ = some (.slice aP ps.length cP)) := fun w' hb => by
    have : w'.heap[w.heap.size]? = some (.cells #[.slice aW ws.length cW, .slice aP ps.length cP] 76 (0, 0)) := (hb.block _ (by simp)).trans (at_new rfl)
    exact ⟨(two_cells this).1, (two_cells this).2.1⟩
  have LN := hideIt (fun w1 (hb : Below w.heap.size w w1) => everyInode_any (.slice aW ws.length cW) ws w1 (Rd.below RW.out hb) hw (hT.below hb) (hE.below hb) hr)
  have LD := hideIt (fun w1 (hb : Below w.heap.size w w1) => everyDirent_any (.slice aP ps.length cP) ps w1 (Rd.below RP.out hb) hp (hF.below hb) hs)
  obtain ⟨x0, x1⟩ := CA.out _ (Below.refl _ _)
  clear h1 h2 hT hE hF hr hs
  by_cases c1 : ws.length = 16
  case neg =>
    have E := hideIt (show partsB ws ps = false by unfold partsB; rw [decide_eq_false c1]; rfl)
    have q : ((ws.length : Int) == 16) = false := by rw [beq_eq_false_iff_ne]; omega
    clear c1
    go_enter Tryz.func106, Tryz.ntmps106
    go_wp2
    go_ret
    exact ⟨ret_bool E.out.symm, BW.out⟩
  have q : ((ws.length : Int) == 16) = true := by rw [beq_iff_eq]; omega
  by_cases c2 : ps.length = 24
  case neg =>
    have E := hideIt (show partsB ws ps = false by unfold partsB; rw [decide_eq_false c2, Bool.false_and, Bool.and_false])
    have q2 : ((ps.length : Int) == 24) = false := by rw [beq_eq_false_iff_ne]; omega
    clear c1 c2
    go_enter Tryz.func106, Tryz.ntmps106
    go_wp2
    go_ret
    exact ⟨ret_bool E.out.symm, BW.out⟩
  have q2 : ((ps.length : Int) == 24) = true := by rw [beq_iff_eq]; omega
  have E := hideIt (show partsB ws ps = (okNs ws && okDs ps) by unfold partsB; rw [decide_eq_true c1, decide_eq_true c2]; rfl)
  clear c1 c2
  cases q3 : okNs ws with
  | false =>
    rw [q3] at E LN
    clear q3
    go_enter Tryz.func106, Tryz.ntmps106
    go_wp2_with fail
    refine (LN.out _ BW.out).mono ?_
    rintro e w1 ⟨rfl, hb1⟩
    have B1 := hideIt (below_trans BW.out hb1 BW.out.size)
    clear hb1 x0 x1
    go_wp2
    go_ret
    exact ⟨ret_bool (by rw [E.out]; rfl), B1.out⟩
  | true =>
    rw [q3] at E LN
    clear q3
    go_enter Tryz.func106, Tryz.ntmps106
    go_wp2_with fail
    refine (LN.out _ BW.out).mono ?_
    rintro e w1 ⟨rfl, hb1⟩
    have B1 := hideIt (below_trans BW.out hb1 BW.out.size)
    clear x0 x1
    obtain ⟨x0, x1⟩ := CA.out _ hb1
    clear hb1
    go_wp2_with fail
    refine (LD.out _ B1.out).mono ?_
    rintro e w2 ⟨rfl, hb2⟩
    have B2 := hideIt (below_trans B1.out hb2 B1.out.size)
    clear hb2 x0 x1
    go_wp2
    go_ret
    exact ⟨ret_bool (by rw [E.out]; rfl), B2.out⟩
end Go.Proofs.YtbjjdkemappelaaGreatDoor
