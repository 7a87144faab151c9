/- Several texts laid together: ImN, PiK. -/
import Derived.Test.YtmeiionabonhnaaGreatDoorImX
import Derived.Test.YtmeiionabonhnaaGreatDoorZAF
namespace Go.Proofs.YtmeiionabonhnaaGreatDoor
open Go.RowKit
def usedTo (ws : List Ino) (t : Int) (k j : Nat) : List Int := usedOf (mapd ws k j) t
theorem usedTo_zero (ws : List Ino) (t : Int) (k : Nat) : usedTo ws t k 0 = usedOf (mapped (ws.take k)) t := by unfold usedTo; rw [mapd_zero]
theorem usedTo_full {ws : List Ino} {k : Nat} (t : Int) (hk : k < ws.length) : usedTo ws t k 8 = usedOf (mapped (ws.take (k + 1))) t := by unfold usedTo; rw [mapd_full hk]
theorem usedTo_succ {ws : List Ino} {k : Nat} (t : Int) (hk : k < ws.length) {j : Nat} (hj : j < 8) : usedTo ws t k (j + 1) = if ¬ ws[k].map.getD j 0 = 0 ∧ ws[k].map.getD j 0 % 4 = t then usedTo ws t k j ++ [ws[k].map.getD j 0 / 4] else usedTo ws t k j := by
  unfold usedTo
  rw [mapd_succ hk hj]
  generalize ws[k].map.getD j 0 = z
  by_cases h0 : z = 0
  · rw [if_pos h0, if_neg (fun h => h.1 h0)]
  · rw [if_neg h0]
    unfold usedOf
    rw [List.filter_append, List.map_append]
    by_cases h1 : z % 4 = t
    · rw [if_pos ⟨h0, h1⟩]; simp [h1]
    · rw [if_neg (fun h => h1 h.2)]; simp [h1]
theorem usedOf_len (l : List Int) (t : Int) : (usedOf l t).length ≤ l.length := by
  unfold usedOf
  rw [List.length_map]
  exact List.length_filter_le _ _
set_option maxRecDepth 100000 in
set_option maxHeartbeats 4000000 in
theorem l05Used_any (v : Value) (ws : List Ino) (ps : List Den) (t : Int) (w : World) (h : RdIm w v ws ps) (hn : ws.length ≤ 4096) (hr : ∀ k (h : k < ws.length), ∀ z ∈ ws[k].map, 0 ≤ z ∧ z ≤ 1048576) :
    Calls Tryz.prog 187 #[v, .int .i64 t] w fun e w' => ∃ v', e = .returned v' ∧ Row w' 3 1 w.heap.size w'.heap.size v' (usedOf (mapped ws) t).length (ints (usedOf (mapped ws) t)) ∧ Below w.heap.size w w' := by
  obtain ⟨vW, vP, rfl, h1, h2⟩ := h
  obtain ⟨aW, cW, rfl, _, hcW⟩ := h1.shape
  have HW := hideIt hcW
  have HR := hideIt hr
  obtain ⟨aP, cP, rfl, _, _⟩ := h2.shape
  clear h1 h2 hcW hr
  obtain ⟨W, hW⟩ : ∃ W, W = w.alloc (.cells #[.slice aW ws.length cW, .slice aP ps.length cP] 98) := ⟨_, rfl⟩
  have CA : Hid (∀ w', Below W.heap.size W w' → w'.cell? ⟨w.heap.size, 0, none⟩ = some (.slice aW ws.length cW)) := fun w' hb => by
    have : w'.heap[w.heap.size]? = some (.cells #[.slice aW ws.length cW, .slice aP ps.length cP] 98 (0, 0)) := (hb.block _ (by rw [hW]; simp)).trans (by rw [hW]; exact at_new rfl)
    exact (two_cells this).1
  have BW : Hid (Below w.heap.size w W) := by rw [hW]; exact (Below.refl _ _).alloc (Nat.le_refl _) _
  have hz : w.heap.size ≤ W.heap.size := BW.out.size
  have START : Hid (InI W (W.alloc (.cells #[] 3)) (.slice (some ⟨W.heap.size, 0, none⟩) 0 0) (usedOf (mapped (ws.take 0)) t)) := ⟨World.ownsRow_lit W #[] 0 (Nat.le_refl _) (by simp [maxLen]) (by simp), (Below.refl _ _).alloc (Nat.le_refl _) _⟩
  go_enter Tryz.func187, Tryz.ntmps187
  go_wp2
  rw [hW] at START
  simp only [World.size_alloc] at START
  go_loopw [5, 6] (fun vL i wr => ∃ k : Nat, k ≤ ws.length ∧ i = .int .i64 k ∧ Hid (InI W wr vL (usedOf (mapped (ws.take k)) t))) (fun _ i _ => ws.length - (intOf i).toNat)
  case atStart => exact ⟨0, by omega, rfl, by rw [hW]; exact START.out⟩
  case round =>
    obtain ⟨k, hk, rfl, I⟩ := hrel
    clear START hW
    have x0 := CA.out wr I.out.b
    have hzr : W.heap.size ≤ wr.heap.size := I.out.z
    have k0 : (0 : Int) ≤ (k : Int) := by omega
    by_cases hlt : k < ws.length
    · obtain ⟨b, o, rfl, hbl, hcell⟩ := HW.out (by omega)
      have k1 : (k : Int) < (ws.length : Int) := by omega
      have MZ := hideIt (usedTo_zero ws t k)
      have MF := hideIt (usedTo_full t hlt)
      have MS := hideIt (fun j (hj : j < 8) => usedTo_succ t hlt hj)
      have ML := hideIt (fun j (hj : j ≤ 8) => Nat.le_trans (usedOf_len (mapd ws k j) t) (mapd_len ws k j hlt hj))
      have ST : Hid (InI W wr u5 (usedTo ws t k 0)) := by unfold Hid; rw [MZ.out]; exact I.out
      have HM : Hid (∀ w', Below w.heap.size w w' → ∀ j, j < 8 → w'.cell? ⟨b, o + k * 11 + 3 + j, none⟩ = some (.int .i64 (ws[k].map.getD j 0))) := fun w' hb j hj => by
        obtain ⟨a0, a1, a2, a3, a4, a5, a6, a7, a8, a9, a10⟩ := hcell k hlt
        rcases (show j = 0 ∨ j = 1 ∨ j = 2 ∨ j = 3 ∨ j = 4 ∨ j = 5 ∨ j = 6 ∨ j = 7 by omega) with rfl | rfl | rfl | rfl | rfl | rfl | rfl | rfl
        · exact (hb.cell (p := ⟨b, o + k * 11 + 3, none⟩) hbl).trans a3
        · exact (hb.cell (p := ⟨b, o + k * 11 + 4, none⟩) hbl).trans a4
        · exact (hb.cell (p := ⟨b, o + k * 11 + 5, none⟩) hbl).trans a5
        · exact (hb.cell (p := ⟨b, o + k * 11 + 6, none⟩) hbl).trans a6
        · exact (hb.cell (p := ⟨b, o + k * 11 + 7, none⟩) hbl).trans a7
        · exact (hb.cell (p := ⟨b, o + k * 11 + 8, none⟩) hbl).trans a8
        · exact (hb.cell (p := ⟨b, o + k * 11 + 9, none⟩) hbl).trans a9
        · exact (hb.cell (p := ⟨b, o + k * 11 + 10, none⟩) hbl).trans a10
      have HZ : Hid (∀ j, j < 8 → 0 ≤ ws[k].map.getD j 0 ∧ ws[k].map.getD j 0 ≤ 1048576) := fun j hj => by
        have e : ws[k].map.getD j 0 = ws[k].map[j]'hj := by rw [List.getD_eq_getElem?_getD, List.getElem?_eq_getElem (show j < ws[k].map.length from hj)]; rfl
        rw [e]
        exact HR.out k hlt _ (List.getElem_mem _)
      clear I hcell
      generalize ws[k] = x at *
      go_wp2
      clear x0
      go_loopw [5, 7] (fun vL i wq => ∃ j : Nat, j ≤ 8 ∧ i = .int .i64 j ∧ Hid (InI W wq vL (usedTo ws t k j))) (fun _ i _ => 8 - (intOf i).toNat)
      case atStart => exact ⟨0, by omega, rfl, ST⟩
      case round =>
        obtain ⟨j, hj, rfl, J⟩ := hrel
        clear ST
        have y0 := CA.out wr J.out.b
        have JW := hideIt (below_trans BW.out J.out.b hz)
        have hzj : W.heap.size ≤ wr.heap.size := J.out.z
        have j0 : (0 : Int) ≤ (j : Int) := by omega
        by_cases hlj : j < 8
        · have j1 : (j : Int) < 8 := by omega
          have e0 := HM.out wr JW.out j hlj
          obtain ⟨b0, b1⟩ := HZ.out j hlj
          have MJ := hideIt (MS.out j hlj)
          have hlen : (usedTo ws t k j).length ≤ 8 * ws.length := ML.out j (by omega)
          generalize x.map.getD j 0 = z at e0 b0 b1 MJ
          by_cases q : z = 0
          · have q' : (z != 0) = false := by rw [q]; rfl
            have G : Hid (InI W wr u5 (usedTo ws t k (j + 1))) := by unfold Hid; rw [MJ.out, if_neg (fun h => h.1 q)]; exact J.out
            clear q J MJ
            go_wp2
            go_roundw
            case rel => exact ⟨j + 1, by omega, by go_num, G⟩
            case measure => simp [intOf]; omega
          · have q' : (z != 0) = true := by rw [bne_iff_ne]; exact q
            by_cases r : z % 4 = t
            · have r' : (z % 4 == t) = true := by rw [beq_iff_eq]; exact r
              have JB : Hid (InI W (wr.alloc (.cells #[.int .i64 (z / 4)] 3)) u5 (usedTo ws t k j)) := J.out.below ((Below.refl _ _).alloc (Nat.le_refl _) _)
              have RB := hideIt (rd_int wr (z / 4))
              have hzb := JB.out.z
              have MN : Hid (usedTo ws t k (j + 1) = usedTo ws t k j ++ [z / 4]) := by unfold Hid; rw [MJ.out, if_pos ⟨q, r⟩]
              clear q r J MJ
              go_wp2_with (at_builtin; refine wpList_append_rd _ rfl (.tmp 37) (.tmp 40) 43 rfl W.heap.size 3 (.int .i64 0) 1 8 Tryz.underlying43 info3 rfl (by decide) _ _ _ rfl JB.out.l _ 1 _ rfl RB.out (one_int _) (by simp [maxLen]; omega) (by omega) (by omega) ?_)
              intro vN wN hownN hgrN
              have G := hideIt (JB.out.grow (z / 4) hownN hgrN)
              rw [← MN.out] at G
              clear hownN hgrN JB RB
              go_wp2
              go_roundw
              case rel => exact ⟨j + 1, by omega, by go_num, G⟩
              case measure => simp [intOf]; omega
            · have r' : (z % 4 == t) = false := by rw [beq_eq_false_iff_ne]; exact r
              have G : Hid (InI W wr u5 (usedTo ws t k (j + 1))) := by unfold Hid; rw [MJ.out, if_neg (fun h => r h.2)]; exact J.out
              clear q r J MJ
              go_wp2
              go_roundw
              case rel => exact ⟨j + 1, by omega, by go_num, G⟩
              case measure => simp [intOf]; omega
        · obtain rfl : j = 8 := by omega
          have G : Hid (InI W wr u5 (usedOf (mapped (ws.take (k + 1))) t)) := by unfold Hid; rw [← MF.out]; exact J.out
          clear J
          go_wp2
          go_roundw
          case rel => exact ⟨k + 1, by omega, by go_num, G⟩
          case measure => simp [intOf]; omega
    · obtain rfl : k = ws.length := by omega
      have E := hideIt (show usedOf (mapped (ws.take ws.length)) t = usedOf (mapped ws) t by rw [List.take_length])
      rw [E.out] at I
      obtain ⟨-, aL, cL, hvL, -⟩ := (own_block I.out.l).rd
      subst hvL
      go_wp2
      go_ret
      exact ⟨_, rfl, (own_block I.out.l).wide hz (Nat.le_refl _), below_trans BW.out I.out.b hz⟩
end Go.Proofs.YtmeiionabonhnaaGreatDoor

namespace Go.Proofs.YtmeiionabonhnaaGreatDoor
open Go.RowKit
def okNs (ws : List Ino) : Bool := decide (∀ k (h : k < ws.length), inoB ws[k] = true)
theorem okNs_mk {ws : List Ino} (h : ∀ k (h : k < ws.length), inoB ws[k] = true) : okNs ws = true := decide_eq_true h
theorem okNs_not {ws : List Ino} {k : Nat} (hk : k < ws.length) (h : inoB ws[k] = false) : okNs ws = false := decide_eq_false (fun x => by have := x k hk; rw [h] at this; cases this)
theorem okDs_mk {ps : List Den} (h : ∀ k (h : k < ps.length), ps[k].okB = true) : okDs ps = true := decide_eq_true h
theorem okDs_not {ps : List Den} {k : Nat} (hk : k < ps.length) (h : ps[k].okB = false) : okDs ps = false := decide_eq_false (fun x => by have := x k hk; rw [h] at this; cases this)
set_option maxRecDepth 100000 in
set_option maxHeartbeats 4000000 in
theorem everyInode_any (v : Value) (ws : List Ino) (w : World) (h : RdN w v ws) (hn : ws.length ≤ 1048576) (hT : TS w) (hE : ED w) (hr : ∀ k (h : k < ws.length), ws[k].R) :
    Calls Tryz.prog 178 #[v, .func (.func 176) #[] #[]] w fun e w' => e = .returned (.bool (okNs ws)) ∧ Below w.heap.size w w' := by
  obtain ⟨aW, cW, rfl, _, hcW⟩ := h.shape
  have HW := hideIt hcW
  have T := hideIt hT
  have E0 := hideIt hE
  have HR := hideIt hr
  clear h hcW hT hE hr
  go_enter Tryz.func178, Tryz.ntmps178
  go_wp2
  go_loopw [6, 9] (fun _ i wr => ∃ k : Nat, k ≤ ws.length ∧ i = .int .i64 k ∧ Hid (Below w.heap.size w wr ∧ ∀ j (h : j < ws.length), j < k → inoB ws[j] = true)) (fun _ i _ => ws.length - (intOf i).toNat)
  case atStart => exact ⟨0, by omega, rfl, Below.refl _ _, fun j h a => absurd a (by omega)⟩
  case round =>
    obtain ⟨k, hk, rfl, H⟩ := hrel
    have H1 := hideIt H.out.1
    have hz : w.heap.size ≤ wr.heap.size := H.out.1.size
    by_cases hlt : k < ws.length
    · obtain ⟨b, o, rfl, hbl, hcell⟩ := HW.out (by omega)
      obtain ⟨a0, a1, a2, a3, a4, a5, a6, a7, a8, a9, a10⟩ := hcell k hlt
      have d0 := (H1.out.cell (p := ⟨b, o + k * 11, none⟩) hbl).trans a0
      have d1 := (H1.out.cell (p := ⟨b, o + k * 11 + 1, none⟩) hbl).trans a1
      have d2 := (H1.out.cell (p := ⟨b, o + k * 11 + 2, none⟩) hbl).trans a2
      have d3 := (H1.out.cell (p := ⟨b, o + k * 11 + 3, none⟩) hbl).trans a3
      have d4 := (H1.out.cell (p := ⟨b, o + k * 11 + 4, none⟩) hbl).trans a4
      have d5 := (H1.out.cell (p := ⟨b, o + k * 11 + 5, none⟩) hbl).trans a5
      have d6 := (H1.out.cell (p := ⟨b, o + k * 11 + 6, none⟩) hbl).trans a6
      have d7 := (H1.out.cell (p := ⟨b, o + k * 11 + 7, none⟩) hbl).trans a7
      have d8 := (H1.out.cell (p := ⟨b, o + k * 11 + 8, none⟩) hbl).trans a8
      have d9 := (H1.out.cell (p := ⟨b, o + k * 11 + 9, none⟩) hbl).trans a9
      have d10 := (H1.out.cell (p := ⟨b, o + k * 11 + 10, none⟩) hbl).trans a10
      have k0 : (0 : Int) ≤ (k : Int) := by omega
      have k1 : (k : Int) < (ws.length : Int) := by omega
      have B2 := hideIt (H1.out.alloc hz (.cells ws[k].cs.toArray 150))
      have LI := hideIt (fun w1 (h : Below w.heap.size w w1) => isInode_any ws[k] w1 (T.out.below h) (E0.out.below h) (HR.out k hlt))
      have H2 : Hid (∀ j (h : j < ws.length), j < k → inoB ws[j] = true) := H.out.2
      clear a0 a1 a2 a3 a4 a5 a6 a7 a8 a9 a10 hcell H
      cases q : inoB ws[k] with
      | true =>
        have H' : Hid (∀ j (h : j < ws.length), j < k + 1 → inoB ws[j] = true) := fun j h a => by
          by_cases e : j = k
          · subst e; exact q
          · exact H2.out j h (by omega)
        rw [q] at LI
        clear q H2
        generalize ws[k] = x at d0 d1 d2 d3 d4 d5 d6 d7 d8 d9 d10 B2 LI
        go_wp2_with fail
        refine (LI.out _ B2.out).mono ?_
        rintro e w1 ⟨rfl, hb1⟩
        have B3 := hideIt (below_trans B2.out hb1 B2.out.size)
        clear hb1 d0 d1 d2 d3 d4 d5 d6 d7 d8 d9 d10
        go_wp2
        go_roundw
        case rel => exact ⟨k + 1, by omega, by go_num, B3.out, H'.out⟩
        case measure => simp [intOf]; omega
      | false =>
        have E := hideIt (okNs_not hlt q)
        rw [q] at LI
        clear q H2
        generalize ws[k] = x at d0 d1 d2 d3 d4 d5 d6 d7 d8 d9 d10 B2 LI
        go_wp2_with fail
        refine (LI.out _ B2.out).mono ?_
        rintro e w1 ⟨rfl, hb1⟩
        have B3 := hideIt (below_trans B2.out hb1 B2.out.size)
        clear hb1 d0 d1 d2 d3 d4 d5 d6 d7 d8 d9 d10
        go_wp2
        go_ret
        exact ⟨ret_bool E.out.symm, B3.out⟩
    · have E := hideIt (okNs_mk (fun j h => H.out.2 j h (by omega)))
      clear H
      go_wp2
      go_ret
      exact ⟨ret_bool E.out.symm, H1.out⟩
set_option maxRecDepth 100000 in
set_option maxHeartbeats 4000000 in
theorem everyDirent_any (v : Value) (ps : List Den) (w : World) (h : RdD w v ps) (hn : ps.length ≤ 1048576) (hF : FD w) (hs : ∀ k (h : k < ps.length), ps[k].name.size ≤ maxLen) :
    Calls Tryz.prog 179 #[v, .func (.func 180) #[] #[]] w fun e w' => e = .returned (.bool (okDs ps)) ∧ Below w.heap.size w w' := by
  obtain ⟨aP, cP, rfl, _, hcP⟩ := h.shape
  have HP := hideIt hcP
  have F := hideIt hF
  have HS := hideIt hs
  clear h hcP hF hs
  go_enter Tryz.func179, Tryz.ntmps179
  go_wp2
  go_loopw [6, 9] (fun _ i wr => ∃ k : Nat, k ≤ ps.length ∧ i = .int .i64 k ∧ Hid (Below w.heap.size w wr ∧ ∀ j (h : j < ps.length), j < k → ps[j].okB = true)) (fun _ i _ => ps.length - (intOf i).toNat)
  case atStart => exact ⟨0, by omega, rfl, Below.refl _ _, fun j h a => absurd a (by omega)⟩
  case round =>
    obtain ⟨k, hk, rfl, H⟩ := hrel
    have H1 := hideIt H.out.1
    have hz : w.heap.size ≤ wr.heap.size := H.out.1.size
    by_cases hlt : k < ps.length
    · obtain ⟨b, o, rfl, hbl, hcell⟩ := HP.out (by omega)
      obtain ⟨a0, a1, a2⟩ := hcell k hlt
      have d0 := (H1.out.cell (p := ⟨b, o + k * 3, none⟩) hbl).trans a0
      have d1 := (H1.out.cell (p := ⟨b, o + k * 3 + 1, none⟩) hbl).trans a1
      have d2 := (H1.out.cell (p := ⟨b, o + k * 3 + 2, none⟩) hbl).trans a2
      have k0 : (0 : Int) ≤ (k : Int) := by omega
      have k1 : (k : Int) < (ps.length : Int) := by omega
      have B2 := hideIt (H1.out.alloc hz (.cells #[.int .i64 ps[k].dir, .string ps[k].name, .int .i64 ps[k].child] 140))
      have LI := hideIt (fun w1 (h : Below w.heap.size w w1) => isDirent_any ps[k] w1 (F.out.below h) (HS.out k hlt))
      have H2 : Hid (∀ j (h : j < ps.length), j < k → ps[j].okB = true) := H.out.2
      clear a0 a1 a2 hcell H
      cases q : ps[k].okB with
      | true =>
        have H' : Hid (∀ j (h : j < ps.length), j < k + 1 → ps[j].okB = true) := fun j h a => by
          by_cases e : j = k
          · subst e; exact q
          · exact H2.out j h (by omega)
        rw [q] at LI
        clear q H2
        generalize ps[k] = x at d0 d1 d2 B2 LI
        go_wp2_with fail
        refine (LI.out _ B2.out).mono ?_
        rintro e w1 ⟨rfl, hb1⟩
        have B3 := hideIt (below_trans B2.out hb1 B2.out.size)
        clear hb1 d0 d1 d2
        go_wp2
        go_roundw
        case rel => exact ⟨k + 1, by omega, by go_num, B3.out, H'.out⟩
        case measure => simp [intOf]; omega
      | false =>
        have E := hideIt (okDs_not hlt q)
        rw [q] at LI
        clear q H2
        generalize ps[k] = x at d0 d1 d2 B2 LI
        go_wp2_with fail
        refine (LI.out _ B2.out).mono ?_
        rintro e w1 ⟨rfl, hb1⟩
        have B3 := hideIt (below_trans B2.out hb1 B2.out.size)
        clear hb1 d0 d1 d2
        go_wp2
        go_ret
        exact ⟨ret_bool E.out.symm, B3.out⟩
    · have E := hideIt (okDs_mk (fun j h => H.out.2 j h (by omega)))
      clear H
      go_wp2
      go_ret
      exact ⟨ret_bool E.out.symm, H1.out⟩
def partsB (ws : List Ino) (ps : List Den) : Bool := decide (ws.length = 16) && (decide (ps.length = 24) && (okNs ws && okDs ps))
set_option maxRecDepth 100000 in
set_option maxHeartbeats 4000000 in
theorem partsOK_any (v : Value) (ws : List Ino) (ps : List Den) (w : World) (h : RdIm w v ws ps) (hw : ws.length ≤ 1048576) (hp : ps.length ≤ 1048576) (hT : TS w) (hE : ED w) (hF : FD w) (hr : ∀ k (h : k < ws.length), ws[k].R) (hs : ∀ k (h : k < ps.length), ps[k].name.size ≤ maxLen) :
    Calls Tryz.prog 116 #[v] w fun e w' => e = .returned (.bool (partsB ws ps)) ∧ Below w.heap.size w w' := by
  obtain ⟨vW, vP, rfl, h1, h2⟩ := h
  have RW := hideIt h1
  have RP := hideIt h2
  obtain ⟨aW, cW, rfl, _, _⟩ := h1.shape
  obtain ⟨aP, cP, rfl, _, _⟩ := h2.shape
  have BW := hideIt ((Below.refl w.heap.size w).alloc (Nat.le_refl _) (.cells #[.slice aW ws.length cW, .slice aP ps.length cP] 98))
  have CA : Hid (∀ w', Below (w.alloc (.cells #[.slice aW ws.length cW, .slice aP ps.length cP] 98)).heap.size (w.alloc (.cells #[.slice aW ws.length cW, .slice aP ps.length cP] 98)) w' → w'.cell? ⟨w.heap.size, 0, none⟩ = some (.slice aW ws.length cW) ∧ w'.cell? ⟨w.heap.size, 1, none⟩ = some (.slice aP ps.length cP)) := fun w' hb => by
    have : w'.heap[w.heap.size]? = some (.cells #[.slice aW ws.length cW, .slice aP ps.length cP] 98 (0, 0)) := (hb.block _ (by simp)).trans (at_new rfl)
    exact ⟨(two_cells this).1, (two_cells this).2.1⟩
  have LN := hideIt (fun w1 (hb : Below w.heap.size w w1) => everyInode_any (.slice aW ws.length cW) ws w1 (Rd.below RW.out hb) hw (hT.below hb) (hE.below hb) hr)
  have LD := hideIt (fun w1 (hb : Below w.heap.size w w1) => everyDirent_any (.slice aP ps.length cP) ps w1 (Rd.below RP.out hb) hp (hF.below hb) hs)
  obtain ⟨x0, x1⟩ := CA.out _ (Below.refl _ _)
  clear h1 h2 hT hE hF hr hs
  by_cases c1 : ws.length = 16
  case neg =>
    have E := hideIt (show partsB ws ps = false by unfold partsB; rw [decide_eq_false c1]; rfl)
    have q : ((ws.length : Int) == 16) = false := by rw [beq_eq_false_iff_ne]; omega
    clear c1
    go_enter Tryz.func116, Tryz.ntmps116
    go_wp2
    go_ret
    exact ⟨ret_bool E.out.symm, BW.out⟩
  have q : ((ws.length : Int) == 16) = true := by rw [beq_iff_eq]; omega
  by_cases c2 : ps.length = 24
  case neg =>
    have E := hideIt (show partsB ws ps = false by unfold partsB; rw [decide_eq_false c2, Bool.false_and, Bool.and_false])
    have q2 : ((ps.length : Int) == 24) = false := by rw [beq_eq_false_iff_ne]; omega
    clear c1 c2
    go_enter Tryz.func116, Tryz.ntmps116
    go_wp2
    go_ret
    exact ⟨ret_bool E.out.symm, BW.out⟩
  have q2 : ((ps.length : Int) == 24) = true := by rw [beq_iff_eq]; omega
  have E := hideIt (show partsB ws ps = (okNs ws && okDs ps) by unfold partsB; rw [decide_eq_true c1, decide_eq_true c2]; rfl)
  clear c1 c2
  cases q3 : okNs ws with
  | false =>
    rw [q3] at E LN
    clear q3
    go_enter Tryz.func116, Tryz.ntmps116
    go_wp2_with fail
    refine (LN.out _ BW.out).mono ?_
    rintro e w1 ⟨rfl, hb1⟩
    have B1 := hideIt (below_trans BW.out hb1 BW.out.size)
    clear hb1 x0 x1
    go_wp2
    go_ret
    exact ⟨ret_bool (by rw [E.out]; rfl), B1.out⟩
  | true =>
    rw [q3] at E LN
    clear q3
    go_enter Tryz.func116, Tryz.ntmps116
    go_wp2_with fail
    refine (LN.out _ BW.out).mono ?_
    rintro e w1 ⟨rfl, hb1⟩
    have B1 := hideIt (below_trans BW.out hb1 BW.out.size)
    clear x0 x1
    obtain ⟨x0, x1⟩ := CA.out _ hb1
    clear hb1
    go_wp2_with fail
    refine (LD.out _ B1.out).mono ?_
    rintro e w2 ⟨rfl, hb2⟩
    have B2 := hideIt (below_trans B1.out hb2 B1.out.size)
    clear hb2 x0 x1
    go_wp2
    go_ret
    exact ⟨ret_bool (by rw [E.out]; rfl), B2.out⟩
end Go.Proofs.YtmeiionabonhnaaGreatDoor
