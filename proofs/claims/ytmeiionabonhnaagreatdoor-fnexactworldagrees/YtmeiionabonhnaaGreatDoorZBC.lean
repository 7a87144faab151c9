/- Several texts laid together: RdD, DtC. -/
import Derived.Test.YtmeiionabonhnaaGreatDoorRdC
import Derived.Test.YtmeiionabonhnaaGreatDoorZBA
namespace Go.Proofs.YtmeiionabonhnaaGreatDoor
open Go.RowKit
theorem ri_not {ws : List Int} {ps : List St} (h : pmB ws ps = false) : riC ws ps = 1 ∧ riN ws ps = [] ∧ riD ws ps = [] := by
  have e : riC ws ps = 1 := by unfold riC; rw [h]; rfl
  exact ⟨e, by unfold riN; rw [e]; rfl, by unfold riD; rw [e]; rfl⟩
theorem ri_form {ws : List Int} {ps : List St} (h : pmB ws ps = true) (q : riB (layW ws ps) = false) : riC ws ps = 3 ∧ riN ws ps = [] ∧ riD ws ps = [] := by
  have e : riC ws ps = 3 := by unfold riC; rw [h, q]; rfl
  exact ⟨e, by unfold riN; rw [e]; rfl, by unfold riD; rw [e]; rfl⟩
theorem ri_ok {ws : List Int} {ps : List St} (h : pmB ws ps = true) (q : riB (layW ws ps) = true) : riC ws ps = 0 ∧ riN ws ps = inosOf (layW ws ps) 16 ∧ riD ws ps = densOf (layW ws ps) 24 := by
  have e : riC ws ps = 0 := by unfold riC; rw [h, q]; rfl
  exact ⟨e, by unfold riN; rw [if_pos e], by unfold riD; rw [if_pos e]⟩
theorem rowim_nil (w : World) (lo hi : Nat) : RowIm w lo hi (.agg #[.slice none 0 0, .slice none 0 0]) [] [] := ⟨_, _, rfl, Row.nil _ _ _ _ _, Row.nil _ _ _ _ _⟩
theorem inosOf_R {ws : List Int} {ps : List St} (h : pmB ws ps = true) (n : Nat) : ∀ k (hk : k < (inosOf (layW ws ps) n).length), (inosOf (layW ws ps) n)[k].R := by
  intro k hk
  have hm : (inosOf (layW ws ps) n)[k] ∈ (List.range n).map (inoOf (layW ws ps)) := List.getElem_mem hk
  obtain ⟨j, _, e⟩ := List.mem_map.1 hm
  rw [← e]
  exact inoOf_R h j
theorem densOf_name (ls : List Int) (n : Nat) : ∀ k (hk : k < (densOf ls n).length), (densOf ls n)[k].name.size ≤ maxLen := by
  intro k hk
  have hm : (densOf ls n)[k] ∈ (List.range n).map (denOf ls) := List.getElem_mem hk
  obtain ⟨j, _, e⟩ := List.mem_map.1 hm
  rw [← e]
  exact denOf_name ls j
theorem rowim_wide {w : World} {lo hi lo' hi' : Nat} {v : Value} {xs : List Ino} {ds : List Den} (h : RowIm w lo hi v xs ds) (h1 : lo' ≤ lo) (h2 : hi ≤ hi') : RowIm w lo' hi' v xs ds := by
  obtain ⟨vI, vD, e, a, b⟩ := h
  exact ⟨vI, vD, e, a.wide h1 h2, b.wide h1 h2⟩
theorem ino_image {w : World} {lo hi : Nat} {b1 b2 c1 c2 n1 n2 : Nat} {xs : List Ino} {ds : List Den} {b : Nat} {cs : Array Value} {fr : Nat × Nat} (h : RowIm w lo hi (.agg #[.slice (some ⟨b1, 0, none⟩) n1 c1, .slice (some ⟨b2, 0, none⟩) n2 c2]) xs ds) (hb : w.heap[b]? = some (.cells cs 98 fr)) (v0 v1 : Value) : RowIm ((w.setCell ⟨b, 0, none⟩ v0).setCell ⟨b, 1, none⟩ v1) lo hi (.agg #[.slice (some ⟨b1, 0, none⟩) n1 c1, .slice (some ⟨b2, 0, none⟩) n2 c2]) xs ds := by
  obtain ⟨vI, vD, e, h1, h2⟩ := h
  injection e with e
  obtain ⟨rfl, rfl⟩ : vI = .slice (some ⟨b1, 0, none⟩) n1 c1 ∧ vD = .slice (some ⟨b2, 0, none⟩) n2 c2 := by
    have := congrArg Array.toList e
    simp at this
    exact ⟨this.1.symm, this.2.symm⟩
  have T1 := own_type h1.1 hb img_ino
  have T2 := own_type h2.1 hb img_den
  exact ⟨_, _, rfl, ⟨ownsRow_setCell_other (ownsRow_setCell_other h1.1 T1 _) T1 _, h1.2⟩, ⟨ownsRow_setCell_other (ownsRow_setCell_other h2.1 T2 _) T2 _, h2.2⟩⟩
set_option maxRecDepth 100000 in
set_option maxHeartbeats 4000000 in
theorem specReadImage_any (v : Value) (ws : List Int) (ps : List St) (w : World) (h : RdPm w v ws ps) (hw : ws.length ≤ 1048576) (hp : ps.length ≤ 1048576) :
    Calls Tryz.prog 144 #[v] w fun e w' => ∃ v', e = .returned (.tuple #[v', .int .i64 (riC ws ps)]) ∧ RowIm w' w.heap.size w'.heap.size v' (riN ws ps) (riD ws ps) ∧ Below w.heap.size w w' := by
  have HR := hideIt h
  have LO := hideIt (fun w1 h => specPmOK_any v ws ps w1 h hw hp)
  have LR := hideIt (fun w1 h (q : pmB ws ps = true) => l05Read_any v ws ps w1 h q)
  have LL := hideIt (fun w1 h (q : pmB ws ps = true) => ld_any v ws ps 0 w1 h q (by omega))
  obtain ⟨vW, vP, rfl, h1, h2⟩ := h
  obtain ⟨aW, cW, rfl, _, _⟩ := h1.shape
  obtain ⟨aP, cP, rfl, _, _⟩ := h2.shape
  clear h1 h2
  obtain ⟨W1, hW1⟩ : ∃ W1, W1 = (w.alloc (.cells #[.slice aW ws.length cW, .slice aP ps.length cP] 66)).alloc (.cells #[.slice none 0 0, .slice none 0 0] 98) := ⟨_, rfl⟩
  have hz1 : W1.heap.size = w.heap.size + 1 + 1 := by rw [hW1]; simp
  have CA : Hid (∀ w', Below W1.heap.size W1 w' → w'.cell? ⟨w.heap.size, 0, none⟩ = some (.slice aW ws.length cW) ∧ w'.cell? ⟨w.heap.size, 1, none⟩ = some (.slice aP ps.length cP)) := fun w' hb => by
    have : w'.heap[w.heap.size]? = some (.cells #[.slice aW ws.length cW, .slice aP ps.length cP] 66 (0, 0)) := (hb.block _ (by omega)).trans (by rw [hW1]; exact at_old (at_new rfl))
    exact ⟨(two_cells this).1, (two_cells this).2.1⟩
  have CR : Hid (∀ w', Below W1.heap.size W1 w' → w'.heap[w.heap.size + 1]? = some (.cells #[.slice none 0 0, .slice none 0 0] 98 (0, 0))) := fun w' hb => (hb.block _ (by omega)).trans (by
    rw [hW1]
    have := at_new (w := w.alloc (.cells #[.slice aW ws.length cW, .slice aP ps.length cP] 66)) (o := .cells #[.slice none 0 0, .slice none 0 0] 98) rfl
    rw [World.size_alloc] at this
    exact this)
  have BW : Hid (Below w.heap.size w W1) := by rw [hW1]; exact ((Below.refl _ _).alloc (Nat.le_refl _) _).alloc (by simp) _
  have hz0 : w.heap.size + 1 < W1.heap.size := by omega
  clear hz1
  obtain ⟨x0, x1⟩ := CA.out W1 (Below.refl _ _)
  cases c1 : pmB ws ps with
  | false =>
    obtain ⟨E1, E2, E3⟩ := ri_not c1
    rw [c1] at LO
    rw [E1, E2, E3]
    clear c1 E1 E2 E3 LR LL
    go_enter Tryz.func144, Tryz.ntmps144
    go_wp2_with fail
    rw [← hW1]
    clear hW1
    refine (LO.out _ (HR.out.below BW.out)).mono ?_
    rintro e w1 ⟨rfl, hb1⟩
    have B1 := hideIt hb1
    clear x0 x1 hb1
    obtain ⟨x0, x1⟩ := CA.out w1 B1.out
    have CB := hideIt (CR.out _ B1.out)
    obtain ⟨p0, p1, p2, p3⟩ := two_cells CB.out
    have BR : Hid (Below w.heap.size w ((w1.setCell ⟨w.heap.size + 1, 0, none⟩ (.slice none 0 0)).setCell ⟨w.heap.size + 1, 1, none⟩ (.slice none 0 0))) := ((below_trans BW.out B1.out BW.out.size).setCell (by simp only; omega) _).setCell (by simp only; omega) _
    go_wp2
    refine bodyPost_ret (v := .tuple #[.agg #[.slice none 0 0, .slice none 0 0], .int .i64 1]) (by simp [results, Tryz.results144, go_sem, p0, p1]) rfl ?_
    exact ⟨_, rfl, rowim_nil _ _ _, BR.out⟩
  | true =>
  have C1 := hideIt c1
  rw [c1] at LO
  have LR2 := hideIt (fun w1 (hb : Below W1.heap.size W1 w1) => LR.out w1 (HR.out.below (below_trans BW.out hb BW.out.size)) c1)
  have LL2 := hideIt (fun w1 (hb : Below W1.heap.size W1 w1) => LL.out w1 (HR.out.below (below_trans BW.out hb BW.out.size)) c1)
  have NO := hideIt (fun q => ri_form C1.out q)
  have YES := hideIt (fun q => ri_ok C1.out q)
  have RB := hideIt (show riB (layW ws ps) = (wdI (layW ws ps) 0 == 7 && (allGood (layW ws ps) 24 && imgB (inosOf (layW ws ps) 16) (densOf (layW ws ps) 24))) from rfl)
  have LI := hideIt (fun v w1 h => specImageOK_any v (inosOf (layW ws ps) 16) (densOf (layW ws ps) 24) w1 h (by rw [inosOf_len]; omega) (by rw [densOf_len]; omega) (inosOf_R C1.out 16) (densOf_name _ 24))
  have NI := hideIt (inosOf_len (layW ws ps) 16)
  have ND := hideIt (densOf_len (layW ws ps) 24)
  clear c1 LR LL
  generalize riC ws ps = rc at *
  generalize riN ws ps = rn at *
  generalize riD ws ps = rd at *
  generalize riB (layW ws ps) = rb at *
  generalize wdI (layW ws ps) 0 = w0 at *
  generalize allGood (layW ws ps) 24 = ag at *
  generalize inosOf (layW ws ps) 16 = XI at *
  generalize densOf (layW ws ps) 24 = XD at *
  generalize imgB XI XD = ib at *
  cases ag with
  | false =>
    obtain ⟨rfl, rfl, rfl⟩ := NO.out (by rw [RB.out]; simp)
    clear NO YES RB LI
    go_enter Tryz.func144, Tryz.ntmps144
    go_wp2_with fail
    rw [← hW1]
    clear hW1
    refine (LO.out _ (HR.out.below BW.out)).mono ?_
    rintro e w1 ⟨rfl, hb1⟩
    have B1 := hideIt hb1
    clear x0 x1 hb1
    obtain ⟨x0, x1⟩ := CA.out w1 B1.out
    go_wp2_with fail
    refine (LR2.out _ B1.out).mono ?_
    rintro e w2 ⟨⟨v2, rfl, _, hv2⟩, hb2⟩
    obtain rfl := hv2 (by trivial)
    clear hv2
    have B2 := hideIt (bel2 B1.out hb2)
    have B3 : Hid (Below W1.heap.size W1 (w2.alloc (.cells #[.slice none 0 0, .slice none 0 0] 98))) := below_allocB B2.out _
    clear x0 x1 hb2
    obtain ⟨x0, x1⟩ := CA.out _ B3.out
    go_wp2_with fail
    obtain ⟨w3, hw3⟩ : ∃ w3, w3 = w2.alloc (.cells #[.slice none 0 0, .slice none 0 0] 98) := ⟨_, rfl⟩
    rw [← hw3] at B3 x0 x1 ⊢
    clear hw3
    refine (LL2.out _ B3.out).mono ?_
    rintro e w4 ⟨rfl, hb4⟩
    have B4 := hideIt (bel2 B3.out hb4)
    clear x0 x1 hb4
    by_cases q : w0 = 7
    · have q1 : (w0 != 7) = false := by rw [q]; rfl
      have CB := hideIt (CR.out _ B4.out)
      obtain ⟨p0, p1, p2, p3⟩ := two_cells CB.out
      have BR : Hid (Below w.heap.size w ((w4.setCell ⟨w.heap.size + 1, 0, none⟩ (.slice none 0 0)).setCell ⟨w.heap.size + 1, 1, none⟩ (.slice none 0 0))) := ((below_trans BW.out B4.out BW.out.size).setCell (by simp only; omega) _).setCell (by simp only; omega) _
      go_wp2
      refine bodyPost_ret (v := .tuple #[.agg #[.slice none 0 0, .slice none 0 0], .int .i64 3]) (by simp [results, Tryz.results144, go_sem, p0, p1]) rfl ?_
      exact ⟨_, rfl, rowim_nil _ _ _, BR.out⟩
    · have q1 : (w0 != 7) = true := by rw [bne_iff_ne]; exact q
      have CB := hideIt (CR.out _ B4.out)
      obtain ⟨p0, p1, p2, p3⟩ := two_cells CB.out
      have BR : Hid (Below w.heap.size w ((w4.setCell ⟨w.heap.size + 1, 0, none⟩ (.slice none 0 0)).setCell ⟨w.heap.size + 1, 1, none⟩ (.slice none 0 0))) := ((below_trans BW.out B4.out BW.out.size).setCell (by simp only; omega) _).setCell (by simp only; omega) _
      go_wp2
      refine bodyPost_ret (v := .tuple #[.agg #[.slice none 0 0, .slice none 0 0], .int .i64 3]) (by simp [results, Tryz.results144, go_sem, p0, p1]) rfl ?_
      exact ⟨_, rfl, rowim_nil _ _ _, BR.out⟩
  | true =>
  by_cases q : w0 = 7
  case neg =>
    obtain ⟨rfl, rfl, rfl⟩ := NO.out (by rw [RB.out, show (w0 == 7) = false by rw [beq_eq_false_iff_ne]; exact q]; rfl)
    have q1 : (w0 != 7) = true := by rw [bne_iff_ne]; exact q
    clear NO YES RB LI q
    go_enter Tryz.func144, Tryz.ntmps144
    go_wp2_with fail
    rw [← hW1]
    clear hW1
    refine (LO.out _ (HR.out.below BW.out)).mono ?_
    rintro e w1 ⟨rfl, hb1⟩
    have B1 := hideIt hb1
    clear x0 x1 hb1
    obtain ⟨x0, x1⟩ := CA.out w1 B1.out
    go_wp2_with fail
    refine (LR2.out _ B1.out).mono ?_
    rintro e w2 ⟨⟨v2, rfl, hv2, _⟩, hb2⟩
    obtain ⟨vI, vD, rfl, hI, hD⟩ := hv2 (by trivial)
    rcases hI.shape with ⟨_, e, _⟩ | ⟨b1, c1, rfl, _, _⟩
    · have := NI.out; omega
    rcases hD.shape with ⟨_, e, _⟩ | ⟨b2, c2, rfl, _, _⟩
    · have := ND.out; omega
    clear hv2 hI hD
    have B2 := hideIt (bel2 B1.out hb2)
    have B3 : Hid (Below W1.heap.size W1 (w2.alloc (.cells #[.slice (some ⟨b1, 0, none⟩) XI.length c1, .slice (some ⟨b2, 0, none⟩) XD.length c2] 98))) := below_allocB B2.out _
    clear x0 x1 hb2
    obtain ⟨x0, x1⟩ := CA.out _ B3.out
    go_wp2_with fail
    obtain ⟨w3, hw3⟩ : ∃ w3, w3 = w2.alloc (.cells #[.slice (some ⟨b1, 0, none⟩) XI.length c1, .slice (some ⟨b2, 0, none⟩) XD.length c2] 98) := ⟨_, rfl⟩
    rw [← hw3] at B3 x0 x1 ⊢
    clear hw3
    refine (LL2.out _ B3.out).mono ?_
    rintro e w4 ⟨rfl, hb4⟩
    have B4 := hideIt (bel2 B3.out hb4)
    clear x0 x1 hb4
    have CB := hideIt (CR.out _ B4.out)
    obtain ⟨p0, p1, p2, p3⟩ := two_cells CB.out
    have BR : Hid (Below w.heap.size w ((w4.setCell ⟨w.heap.size + 1, 0, none⟩ (.slice none 0 0)).setCell ⟨w.heap.size + 1, 1, none⟩ (.slice none 0 0))) := ((below_trans BW.out B4.out BW.out.size).setCell (by simp only; omega) _).setCell (by simp only; omega) _
    go_wp2
    refine bodyPost_ret (v := .tuple #[.agg #[.slice none 0 0, .slice none 0 0], .int .i64 3]) (by simp [results, Tryz.results144, go_sem, p0, p1]) rfl ?_
    exact ⟨_, rfl, rowim_nil _ _ _, BR.out⟩
  have q1 : (w0 != 7) = false := by rw [q]; rfl
  have RB2 : Hid (rb = ib) := by unfold Hid; rw [RB.out, q]; rfl
  clear q RB
  cases ib with
  | false =>
    obtain ⟨rfl, rfl, rfl⟩ := NO.out RB2.out
    clear NO YES RB2
    go_enter Tryz.func144, Tryz.ntmps144
    go_wp2_with fail
    rw [← hW1]
    clear hW1
    refine (LO.out _ (HR.out.below BW.out)).mono ?_
    rintro e w1 ⟨rfl, hb1⟩
    have B1 := hideIt hb1
    clear x0 x1 hb1
    obtain ⟨x0, x1⟩ := CA.out w1 B1.out
    go_wp2_with fail
    refine (LR2.out _ B1.out).mono ?_
    rintro e w2 ⟨⟨v2, rfl, hv2, _⟩, hb2⟩
    have RR := hideIt (hv2 (by trivial))
    obtain ⟨vI, vD, rfl, hI, hD⟩ := RR.out
    rcases hI.shape with ⟨_, e, _⟩ | ⟨b1, c1, rfl, _, _⟩
    · have := NI.out; omega
    rcases hD.shape with ⟨_, e, _⟩ | ⟨b2, c2, rfl, _, _⟩
    · have := ND.out; omega
    have hz12 : W1.heap.size ≤ w1.heap.size := B1.out.size
    have hz2 : w1.heap.size ≤ w2.heap.size := hb2.size
    clear hv2 hI hD
    have B2 := hideIt (bel2 B1.out hb2)
    have B3 : Hid (Below W1.heap.size W1 (w2.alloc (.cells #[.slice (some ⟨b1, 0, none⟩) XI.length c1, .slice (some ⟨b2, 0, none⟩) XD.length c2] 98))) := below_allocB B2.out _
    have BC : Hid (Below w2.heap.size w2 (w2.alloc (.cells #[.slice (some ⟨b1, 0, none⟩) XI.length c1, .slice (some ⟨b2, 0, none⟩) XD.length c2] 98))) := (Below.refl _ _).alloc (Nat.le_refl _) _
    have VM : Hid ((w2.alloc (.cells #[.slice (some ⟨b1, 0, none⟩) XI.length c1, .slice (some ⟨b2, 0, none⟩) XD.length c2] 98)).heap[w2.heap.size]? = some (.cells #[.slice (some ⟨b1, 0, none⟩) XI.length c1, .slice (some ⟨b2, 0, none⟩) XD.length c2] 98 (0, 0))) := at_new rfl
    clear x0 x1 hb2
    obtain ⟨x0, x1⟩ := CA.out _ B3.out
    go_wp2_with fail
    obtain ⟨w3, hw3⟩ : ∃ w3, w3 = w2.alloc (.cells #[.slice (some ⟨b1, 0, none⟩) XI.length c1, .slice (some ⟨b2, 0, none⟩) XD.length c2] 98) := ⟨_, rfl⟩
    rw [← hw3] at B3 BC VM x0 x1 ⊢
    have hz3 : w2.heap.size < w3.heap.size := (Array.getElem?_eq_some_iff.1 VM.out).1
    clear hw3
    refine (LL2.out _ B3.out).mono ?_
    rintro e w4 ⟨rfl, hb4⟩
    have B4 := hideIt (bel2 B3.out hb4)
    have BD := hideIt (bel2 BC.out hb4)
    have VM4 := hideIt ((hb4.block _ hz3).trans VM.out)
    have R4 := hideIt (RR.out.below BD.out (Nat.le_refl _))
    have hz4 : w3.heap.size ≤ w4.heap.size := hb4.size
    clear x0 x1 hb4 VM RR BC
    obtain ⟨y0, y1, _, _⟩ := two_cells VM4.out
    go_wp2_with fail
    refine (LI.out _ _ R4.out.rd).mono ?_
    rintro e w5 ⟨rfl, hb5⟩
    have B5 := hideIt (bel2 B4.out hb5)
    have VM5 := hideIt ((hb5.block _ (by omega)).trans VM4.out)
    have R5 := hideIt (R4.out.below hb5 (by omega))
    have hz5 : w4.heap.size ≤ w5.heap.size := hb5.size
    clear y0 y1 hb5 VM4 R4
    have CB := hideIt (CR.out _ B5.out)
    obtain ⟨p0, p1, p2, p3⟩ := two_cells CB.out
    have BR : Hid (Below w.heap.size w ((w5.setCell ⟨w.heap.size + 1, 0, none⟩ (.slice none 0 0)).setCell ⟨w.heap.size + 1, 1, none⟩ (.slice none 0 0))) := ((below_trans BW.out B5.out BW.out.size).setCell (by simp only; omega) _).setCell (by simp only; omega) _
    go_wp2
    refine bodyPost_ret (v := .tuple #[.agg #[.slice none 0 0, .slice none 0 0], .int .i64 3]) (by simp [results, Tryz.results144, go_sem, p0, p1]) rfl ?_
    exact ⟨_, rfl, rowim_nil _ _ _, BR.out⟩
  | true =>
    obtain ⟨rfl, rfl, rfl⟩ := YES.out RB2.out
    clear NO YES RB2
    go_enter Tryz.func144, Tryz.ntmps144
    go_wp2_with fail
    rw [← hW1]
    clear hW1
    refine (LO.out _ (HR.out.below BW.out)).mono ?_
    rintro e w1 ⟨rfl, hb1⟩
    have B1 := hideIt hb1
    clear x0 x1 hb1
    obtain ⟨x0, x1⟩ := CA.out w1 B1.out
    go_wp2_with fail
    refine (LR2.out _ B1.out).mono ?_
    rintro e w2 ⟨⟨v2, rfl, hv2, _⟩, hb2⟩
    have RR := hideIt (hv2 (by trivial))
    obtain ⟨vI, vD, rfl, hI, hD⟩ := RR.out
    rcases hI.shape with ⟨_, e, _⟩ | ⟨b1, c1, rfl, _, _⟩
    · have := NI.out; omega
    rcases hD.shape with ⟨_, e, _⟩ | ⟨b2, c2, rfl, _, _⟩
    · have := ND.out; omega
    have hz12 : W1.heap.size ≤ w1.heap.size := B1.out.size
    have hz2 : w1.heap.size ≤ w2.heap.size := hb2.size
    clear hv2 hI hD
    have B2 := hideIt (bel2 B1.out hb2)
    have B3 : Hid (Below W1.heap.size W1 (w2.alloc (.cells #[.slice (some ⟨b1, 0, none⟩) rn.length c1, .slice (some ⟨b2, 0, none⟩) rd.length c2] 98))) := below_allocB B2.out _
    have BC : Hid (Below w2.heap.size w2 (w2.alloc (.cells #[.slice (some ⟨b1, 0, none⟩) rn.length c1, .slice (some ⟨b2, 0, none⟩) rd.length c2] 98))) := (Below.refl _ _).alloc (Nat.le_refl _) _
    have VM : Hid ((w2.alloc (.cells #[.slice (some ⟨b1, 0, none⟩) rn.length c1, .slice (some ⟨b2, 0, none⟩) rd.length c2] 98)).heap[w2.heap.size]? = some (.cells #[.slice (some ⟨b1, 0, none⟩) rn.length c1, .slice (some ⟨b2, 0, none⟩) rd.length c2] 98 (0, 0))) := at_new rfl
    clear x0 x1 hb2
    obtain ⟨x0, x1⟩ := CA.out _ B3.out
    go_wp2_with fail
    obtain ⟨w3, hw3⟩ : ∃ w3, w3 = w2.alloc (.cells #[.slice (some ⟨b1, 0, none⟩) rn.length c1, .slice (some ⟨b2, 0, none⟩) rd.length c2] 98) := ⟨_, rfl⟩
    rw [← hw3] at B3 BC VM x0 x1 ⊢
    have hz3 : w2.heap.size < w3.heap.size := (Array.getElem?_eq_some_iff.1 VM.out).1
    clear hw3
    refine (LL2.out _ B3.out).mono ?_
    rintro e w4 ⟨rfl, hb4⟩
    have B4 := hideIt (bel2 B3.out hb4)
    have BD := hideIt (bel2 BC.out hb4)
    have VM4 := hideIt ((hb4.block _ hz3).trans VM.out)
    have R4 := hideIt (RR.out.below BD.out (Nat.le_refl _))
    have hz4 : w3.heap.size ≤ w4.heap.size := hb4.size
    clear x0 x1 hb4 VM RR BC
    obtain ⟨y0, y1, _, _⟩ := two_cells VM4.out
    go_wp2_with fail
    refine (LI.out _ _ R4.out.rd).mono ?_
    rintro e w5 ⟨rfl, hb5⟩
    have B5 := hideIt (bel2 B4.out hb5)
    have VM5 := hideIt ((hb5.block _ (by omega)).trans VM4.out)
    have R5 := hideIt (R4.out.below hb5 (by omega))
    have hz5 : w4.heap.size ≤ w5.heap.size := hb5.size
    clear y0 y1 hb5 VM4 R4
    obtain ⟨y0, y1, _, _⟩ := two_cells VM5.out
    have CB := hideIt (CR.out _ B5.out)
    obtain ⟨p0, p1, p2, p3⟩ := two_cells CB.out
    have BR : Hid (Below w.heap.size w ((w5.setCell ⟨w.heap.size + 1, 0, none⟩ (.slice (some ⟨b1, 0, none⟩) rn.length c1)).setCell ⟨w.heap.size + 1, 1, none⟩ (.slice (some ⟨b2, 0, none⟩) rd.length c2))) := ((below_trans BW.out B5.out BW.out.size).setCell (by simp only; omega) _).setCell (by simp only; omega) _
    have RF := hideIt (rowim_wide (ino_image R5.out CB.out (.slice (some ⟨b1, 0, none⟩) rn.length c1) (.slice (some ⟨b2, 0, none⟩) rd.length c2)) (lo' := w.heap.size) (hi' := ((w5.setCell ⟨w.heap.size + 1, 0, none⟩ (.slice (some ⟨b1, 0, none⟩) rn.length c1)).setCell ⟨w.heap.size + 1, 1, none⟩ (.slice (some ⟨b2, 0, none⟩) rd.length c2)).heap.size) (by have := BW.out.size; omega) (by simp; omega))
    clear CB R5 VM5
    go_wp2
    refine bodyPost_ret (v := .tuple #[.agg #[.slice (some ⟨b1, 0, none⟩) rn.length c1, .slice (some ⟨b2, 0, none⟩) rd.length c2], .int .i64 0]) (by simp [results, Tryz.results144, go_sem, p0, p1]) rfl ?_
    exact ⟨_, rfl, RF.out, BR.out⟩
end Go.Proofs.YtmeiionabonhnaaGreatDoor

namespace Go.Proofs.YtmeiionabonhnaaGreatDoor
open Go.RowKit
def dvN (ws : List Int) (ps : List St) (es : List Int) (qs : List Se) : List Ino := if dvB ws ps es qs = true then inosOf (layW ws ps) 16 else []
def dvD (ws : List Int) (ps : List St) (es : List Int) (qs : List Se) : List Den := if dvB ws ps es qs = true then densOf (layW ws ps) 24 else []
theorem dv_not {ws : List Int} {ps : List St} {es : List Int} {qs : List Se} (h : (pmB ws ps && blkB es qs) = false) : dvB ws ps es qs = false ∧ dvN ws ps es qs = [] ∧ dvD ws ps es qs = [] := by
  have e : dvB ws ps es qs = false := by unfold dvB; rw [h]; rfl
  exact ⟨e, by unfold dvN; rw [e]; rfl, by unfold dvD; rw [e]; rfl⟩
theorem dv_form {ws : List Int} {ps : List St} {es : List Int} {qs : List Se} (h : (pmB ws ps && blkB es qs) = true) : dvB ws ps es qs = (riC ws ps == 0) ∧ dvN ws ps es qs = riN ws ps ∧ dvD ws ps es qs = riD ws ps := by
  have p : pmB ws ps = true := by rw [Bool.and_eq_true] at h; exact h.1
  have e : dvB ws ps es qs = riB (layW ws ps) := by unfold dvB; rw [h]; rfl
  cases q : riB (layW ws ps) with
  | false =>
    obtain ⟨a, b, c⟩ := ri_form p q
    rw [q] at e
    exact ⟨by rw [e, a]; rfl, by unfold dvN; rw [e, b]; rfl, by unfold dvD; rw [e, c]; rfl⟩
  | true =>
    obtain ⟨a, b, c⟩ := ri_ok p q
    rw [q] at e
    exact ⟨by rw [e, a]; rfl, by unfold dvN; rw [e, b]; rfl, by unfold dvD; rw [e, c]; rfl⟩
theorem rowim_set {w : World} {lo hi : Nat} {vI vD : Value} {xs : List Ino} {ds : List Den} {b : Nat} {cs : Array Value} {fr : Nat × Nat} (h1 : Row w 150 11 lo hi vI xs.length (inos xs)) (h2 : Row w 140 3 lo hi vD ds.length (dens ds)) (hb : w.heap[b]? = some (.cells cs 98 fr)) (v0 v1 : Value) : RowIm ((w.setCell ⟨b, 0, none⟩ v0).setCell ⟨b, 1, none⟩ v1) lo hi (.agg #[vI, vD]) xs ds := by
  have T1 := own_type h1.1 hb img_ino
  have T2 := own_type h2.1 hb img_den
  exact ⟨_, _, rfl, ⟨ownsRow_setCell_other (ownsRow_setCell_other h1.1 T1 _) T1 _, h1.2⟩, ⟨ownsRow_setCell_other (ownsRow_setCell_other h2.1 T2 _) T2 _, h2.2⟩⟩
end Go.Proofs.YtmeiionabonhnaaGreatDoor
