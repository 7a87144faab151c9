/- Several texts laid together: RdD, DtC, DtD, RdE. -/
import Derived.Test.YtcilodgoognmnaaGreatDoorRdC
import Derived.Test.YtcilodgoognmnaaGreatDoorZAS
import Derived.Test.YtcilodgoognmnaaGreatDoorZAN
import Derived.Test.YtcilodgoognmnaaGreatDoorZAE
import Derived.Deep.RegionWith
namespace Go.Proofs.YtcilodgoognmnaaGreatDoor
open Go.RowKit
theorem ri_not {ws : List Int} {ps : List St} (h : pmB ws ps = false) : riC ws ps = 1 ∧ riN ws ps = [] ∧ riD ws ps = [] := by
 have e : riC ws ps = 1 := by unfold riC; rw [h]; rfl
 exact ⟨e, by unfold riN; rw [e]; rfl, by unfold riD; rw [e]; rfl⟩
theorem ri_form {ws : List Int} {ps : List St} (h : pmB ws ps = true) (q : riB (zcj ws ps) = false) : riC ws ps = 3 ∧ riN ws ps = [] ∧ riD ws ps = [] := by
 have e : riC ws ps = 3 := by unfold riC; rw [h, q]; rfl
 exact ⟨e, by unfold riN; rw [e]; rfl, by unfold riD; rw [e]; rfl⟩
theorem ri_ok {ws : List Int} {ps : List St} (h : pmB ws ps = true) (q : riB (zcj ws ps) = true) : riC ws ps = 0 ∧ riN ws ps = zbk (zcj ws ps) 16 ∧ riD ws ps = zbs (zcj ws ps) 24 := by
 have e : riC ws ps = 0 := by unfold riC; rw [h, q]; rfl
 exact ⟨e, by unfold riN; rw [if_pos e], by unfold riD; rw [if_pos e]⟩
theorem zcq (w : World) (lo hi : Nat) : RowIm w lo hi (.agg #[.slice none 0 0, .slice none 0 0]) [] [] := ⟨_, _, rfl, Row.nil _ _ _ _ _, Row.nil _ _ _ _ _⟩
theorem zto {ws : List Int} {ps : List St} (h : pmB ws ps = true) (n : Nat) : ∀ k (hk : k < (zbk (zcj ws ps) n).length), (zbk (zcj ws ps) n)[k].R := by
 intro k hk
 have hm : (zbk (zcj ws ps) n)[k] ∈ (List.range n).map (zlf (zcj ws ps)) := List.getElem_mem hk
 obtain ⟨j, _, e⟩ := List.mem_map.1 hm
 rw [← e]
 exact inoOf_R h j
theorem zjn (ls : List Int) (n : Nat) : ∀ k (hk : k < (zbs ls n).length), (zbs ls n)[k].name.size ≤ maxLen := by
 intro k hk
 have hm : (zbs ls n)[k] ∈ (List.range n).map (zqu ls) := List.getElem_mem hk
 obtain ⟨j, _, e⟩ := List.mem_map.1 hm
 rw [← e]
 exact denOf_name ls j
theorem zik {w : World} {lo hi lo' hi' : Nat} {v : Value} {xs : List Ino} {ds : List Den} (h : RowIm w lo hi v xs ds) (h1 : lo' ≤ lo) (h2 : hi ≤ hi') : RowIm w lo' hi' v xs ds := by
 obtain ⟨vI, vD, e, a, b⟩ := h
 exact ⟨vI, vD, e, a.wide h1 h2, b.wide h1 h2⟩
theorem zwg {w : World} {lo hi : Nat} {b1 b2 c1 c2 n1 n2 : Nat} {xs : List Ino} {ds : List Den} {b : Nat} {cs : Array Value} {fr : Nat × Nat} (h : RowIm w lo hi (.agg #[.slice (some ⟨b1, 0, none⟩) n1 c1, .slice (some ⟨b2, 0, none⟩) n2 c2]) xs ds) (hb : w.heap[b]? = some (.cells cs 63 fr)) (v0 v1 : Value) : RowIm ((w.setCell ⟨b, 0, none⟩ v0).setCell ⟨b, 1, none⟩ v1) lo hi (.agg #[.slice (some ⟨b1, 0, none⟩) n1 c1, .slice (some ⟨b2, 0, none⟩) n2 c2]) xs ds := by
 obtain ⟨vI, vD, e, h1, h2⟩ := h
 injection e with e
 obtain ⟨rfl, rfl⟩ : vI = .slice (some ⟨b1, 0, none⟩) n1 c1 ∧ vD = .slice (some ⟨b2, 0, none⟩) n2 c2 := by
  have := congrArg Array.toList e
  simp at this
  exact ⟨this.1.symm, this.2.symm⟩
 have T1 := zcc h1.1 hb zlt
 have T2 := zcc h2.1 hb zlj
 exact ⟨_, _, rfl, ⟨ownsRow_setCell_other (ownsRow_setCell_other h1.1 T1 _) T1 _, h1.2⟩, ⟨ownsRow_setCell_other (ownsRow_setCell_other h2.1 T2 _) T2 _, h2.2⟩⟩
set_option maxRecDepth 100000 in
set_option maxHeartbeats 4000000 in
theorem zlh (v : Value) (ws : List Int) (ps : List St) (w : World) (h : RdPm w v ws ps) (hw : ws.length ≤ 1048576) (hp : ps.length ≤ 1048576) :
  Calls Tryz.prog 90 #[v] w fun e w' => ∃ v', e = .returned (.tuple #[v', .int .i64 (riC ws ps)]) ∧ RowIm w' w.heap.size w'.heap.size v' (riN ws ps) (riD ws ps) ∧ Below w.heap.size w w' := by
 have HR := zaa h
 have LO := zaa (fun w1 h => zhw v ws ps w1 h hw hp)
 have LR := zaa (fun w1 h (q : pmB ws ps = true) => l05Read_any v ws ps w1 h q)
 have LL := zaa (fun w1 h (q : pmB ws ps = true) => ld_any v ws ps 0 w1 h q (by omega))
 obtain ⟨vW, vP, rfl, h1, h2⟩ := h
 obtain ⟨aW, cW, rfl, _, _⟩ := h1.shape
 obtain ⟨aP, cP, rfl, _, _⟩ := h2.shape
 clear h1 h2
 obtain ⟨W1, hW1⟩ : ∃ W1, W1 = (w.alloc (.cells #[.slice aW ws.length cW, .slice aP ps.length cP] 36)).alloc (.cells #[.slice none 0 0, .slice none 0 0] 63) := ⟨_, rfl⟩
 have hz1 : W1.heap.size = w.heap.size + 1 + 1 := by rw [hW1]; simp
 have CA : Hid (∀ w', Below W1.heap.size W1 w' → w'.cell? ⟨w.heap.size, 0, none⟩ = some (.slice aW ws.length cW) ∧ w'.cell? ⟨w.heap.size, 1, none⟩ = some (.slice aP ps.length cP)) := fun w' hb => by
  have : w'.heap[w.heap.size]? = some (.cells #[.slice aW ws.length cW, .slice aP ps.length cP] 36 (0, 0)) := (hb.block _ (by omega)).trans (by rw [hW1]; exact zau (zah rfl))
  exact ⟨(zac this).1, (zac this).2.1⟩
 have CR : Hid (∀ w', Below W1.heap.size W1 w' → w'.heap[w.heap.size + 1]? = some (.cells #[.slice none 0 0, .slice none 0 0] 63 (0, 0))) := fun w' hb => (hb.block _ (by omega)).trans (by
  rw [hW1]
  have := zah (w := w.alloc (.cells #[.slice aW ws.length cW, .slice aP ps.length cP] 36)) (o := .cells #[.slice none 0 0, .slice none 0 0] 63) rfl
  rw [World.size_alloc] at this
  exact this)
 have BW : Hid (Below w.heap.size w W1) := by rw [hW1]; exact ((Below.refl _ _).alloc (Nat.le_refl _) _).alloc (by simp) _
 have hz0 : w.heap.size + 1 < W1.heap.size := by omega
 clear hz1
 obtain ⟨x0, x1⟩ := CA.out W1 (Below.refl _ _)
 cases c1 : pmB ws ps with
 | false =>
  obtain ⟨E1, E2, E3⟩ := ri_not c1
  rw [c1] at LO
  rw [E1, E2, E3]
  clear c1 E1 E2 E3 LR LL
  go_enter Tryz.func90, Tryz.ntmps90
  go_wp2_with fail
  rw [← hW1]
  clear hW1
  refine (LO.out _ (HR.out.below BW.out)).mono ?_
  rintro e w1 ⟨rfl, hb1⟩
  have B1 := zaa hb1
  clear x0 x1 hb1
  obtain ⟨x0, x1⟩ := CA.out w1 B1.out
  have CB := zaa (CR.out _ B1.out)
  obtain ⟨p0, p1, p2, p3⟩ := zac CB.out
  have BR : Hid (Below w.heap.size w ((w1.setCell ⟨w.heap.size + 1, 0, none⟩ (.slice none 0 0)).setCell ⟨w.heap.size + 1, 1, none⟩ (.slice none 0 0))) := ((zab BW.out B1.out BW.out.size).setCell (by simp only; omega) _).setCell (by simp only; omega) _
  go_wp2
  refine bodyPost_ret (v := .tuple #[.agg #[.slice none 0 0, .slice none 0 0], .int .i64 1]) (by simp [results, Tryz.results90, go_sem, p0, p1]) rfl ?_
  exact ⟨_, rfl, zcq _ _ _, BR.out⟩
 | true =>
 have C1 := zaa c1
 rw [c1] at LO
 have LR2 := zaa (fun w1 (hb : Below W1.heap.size W1 w1) => LR.out w1 (HR.out.below (zab BW.out hb BW.out.size)) c1)
 have LL2 := zaa (fun w1 (hb : Below W1.heap.size W1 w1) => LL.out w1 (HR.out.below (zab BW.out hb BW.out.size)) c1)
 have NO := zaa (fun q => ri_form C1.out q)
 have YES := zaa (fun q => ri_ok C1.out q)
 have RB := zaa (show riB (zcj ws ps) = (wdI (zcj ws ps) 0 == 7 && (zeb (zcj ws ps) 24 && zax (zbk (zcj ws ps) 16) (zbs (zcj ws ps) 24))) from rfl)
 have LI := zaa (fun v w1 h => zoq v (zbk (zcj ws ps) 16) (zbs (zcj ws ps) 24) w1 h (by rw [zbq]; omega) (by rw [zbi]; omega) (zto C1.out 16) (zjn _ 24))
 have NI := zaa (zbq (zcj ws ps) 16)
 have ND := zaa (zbi (zcj ws ps) 24)
 clear c1 LR LL
 generalize riC ws ps = rc at *
 generalize riN ws ps = rn at *
 generalize riD ws ps = rd at *
 generalize riB (zcj ws ps) = rb at *
 generalize wdI (zcj ws ps) 0 = w0 at *
 generalize zeb (zcj ws ps) 24 = ag at *
 generalize zbk (zcj ws ps) 16 = XI at *
 generalize zbs (zcj ws ps) 24 = XD at *
 generalize zax XI XD = ib at *
 cases ag with
 | false =>
  obtain ⟨rfl, rfl, rfl⟩ := NO.out (by rw [RB.out]; simp)
  clear NO YES RB LI
  go_enter Tryz.func90, Tryz.ntmps90
  go_wp2_with fail
  rw [← hW1]
  clear hW1
  refine (LO.out _ (HR.out.below BW.out)).mono ?_
  rintro e w1 ⟨rfl, hb1⟩
  have B1 := zaa hb1
  clear x0 x1 hb1
  obtain ⟨x0, x1⟩ := CA.out w1 B1.out
  go_wp2_with fail
  refine (LR2.out _ B1.out).mono ?_
  rintro e w2 ⟨⟨v2, rfl, _, hv2⟩, hb2⟩
  obtain rfl := hv2 (by trivial)
  clear hv2
  have B2 := zaa (zfm B1.out hb2)
  have B3 : Hid (Below W1.heap.size W1 (w2.alloc (.cells #[.slice none 0 0, .slice none 0 0] 63))) := zan B2.out _
  clear x0 x1 hb2
  obtain ⟨x0, x1⟩ := CA.out _ B3.out
  go_wp2_with fail
  obtain ⟨w3, hw3⟩ : ∃ w3, w3 = w2.alloc (.cells #[.slice none 0 0, .slice none 0 0] 63) := ⟨_, rfl⟩
  rw [← hw3] at B3 x0 x1 ⊢
  clear hw3
  refine (LL2.out _ B3.out).mono ?_
  rintro e w4 ⟨rfl, hb4⟩
  have B4 := zaa (zfm B3.out hb4)
  clear x0 x1 hb4
  by_cases q : w0 = 7
  ·have q1 : (w0 != 7) = false := by rw [q]; rfl
   have CB := zaa (CR.out _ B4.out)
   obtain ⟨p0, p1, p2, p3⟩ := zac CB.out
   have BR : Hid (Below w.heap.size w ((w4.setCell ⟨w.heap.size + 1, 0, none⟩ (.slice none 0 0)).setCell ⟨w.heap.size + 1, 1, none⟩ (.slice none 0 0))) := ((zab BW.out B4.out BW.out.size).setCell (by simp only; omega) _).setCell (by simp only; omega) _
   go_wp2
   refine bodyPost_ret (v := .tuple #[.agg #[.slice none 0 0, .slice none 0 0], .int .i64 3]) (by simp [results, Tryz.results90, go_sem, p0, p1]) rfl ?_
   exact ⟨_, rfl, zcq _ _ _, BR.out⟩
  ·have q1 : (w0 != 7) = true := by rw [bne_iff_ne]; exact q
   have CB := zaa (CR.out _ B4.out)
   obtain ⟨p0, p1, p2, p3⟩ := zac CB.out
   have BR : Hid (Below w.heap.size w ((w4.setCell ⟨w.heap.size + 1, 0, none⟩ (.slice none 0 0)).setCell ⟨w.heap.size + 1, 1, none⟩ (.slice none 0 0))) := ((zab BW.out B4.out BW.out.size).setCell (by simp only; omega) _).setCell (by simp only; omega) _
   go_wp2
   refine bodyPost_ret (v := .tuple #[.agg #[.slice none 0 0, .slice none 0 0], .int .i64 3]) (by simp [results, Tryz.results90, go_sem, p0, p1]) rfl ?_
   exact ⟨_, rfl, zcq _ _ _, BR.out⟩
 | true =>
 by_cases q : w0 = 7
 case neg =>
  obtain ⟨rfl, rfl, rfl⟩ := NO.out (by rw [RB.out, show (w0 == 7) = false by rw [beq_eq_false_iff_ne]; exact q]; rfl)
  have q1 : (w0 != 7) = true := by rw [bne_iff_ne]; exact q
  clear NO YES RB LI q
  go_enter Tryz.func90, Tryz.ntmps90
  go_wp2_with fail
  rw [← hW1]
  clear hW1
  refine (LO.out _ (HR.out.below BW.out)).mono ?_
  rintro e w1 ⟨rfl, hb1⟩
  have B1 := zaa hb1
  clear x0 x1 hb1
  obtain ⟨x0, x1⟩ := CA.out w1 B1.out
  go_wp2_with fail
  refine (LR2.out _ B1.out).mono ?_
  rintro e w2 ⟨⟨v2, rfl, hv2, _⟩, hb2⟩
  obtain ⟨vI, vD, rfl, hI, hD⟩ := hv2 (by trivial)
  rcases hI.shape with ⟨_, e, _⟩ | ⟨b1, c1, rfl, _, _⟩
  ·have := NI.out; omega
  rcases hD.shape with ⟨_, e, _⟩ | ⟨b2, c2, rfl, _, _⟩
  ·have := ND.out; omega
  clear hv2 hI hD
  have B2 := zaa (zfm B1.out hb2)
  have B3 : Hid (Below W1.heap.size W1 (w2.alloc (.cells #[.slice (some ⟨b1, 0, none⟩) XI.length c1, .slice (some ⟨b2, 0, none⟩) XD.length c2] 63))) := zan B2.out _
  clear x0 x1 hb2
  obtain ⟨x0, x1⟩ := CA.out _ B3.out
  go_wp2_with fail
  obtain ⟨w3, hw3⟩ : ∃ w3, w3 = w2.alloc (.cells #[.slice (some ⟨b1, 0, none⟩) XI.length c1, .slice (some ⟨b2, 0, none⟩) XD.length c2] 63) := ⟨_, rfl⟩
  rw [← hw3] at B3 x0 x1 ⊢
  clear hw3
  refine (LL2.out _ B3.out).mono ?_
  rintro e w4 ⟨rfl, hb4⟩
  have B4 := zaa (zfm B3.out hb4)
  clear x0 x1 hb4
  have CB := zaa (CR.out _ B4.out)
  obtain ⟨p0, p1, p2, p3⟩ := zac CB.out
  have BR : Hid (Below w.heap.size w ((w4.setCell ⟨w.heap.size + 1, 0, none⟩ (.slice none 0 0)).setCell ⟨w.heap.size + 1, 1, none⟩ (.slice none 0 0))) := ((zab BW.out B4.out BW.out.size).setCell (by simp only; omega) _).setCell (by simp only; omega) _
  go_wp2
  refine bodyPost_ret (v := .tuple #[.agg #[.slice none 0 0, .slice none 0 0], .int .i64 3]) (by simp [results, Tryz.results90, go_sem, p0, p1]) rfl ?_
  exact ⟨_, rfl, zcq _ _ _, BR.out⟩
 have q1 : (w0 != 7) = false := by rw [q]; rfl
 have RB2 : Hid (rb = ib) := by unfold Hid; rw [RB.out, q]; rfl
 clear q RB
 cases ib with
 | false =>
  obtain ⟨rfl, rfl, rfl⟩ := NO.out RB2.out
  clear NO YES RB2
  go_enter Tryz.func90, Tryz.ntmps90
  go_wp2_with fail
  rw [← hW1]
  clear hW1
  refine (LO.out _ (HR.out.below BW.out)).mono ?_
  rintro e w1 ⟨rfl, hb1⟩
  have B1 := zaa hb1
  clear x0 x1 hb1
  obtain ⟨x0, x1⟩ := CA.out w1 B1.out
  go_wp2_with fail
  refine (LR2.out _ B1.out).mono ?_
  rintro e w2 ⟨⟨v2, rfl, hv2, _⟩, hb2⟩
  have RR := zaa (hv2 (by trivial))
  obtain ⟨vI, vD, rfl, hI, hD⟩ := RR.out
  rcases hI.shape with ⟨_, e, _⟩ | ⟨b1, c1, rfl, _, _⟩
  ·have := NI.out; omega
  rcases hD.shape with ⟨_, e, _⟩ | ⟨b2, c2, rfl, _, _⟩
  ·have := ND.out; omega
  have hz12 : W1.heap.size ≤ w1.heap.size := B1.out.size
  have hz2 : w1.heap.size ≤ w2.heap.size := hb2.size
  clear hv2 hI hD
  have B2 := zaa (zfm B1.out hb2)
  have B3 : Hid (Below W1.heap.size W1 (w2.alloc (.cells #[.slice (some ⟨b1, 0, none⟩) XI.length c1, .slice (some ⟨b2, 0, none⟩) XD.length c2] 63))) := zan B2.out _
  have BC : Hid (Below w2.heap.size w2 (w2.alloc (.cells #[.slice (some ⟨b1, 0, none⟩) XI.length c1, .slice (some ⟨b2, 0, none⟩) XD.length c2] 63))) := (Below.refl _ _).alloc (Nat.le_refl _) _
  have VM : Hid ((w2.alloc (.cells #[.slice (some ⟨b1, 0, none⟩) XI.length c1, .slice (some ⟨b2, 0, none⟩) XD.length c2] 63)).heap[w2.heap.size]? = some (.cells #[.slice (some ⟨b1, 0, none⟩) XI.length c1, .slice (some ⟨b2, 0, none⟩) XD.length c2] 63 (0, 0))) := zah rfl
  clear x0 x1 hb2
  obtain ⟨x0, x1⟩ := CA.out _ B3.out
  go_wp2_with fail
  obtain ⟨w3, hw3⟩ : ∃ w3, w3 = w2.alloc (.cells #[.slice (some ⟨b1, 0, none⟩) XI.length c1, .slice (some ⟨b2, 0, none⟩) XD.length c2] 63) := ⟨_, rfl⟩
  rw [← hw3] at B3 BC VM x0 x1 ⊢
  have hz3 : w2.heap.size < w3.heap.size := (Array.getElem?_eq_some_iff.1 VM.out).1
  clear hw3
  refine (LL2.out _ B3.out).mono ?_
  rintro e w4 ⟨rfl, hb4⟩
  have B4 := zaa (zfm B3.out hb4)
  have BD := zaa (zfm BC.out hb4)
  have VM4 := zaa ((hb4.block _ hz3).trans VM.out)
  have R4 := zaa (RR.out.below BD.out (Nat.le_refl _))
  have hz4 : w3.heap.size ≤ w4.heap.size := hb4.size
  clear x0 x1 hb4 VM RR BC
  obtain ⟨y0, y1, _, _⟩ := zac VM4.out
  go_wp2_with fail
  refine (LI.out _ _ R4.out.rd).mono ?_
  rintro e w5 ⟨rfl, hb5⟩
  have B5 := zaa (zfm B4.out hb5)
  have VM5 := zaa ((hb5.block _ (by omega)).trans VM4.out)
  have R5 := zaa (R4.out.below hb5 (by omega))
  have hz5 : w4.heap.size ≤ w5.heap.size := hb5.size
  clear y0 y1 hb5 VM4 R4
  have CB := zaa (CR.out _ B5.out)
  obtain ⟨p0, p1, p2, p3⟩ := zac CB.out
  have BR : Hid (Below w.heap.size w ((w5.setCell ⟨w.heap.size + 1, 0, none⟩ (.slice none 0 0)).setCell ⟨w.heap.size + 1, 1, none⟩ (.slice none 0 0))) := ((zab BW.out B5.out BW.out.size).setCell (by simp only; omega) _).setCell (by simp only; omega) _
  go_wp2
  refine bodyPost_ret (v := .tuple #[.agg #[.slice none 0 0, .slice none 0 0], .int .i64 3]) (by simp [results, Tryz.results90, go_sem, p0, p1]) rfl ?_
  exact ⟨_, rfl, zcq _ _ _, BR.out⟩
 | true =>
  obtain ⟨rfl, rfl, rfl⟩ := YES.out RB2.out
  clear NO YES RB2
  go_enter Tryz.func90, Tryz.ntmps90
  go_wp2_with fail
  rw [← hW1]
  clear hW1
  refine (LO.out _ (HR.out.below BW.out)).mono ?_
  rintro e w1 ⟨rfl, hb1⟩
  have B1 := zaa hb1
  clear x0 x1 hb1
  obtain ⟨x0, x1⟩ := CA.out w1 B1.out
  go_wp2_with fail
  refine (LR2.out _ B1.out).mono ?_
  rintro e w2 ⟨⟨v2, rfl, hv2, _⟩, hb2⟩
  have RR := zaa (hv2 (by trivial))
  obtain ⟨vI, vD, rfl, hI, hD⟩ := RR.out
  rcases hI.shape with ⟨_, e, _⟩ | ⟨b1, c1, rfl, _, _⟩
  ·have := NI.out; omega
  rcases hD.shape with ⟨_, e, _⟩ | ⟨b2, c2, rfl, _, _⟩
  ·have := ND.out; omega
  have hz12 : W1.heap.size ≤ w1.heap.size := B1.out.size
  have hz2 : w1.heap.size ≤ w2.heap.size := hb2.size
  clear hv2 hI hD
  have B2 := zaa (zfm B1.out hb2)
  have B3 : Hid (Below W1.heap.size W1 (w2.alloc (.cells #[.slice (some ⟨b1, 0, none⟩) rn.length c1, .slice (some ⟨b2, 0, none⟩) rd.length c2] 63))) := zan B2.out _
  have BC : Hid (Below w2.heap.size w2 (w2.alloc (.cells #[.slice (some ⟨b1, 0, none⟩) rn.length c1, .slice (some ⟨b2, 0, none⟩) rd.length c2] 63))) := (Below.refl _ _).alloc (Nat.le_refl _) _
  have VM : Hid ((w2.alloc (.cells #[.slice (some ⟨b1, 0, none⟩) rn.length c1, .slice (some ⟨b2, 0, none⟩) rd.length c2] 63)).heap[w2.heap.size]? = some (.cells #[.slice (some ⟨b1, 0, none⟩) rn.length c1, .slice (some ⟨b2, 0, none⟩) rd.length c2] 63 (0, 0))) := zah rfl
  clear x0 x1 hb2
  obtain ⟨x0, x1⟩ := CA.out _ B3.out
  go_wp2_with fail
  obtain ⟨w3, hw3⟩ : ∃ w3, w3 = w2.alloc (.cells #[.slice (some ⟨b1, 0, none⟩) rn.length c1, .slice (some ⟨b2, 0, none⟩) rd.length c2] 63) := ⟨_, rfl⟩
  rw [← hw3] at B3 BC VM x0 x1 ⊢
  have hz3 : w2.heap.size < w3.heap.size := (Array.getElem?_eq_some_iff.1 VM.out).1
  clear hw3
  refine (LL2.out _ B3.out).mono ?_
  rintro e w4 ⟨rfl, hb4⟩
  have B4 := zaa (zfm B3.out hb4)
  have BD := zaa (zfm BC.out hb4)
  have VM4 := zaa ((hb4.block _ hz3).trans VM.out)
  have R4 := zaa (RR.out.below BD.out (Nat.le_refl _))
  have hz4 : w3.heap.size ≤ w4.heap.size := hb4.size
  clear x0 x1 hb4 VM RR BC
  obtain ⟨y0, y1, _, _⟩ := zac VM4.out
  go_wp2_with fail
  refine (LI.out _ _ R4.out.rd).mono ?_
  rintro e w5 ⟨rfl, hb5⟩
  have B5 := zaa (zfm B4.out hb5)
  have VM5 := zaa ((hb5.block _ (by omega)).trans VM4.out)
  have R5 := zaa (R4.out.below hb5 (by omega))
  have hz5 : w4.heap.size ≤ w5.heap.size := hb5.size
  clear y0 y1 hb5 VM4 R4
  obtain ⟨y0, y1, _, _⟩ := zac VM5.out
  have CB := zaa (CR.out _ B5.out)
  obtain ⟨p0, p1, p2, p3⟩ := zac CB.out
  have BR : Hid (Below w.heap.size w ((w5.setCell ⟨w.heap.size + 1, 0, none⟩ (.slice (some ⟨b1, 0, none⟩) rn.length c1)).setCell ⟨w.heap.size + 1, 1, none⟩ (.slice (some ⟨b2, 0, none⟩) rd.length c2))) := ((zab BW.out B5.out BW.out.size).setCell (by simp only; omega) _).setCell (by simp only; omega) _
  have RF := zaa (zik (zwg R5.out CB.out (.slice (some ⟨b1, 0, none⟩) rn.length c1) (.slice (some ⟨b2, 0, none⟩) rd.length c2)) (lo' := w.heap.size) (hi' := ((w5.setCell ⟨w.heap.size + 1, 0, none⟩ (.slice (some ⟨b1, 0, none⟩) rn.length c1)).setCell ⟨w.heap.size + 1, 1, none⟩ (.slice (some ⟨b2, 0, none⟩) rd.length c2)).heap.size) (by have := BW.out.size; omega) (by simp; omega))
  clear CB R5 VM5
  go_wp2
  refine bodyPost_ret (v := .tuple #[.agg #[.slice (some ⟨b1, 0, none⟩) rn.length c1, .slice (some ⟨b2, 0, none⟩) rd.length c2], .int .i64 0]) (by simp [results, Tryz.results90, go_sem, p0, p1]) rfl ?_
  exact ⟨_, rfl, RF.out, BR.out⟩
end Go.Proofs.YtcilodgoognmnaaGreatDoor

namespace Go.Proofs.YtcilodgoognmnaaGreatDoor
open Go.RowKit
def dvN (ws : List Int) (ps : List St) (es : List Int) (qs : List Se) : List Ino := if dvB ws ps es qs = true then zbk (zcj ws ps) 16 else []
def dvD (ws : List Int) (ps : List St) (es : List Int) (qs : List Se) : List Den := if dvB ws ps es qs = true then zbs (zcj ws ps) 24 else []
theorem dv_not {ws : List Int} {ps : List St} {es : List Int} {qs : List Se} (h : (pmB ws ps && zin es qs) = false) : dvB ws ps es qs = false ∧ dvN ws ps es qs = [] ∧ dvD ws ps es qs = [] := by
 have e : dvB ws ps es qs = false := by unfold dvB; rw [h]; rfl
 exact ⟨e, by unfold dvN; rw [e]; rfl, by unfold dvD; rw [e]; rfl⟩
theorem dv_form {ws : List Int} {ps : List St} {es : List Int} {qs : List Se} (h : (pmB ws ps && zin es qs) = true) : dvB ws ps es qs = (riC ws ps == 0) ∧ dvN ws ps es qs = riN ws ps ∧ dvD ws ps es qs = riD ws ps := by
 have p : pmB ws ps = true := by rw [Bool.and_eq_true] at h; exact h.1
 have e : dvB ws ps es qs = riB (zcj ws ps) := by unfold dvB; rw [h]; rfl
 cases q : riB (zcj ws ps) with
 | false =>
  obtain ⟨a, b, c⟩ := ri_form p q
  rw [q] at e
  exact ⟨by rw [e, a]; rfl, by unfold dvN; rw [e, b]; rfl, by unfold dvD; rw [e, c]; rfl⟩
 | true =>
  obtain ⟨a, b, c⟩ := ri_ok p q
  rw [q] at e
  exact ⟨by rw [e, a]; rfl, by unfold dvN; rw [e, b]; rfl, by unfold dvD; rw [e, c]; rfl⟩
theorem zut {w : World} {lo hi : Nat} {vI vD : Value} {xs : List Ino} {ds : List Den} {b : Nat} {cs : Array Value} {fr : Nat × Nat} (h1 : Row w 97 11 lo hi vI xs.length (inos xs)) (h2 : Row w 180 3 lo hi vD ds.length (zhc ds)) (hb : w.heap[b]? = some (.cells cs 63 fr)) (v0 v1 : Value) : RowIm ((w.setCell ⟨b, 0, none⟩ v0).setCell ⟨b, 1, none⟩ v1) lo hi (.agg #[vI, vD]) xs ds := by
 have T1 := zcc h1.1 hb zlt
 have T2 := zcc h2.1 hb zlj
 exact ⟨_, _, rfl, ⟨ownsRow_setCell_other (ownsRow_setCell_other h1.1 T1 _) T1 _, h1.2⟩, ⟨ownsRow_setCell_other (ownsRow_setCell_other h2.1 T2 _) T2 _, h2.2⟩⟩
set_option maxRecDepth 100000 in
set_option maxHeartbeats 4000000 in
theorem zwq (v : Value) (ws : List Int) (ps : List St) (es : List Int) (qs : List Se) (w : World) (h : RdDev w v ws ps es qs) (hw : ws.length ≤ 1048576) (hp : ps.length ≤ 1048576) (he : es.length ≤ 1048576) (hq : qs.length ≤ 1048576) :
  Calls Tryz.prog 42 #[v] w fun e w' => ∃ v', e = .returned (.tuple #[v', .bool (dvB ws ps es qs)]) ∧ RowIm w' w.heap.size w'.heap.size v' (dvN ws ps es qs) (dvD ws ps es qs) ∧ Below w.heap.size w w' := by
 have LO := zaa (fun w1 (hb : Below w.heap.size w w1) => zlq v ws ps es qs w1 (h.below hb) hw hp he hq)
 obtain ⟨aW, cW, aP, cP, aS, cS, aQ, cQ, rfl, h1, h2⟩ := h.form
 have LR := zaa (fun w1 (hb : Below w.heap.size w w1) => zlh _ ws ps w1 (h1.below hb) hw hp)
 have NO := zaa (fun q => dv_not (ws := ws) (ps := ps) (es := es) (qs := qs) q)
 have YES := zaa (fun q => dv_form (ws := ws) (ps := ps) (es := es) (qs := qs) q)
 clear h h1 h2
 obtain ⟨W1, hW1⟩ : ∃ W1, W1 = (w.alloc (.cells #[.slice aW ws.length cW, .slice aP ps.length cP, .slice aS es.length cS, .slice aQ qs.length cQ] 41)).alloc (.cells #[.slice none 0 0, .slice none 0 0] 63) := ⟨_, rfl⟩
 have hz1 : W1.heap.size = w.heap.size + 1 + 1 := by rw [hW1]; simp
 have CA : Hid (∀ w', Below W1.heap.size W1 w' → w'.cell? ⟨w.heap.size, 0, none⟩ = some (.slice aW ws.length cW) ∧ w'.cell? ⟨w.heap.size, 1, none⟩ = some (.slice aP ps.length cP) ∧ w'.cell? ⟨w.heap.size, 2, none⟩ = some (.slice aS es.length cS) ∧ w'.cell? ⟨w.heap.size, 3, none⟩ = some (.slice aQ qs.length cQ)) := fun w' hb => by
  have : w'.heap[w.heap.size]? = some (.cells #[.slice aW ws.length cW, .slice aP ps.length cP, .slice aS es.length cS, .slice aQ qs.length cQ] 41 (0, 0)) := (hb.block _ (by omega)).trans (by rw [hW1]; exact zau (zah rfl))
  obtain ⟨x0, x1, x2, x3, -, -, -, -⟩ := zaw this
  exact ⟨x0, x1, x2, x3⟩
 have CR : Hid (∀ w', Below W1.heap.size W1 w' → w'.heap[w.heap.size + 1]? = some (.cells #[.slice none 0 0, .slice none 0 0] 63 (0, 0))) := fun w' hb => (hb.block _ (by omega)).trans (by
  rw [hW1]
  have := zah (w := w.alloc (.cells #[.slice aW ws.length cW, .slice aP ps.length cP, .slice aS es.length cS, .slice aQ qs.length cQ] 41)) (o := .cells #[.slice none 0 0, .slice none 0 0] 63) rfl
  rw [World.size_alloc] at this
  exact this)
 have BW : Hid (Below w.heap.size w W1) := by rw [hW1]; exact ((Below.refl _ _).alloc (Nat.le_refl _) _).alloc (by simp) _
 have hz0 : w.heap.size + 1 < W1.heap.size := by omega
 clear hz1
 obtain ⟨x0, x1, x2, x3⟩ := CA.out W1 (Below.refl _ _)
 generalize riC ws ps = rc at *
 generalize riN ws ps = rn at *
 generalize riD ws ps = rd at *
 generalize dvB ws ps es qs = db at *
 generalize dvN ws ps es qs = dn at *
 generalize dvD ws ps es qs = dd at *
 generalize (pmB ws ps && zin es qs) = ok at *
 go_enter Tryz.func42, Tryz.ntmps42
 go_wp2_with fail
 rw [← hW1]
 clear hW1
 refine (LO.out _ BW.out).mono ?_
 rintro e w1 ⟨rfl, hb1⟩
 have B1 := zaa hb1
 have B1w := zaa (zab BW.out B1.out BW.out.size)
 clear x0 x1 x2 x3 hb1
 obtain ⟨x0, x1, x2, x3⟩ := CA.out w1 B1.out
 cases ok with
 | false =>
  obtain ⟨rfl, rfl, rfl⟩ := NO.out rfl
  have CB := zaa (CR.out _ B1.out)
  obtain ⟨p0, p1, p2, p3⟩ := zac CB.out
  have BR : Hid (Below w.heap.size w ((w1.setCell ⟨w.heap.size + 1, 0, none⟩ (.slice none 0 0)).setCell ⟨w.heap.size + 1, 1, none⟩ (.slice none 0 0))) := (B1w.out.setCell (by simp only; omega) _).setCell (by simp only; omega) _
  clear NO YES
  go_wp2
  refine bodyPost_ret (v := .tuple #[.agg #[.slice none 0 0, .slice none 0 0], .bool false]) (by simp [results, Tryz.results42, go_sem, p0, p1]) rfl ?_
  exact ⟨_, rfl, zcq _ _ _, BR.out⟩
 | true =>
  obtain ⟨rfl, rfl, rfl⟩ := YES.out rfl
  clear NO YES
  go_wp2_with fail
  refine (LR.out _ B1w.out).mono ?_
  rintro e w2 ⟨v2, rfl, ⟨vI, vD, rfl, hI, hD⟩, hb2⟩
  obtain ⟨-, a1, c1, hv1, -⟩ := hI.rd
  obtain ⟨-, a2, c2, hv2, -⟩ := hD.rd
  subst hv1
  subst hv2
  have HI := zaa hI
  have HD := zaa hD
  have B2 := zaa (zfm B1.out hb2)
  have B3 : Hid (Below W1.heap.size W1 (w2.alloc (.cells #[.slice a1 dn.length c1, .slice a2 dd.length c2] 63))) := zan B2.out _
  have hz12 : W1.heap.size ≤ w1.heap.size := B1.out.size
  have hz2 : w1.heap.size ≤ w2.heap.size := hb2.size
  have hzw : w.heap.size ≤ w1.heap.size := B1w.out.size
  clear x0 x1 x2 x3 hb2 hI hD
  obtain ⟨y0, y1, _, _⟩ := zac (zah (w := w2) (o := .cells #[.slice a1 dn.length c1, .slice a2 dd.length c2] 63) rfl)
  obtain ⟨w3, hw3⟩ : ∃ w3, w3 = w2.alloc (.cells #[.slice a1 dn.length c1, .slice a2 dd.length c2] 63) := ⟨_, rfl⟩
  have BC : Hid (Below w2.heap.size w2 w3) := by rw [hw3]; exact (Below.refl _ _).alloc (Nat.le_refl _) _
  rw [← hw3] at B3 y0 y1
  have HI3 := zaa (HI.out.below BC.out (Nat.le_refl _))
  have HD3 := zaa (HD.out.below BC.out (Nat.le_refl _))
  have hz3 : w2.heap.size ≤ w3.heap.size := BC.out.size
  have CB := zaa (CR.out _ B3.out)
  obtain ⟨p0, p1, p2, p3⟩ := zac CB.out
  have BR : Hid (Below w.heap.size w ((w3.setCell ⟨w.heap.size + 1, 0, none⟩ (.slice a1 dn.length c1)).setCell ⟨w.heap.size + 1, 1, none⟩ (.slice a2 dd.length c2))) := ((zab BW.out B3.out BW.out.size).setCell (by simp only; omega) _).setCell (by simp only; omega) _
  have RF := zaa (zik (zut HI3.out HD3.out CB.out (.slice a1 dn.length c1) (.slice a2 dd.length c2)) (lo' := w.heap.size) (hi' := ((w3.setCell ⟨w.heap.size + 1, 0, none⟩ (.slice a1 dn.length c1)).setCell ⟨w.heap.size + 1, 1, none⟩ (.slice a2 dd.length c2)).heap.size) (by omega) (by simp; omega))
  clear CB HI HD HI3 HD3 BC B3 B2 LR LO CA CR
  subst hw3
  go_wp2
  refine bodyPost_ret (v := .tuple #[.agg #[.slice a1 dn.length c1, .slice a2 dd.length c2], .bool (rc == 0)]) (by simp [results, Tryz.results42, go_sem, p0, p1]) rfl ?_
  exact ⟨_, rfl, RF.out, BR.out⟩
end Go.Proofs.YtcilodgoognmnaaGreatDoor

namespace Go.Proofs.YtcilodgoognmnaaGreatDoor
open Go.RowKit
set_option maxRecDepth 100000 in
set_option maxHeartbeats 8000000 in
theorem l08Read_any (vd v : Value) (ws : List Int) (ps : List St) (es : List Int) (qs : List Se) (ns : List Ino) (ds : List Den) (s : ByteArray) (page : Int) (w : World) (hd : RdDev w vd ws ps es qs) (hP : pmB ws ps = true) (hB : zin es qs = true) (h : RdIm w v ns ds) (hi : zax ns ds = true) (hs : s.size ≤ 65536) :
  Calls Tryz.prog 43 #[vd, v, .string s, .int .i64 page] w fun e w' => e = .returned (.tuple #[.int .i64 (rpI ws ps es qs ns ds s page).1, .int .i64 (rpI ws ps es qs ns ds s page).2]) ∧ Below w.heap.size w w' := by
 have LV := zaa (fun w1 (hb : Below w.heap.size w w1) z (hz : zgf z = true) => zxa vd ws ps es qs z w1 (hd.below hb) hP hB hz)
 have LL := zaa (fun w1 (hb : Below w.heap.size w w1) => zjh v ns ds s w1 (h.below hb) hi hs)
 have EL := zaa (show rpI ws ps es qs ns ds s page = if (flI ns ds s).2 = 0 then rpF ws ps es qs ns (flI ns ds s).1 page else (0, (flI ns ds s).2) from rfl)
 have LO := zaa (fun c => zlg (s := s) (zca.1 hi) c)
 have EF := zaa (fun i => show rpF ws ps es qs ns i page = if 0 ≤ page ∧ page < zfd ns i then (pgV ws ps es qs (zoo ns i page), 0) else (0, 4) from rfl)
 have SZ : Hid (∀ i : Nat, i < 16 → 0 ≤ zfd ns (i : Int) ∧ zfd ns (i : Int) ≤ 8) := fun i hk => (zga ((zca.1 hi).ok i hk)).2.1
 have TI : Hid (∀ i : Nat, i < 16 → ∀ j : Nat, j < 8 → zgf (zoo ns (i : Int) (j : Int)) = true) := fun i hk j hj => by
  refine (zie ((zca.1 hi).ok i hk)).1 _ ?_
  show (zcf ns i).map.getD j 0 ∈ _
  rw [List.getD_eq_getElem?_getD, List.getElem?_eq_getElem (show j < (zcf ns i).map.length from hj)]
  exact List.getElem_mem _
 obtain ⟨l16, l24, _⟩ := zao hi
 have L16 := zaa l16
 obtain ⟨dW, eW, dP, eP, dS, eS, dQ, eQ, rfl, -, -⟩ := hd.form
 obtain ⟨vW, vP, rfl, h1, h2⟩ := h
 obtain ⟨aW, cW, rfl, _, hcW⟩ := h1.shape
 obtain ⟨aP, cP, rfl, _, hcP⟩ := h2.shape
 obtain ⟨bW, oW, rfl, hblW, hcellW⟩ := hcW (by omega)
 have HM : Hid (∀ k, k < 16 → ∀ w', Below w.heap.size w w' → w'.cell? ⟨bW, oW + k * 11 + 1, none⟩ = some (.int .i64 (zfd ns (k : Int))) ∧ ∀ j, j < 8 → w'.cell? ⟨bW, oW + k * 11 + 3 + j, none⟩ = some (.int .i64 (zoo ns (k : Int) (j : Int)))) := fun k hk w' hb => by
  unfold zfd zoo
  rw [Int.toNat_natCast, zcn (by omega : k < ns.length)]
  obtain ⟨a0, a1, a2, a3, a4, a5, a6, a7, a8, a9, a10⟩ := hcellW k (by omega)
  refine ⟨(hb.cell (p := ⟨bW, oW + k * 11 + 1, none⟩) hblW).trans a1, fun j hj => ?_⟩
  rw [Int.toNat_natCast]
  rcases (show j = 0 ∨ j = 1 ∨ j = 2 ∨ j = 3 ∨ j = 4 ∨ j = 5 ∨ j = 6 ∨ j = 7 by omega) with rfl | rfl | rfl | rfl | rfl | rfl | rfl | rfl
  ·exact (hb.cell (p := ⟨bW, oW + k * 11 + 3, none⟩) hblW).trans a3
  ·exact (hb.cell (p := ⟨bW, oW + k * 11 + 4, none⟩) hblW).trans a4
  ·exact (hb.cell (p := ⟨bW, oW + k * 11 + 5, none⟩) hblW).trans a5
  ·exact (hb.cell (p := ⟨bW, oW + k * 11 + 6, none⟩) hblW).trans a6
  ·exact (hb.cell (p := ⟨bW, oW + k * 11 + 7, none⟩) hblW).trans a7
  ·exact (hb.cell (p := ⟨bW, oW + k * 11 + 8, none⟩) hblW).trans a8
  ·exact (hb.cell (p := ⟨bW, oW + k * 11 + 9, none⟩) hblW).trans a9
  ·exact (hb.cell (p := ⟨bW, oW + k * 11 + 10, none⟩) hblW).trans a10
 clear h1 h2 hi hs hcW hcP hcellW l16 l24 hd hP hB
 obtain ⟨W, hW⟩ : ∃ W, W = (w.alloc (.cells #[.slice dW ws.length eW, .slice dP ps.length eP, .slice dS es.length eS, .slice dQ qs.length eQ] 41)).alloc (.cells #[.slice (some ⟨bW, oW, none⟩) ns.length cW, .slice aP ds.length cP] 63) := ⟨_, rfl⟩
 have hzW : W.heap.size = w.heap.size + 1 + 1 := by rw [hW]; simp
 have CD : Hid (∀ w', Below W.heap.size W w' → w'.cell? ⟨w.heap.size, 0, none⟩ = some (.slice dW ws.length eW) ∧ w'.cell? ⟨w.heap.size, 1, none⟩ = some (.slice dP ps.length eP) ∧ w'.cell? ⟨w.heap.size, 2, none⟩ = some (.slice dS es.length eS) ∧ w'.cell? ⟨w.heap.size, 3, none⟩ = some (.slice dQ qs.length eQ)) := fun w' hb => by
  have : w'.heap[w.heap.size]? = some (.cells #[.slice dW ws.length eW, .slice dP ps.length eP, .slice dS es.length eS, .slice dQ qs.length eQ] 41 (0, 0)) := (hb.block _ (by omega)).trans (by rw [hW]; exact zau (zah rfl))
  obtain ⟨x0, x1, x2, x3, -, -, -, -⟩ := zaw this
  exact ⟨x0, x1, x2, x3⟩
 have CA : Hid (∀ w', Below W.heap.size W w' → w'.cell? ⟨w.heap.size + 1, 0, none⟩ = some (.slice (some ⟨bW, oW, none⟩) ns.length cW) ∧ w'.cell? ⟨w.heap.size + 1, 1, none⟩ = some (.slice aP ds.length cP)) := fun w' hb => by
  have : w'.heap[w.heap.size + 1]? = some (.cells #[.slice (some ⟨bW, oW, none⟩) ns.length cW, .slice aP ds.length cP] 63 (0, 0)) := (hb.block _ (by omega)).trans (by
   rw [hW]
   have := zah (w := w.alloc (.cells #[.slice dW ws.length eW, .slice dP ps.length eP, .slice dS es.length eS, .slice dQ qs.length eQ] 41)) (o := .cells #[.slice (some ⟨bW, oW, none⟩) ns.length cW, .slice aP ds.length cP] 63) rfl
   rw [World.size_alloc] at this
   exact this)
  exact ⟨(zac this).1, (zac this).2.1⟩
 have BW : Hid (Below w.heap.size w W) := by rw [hW]; exact ((Below.refl _ _).alloc (Nat.le_refl _) _).alloc (by simp) _
 obtain ⟨x0, x1⟩ := CA.out _ (Below.refl _ _)
 have hz : w.heap.size + 1 < W.heap.size := by omega
 clear hzW
 generalize rpI ws ps es qs ns ds s page = res at *
 generalize flI ns ds s = lr at *
 obtain ⟨li, lc⟩ := lr
 simp only at EL LO LL
 go_enter Tryz.func43, Tryz.ntmps43
 go_wp2_with fail
 rw [← hW]
 clear hW x0 x1
 refine (LL.out _ BW.out).mono ?_
 rintro e w1 ⟨rfl, hb1⟩
 have A1 := zaa hb1
 have B1 := zaa (zab BW.out A1.out BW.out.size)
 clear hb1 LL
 by_cases c : lc = 0
 case neg =>
  rw [if_neg c] at EL
  obtain rfl := EL.out
  have q : (lc != 0) = true := by rw [bne_iff_ne]; exact c
  clear EL LO c
  go_wp2
  go_ret2
  exact ⟨rfl, B1.out⟩
 subst c
 rw [if_pos rfl] at EL
 obtain ⟨i, i16, ei, -⟩ := LO.out rfl
 subst ei
 rw [EF.out] at EL
 have HMi := zaa (HM.out i i16)
 have TIi := zaa (TI.out i i16)
 obtain ⟨z0, z8⟩ := SZ.out i i16
 have i1 : i < ns.length := by have := L16.out; omega
 have i0 : (0 : Int) ≤ (i : Int) := by omega
 have il : (i : Int) < (ns.length : Int) := by omega
 clear HM EF LO L16 SZ TI
 obtain ⟨x0, x1⟩ := CA.out _ A1.out
 have y0 := (HMi.out _ B1.out).1
 generalize zfd ns (i : Int) = sz at *
 by_cases c : 0 ≤ page ∧ page < sz
 case neg =>
  rw [if_neg c] at EL
  obtain rfl := EL.out
  clear EL
  go_wp2_with fail
  refine (zce _ _ _ _ (by omega)).mono ?_
  rintro e w' ⟨rfl, hw'⟩
  subst w'
  go_wp2
  go_ret2
  exact ⟨rfl, B1.out⟩
 rw [if_pos c] at EL
 obtain ⟨j, rfl⟩ : ∃ j : Nat, page = (j : Int) := ⟨page.toNat, by omega⟩
 have j8 : j < 8 := by omega
 have te := zaa (TIi.out j j8)
 have LV2 := zaa (fun w1 hb => LV.out w1 hb _ te.out)
 have j0 : (0 : Int) ≤ (j : Int) := by omega
 have j1 : (j : Int) < 8 := by omega
 have KE : Hid (∀ w', Below W.heap.size W w' → w'.cell? ⟨w.heap.size, 0, none⟩ = some (.slice dW ws.length eW) ∧ w'.cell? ⟨w.heap.size, 1, none⟩ = some (.slice dP ps.length eP) ∧ w'.cell? ⟨w.heap.size, 2, none⟩ = some (.slice dS es.length eS) ∧ w'.cell? ⟨w.heap.size, 3, none⟩ = some (.slice dQ qs.length eQ) ∧ w'.cell? ⟨w.heap.size + 1, 0, none⟩ = some (.slice (some ⟨bW, oW, none⟩) ns.length cW) ∧ w'.cell? ⟨bW, oW + i * 11 + 3 + j, none⟩ = some (.int .i64 (zoo ns (i : Int) (j : Int)))) := fun w' hb =>
  ⟨(CD.out w' hb).1, (CD.out w' hb).2.1, (CD.out w' hb).2.2.1, (CD.out w' hb).2.2.2, (CA.out w' hb).1, (HMi.out w' (zab BW.out hb BW.out.size)).2 j j8⟩
 generalize zoo ns (i : Int) (j : Int) = pz at *
 go_wp2_with fail
 refine (zar _ _ _ _ (by omega)).mono ?_
 rintro e w' ⟨rfl, hw'⟩
 subst w'
 clear c y0 HMi TIi te LV CD CA x0 x1
 obtain ⟨x0, x1, x2, x3, x4, x5⟩ := KE.out _ A1.out
 go_wp2_with fail
 go_region_held3 (fun w' => w'.cell? ⟨w.heap.size, 0, none⟩ = some (.slice dW ws.length eW) ∧ w'.cell? ⟨w.heap.size, 1, none⟩ = some (.slice dP ps.length eP) ∧ w'.cell? ⟨w.heap.size, 2, none⟩ = some (.slice dS es.length eS) ∧ w'.cell? ⟨w.heap.size, 3, none⟩ = some (.slice dQ qs.length eQ) ∧ w'.cell? ⟨w.heap.size + 1, 0, none⟩ = some (.slice (some ⟨bW, oW, none⟩) ns.length cW) ∧ w'.cell? ⟨bW, oW + i * 11 + 3 + j, none⟩ = some (.int .i64 pz))
  (first | with_reducible exact KE.out _ A2.out | with_reducible exact KE.out _ A1.out | with_reducible exact KE.out _ A1.out.drew)
  (first
   | (go_at_call 92; refine (LV2.out _ (by first | with_reducible exact B1.out | with_reducible exact B1.out.drew)).mono ?_; rintro e w2 ⟨rfl, hb2⟩; have A2 := zaa (zab A1.out (zcs hb2) A1.out.size); have B2 := zaa (zab B1.out (zcs hb2) B1.out.size); clear hb2; obtain ⟨r0, r1, r2, r3, r4, r5⟩ := KE.out _ A2.out))
 all_goals
  obtain rfl := EL.out
  go_wp2
  go_ret2
  exact ⟨rfl, B2.out⟩
theorem zdi {ws : List Int} {ps : List St} {es : List Int} {qs : List Se} (h : dvB ws ps es qs = true) : pmB ws ps = true ∧ zin es qs = true ∧ dvN ws ps es qs = zbk (zcj ws ps) 16 ∧ dvD ws ps es qs = zbs (zcj ws ps) 24 ∧ zax (zbk (zcj ws ps) 16) (zbs (zcj ws ps) 24) = true := by
 have q := h
 unfold dvB at q
 rw [Bool.and_eq_true, Bool.and_eq_true] at q
 obtain ⟨⟨a, b⟩, r⟩ := q
 unfold riB at r
 rw [Bool.and_eq_true, Bool.and_eq_true] at r
 exact ⟨a, b, by unfold dvN; rw [if_pos h], by unfold dvD; rw [if_pos h], r.2.2⟩
end Go.Proofs.YtcilodgoognmnaaGreatDoor

namespace Go.Proofs.YtcilodgoognmnaaGreatDoor
open Go.RowKit
theorem zwr (a : Option Addr) (n cap : Nat) (hn : 8 ≤ n) (w : World) : (Instr.arrayAt 95 (.slice a n cap)).run Tryz.prog w = .ok (.pointer a) w := by
 have h : ¬ n < 8 := by omega
 simp [Instr.arrayAt, run_underlying Tryz.underlying95, h, go_sem]
set_option maxRecDepth 100000 in
set_option maxHeartbeats 2000000 in
theorem ztg (b o n c : Nat) (x : Ino) (w : World) (hn : 11 ≤ n) (hc : n ≤ c) (hb : b < w.heap.size) (h : ∀ j, j < 11 → w.cell? ⟨b, o + j, none⟩ = x.cs[j]?) :
  Calls Tryz.prog 162 #[.slice (some ⟨b, o, none⟩) n c] w fun e w' => e = .returned x.v ∧ Below w.heap.size w w' := by
 have BW := zaa ((Below.refl w.heap.size w).alloc (Nat.le_refl _) (.cells #[.int .i64 0, .int .i64 0, .int .i64 0, .int .i64 0, .int .i64 0, .int .i64 0, .int .i64 0, .int .i64 0, .int .i64 0, .int .i64 0, .int .i64 0] 97))
 have S : Hid (∀ w', Below w.heap.size w w' → w'.cell? ⟨b, o, none⟩ = some (.int .i64 x.kind) ∧ w'.cell? ⟨b, o + 1, none⟩ = some (.int .i64 x.size) ∧ w'.cell? ⟨b, o + 2, none⟩ = some (.int .i64 x.links) ∧ w'.cell? ⟨b, o + 3, none⟩ = some (.int .i64 x.m0) ∧ w'.cell? ⟨b, o + 3 + 1, none⟩ = some (.int .i64 x.m1) ∧ w'.cell? ⟨b, o + 3 + 2, none⟩ = some (.int .i64 x.m2) ∧ w'.cell? ⟨b, o + 3 + 3, none⟩ = some (.int .i64 x.m3) ∧ w'.cell? ⟨b, o + 3 + 4, none⟩ = some (.int .i64 x.m4) ∧ w'.cell? ⟨b, o + 3 + 5, none⟩ = some (.int .i64 x.m5) ∧ w'.cell? ⟨b, o + 3 + 6, none⟩ = some (.int .i64 x.m6) ∧ w'.cell? ⟨b, o + 3 + 7, none⟩ = some (.int .i64 x.m7)) := fun w' hw' =>
  have g := fun j (hj : j < 11) => (hw'.cell (p := ⟨b, o + j, none⟩) hb).trans (h j hj)
  ⟨g 0 (by omega), g 1 (by omega), g 2 (by omega), g 3 (by omega), g 4 (by omega), g 5 (by omega), g 6 (by omega), g 7 (by omega), g 8 (by omega), g 9 (by omega), g 10 (by omega)⟩
 obtain ⟨s0, s1, s2, s3, s4, s5, s6, s7, s8, s9, s10⟩ := S.out _ BW.out
 have i0 : (0 : Int) < (n : Int) := by omega
 have i00 : 0 < n := by omega
 have i1 : (1 : Int) < (n : Int) := by omega
 have i2 : (2 : Int) < (n : Int) := by omega
 have i3 : (11 : Int) ≤ (c : Int) := by omega
 have i4 : ¬ c = 3 := by omega
 have i5 : (3 : Int) ≤ 11 := by omega
 have har := zwr (some ⟨b, o + 3, none⟩) 8 (c - 3) (Nat.le_refl _)
 unfold Ino.v
 clear h hn hc
 go_enter Tryz.func162, Tryz.ntmps162
 go_wp2_with fail
 go_region_held3 (fun w' => w'.cell? ⟨b, o, none⟩ = some (.int .i64 x.kind) ∧ w'.cell? ⟨b, o + 1, none⟩ = some (.int .i64 x.size) ∧ w'.cell? ⟨b, o + 2, none⟩ = some (.int .i64 x.links) ∧ w'.cell? ⟨b, o + 3, none⟩ = some (.int .i64 x.m0) ∧ w'.cell? ⟨b, o + 3 + 1, none⟩ = some (.int .i64 x.m1) ∧ w'.cell? ⟨b, o + 3 + 2, none⟩ = some (.int .i64 x.m2) ∧ w'.cell? ⟨b, o + 3 + 3, none⟩ = some (.int .i64 x.m3) ∧ w'.cell? ⟨b, o + 3 + 4, none⟩ = some (.int .i64 x.m4) ∧ w'.cell? ⟨b, o + 3 + 5, none⟩ = some (.int .i64 x.m5) ∧ w'.cell? ⟨b, o + 3 + 6, none⟩ = some (.int .i64 x.m6) ∧ w'.cell? ⟨b, o + 3 + 7, none⟩ = some (.int .i64 x.m7))
  (exact S.out _ (by repeat (first | with_reducible exact BW.out | with_reducible refine zan ?_ _ | with_reducible exact Below.refl _ _ | with_reducible refine Below.drew ?_)))
  (fail)
 all_goals
  go_wp2
  refine bodyPost_ret (v := .agg #[.int .i64 x.kind, .int .i64 x.size, .int .i64 x.links, .int .i64 x.m0, .int .i64 x.m1, .int .i64 x.m2, .int .i64 x.m3, .int .i64 x.m4, .int .i64 x.m5, .int .i64 x.m6, .int .i64 x.m7]) (by simp [results, Tryz.results162, go_sem]) rfl ⟨rfl, ?_⟩
  repeat (first | with_reducible exact Below.refl _ _ | with_reducible refine zan ?_ _ | with_reducible refine Below.drew ?_)
def denZ (z0 z1 z2 : Int) : Den := if z2 = 0 then ⟨0, ⟨#[]⟩, -1⟩ else ⟨z0, unpS z1, z2 - 1⟩
def zpc (z0 z1 z2 : Int) : Bool := if z2 = 0 then z0 == 0 && z1 == 0 else zgn z1
set_option maxRecDepth 100000 in
set_option maxHeartbeats 2000000 in
theorem zqh (b o n c : Nat) (z0 z1 z2 : Int) (w : World) (hn : 3 ≤ n) (_hc : n ≤ c) (hb : b < w.heap.size) (h0 : w.cell? ⟨b, o, none⟩ = some (.int .i64 z0)) (h1 : w.cell? ⟨b, o + 1, none⟩ = some (.int .i64 z1)) (h2 : w.cell? ⟨b, o + 2, none⟩ = some (.int .i64 z2)) (hF : FD w) (r1 : z1 ≤ 9223372036854775807) (r2 : 0 ≤ z2 ∧ z2 ≤ 9223372036854775807) :
  Calls Tryz.prog 163 #[.slice (some ⟨b, o, none⟩) n c] w fun e w' => (∃ s, e = .returned (.tuple #[.agg #[.int .i64 (denZ z0 z1 z2).dir, .string s, .int .i64 (denZ z0 z1 z2).child], .bool (zpc z0 z1 z2)]) ∧ (zpc z0 z1 z2 = true → s = (denZ z0 z1 z2).name)) ∧ Below w.heap.size w w' := by
 have BW := zaa ((Below.refl w.heap.size w).alloc (Nat.le_refl _) (.cells #[.int .i64 0, .string ⟨#[]⟩, .int .i64 0] 180))
 have S : Hid (∀ w', Below w.heap.size w w' → w'.cell? ⟨b, o, none⟩ = some (.int .i64 z0) ∧ w'.cell? ⟨b, o + 1, none⟩ = some (.int .i64 z1) ∧ w'.cell? ⟨b, o + 2, none⟩ = some (.int .i64 z2)) := fun w' hw' => ⟨(hw'.cell (p := ⟨b, o, none⟩) hb).trans h0, (hw'.cell (p := ⟨b, o + 1, none⟩) hb).trans h1, (hw'.cell (p := ⟨b, o + 2, none⟩) hb).trans h2⟩
 obtain ⟨s0, s1, s2⟩ := S.out _ BW.out
 have F := zaa hF
 have i0 : (0 : Int) < (n : Int) := by omega
 have i00 : 0 < n := by omega
 have i1 : (1 : Int) < (n : Int) := by omega
 have i2 : (2 : Int) < (n : Int) := by omega
 clear h0 h1 h2 hF
 by_cases c2 : z2 = 0
 ·subst c2
  have E1 : denZ z0 z1 0 = ⟨0, ⟨#[]⟩, -1⟩ := by unfold denZ; rw [if_pos rfl]
  have E2 : zpc z0 z1 0 = (z0 == 0 && z1 == 0) := by unfold zpc; rw [if_pos rfl]
  rw [E1, E2]
  clear E1 E2
  obtain ⟨f0, f1, f2⟩ := FD.cells (F.out.below BW.out)
  by_cases c0 : z0 = 0
  ·have q0 : (z0 == 0) = true := by rw [c0]; rfl
   have EQ : Hid ((z0 == 0 && z1 == 0) = (z1 == 0)) := by unfold Hid; rw [q0]; rfl
   rw [EQ.out]
   clear c0 EQ
   go_enter Tryz.func163, Tryz.ntmps163
   go_wp2_with fail
   go_region_held3 (fun w' => (w'.cell? ⟨b, o, none⟩ = some (.int .i64 z0) ∧ w'.cell? ⟨b, o + 1, none⟩ = some (.int .i64 z1) ∧ w'.cell? ⟨b, o + 2, none⟩ = some (.int .i64 0)) ∧ w'.cell? ⟨2, 0, none⟩ = some (.int .i64 0) ∧ w'.cell? ⟨2, 1, none⟩ = some (.string ⟨#[]⟩) ∧ w'.cell? ⟨2, 2, none⟩ = some (.int .i64 (-1)))
    (exact ⟨S.out _ (by repeat (first | with_reducible exact BW.out | with_reducible refine zan ?_ _ | with_reducible exact Below.refl _ _ | with_reducible refine Below.drew ?_)), FD.cells (F.out.below (by repeat (first | with_reducible exact BW.out | with_reducible refine zan ?_ _ | with_reducible exact Below.refl _ _ | with_reducible refine Below.drew ?_)))⟩)
    (fail)
   all_goals
    go_wp2
    refine bodyPost_ret (v := .tuple #[.agg #[.int .i64 0, .string ⟨#[]⟩, .int .i64 (-1)], .bool (z1 == 0)]) (by simp [results, Tryz.results163, go_sem]) rfl ?_
    exact ⟨⟨_, rfl, fun _ => rfl⟩, (by repeat (first | with_reducible exact BW.out | with_reducible exact Below.refl _ _ | with_reducible refine zan ?_ _ | with_reducible refine Below.drew ?_ | refine Below.setCell ?_ (by exact Nat.le_refl _) _))⟩
  ·have q0 : (z0 == 0) = false := by rw [beq_eq_false_iff_ne]; exact c0
   have EQ : Hid ((z0 == 0 && z1 == 0) = false) := by unfold Hid; rw [q0]; rfl
   rw [EQ.out]
   clear c0 EQ
   go_enter Tryz.func163, Tryz.ntmps163
   go_wp2_with fail
   go_region
   all_goals
    go_wp2
    refine bodyPost_ret (v := .tuple #[.agg #[.int .i64 0, .string ⟨#[]⟩, .int .i64 (-1)], .bool false]) (by simp [results, Tryz.results163, go_sem]) rfl ?_
    exact ⟨⟨_, rfl, fun _ => rfl⟩, (by repeat (first | with_reducible exact BW.out | with_reducible exact Below.refl _ _ | with_reducible refine zan ?_ _ | with_reducible refine Below.drew ?_ | refine Below.setCell ?_ (by exact Nat.le_refl _) _))⟩
 ·have q : (z2 == 0) = false := by rw [beq_eq_false_iff_ne]; exact c2
  have E1 : denZ z0 z1 z2 = ⟨z0, unpS z1, z2 - 1⟩ := by unfold denZ; rw [if_neg c2]
  have E2 : zpc z0 z1 z2 = zgn z1 := by unfold zpc; rw [if_neg c2]
  rw [E1, E2]
  have LU := zaa (fun w1 => zky z1 w1 r1)
  have EU : Hid ((unpC z1 == 0) = zgn z1) := by
   unfold Hid unpC
   cases zgn z1 <;> rfl
  have wp1 : IntKind.i64.wrap (z2 - 1) = z2 - 1 := by rw [IntKind.wrap_i64]; omega
  rw [← EU.out]
  clear E1 E2 c2 EU
  generalize unpC z1 = uc at *
  generalize unpS z1 = us at *
  go_enter Tryz.func163, Tryz.ntmps163
  go_wp2_with fail
  refine (LU.out _).mono ?_
  rintro e w1 ⟨rfl, hb1⟩
  have B1 := zaa (zab BW.out hb1 BW.out.size)
  have VB : Hid (w1.heap[w.heap.size]? = some (.cells #[.int .i64 0, .string ⟨#[]⟩, .int .i64 0] 180 (0, 0))) := (hb1.block _ (by simp)).trans (zah rfl)
  clear hb1 s0 s1 s2
  obtain ⟨s0, s1, s2⟩ := S.out _ B1.out
  obtain ⟨t0, t1, t2⟩ := zay VB.out
  have u0 := (zae (xs := [.int .i64 0, .string ⟨#[]⟩, .int .i64 0]) VB.out 0).2
  have u1 := (zae (xs := [.int .i64 0, .string ⟨#[]⟩, .int .i64 0]) VB.out 1).2
  have u2 := (zae (xs := [.int .i64 0, .string ⟨#[]⟩, .int .i64 0]) VB.out 2).2
  go_wp2_with fail
  go_region_held3 (fun w' => w'.cell? ⟨b, o, none⟩ = some (.int .i64 z0) ∧ w'.cell? ⟨b, o + 1, none⟩ = some (.int .i64 z1) ∧ w'.cell? ⟨b, o + 2, none⟩ = some (.int .i64 z2))
   (exact S.out _ (by repeat (first | with_reducible exact B1.out | with_reducible refine Below.drew ?_ | refine Below.setCell ?_ (by exact Nat.le_refl _) _)))
   (fail)
  all_goals
   go_wp2
   refine bodyPost_ret (v := .tuple #[.agg #[.int .i64 z0, .string us, .int .i64 (z2 - 1)], .bool (uc == 0)]) (by simp [results, Tryz.results163, go_sem, t0, t1, t2]) rfl ?_
   exact ⟨⟨_, rfl, fun _ => rfl⟩, (by repeat (first | with_reducible exact B1.out | with_reducible refine Below.drew ?_ | refine Below.setCell ?_ (by exact Nat.le_refl _) _))⟩
end Go.Proofs.YtcilodgoognmnaaGreatDoor
