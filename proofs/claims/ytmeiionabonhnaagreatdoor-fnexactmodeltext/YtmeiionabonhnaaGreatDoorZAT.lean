/- Several texts laid together: ImP, PaA, PbA. -/
import Derived.Test.YtmeiionabonhnaaGreatDoorZAS
import Derived.Test.YtmeiionabonhnaaGreatDoorStA
import Derived.Test.YtmeiionabonhnaaGreatDoorZAB
import Derived.Lib.SplitLaws
import Derived.Lib.IndexBytes
namespace Go.Proofs.YtmeiionabonhnaaGreatDoor
open Go.RowKit
theorem implImageOK_any (v : Value) (ws : List Ino) (ps : List Den) (w : World) (h : RdIm w v ws ps) (hw : ws.length ≤ 1048576) (hp : ps.length ≤ 1048576) (hT : TS w) (hE : ED w) (hF : FD w) (hr : ∀ k (h : k < ws.length), ws[k].R) (hs : ∀ k (h : k < ps.length), ps[k].name.size ≤ maxLen) :
    Calls Tryz.prog 62 #[v] w fun e w' => e = .returned (.bool (imgB ws ps)) ∧ Below w.heap.size w w' := by
  rw [← pim_img]
  exact pimOK_any v ws ps w h hw hp hT hE hF hr hs
set_option maxRecDepth 100000 in
set_option maxHeartbeats 8000000 in
theorem specImageOK_any (v : Value) (ws : List Ino) (ps : List Den) (w : World) (h : RdIm w v ws ps) (hw : ws.length ≤ 1048576) (hp : ps.length ≤ 1048576) (hr : ∀ k (h : k < ws.length), ws[k].R) (hs : ∀ k (h : k < ps.length), ps[k].name.size ≤ maxLen) :
    Calls Tryz.prog 68 #[v] w fun e w' => e = .returned (.bool (imgB ws ps)) ∧ Below w.heap.size w w' := by
  have HRD := hideIt h
  have HR := hideIt hr
  have L1 := hideIt (fun w1 h => l05Links_any v ws ps w1 h hw hp)
  have L2 := hideIt (fun w1 h (hl : ws.length = 16) => l05Entries_any v ws ps w1 h hl hp hs)
  have L3 := hideIt (fun w1 h (hl : ws.length = 16) (o : okNs ws = true) => l05Single_any v ws ps w1 h hl (fun k hk z hz => tie_small (okNs_ties o k hk z hz)))
  obtain ⟨vW, vP, rfl, h1, h2⟩ := h
  obtain ⟨aW, cW, rfl, _, hcW⟩ := h1.shape
  obtain ⟨aP, cP, rfl, _, _⟩ := h2.shape
  have HW := hideIt hcW
  clear h1 h2 hr hs hcW
  have CA : Hid (∀ w', Below (w.alloc (.cells #[.slice aW ws.length cW, .slice aP ps.length cP] 98)).heap.size (w.alloc (.cells #[.slice aW ws.length cW, .slice aP ps.length cP] 98)) w' → w'.cell? ⟨w.heap.size, 0, none⟩ = some (.slice aW ws.length cW) ∧ w'.cell? ⟨w.heap.size, 1, none⟩ = some (.slice aP ps.length cP)) := fun w' hb => by
    have : w'.heap[w.heap.size]? = some (.cells #[.slice aW ws.length cW, .slice aP ps.length cP] 98 (0, 0)) := (hb.block _ (by simp)).trans (at_new rfl)
    exact ⟨(two_cells this).1, (two_cells this).2.1⟩
  have BW : Hid (Below w.heap.size w (w.alloc (.cells #[.slice aW ws.length cW, .slice aP ps.length cP] 98))) := (Below.refl _ _).alloc (Nat.le_refl _) _
  obtain ⟨x0, x1⟩ := CA.out _ (Below.refl _ _)
  have EI := hideIt (show imgB ws ps = (decide (ws.length = 16) && (decide (ps.length = 24) && (kindAt ws 0 == 2 && (okNs ws && (entsB ws ps && (linksB ws ps && singB ws)))))) from rfl)
  by_cases c1 : ws.length = 16
  case neg =>
    have E := hideIt (show imgB ws ps = false by rw [EI.out, decide_eq_false c1]; rfl)
    have q : ((ws.length : Int) != 16) = true := by rw [bne_iff_ne]; omega
    clear c1
    go_enter Tryz.func68, Tryz.ntmps68
    go_wp2
    go_ret
    exact ⟨ret_bool E.out.symm, BW.out⟩
  have q : ((ws.length : Int) != 16) = false := by rw [c1]; rfl
  by_cases c2 : ps.length = 24
  case neg =>
    have E := hideIt (show imgB ws ps = false by rw [EI.out, decide_eq_false c2, Bool.false_and, Bool.and_false])
    have q2 : ((ps.length : Int) != 24) = true := by rw [bne_iff_ne]; omega
    clear c1 c2
    go_enter Tryz.func68, Tryz.ntmps68
    go_wp2
    go_ret
    exact ⟨ret_bool E.out.symm, BW.out⟩
  have q2 : ((ps.length : Int) != 24) = false := by rw [c2]; rfl
  obtain ⟨bW, oW, rfl, hblW, hcellW⟩ := HW.out (by omega)
  have HK := (hcellW 0 (by omega)).1
  rw [show ws[0].kind = kindAt ws 0 from (kindAt_of (i := 0) (by omega)).symm] at HK
  simp only [Nat.zero_mul, Nat.add_zero] at HK
  have kk := (BW.out.cell (p := ⟨bW, oW, none⟩) hblW).trans HK
  have len16 : (0 : Int) < (ws.length : Int) := by omega
  have C1 := hideIt c1
  have E1 := hideIt (show imgB ws ps = (kindAt ws 0 == 2 && (okNs ws && (entsB ws ps && (linksB ws ps && singB ws)))) by rw [EI.out, decide_eq_true c1, decide_eq_true c2]; rfl)
  have HC := hideIt hcellW
  clear c1 c2 EI HK hcellW HW
  generalize kindAt ws 0 = k0 at *
  by_cases c3 : k0 = 2
  case neg =>
    have q3 : (k0 != 2) = true := by rw [bne_iff_ne]; exact c3
    have E := hideIt (show imgB ws ps = false by rw [E1.out, show (k0 == 2) = false by rw [beq_eq_false_iff_ne]; exact c3]; rfl)
    clear c3
    go_enter Tryz.func68, Tryz.ntmps68
    go_wp2
    go_ret
    exact ⟨ret_bool E.out.symm, BW.out⟩
  have q3 : (k0 != 2) = false := by rw [c3]; rfl
  have E2 := hideIt (show imgB ws ps = (okNs ws && (entsB ws ps && (linksB ws ps && singB ws))) by rw [E1.out, c3]; rfl)
  clear c3 E1
  go_enter Tryz.func68, Tryz.ntmps68
  go_wp2
  clear x0 x1 kk q q2 q3
  generalize w.alloc (.cells #[.slice (some ⟨bW, oW, none⟩) ws.length cW, .slice aP ps.length cP] 98) = W at *
  have hz : w.heap.size ≤ W.heap.size := BW.out.size
  go_loopw [3] (fun i wr => ∃ k : Nat, k ≤ ws.length ∧ i = .int .i64 k ∧ Hid (Below W.heap.size W wr ∧ ∀ j (h : j < ws.length), j < k → inoB ws[j] = true)) (fun i _ => ws.length - (intOf i).toNat)
  case atStart => exact ⟨0, by omega, rfl, Below.refl _ _, fun j h a => absurd a (by omega)⟩
  case round =>
    obtain ⟨k, hk, rfl, H⟩ := hrel
    have H1 := hideIt H.out.1
    have HF := hideIt (below_trans BW.out H.out.1 hz)
    obtain ⟨x0, x1⟩ := CA.out wr H.out.1
    by_cases hlt : k < ws.length
    · obtain ⟨a0, a1, a2, a3, a4, a5, a6, a7, a8, a9, a10⟩ := HC.out k hlt
      have d0 := (HF.out.cell (p := ⟨bW, oW + k * 11, none⟩) hblW).trans a0
      have d1 := (HF.out.cell (p := ⟨bW, oW + k * 11 + 1, none⟩) hblW).trans a1
      have d2 := (HF.out.cell (p := ⟨bW, oW + k * 11 + 2, none⟩) hblW).trans a2
      have d3 := (HF.out.cell (p := ⟨bW, oW + k * 11 + 3, none⟩) hblW).trans a3
      have d4 := (HF.out.cell (p := ⟨bW, oW + k * 11 + 4, none⟩) hblW).trans a4
      have d5 := (HF.out.cell (p := ⟨bW, oW + k * 11 + 5, none⟩) hblW).trans a5
      have d6 := (HF.out.cell (p := ⟨bW, oW + k * 11 + 6, none⟩) hblW).trans a6
      have d7 := (HF.out.cell (p := ⟨bW, oW + k * 11 + 7, none⟩) hblW).trans a7
      have d8 := (HF.out.cell (p := ⟨bW, oW + k * 11 + 8, none⟩) hblW).trans a8
      have d9 := (HF.out.cell (p := ⟨bW, oW + k * 11 + 9, none⟩) hblW).trans a9
      have d10 := (HF.out.cell (p := ⟨bW, oW + k * 11 + 10, none⟩) hblW).trans a10
      have k0' : (0 : Int) ≤ (k : Int) := by omega
      have k1 : (k : Int) < (ws.length : Int) := by omega
      have LI := hideIt (fun w1 => l05Inode_any ws[k] w1 (HR.out k hlt))
      have H2 : Hid (inoB ws[k] = true → ∀ j (h : j < ws.length), j < k + 1 → inoB ws[j] = true) := fun q j h a => by
        by_cases e : j = k
        · subst e; exact q
        · exact H.out.2 j h (by omega)
      have H3 := hideIt (fun q => okNs_not hlt q)
      clear a0 a1 a2 a3 a4 a5 a6 a7 a8 a9 a10 H
      generalize ws[k] = x at d0 d1 d2 d3 d4 d5 d6 d7 d8 d9 d10 LI H2 H3
      cases qq : inoB x with
      | true =>
        rw [qq] at LI
        have E := hideIt (H2.out qq)
        clear H2 H3 qq
        go_wp2_with fail
        refine (LI.out _).mono ?_
        rintro e w1 ⟨rfl, hb1⟩
        have B3 := hideIt (below_trans H1.out hb1 H1.out.size)
        clear hb1 d0 d1 d2 d3 d4 d5 d6 d7 d8 d9 d10 x0 x1
        go_wp2
        go_roundw
        case rel => exact ⟨k + 1, by omega, by go_num, B3.out, E.out⟩
        case measure => simp [intOf]; omega
      | false =>
        rw [qq] at LI
        have E := hideIt (show imgB ws ps = false by rw [E2.out, H3.out qq]; rfl)
        clear H2 H3 qq
        go_wp2_with fail
        refine (LI.out _).mono ?_
        rintro e w1 ⟨rfl, hb1⟩
        have B3 := hideIt (below_trans HF.out hb1 HF.out.size)
        clear hb1 d0 d1 d2 d3 d4 d5 d6 d7 d8 d9 d10 x0 x1
        go_wp2
        go_ret
        exact ⟨ret_bool E.out.symm, B3.out⟩
    · have O := hideIt (okNs_mk (fun j h => H.out.2 j h (by omega)))
      have E3 := hideIt (show imgB ws ps = (entsB ws ps && (linksB ws ps && singB ws)) by rw [E2.out, O.out]; rfl)
      clear H
      generalize entsB ws ps = f1 at *
      generalize linksB ws ps = f2 at *
      generalize singB ws = f3 at *
      go_wp2_with fail
      refine (L2.out _ (HRD.out.below HF.out) C1.out).mono ?_
      rintro e w1 ⟨rfl, hb1⟩
      have B1 := hideIt (below_trans HF.out hb1 HF.out.size)
      have BA := hideIt (below_trans H1.out hb1 H1.out.size)
      clear hb1 x0 x1
      cases f1 with
      | false =>
        go_wp2
        go_ret
        exact ⟨ret_bool (by rw [E3.out]; rfl), B1.out⟩
      | true =>
      obtain ⟨x0, x1⟩ := CA.out _ BA.out
      go_wp2_with fail
      refine (L1.out _ (HRD.out.below B1.out)).mono ?_
      rintro e w2 ⟨rfl, hb2⟩
      have B2 := hideIt (below_trans B1.out hb2 B1.out.size)
      have BB := hideIt (below_trans BA.out hb2 BA.out.size)
      clear hb2 x0 x1
      cases f2 with
      | false =>
        go_wp2
        go_ret
        exact ⟨ret_bool (by rw [E3.out]; rfl), B2.out⟩
      | true =>
      obtain ⟨x0, x1⟩ := CA.out _ BB.out
      go_wp2_with fail
      refine (L3.out _ (HRD.out.below B2.out) C1.out O.out).mono ?_
      rintro e w3 ⟨rfl, hb3⟩
      have B3 := hideIt (below_trans B2.out hb3 B2.out.size)
      clear hb3 x0 x1
      go_wp2
      go_ret
      exact ⟨ret_bool (by rw [E3.out]; rfl), B3.out⟩
end Go.Proofs.YtmeiionabonhnaaGreatDoor

namespace Go.Proofs.YtmeiionabonhnaaGreatDoor
open Go.RowKit
theorem hangs_succ (ps : List Den) (n : Nat) (d : Int) : hangs ps (n + 1) d = if d = 0 then true else if upD ps d < 0 then false else hangs ps n (upD ps d) := rfl
theorem hangs_none (ps : List Den) (d : Int) : hangs ps 0 d = false := rfl
theorem hang_step {ps : List Den} {k : Nat} {x : Int} (h : hangs ps (k + 1) x = true) (q : ¬ x = 0) : 0 ≤ upD ps x ∧ hangs ps k (upD ps x) = true := by
  rw [hangs_succ, if_neg q] at h
  by_cases r : upD ps x < 0
  · rw [if_pos r] at h; cases h
  · rw [if_neg r] at h; exact ⟨by omega, h⟩
theorem pimg_all {ws : List Ino} {ps : List Den} (h : imgB ws ps = true) : ws.length = 16 ∧ ps.length = 24 ∧ kindAt ws 0 = 2 ∧ okNs ws = true ∧ entsB ws ps = true ∧ linksB ws ps = true ∧ singB ws = true := by
  unfold imgB at h
  simp only [Bool.and_eq_true, decide_eq_true_eq, beq_iff_eq] at h
  exact h
theorem pimg_ent {ws : List Ino} {ps : List Den} (h : imgB ws ps = true) (i : Nat) (hi : i < ps.length) : (ps[i].child = -1 ∧ ps[i].name.size = 0) ∨ ((1 ≤ ps[i].child ∧ ps[i].child ≤ 15) ∧ (0 ≤ ps[i].dir ∧ ps[i].dir ≤ 15) ∧ nmB ps[i].name = true ∧ ¬ kindAt ws ps[i].child = 0 ∧ kindAt ws ps[i].dir = 2) := by
  obtain ⟨_, _, _, _, he, _, _⟩ := pimg_all h
  have e := (of_decide_eq_true he : ∀ i (h : i < ps.length), entOne ws ps i ps[i] = true) i hi
  unfold entOne at e
  split at e
  · rename_i c
    left
    refine ⟨c, ?_⟩
    unfold Den.freeB at e
    simp only [Bool.and_eq_true, beq_iff_eq] at e
    have := e.2.1
    first
      | exact this
      | simpa using this
      | (simp at this; rw [this]; rfl)
  · right
    simp only [Bool.and_eq_true, decide_eq_true_eq, Bool.not_eq_true', beq_eq_false_iff_ne, beq_iff_eq] at e
    exact ⟨e.1, e.2.1, e.2.2.1, e.2.2.2.1, e.2.2.2.2.1⟩
theorem pimg_hangs {ws : List Ino} {ps : List Den} (h : imgB ws ps = true) {i : Int} (h0 : 0 ≤ i ∧ i ≤ 15) (hk : kindAt ws i = 2) : hangs ps 16 i = true := by
  obtain ⟨hl, _, _, _, _, hL, _⟩ := pimg_all h
  obtain ⟨n, rfl⟩ : ∃ n : Nat, i = (n : Int) := ⟨i.toNat, by omega⟩
  have hn : n < ws.length := by omega
  have := (of_decide_eq_true hL : ∀ i (h : i < ws.length), linkB ps i ws[i] = true) n hn
  unfold linkB at this
  rw [kindAt_of hn] at hk
  simp only [Bool.and_eq_true, Bool.or_eq_true, decide_eq_true_eq] at this
  rcases this.2 with q | q
  · exact absurd hk q
  · exact q
end Go.Proofs.YtmeiionabonhnaaGreatDoor

namespace Go.Proofs.YtmeiionabonhnaaGreatDoor
open Go.RowKit
def mkB (l : List UInt8) : ByteArray := ⟨l.toArray⟩
theorem mkB_data (l : List UInt8) : (mkB l).data.toList = l := by simp [mkB]
theorem mkB_of (s : ByteArray) : mkB s.data.toList = s := by
  obtain ⟨⟨l⟩⟩ := s
  rfl
theorem bytes_ext {a b : ByteArray} (h : a.data.toList = b.data.toList) : a = b := by rw [← mkB_of a, ← mkB_of b, h]
theorem mkB_extract (s : ByteArray) (a b : Nat) : mkB ((s.data.toList.take b).drop a) = s.extract a b := by
  apply bytes_ext
  rw [mkB_data, Lib.extract_data, List.drop_take]
def cutG (cur : List UInt8) : List UInt8 → List (List UInt8)
  | [] => [cur]
  | c :: l => if c = 47 then cur :: cutG [] l else cutG (cur ++ [c]) l
theorem cutG_nil (cur : List UInt8) : cutG cur [] = [cur] := rfl
theorem cutG_cons (cur : List UInt8) (c : UInt8) (l : List UInt8) : cutG cur (c :: l) = if c = 47 then cur :: cutG [] l else cutG (cur ++ [c]) l := rfl
theorem cutG_none : ∀ (l cur : List UInt8), (∀ c ∈ l, ¬ c = 47) → cutG cur l = [cur ++ l]
  | [], cur, _ => by rw [cutG_nil, List.append_nil]
  | c :: l, cur, h => by
    rw [cutG_cons, if_neg (h c (List.mem_cons_self ..)), cutG_none l _ (fun x hx => h x (List.mem_cons_of_mem _ hx)), List.append_assoc]
    rfl
theorem cutG_some : ∀ (l cur r : List UInt8), (∀ c ∈ l, ¬ c = 47) → cutG cur (l ++ 47 :: r) = (cur ++ l) :: cutG [] r
  | [], cur, r, _ => by rw [List.nil_append, cutG_cons, if_pos rfl, List.append_nil]
  | c :: l, cur, r, h => by
    rw [List.cons_append, cutG_cons, if_neg (h c (List.mem_cons_self ..)), cutG_some l _ r (fun x hx => h x (List.mem_cons_of_mem _ hx)), List.append_assoc]
    rfl
theorem cutG_head : ∀ (l cur : List UInt8), ∃ x r, cutG cur l = (cur ++ x) :: r
  | [], cur => ⟨[], [], by rw [cutG_nil, List.append_nil]⟩
  | c :: l, cur => by
    rw [cutG_cons]
    by_cases h : c = 47
    · rw [if_pos h]; exact ⟨[], _, by rw [List.append_nil]⟩
    · rw [if_neg h]
      obtain ⟨x, r, e⟩ := cutG_head l (cur ++ [c])
      exact ⟨c :: x, r, by rw [e, List.append_assoc]; rfl⟩
theorem cutG_len : ∀ (l cur : List UInt8), (cutG cur l).length ≤ l.length + 1
  | [], cur => by rw [cutG_nil]; simp
  | c :: l, cur => by
    rw [cutG_cons]
    split
    · have := cutG_len l []
      simp only [List.length_cons]; omega
    · have := cutG_len l (cur ++ [c])
      simp only [List.length_cons]; omega
def pcs (s : ByteArray) : List ByteArray := (cutG [] s.data.toList).map mkB
theorem pcs_len (s : ByteArray) : (pcs s).length ≤ s.size + 1 := by
  unfold pcs
  rw [List.length_map, Lib.size_eq]
  exact cutG_len _ _
end Go.Proofs.YtmeiionabonhnaaGreatDoor
