/- Several texts laid together: ImP, PaA, StA, PbA. -/
import Derived.Test.YtgnfbiohjdepcaaGreatDoorZAO
import Derived.Test.YtgnfbiohjdepcaaGreatDoorZAE
import Derived.Test.YtgnfbiohjdepcaaGreatDoorZAF
import Derived.Test.YtgnfbiohjdepcaaGreatDoorZAI
import Derived.Deep.DeepCutAuto
import Derived.Deep.RegionWith
import Derived.Deep.RegionHeld3
import Derived.Lib.Strings
import Derived.Lib.SplitLaws
import Derived.Lib.IndexBytes
namespace Go.Proofs.YtgnfbiohjdepcaaGreatDoor
open Go.RowKit
theorem implImageOK_any (v : Value) (ws : List Ino) (ps : List Den) (w : World) (h : RdIm w v ws ps) (hw : ws.length ≤ 1048576) (hp : ps.length ≤ 1048576) (hT : TS w) (hE : ED w) (hF : FD w) (hr : ∀ k (h : k < ws.length), ws[k].R) (hs : ∀ k (h : k < ps.length), ps[k].name.size ≤ maxLen) :
    Calls Tryz.prog 103 #[v] w fun e w' => e = .returned (.bool (imgB ws ps)) ∧ Below w.heap.size w w' := by
  rw [← pim_img]
  exact pimOK_any v ws ps w h hw hp hT hE hF hr hs
set_option maxRecDepth 100000 in
set_option maxHeartbeats 8000000 in
theorem specImageOK_any (v : Value) (ws : List Ino) (ps : List Den) (w : World) (h : RdIm w v ws ps) (hw : ws.length ≤ 1048576) (hp : ps.length ≤ 1048576) (hr : ∀ k (h : k < ws.length), ws[k].R) (hs : ∀ k (h : k < ps.length), ps[k].name.size ≤ maxLen) :
    Calls Tryz.prog 92 #[v] w fun e w' => e = .returned (.bool (imgB ws ps)) ∧ Below w.heap.size w w' := by
  have HRD := hideIt h
  have HR := hideIt hr
  have L1 := hideIt (fun w1 h => l05Links_any v ws ps w1 h hw hp)
  have L2 := hideIt (fun w1 h (hl : ws.length = 16) => l05Entries_any v ws ps w1 h hl hp hs)
  have L3 := hideIt (fun w1 h (hl : ws.length = 16) (o : okNs ws = true) => l05Single_any v ws ps w1 h hl (fun k hk z hz => tie_small (okNs_ties o k hk z hz)))
  obtain ⟨vW, vP, rfl, h1, h2⟩ := h
  obtain ⟨aW, cW, rfl, _, hcW⟩ := h1.shape
  obtain ⟨aP, cP, rfl, _, _⟩ := h2.shape
  have HW := hideIt hcW
  clear h1 h2 hr hs hcW
  have CA : Hid (∀ w', Below (w.alloc (.cells #[.slice aW ws.length cW, .slice aP ps.length cP] 62)).heap.size (w.alloc (.cells #[.slice aW ws.length cW, .slice aP ps.length cP] 62)) w' → w'.cell? ⟨w.heap.size, 0, none⟩ = some (.slice aW ws.length cW) ∧ w'.cell? ⟨w.heap.size, 1, none⟩ = some (.slice aP ps.length cP)) := fun w' hb => by
    have : w'.heap[w.heap.size]? = some (.cells #[.slice aW ws.length cW, .slice aP ps.length cP] 62 (0, 0)) := (hb.block _ (by simp)).trans (at_new rfl)
    exact ⟨(two_cells this).1, (two_cells this).2.1⟩
  have BW : Hid (Below w.heap.size w (w.alloc (.cells #[.slice aW ws.length cW, .slice aP ps.length cP] 62))) := (Below.refl _ _).alloc (Nat.le_refl _) _
  obtain ⟨x0, x1⟩ := CA.out _ (Below.refl _ _)
  have EI := hideIt (show imgB ws ps = (decide (ws.length = 16) && (decide (ps.length = 24) && (kindAt ws 0 == 2 && (okNs ws && (entsB ws ps && (linksB ws ps && singB ws)))))) from rfl)
  by_cases c1 : ws.length = 16
  case neg =>
    have E := hideIt (show imgB ws ps = false by rw [EI.out, decide_eq_false c1]; rfl)
    have q : ((ws.length : Int) != 16) = true := by rw [bne_iff_ne]; omega
    clear c1
    go_enter Tryz.func92, Tryz.ntmps92
    go_wp2
    go_ret
    exact ⟨ret_bool E.out.symm, BW.out⟩
  have q : ((ws.length : Int) != 16) = false := by rw [c1]; rfl
  by_cases c2 : ps.length = 24
  case neg =>
    have E := hideIt (show imgB ws ps = false by rw [EI.out, decide_eq_false c2, Bool.false_and, Bool.and_false])
    have q2 : ((ps.length : Int) != 24) = true := by rw [bne_iff_ne]; omega
    clear c1 c2
    go_enter Tryz.func92, Tryz.ntmps92
    go_wp2
    go_ret
    exact ⟨ret_bool E.out.symm, BW.out⟩
  have q2 : ((ps.length : Int) != 24) = false := by rw [c2]; rfl
  obtain ⟨bW, oW, rfl, hblW, hcellW⟩ := HW.out (by omega)
  have HK := (hcellW 0 (by omega)).1
  rw [show ws[0].kind = kindAt ws 0 from (kindAt_of (i := 0) (by omega)).symm] at HK
  simp only [Nat.zero_mul, Nat.add_zero] at HK
  have kk := (BW.out.cell (p := ⟨bW, oW, none⟩) hblW).trans HK
  have len16 : (0 : Int) < (ws.length : Int) := by omega
  have C1 := hideIt c1
  have E1 := hideIt (show imgB ws ps = (kindAt ws 0 == 2 && (okNs ws && (entsB ws ps && (linksB ws ps && singB ws)))) by rw [EI.out, decide_eq_true c1, decide_eq_true c2]; rfl)
  have HC := hideIt hcellW
  clear c1 c2 EI HK hcellW HW
  generalize kindAt ws 0 = k0 at *
  by_cases c3 : k0 = 2
  case neg =>
    have q3 : (k0 != 2) = true := by rw [bne_iff_ne]; exact c3
    have E := hideIt (show imgB ws ps = false by rw [E1.out, show (k0 == 2) = false by rw [beq_eq_false_iff_ne]; exact c3]; rfl)
    clear c3
    go_enter Tryz.func92, Tryz.ntmps92
    go_wp2
    go_ret
    exact ⟨ret_bool E.out.symm, BW.out⟩
  have q3 : (k0 != 2) = false := by rw [c3]; rfl
  have E2 := hideIt (show imgB ws ps = (okNs ws && (entsB ws ps && (linksB ws ps && singB ws))) by rw [E1.out, c3]; rfl)
  clear c3 E1
  go_enter Tryz.func92, Tryz.ntmps92
  go_wp2
  clear x0 x1 kk q q2 q3
  generalize w.alloc (.cells #[.slice (some ⟨bW, oW, none⟩) ws.length cW, .slice aP ps.length cP] 62) = W at *
  have hz : w.heap.size ≤ W.heap.size := BW.out.size
  go_loopw [3] (fun i wr => ∃ k : Nat, k ≤ ws.length ∧ i = .int .i64 k ∧ Hid (Below W.heap.size W wr ∧ ∀ j (h : j < ws.length), j < k → inoB ws[j] = true)) (fun i _ => ws.length - (intOf i).toNat)
  case atStart => exact ⟨0, by omega, rfl, Below.refl _ _, fun j h a => absurd a (by omega)⟩
  case round =>
    obtain ⟨k, hk, rfl, H⟩ := hrel
    have H1 := hideIt H.out.1
    have HF := hideIt (below_trans BW.out H.out.1 hz)
    obtain ⟨x0, x1⟩ := CA.out wr H.out.1
    by_cases hlt : k < ws.length
    · obtain ⟨a0, a1, a2, a3, a4, a5, a6, a7, a8, a9, a10⟩ := HC.out k hlt
      have d0 := (HF.out.cell (p := ⟨bW, oW + k * 11, none⟩) hblW).trans a0
      have d1 := (HF.out.cell (p := ⟨bW, oW + k * 11 + 1, none⟩) hblW).trans a1
      have d2 := (HF.out.cell (p := ⟨bW, oW + k * 11 + 2, none⟩) hblW).trans a2
      have d3 := (HF.out.cell (p := ⟨bW, oW + k * 11 + 3, none⟩) hblW).trans a3
      have d4 := (HF.out.cell (p := ⟨bW, oW + k * 11 + 4, none⟩) hblW).trans a4
      have d5 := (HF.out.cell (p := ⟨bW, oW + k * 11 + 5, none⟩) hblW).trans a5
      have d6 := (HF.out.cell (p := ⟨bW, oW + k * 11 + 6, none⟩) hblW).trans a6
      have d7 := (HF.out.cell (p := ⟨bW, oW + k * 11 + 7, none⟩) hblW).trans a7
      have d8 := (HF.out.cell (p := ⟨bW, oW + k * 11 + 8, none⟩) hblW).trans a8
      have d9 := (HF.out.cell (p := ⟨bW, oW + k * 11 + 9, none⟩) hblW).trans a9
      have d10 := (HF.out.cell (p := ⟨bW, oW + k * 11 + 10, none⟩) hblW).trans a10
      have k0' : (0 : Int) ≤ (k : Int) := by omega
      have k1 : (k : Int) < (ws.length : Int) := by omega
      have LI := hideIt (fun w1 => l05Inode_any ws[k] w1 (HR.out k hlt))
      have H2 : Hid (inoB ws[k] = true → ∀ j (h : j < ws.length), j < k + 1 → inoB ws[j] = true) := fun q j h a => by
        by_cases e : j = k
        · subst e; exact q
        · exact H.out.2 j h (by omega)
      have H3 := hideIt (fun q => okNs_not hlt q)
      clear a0 a1 a2 a3 a4 a5 a6 a7 a8 a9 a10 H
      generalize ws[k] = x at d0 d1 d2 d3 d4 d5 d6 d7 d8 d9 d10 LI H2 H3
      cases qq : inoB x with
      | true =>
        rw [qq] at LI
        have E := hideIt (H2.out qq)
        clear H2 H3 qq
        go_wp2_with fail
        refine (LI.out _).mono ?_
        rintro e w1 ⟨rfl, hb1⟩
        have B3 := hideIt (below_trans H1.out hb1 H1.out.size)
        clear hb1 d0 d1 d2 d3 d4 d5 d6 d7 d8 d9 d10 x0 x1
        go_wp2
        go_roundw
        case rel => exact ⟨k + 1, by omega, by go_num, B3.out, E.out⟩
        case measure => simp [intOf]; omega
      | false =>
        rw [qq] at LI
        have E := hideIt (show imgB ws ps = false by rw [E2.out, H3.out qq]; rfl)
        clear H2 H3 qq
        go_wp2_with fail
        refine (LI.out _).mono ?_
        rintro e w1 ⟨rfl, hb1⟩
        have B3 := hideIt (below_trans HF.out hb1 HF.out.size)
        clear hb1 d0 d1 d2 d3 d4 d5 d6 d7 d8 d9 d10 x0 x1
        go_wp2
        go_ret
        exact ⟨ret_bool E.out.symm, B3.out⟩
    · have O := hideIt (okNs_mk (fun j h => H.out.2 j h (by omega)))
      have E3 := hideIt (show imgB ws ps = (entsB ws ps && (linksB ws ps && singB ws)) by rw [E2.out, O.out]; rfl)
      clear H
      generalize entsB ws ps = f1 at *
      generalize linksB ws ps = f2 at *
      generalize singB ws = f3 at *
      go_wp2_with fail
      refine (L2.out _ (HRD.out.below HF.out) C1.out).mono ?_
      rintro e w1 ⟨rfl, hb1⟩
      have B1 := hideIt (below_trans HF.out hb1 HF.out.size)
      have BA := hideIt (below_trans H1.out hb1 H1.out.size)
      clear hb1 x0 x1
      cases f1 with
      | false =>
        go_wp2
        go_ret
        exact ⟨ret_bool (by rw [E3.out]; rfl), B1.out⟩
      | true =>
      obtain ⟨x0, x1⟩ := CA.out _ BA.out
      go_wp2_with fail
      refine (L1.out _ (HRD.out.below B1.out)).mono ?_
      rintro e w2 ⟨rfl, hb2⟩
      have B2 := hideIt (below_trans B1.out hb2 B1.out.size)
      have BB := hideIt (below_trans BA.out hb2 BA.out.size)
      clear hb2 x0 x1
      cases f2 with
      | false =>
        go_wp2
        go_ret
        exact ⟨ret_bool (by rw [E3.out]; rfl), B2.out⟩
      | true =>
      obtain ⟨x0, x1⟩ := CA.out _ BB.out
      go_wp2_with fail
      refine (L3.out _ (HRD.out.below B2.out) C1.out O.out).mono ?_
      rintro e w3 ⟨rfl, hb3⟩
      have B3 := hideIt (below_trans B2.out hb3 B2.out.size)
      clear hb3 x0 x1
      go_wp2
      go_ret
      exact ⟨ret_bool (by rw [E3.out]; rfl), B3.out⟩
end Go.Proofs.YtgnfbiohjdepcaaGreatDoor

namespace Go.Proofs.YtgnfbiohjdepcaaGreatDoor
open Go.RowKit
theorem pimg_all {ws : List Ino} {ps : List Den} (h : imgB ws ps = true) : ws.length = 16 ∧ ps.length = 24 ∧ kindAt ws 0 = 2 ∧ okNs ws = true ∧ entsB ws ps = true ∧ linksB ws ps = true ∧ singB ws = true := by
  unfold imgB at h
  simp only [Bool.and_eq_true, decide_eq_true_eq, beq_iff_eq] at h
  exact h
theorem pimg_ent {ws : List Ino} {ps : List Den} (h : imgB ws ps = true) (i : Nat) (hi : i < ps.length) : (ps[i].child = -1 ∧ ps[i].name.size = 0) ∨ ((1 ≤ ps[i].child ∧ ps[i].child ≤ 15) ∧ (0 ≤ ps[i].dir ∧ ps[i].dir ≤ 15) ∧ nmB ps[i].name = true ∧ ¬ kindAt ws ps[i].child = 0 ∧ kindAt ws ps[i].dir = 2) := by
  obtain ⟨_, _, _, _, he, _, _⟩ := pimg_all h
  have e := (of_decide_eq_true he : ∀ i (h : i < ps.length), entOne ws ps i ps[i] = true) i hi
  unfold entOne at e
  split at e
  · rename_i c
    left
    refine ⟨c, ?_⟩
    unfold Den.freeB at e
    simp only [Bool.and_eq_true, beq_iff_eq] at e
    have := e.2.1
    first
      | exact this
      | simpa using this
      | (simp at this; rw [this]; rfl)
  · right
    simp only [Bool.and_eq_true, decide_eq_true_eq, Bool.not_eq_true', beq_eq_false_iff_ne, beq_iff_eq] at e
    exact ⟨e.1, e.2.1, e.2.2.1, e.2.2.2.1, e.2.2.2.2.1⟩
end Go.Proofs.YtgnfbiohjdepcaaGreatDoor

namespace Go.Proofs.YtgnfbiohjdepcaaGreatDoor
open Go.RowKit
def strs (ss : List ByteArray) : List Value := ss.map Value.string
theorem strs_len (ss : List ByteArray) : (strs ss).length = ss.length := by simp [strs]
theorem strs_at (ss : List ByteArray) (k : Nat) (h : k < ss.length) : (strs ss)[k]? = some (.string ss[k]) := by simp [strs, h]
theorem strs_one (ss : List ByteArray) : ∀ u ∈ strs ss, u.oneCell' = true := by
  intro u hu
  simp only [strs, List.mem_map] at hu
  obtain ⟨s, _, rfl⟩ := hu
  rfl
def RdT (w : World) (v : Value) (ss : List ByteArray) : Prop := Rd w 1 v ss.length (strs ss)
theorem RdT.shape {w : World} {v : Value} {ss : List ByteArray} (h : RdT w v ss) : ∃ ao cap, v = .slice ao ss.length cap ∧ ss.length ≤ cap ∧ (0 < ss.length → ∃ b o, ao = some ⟨b, o, none⟩ ∧ b < w.heap.size ∧ ∀ k (h : k < ss.length), w.cell? ⟨b, o + k, none⟩ = some (.string ss[k])) := by
  obtain ⟨_, ao, cap, rfl, h2, h3⟩ := h
  refine ⟨ao, cap, rfl, h2.1, fun hn => ?_⟩
  obtain ⟨b, o, e, hb, hc⟩ := h3 hn
  exact ⟨b, o, e, hb, fun k hk => (hc k (by omega)).trans (strs_at ss k hk)⟩
theorem info9 : (Tryz.prog.info? 9).map (fun i => (i.zero, i.size, i.bytes)) = some (some (.string ⟨#[]⟩), 1, 16) := by kernel_rfl
theorem rd_str (w1 : World) (x : ByteArray) : Rd (w1.alloc (.cells #[.string x] 9)) 1 (.slice (some ⟨w1.heap.size, 0, none⟩) 1 1) 1 (strs [x]) := by
  refine ⟨rfl, _, _, rfl, ⟨Nat.le_refl _, fun e => by cases e⟩, fun _ => ⟨w1.heap.size, 0, rfl, by simp, fun j hj => ?_⟩⟩
  obtain rfl : j = 0 := by omega
  exact (eight_at (xs := [.string x]) (at_new rfl) 0).1
end Go.Proofs.YtgnfbiohjdepcaaGreatDoor
namespace Go.Proofs.YtgnfbiohjdepcaaGreatDoor
open Go.RowKit
structure SnI (W w : World) (vL : Value) (ss : List ByteArray) : Prop where
  l : w.ownsRow W.heap.size 9 1 vL ss.length (strs ss)
  b : Below W.heap.size W w
theorem SnI.z {W w : World} {vL : Value} {ss : List ByteArray} (h : SnI W w vL ss) : W.heap.size ≤ w.heap.size := h.b.size
theorem SnI.below {W w w' : World} {vL : Value} {ss : List ByteArray} (h : SnI W w vL ss) (hb : Below w.heap.size w w') : SnI W w' vL ss :=
  ⟨((own_block h.l).below hb (Nat.le_refl _)).1, below_trans h.b hb h.z⟩
theorem strs_app (l l' : List ByteArray) : strs (l ++ l') = strs l ++ strs l' := by simp [strs]
theorem SnI.grow {W w w' : World} {vL v' : Value} {ss : List ByteArray} (h : SnI W w vL ss) (l : List ByteArray) {m : Nat} (hm : m = l.length) (ho : w'.ownsRow W.heap.size 9 1 v' (ss.length + m) (strs ss ++ strs l)) (hg : w.grownBy w' vL.ownBlock) : SnI W w' v' (ss ++ l) :=
  ⟨by rw [strs_app, List.length_append, ← hm]; exact ho, h.b.grown hg h.z (fun q hq => (h.l.lt q hq).1)⟩
theorem SnI.rd {W w : World} {vL : Value} {ss : List ByteArray} (h : SnI W w vL ss) : RdT w vL ss := (own_block h.l).rd
theorem SnI.form {W w : World} {vL : Value} {ss : List ByteArray} (h : SnI W w vL ss) (hn : vL ≠ .slice none 0 0) : ∃ b c, vL = .slice (some ⟨b, 0, none⟩) ss.length c ∧ ss.length ≤ c ∧ W.heap.size ≤ b ∧ b < w.heap.size := by
  rcases (own_block h.l).shape with ⟨e, _⟩ | ⟨b, c, rfl, hc, _⟩
  · exact absurd e hn
  · obtain ⟨_, h1, _, h2, _⟩ := (own_block h.l).at
    exact ⟨b, c, rfl, hc, h1, h2⟩
theorem SnI.some_ {W w : World} {vL : Value} {ss : List ByteArray} (h : SnI W w vL ss) (hn : 0 < ss.length) : vL ≠ .slice none 0 0 := by
  rcases (own_block h.l).shape with ⟨_, e, _⟩ | ⟨b, c, rfl, _⟩
  · omega
  · intro e; cases e
theorem rdt_drop {w : World} {b o n c : Nat} {l : List ByteArray} {m : Nat} (h : RdT w (.slice (some ⟨b, o, none⟩) n c) l) (hm : m ≤ l.length) : Rd w 1 (.slice (some ⟨b, o + m, none⟩) (n - m) (c - m)) (n - m) (strs (l.drop m)) := by
  obtain ⟨ao, cap, e, hc, hcell⟩ := h.shape
  injection e with e1 e2 e3
  subst e1 e2 e3
  refine ⟨by rw [strs_len, Nat.mul_one, List.length_drop], some ⟨b, o + m, none⟩, c - m, rfl, ⟨by omega, fun e => by cases e⟩, fun hp => ?_⟩
  obtain ⟨b', o', e', hb, hcl⟩ := hcell (by omega)
  cases e'
  refine ⟨b, o + m, rfl, hb, fun j hj => ?_⟩
  rw [strs_at _ j (by rw [List.length_drop]; omega), List.getElem_drop]
  have := hcl (m + j) (by omega)
  rw [← Nat.add_assoc] at this
  exact this
end Go.Proofs.YtgnfbiohjdepcaaGreatDoor

namespace Go.Proofs.YtgnfbiohjdepcaaGreatDoor
open Go.RowKit
def mkB (l : List UInt8) : ByteArray := ⟨l.toArray⟩
theorem mkB_data (l : List UInt8) : (mkB l).data.toList = l := by simp [mkB]
theorem mkB_of (s : ByteArray) : mkB s.data.toList = s := by
  obtain ⟨⟨l⟩⟩ := s
  rfl
theorem bytes_ext {a b : ByteArray} (h : a.data.toList = b.data.toList) : a = b := by rw [← mkB_of a, ← mkB_of b, h]
theorem mkB_extract (s : ByteArray) (a b : Nat) : mkB ((s.data.toList.take b).drop a) = s.extract a b := by
  apply bytes_ext
  rw [mkB_data, Lib.extract_data, List.drop_take]
def cutG (cur : List UInt8) : List UInt8 → List (List UInt8)
  | [] => [cur]
  | c :: l => if c = 47 then cur :: cutG [] l else cutG (cur ++ [c]) l
theorem cutG_nil (cur : List UInt8) : cutG cur [] = [cur] := rfl
theorem cutG_cons (cur : List UInt8) (c : UInt8) (l : List UInt8) : cutG cur (c :: l) = if c = 47 then cur :: cutG [] l else cutG (cur ++ [c]) l := rfl
theorem cutG_none : ∀ (l cur : List UInt8), (∀ c ∈ l, ¬ c = 47) → cutG cur l = [cur ++ l]
  | [], cur, _ => by rw [cutG_nil, List.append_nil]
  | c :: l, cur, h => by
    rw [cutG_cons, if_neg (h c (List.mem_cons_self ..)), cutG_none l _ (fun x hx => h x (List.mem_cons_of_mem _ hx)), List.append_assoc]
    rfl
theorem cutG_some : ∀ (l cur r : List UInt8), (∀ c ∈ l, ¬ c = 47) → cutG cur (l ++ 47 :: r) = (cur ++ l) :: cutG [] r
  | [], cur, r, _ => by rw [List.nil_append, cutG_cons, if_pos rfl, List.append_nil]
  | c :: l, cur, r, h => by
    rw [List.cons_append, cutG_cons, if_neg (h c (List.mem_cons_self ..)), cutG_some l _ r (fun x hx => h x (List.mem_cons_of_mem _ hx)), List.append_assoc]
    rfl
theorem cutG_head : ∀ (l cur : List UInt8), ∃ x r, cutG cur l = (cur ++ x) :: r
  | [], cur => ⟨[], [], by rw [cutG_nil, List.append_nil]⟩
  | c :: l, cur => by
    rw [cutG_cons]
    by_cases h : c = 47
    · rw [if_pos h]; exact ⟨[], _, by rw [List.append_nil]⟩
    · rw [if_neg h]
      obtain ⟨x, r, e⟩ := cutG_head l (cur ++ [c])
      exact ⟨c :: x, r, by rw [e, List.append_assoc]; rfl⟩
theorem cutG_len : ∀ (l cur : List UInt8), (cutG cur l).length ≤ l.length + 1
  | [], cur => by rw [cutG_nil]; simp
  | c :: l, cur => by
    rw [cutG_cons]
    split
    · have := cutG_len l []
      simp only [List.length_cons]; omega
    · have := cutG_len l (cur ++ [c])
      simp only [List.length_cons]; omega
theorem cutG_pos (l cur : List UInt8) : 1 ≤ (cutG cur l).length := by
  obtain ⟨x, r, e⟩ := cutG_head l cur
  rw [e]; simp
theorem cutG_mem : ∀ (l cur x : List UInt8), x ∈ cutG cur l → x.length ≤ cur.length + l.length
  | [], cur, x, h => by rw [cutG_nil, List.mem_singleton] at h; rw [h]; simp
  | c :: l, cur, x, h => by
    rw [cutG_cons] at h
    split at h
    · rcases List.mem_cons.1 h with rfl | h
      · simp
      · have := cutG_mem l [] x h
        simp only [List.length_nil, List.length_cons] at *
        omega
    · have := cutG_mem l (cur ++ [c]) x h
      simp only [List.length_append, List.length_cons, List.length_nil] at *
      omega
theorem splitK_cut : ∀ (k : Nat) (l : List UInt8), Lib.count l [47] = k → Lib.splitK [47] 0 k l = cutG [] l
  | 0, l, h => by
    show [l] = _
    rw [Lib.count_one] at h
    rw [cutG_none l [] (fun c hc e => by subst e; have := List.count_pos_iff.2 hc; omega), List.nil_append]
  | k + 1, l, h => by
    have hm : (47 : UInt8) ∈ l := by
      rw [Lib.count_one] at h
      exact List.count_pos_iff.1 (by omega)
    have hge := Lib.indexByte_ge l 47
    have hi : Lib.index l [47] = Lib.indexByte l 47 := Lib.index_one l 47
    have hne : ¬ Lib.indexByte l 47 = -1 := fun e => by
      obtain ⟨j, hj, e2⟩ := List.getElem_of_mem hm
      exact Lib.indexByte_none e j (by rw [List.getElem?_eq_getElem hj, e2])
    obtain ⟨o, ho⟩ : ∃ o : Nat, Lib.indexByte l 47 = (o : Int) := ⟨(Lib.indexByte l 47).toNat, by omega⟩
    obtain ⟨h1, h2⟩ := Lib.indexByte_some ho
    have hol : o < l.length := (List.getElem?_eq_some_iff.1 h1).1
    have e0 : l = l.take o ++ 47 :: l.drop (o + 1) := by
      have hd : l.drop o = 47 :: l.drop (o + 1) := by
        rw [List.drop_eq_getElem_cons hol, (List.getElem?_eq_some_iff.1 h1).2]
      rw [← hd, List.take_append_drop]
    have hno : ∀ c ∈ l.take o, ¬ c = 47 := fun c hc e => by
      subst e
      obtain ⟨j, hj, e2⟩ := List.mem_take_iff_getElem.1 hc
      have hj := Nat.lt_min.1 hj
      exact h2 j hj.1 (by rw [List.getElem?_eq_getElem hj.2, e2])
    unfold Lib.splitK
    rw [hi, ho, if_neg (by simp), Int.toNat_natCast, Nat.add_zero]
    show l.take o :: Lib.splitK [47] 0 k (l.drop (o + 1)) = cutG [] l
    have hc : Lib.count (l.drop (o + 1)) [47] = k := by
      rw [Lib.count_one] at h ⊢
      have hz : (l.take o).count 47 = 0 := List.count_eq_zero.2 (fun hx => hno 47 hx rfl)
      rw [e0, List.count_append, hz, List.count_cons_self] at h
      omega
    rw [splitK_cut k _ hc]
    conv => rhs; rw [e0]
    rw [cutG_some _ _ _ hno, List.nil_append]
def pcs (s : ByteArray) : List ByteArray := (cutG [] s.data.toList).map mkB
theorem split_pcs (s : ByteArray) : Lib.splitB ⟨#[47]⟩ 0 (Lib.countB s ⟨#[47]⟩) s = pcs s := by
  have h := Lib.splitB_data ⟨#[47]⟩ 0 (Lib.countB s ⟨#[47]⟩) s
  have h2 := splitK_cut (Lib.countB s ⟨#[47]⟩) s.data.toList rfl
  unfold pcs
  rw [← h2]
  have h3 : Lib.splitK [47] 0 (Lib.countB s ⟨#[47]⟩) s.data.toList = (Lib.splitB ⟨#[47]⟩ 0 (Lib.countB s ⟨#[47]⟩) s).map (·.data.toList) := h.symm
  rw [h3, List.map_map]
  have : (mkB ∘ fun x : ByteArray => x.data.toList) = id := funext fun x => mkB_of x
  rw [this, List.map_id]
theorem pcs_len (s : ByteArray) : (pcs s).length ≤ s.size + 1 := by
  unfold pcs
  rw [List.length_map, Lib.size_eq]
  exact cutG_len _ _
theorem pcs_pos (s : ByteArray) : 1 ≤ (pcs s).length := by unfold pcs; rw [List.length_map]; exact cutG_pos _ _
theorem pcs_size (s : ByteArray) : ∀ k (h : k < (pcs s).length), (pcs s)[k].size ≤ s.size := by
  intro k hk
  have hm : (pcs s)[k] ∈ (cutG [] s.data.toList).map mkB := List.getElem_mem hk
  obtain ⟨x, hx, e⟩ := List.mem_map.1 hm
  have := cutG_mem _ _ _ hx
  rw [← e, Lib.size_eq, mkB_data, Lib.size_eq]
  simpa using this
theorem count_pcs (s : ByteArray) : Lib.countB s ⟨#[47]⟩ + 1 = (pcs s).length := by
  rw [← split_pcs, Lib.splitB_all ⟨#[47]⟩ (by decide) 0 _ s rfl]
theorem pcs_slash {s : ByteArray} {l : List UInt8} (h : s.data.toList = 47 :: l) : pcs s = mkB [] :: pcs (mkB l) := by
  unfold pcs
  rw [h, cutG_cons, if_pos rfl, mkB_data]
  rfl
theorem pcs_other {s : ByteArray} {c : UInt8} {l : List UInt8} (h : s.data.toList = c :: l) (hc : ¬ c = 47) : ∃ x r, pcs s = x :: r ∧ ¬ x.size = 0 := by
  unfold pcs
  rw [h, cutG_cons, if_neg hc, List.nil_append]
  obtain ⟨x, r, e⟩ := cutG_head l [c]
  refine ⟨mkB ([c] ++ x), r.map mkB, by rw [e]; rfl, ?_⟩
  rw [Lib.size_eq, mkB_data]; simp
theorem pcs_none {s : ByteArray} (h : s.data.toList = []) : pcs s = [mkB []] := by
  unfold pcs
  rw [h]
  rfl
end Go.Proofs.YtgnfbiohjdepcaaGreatDoor
