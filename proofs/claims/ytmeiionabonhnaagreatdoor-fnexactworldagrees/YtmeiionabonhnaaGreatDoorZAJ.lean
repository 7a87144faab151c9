/- Several texts laid together: BlkOKI, BlkRead, MicO, MiL, FsE, MiT. -/
import Derived.Test.YtmeiionabonhnaaGreatDoorZAH
import Derived.Test.YtmeiionabonhnaaGreatDoorZAI
import Derived.Deep.RegionWith
import Derived.Deep.DeepCutAuto
import Derived.Deep.RegionLaw
import Derived.Test.YtmeiionabonhnaaGreatDoorZAB
import Derived.Test.YtmeiionabonhnaaGreatDoorZAF
import Derived.Test.YtmeiionabonhnaaGreatDoorZAD
import Derived.Deep.RegionHeld3
namespace Go.Proofs.YtmeiionabonhnaaGreatDoor
open Go.RowKit
def seB (s : Se) : Bool := secB s.at_ && wordB s.val
theorem seB_true {s : Se} (h : seB s = true) : secB s.at_ = true ∧ wordB s.val = true := by unfold seB at h; simpa using h
theorem seB_false {s : Se} {p : Prop} (h : seB s = false) (h1 : secB s.at_ = false → p) (h2 : wordB s.val = false → p) : p := by
  unfold seB at h
  rw [Bool.and_eq_false_iff] at h
  exact h.elim h1 h2
def sesB (ps : List Se) : Bool := decide (∀ k (h : k < ps.length), seB ps[k] = true)
theorem sesB_true {ps : List Se} (h : sesB ps = true) : ∀ k (h : k < ps.length), seB ps[k] = true := of_decide_eq_true h
theorem sesB_mk {ps : List Se} (h : ∀ k (h : k < ps.length), seB ps[k] = true) : sesB ps = true := decide_eq_true h
theorem sesB_not {ps : List Se} {k : Nat} (hk : k < ps.length) (h : seB ps[k] = false) : sesB ps = false := decide_eq_false (fun x => by have := x k hk; rw [h] at this; cases this)
theorem sesB_ex {ps : List Se} (h : sesB ps = false) : ∃ k, ∃ h : k < ps.length, seB ps[k] = false := by
  apply Classical.byContradiction
  intro hn
  have : sesB ps = true := sesB_mk (fun k hk => by
    cases e : seB ps[k] with
    | true => rfl
    | false => exact absurd ⟨k, hk, e⟩ hn)
  rw [h] at this
  cases this
set_option maxHeartbeats 1000000 in
theorem isWrite_any (s : Se) (w : World) : Calls Tryz.prog 228 #[.agg #[.int .i64 s.at_, .int .i64 s.val]] w fun e w' => e = .returned (.bool (seB s)) ∧ Below w.heap.size w w' := by
  have hb0 : Below w.heap.size w (w.alloc (.cells #[.int .i64 s.at_, .int .i64 s.val] 276)) := (Below.refl _ _).alloc (Nat.le_refl _) _
  by_cases q : secB s.at_ = true
  · have E := hideIt (show seB s = wordB s.val by unfold seB; rw [q]; rfl)
    have Q := hideIt q
    clear q
    go_enter Tryz.func228, Tryz.ntmps228
    go_wp2_with (first | (go_at_call 268; refine (isSector_any _ _).mono ?_; rw [Q.out]; rintro e w' ⟨rfl, rfl⟩) | (go_at_call 124; refine (isWord_any _ _).mono ?_; rintro e w' ⟨rfl, rfl⟩))
    go_ret
    exact ⟨ret_bool E.out.symm, hb0⟩
  · have q' : secB s.at_ = false := by simpa using q
    have E := hideIt (show seB s = false by unfold seB; rw [q']; rfl)
    have Q := hideIt q'
    clear q q'
    go_enter Tryz.func228, Tryz.ntmps228
    go_wp2_with (go_at_call 268; refine (isSector_any _ _).mono ?_; rw [Q.out]; rintro e w' ⟨rfl, rfl⟩)
    go_ret
    exact ⟨ret_bool E.out.symm, hb0⟩
set_option maxHeartbeats 4000000 in
theorem everyWrite_any (v : Value) (ps : List Se) (w : World) (h : RdE w v ps) (hn : ps.length ≤ 1048576) :
    Calls Tryz.prog 227 #[v, .func (.func 228) #[] #[]] w fun e w' => e = .returned (.bool (sesB ps)) ∧ Below w.heap.size w w' := by
  obtain ⟨aP, cP, rfl, _, hcP⟩ := h.shape
  clear h
  go_enter Tryz.func227, Tryz.ntmps227
  go_wp2
  go_loopw [6, 9] (fun _ i wr => ∃ k : Nat, k ≤ ps.length ∧ i = .int .i64 k ∧ Hid (∀ j (h : j < ps.length), j < k → seB ps[j] = true) ∧ Below w.heap.size w wr) (fun _ i _ => ps.length - (intOf i).toNat)
  case atStart => exact ⟨0, by omega, rfl, fun j h a => absurd a (by omega), Below.refl _ _⟩
  case round =>
    obtain ⟨m, hm, rfl, H, hbw⟩ := hrel
    have hz := hbw.size
    by_cases hlt2 : m < ps.length
    · obtain ⟨b2, o2, rfl, hbl2, hcell2⟩ := hcP (by omega)
      obtain ⟨d0, d1⟩ := hcell2 m hlt2
      have e0 := (hbw.cell (p := ⟨b2, o2 + m * 2, none⟩) hbl2).trans d0
      have e1 := (hbw.cell (p := ⟨b2, o2 + m * 2 + 1, none⟩) hbl2).trans d1
      have hb1 := hideIt (hbw.alloc hz (.cells #[.int .i64 ps[m].at_, .int .i64 ps[m].val] 276))
      clear d0 d1 hcell2 hcP
      by_cases q : seB ps[m] = true
      · have Q := hideIt q
        clear q
        go_wp2_with (go_at_call 228; refine (isWrite_any ps[m] _).mono ?_; rw [Q.out]; rintro e w' ⟨rfl, hw'⟩)
        have hw2 := hb1.out.trans (hw'.mono (by simp; omega))
        clear hb1 hw'
        go_roundw
        case rel =>
          refine ⟨m + 1, by omega, by go_num, fun j h a => ?_, hw2⟩
          by_cases e : j = m
          · subst e; exact Q.out
          · exact H.out j h (by omega)
        case measure => simp [intOf]; omega
      · have Q := hideIt (show seB ps[m] = false by simpa using q)
        have E := hideIt (sesB_not hlt2 Q.out)
        clear q
        go_wp2_with (go_at_call 228; refine (isWrite_any ps[m] _).mono ?_; rw [Q.out]; rintro e w' ⟨rfl, hw'⟩)
        have hw2 := hb1.out.trans (hw'.mono (by simp; omega))
        go_ret
        exact ⟨ret_bool E.out.symm, hw2⟩
    · have E := hideIt (sesB_mk (fun j h => H.out j h (by omega)))
      go_wp2
      go_ret
      exact ⟨ret_bool E.out.symm, hbw⟩
set_option maxHeartbeats 4000000 in
theorem implBlkOK_any (v : Value) (ws : List Int) (ps : List Se) (w : World) (h : RdBlk w v ws ps) (hw : ws.length ≤ 1048576) (hp : ps.length ≤ 1048576) :
    Calls Tryz.prog 171 #[v] w fun e w' => e = .returned (.bool (blkB ws ps)) ∧ Below w.heap.size w w' := by
  obtain ⟨vW, vP, rfl, h1, h2⟩ := h
  obtain ⟨aW, cW, rfl, _, hcW⟩ := h1.shape
  obtain ⟨aP, cP, rfl, _, hcP⟩ := h2.shape
  have H1 := hideIt h1
  have H2 := hideIt h2
  clear h1 h2 hcW hcP
  have hb0 : Below w.heap.size w (w.alloc (.cells #[.slice aW ws.length cW, .slice aP ps.length cP] 69)) := (Below.refl _ _).alloc (Nat.le_refl _) _
  have HB := hideIt hb0
  by_cases c1 : ws.length = 32
  case neg =>
    have E := hideIt (blkB_len1 (ps := ps) c1)
    have c1' : ((ws.length : Int) == 32) = false := by rw [beq_eq_false_iff_ne]; omega
    clear c1
    go_enter Tryz.func171, Tryz.ntmps171
    go_wp2
    go_ret
    exact ⟨ret_bool E.out.symm, HB.out⟩
  have c1n : ((ws.length : Int) == 32) = true := by simp; omega
  have C1 := hideIt c1
  clear c1
  by_cases c2 : 400 < ps.length
  · have E := hideIt (blkB_len2 (ws := ws) c2)
    have c2' : decide ((ps.length : Int) ≤ 400) = false := by simp; omega
    go_enter Tryz.func171, Tryz.ntmps171
    go_wp2
    go_ret
    exact ⟨ret_bool E.out.symm, HB.out⟩
  by_cases c3 : wordsB ws = true
  case neg =>
    have c3' : wordsB ws = false := by simpa using c3
    obtain ⟨k, hk, hkf⟩ := wordsB_ex c3'
    have E := hideIt (blkB_w (ps := ps) hk hkf)
    have W0 := hideIt c3'
    clear c3 c3' hkf hk
    go_enter Tryz.func171, Tryz.ntmps171
    go_wp2_with (go_at_call 123; refine (everyWord_any _ ws _ (Rd.below H1.out HB.out) (by omega)).mono ?_; rw [W0.out]; rintro e w' ⟨rfl, rfl⟩)
    go_ret
    exact ⟨ret_bool E.out.symm, HB.out⟩
  have HW := hideIt (wordsB_true c3)
  have W1 := hideIt c3
  clear c3
  cases c4 : sesB ps with
  | true =>
    have E := hideIt (blkB_mk C1.out (by omega) HW.out (fun j h => seB_true (sesB_true c4 j h)))
    have W2 := hideIt c4
    clear c4
    go_enter Tryz.func171, Tryz.ntmps171
    go_wp2_with (first | (go_at_call 123; refine (everyWord_any _ ws _ (Rd.below H1.out HB.out) (by omega)).mono ?_; rw [W1.out]; rintro e w' ⟨rfl, rfl⟩) | (go_at_call 227; refine (everyWrite_any _ ps _ (Rd.below H2.out HB.out) (by omega)).mono ?_; rw [W2.out]; rintro e w' ⟨rfl, hw'⟩))
    go_ret
    exact ⟨ret_bool E.out.symm, HB.out.trans (hw'.mono (by simp))⟩
  | false =>
    obtain ⟨k, hk, hkf⟩ := sesB_ex c4
    have E := hideIt (show blkB ws ps = false from seB_false hkf (blkB_a (ws := ws) hk) (blkB_v (ws := ws) hk))
    have W2 := hideIt c4
    clear c4 hk hkf
    go_enter Tryz.func171, Tryz.ntmps171
    go_wp2_with (first | (go_at_call 123; refine (everyWord_any _ ws _ (Rd.below H1.out HB.out) (by omega)).mono ?_; rw [W1.out]; rintro e w' ⟨rfl, rfl⟩) | (go_at_call 227; refine (everyWrite_any _ ps _ (Rd.below H2.out HB.out) (by omega)).mono ?_; rw [W2.out]; rintro e w' ⟨rfl, hw'⟩))
    go_ret
    exact ⟨ret_bool E.out.symm, HB.out.trans (hw'.mono (by simp))⟩
end Go.Proofs.YtmeiionabonhnaaGreatDoor

namespace Go.Proofs.YtmeiionabonhnaaGreatDoor
open Go.RowKit
def askE (ws : List Int) (ps : List Se) (at_ : Int) : Int := if blkB ws ps = false then 1 else if secB at_ = false then 14 else 0
theorem askE_bad {ws : List Int} {ps : List Se} {at_ : Int} (h : blkB ws ps = false) : askE ws ps at_ = 1 := by unfold askE; rw [if_pos h]
theorem askE_place {ws : List Int} {ps : List Se} {at_ : Int} (h : blkB ws ps = true) (h2 : secB at_ = false) : askE ws ps at_ = 14 := by unfold askE; rw [if_neg (by rw [h]; simp), if_pos h2]
theorem askE_ok {ws : List Int} {ps : List Se} {at_ : Int} (h : blkB ws ps = true) (h2 : secB at_ = true) : askE ws ps at_ = 0 := by unfold askE; rw [if_neg (by rw [h]; simp), if_neg (by rw [h2]; simp)]
set_option maxHeartbeats 1000000 in
theorem sectorFault_any (v : Value) (ws : List Int) (ps : List Se) (at_ : Int) (w : World) (h : RdBlk w v ws ps) (hw : ws.length ≤ 1048576) (hp : ps.length ≤ 1048576) :
    Calls Tryz.prog 272 #[v, .int .i64 at_] w fun e w' => e = .returned (.int .i64 (askE ws ps at_)) ∧ Below w.heap.size w w' := by
  have HR := hideIt h
  obtain ⟨vW, vP, rfl, h1, h2⟩ := h
  obtain ⟨aW, cW, rfl, _⟩ := h1.shape
  obtain ⟨aP, cP, rfl, _⟩ := h2.shape
  clear h1 h2
  have hb0 : Below w.heap.size w (w.alloc (.cells #[.slice aW ws.length cW, .slice aP ps.length cP] 69)) := (Below.refl _ _).alloc (Nat.le_refl _) _
  by_cases c1 : blkB ws ps = true
  · by_cases c2 : secB at_ = true
    · rw [askE_ok c1 c2]
      go_enter Tryz.func272, Tryz.ntmps272
      go_wp2_with (first | (go_at_call 171; refine (implBlkOK_any _ ws ps _ (HR.out.below hb0) hw hp).mono ?_; rintro e w1 ⟨rfl, hb1⟩) | (go_at_call 268; refine (isSector_any _ _).mono ?_; rintro e w2 ⟨rfl, rfl⟩))
      go_ret
      exact ⟨rfl, below_trans hb0 hb1 (by simp)⟩
    · have c2' : secB at_ = false := by simpa using c2
      rw [askE_place c1 c2']
      clear c2
      go_enter Tryz.func272, Tryz.ntmps272
      go_wp2_with (first | (go_at_call 171; refine (implBlkOK_any _ ws ps _ (HR.out.below hb0) hw hp).mono ?_; rintro e w1 ⟨rfl, hb1⟩) | (go_at_call 268; refine (isSector_any _ _).mono ?_; rintro e w2 ⟨rfl, rfl⟩))
      go_ret
      exact ⟨rfl, below_trans hb0 hb1 (by simp)⟩
  · have c1' : blkB ws ps = false := by simpa using c1
    rw [askE_bad c1']
    clear c1
    go_enter Tryz.func272, Tryz.ntmps272
    go_wp2_with (first | (go_at_call 171; refine (implBlkOK_any _ ws ps _ (HR.out.below hb0) hw hp).mono ?_; rintro e w1 ⟨rfl, hb1⟩) | (go_at_call 268; refine (isSector_any _ _).mono ?_; rintro e w2 ⟨rfl, rfl⟩))
    go_ret
    exact ⟨rfl, below_trans hb0 hb1 (by simp)⟩
def lastE (at_ d : Int) (ps : List Se) : Int := ps.foldl (fun acc p => if p.at_ = at_ then p.val else acc) d
theorem lastE_none {at_ d : Int} : ∀ {ps : List Se}, (∀ p ∈ ps, ¬ p.at_ = at_) → lastE at_ d ps = d
  | [], _ => rfl
  | p :: ps, h => by
    show lastE at_ (if p.at_ = at_ then p.val else d) ps = d
    rw [if_neg (h p (by simp))]
    exact lastE_none (fun q hq => h q (by simp [hq]))
theorem lastE_append (at_ d : Int) (ps qs : List Se) : lastE at_ d (ps ++ qs) = lastE at_ (lastE at_ d ps) qs := by simp [lastE]
theorem lastE_hit {at_ d : Int} {ps : List Se} {k : Nat} (hk : k < ps.length) (h : ps[k].at_ = at_) (ha : ∀ j (hj : j < ps.length), k < j → ¬ ps[j].at_ = at_) : lastE at_ d ps = ps[k].val := by
  have e : ps = ps.take k ++ (ps[k] :: ps.drop (k + 1)) := by rw [← List.drop_eq_getElem_cons hk, List.take_append_drop]
  conv => lhs; rw [e]
  rw [lastE_append]
  show lastE at_ (if ps[k].at_ = at_ then ps[k].val else _) (ps.drop (k + 1)) = _
  rw [if_pos h]
  apply lastE_none
  intro p hp
  obtain ⟨i, hi, rfl⟩ := List.getElem_of_mem hp
  rw [List.getElem_drop]
  exact ha _ _ (by omega)
set_option maxHeartbeats 2000000 in
theorem l02Read_any (v : Value) (ws : List Int) (ps : List Se) (at_ : Nat) (w : World) (h : RdBlk w v ws ps) (hw : ws.length ≤ 1048576) (hp : ps.length ≤ 1048576) (ha : at_ < ws.length) :
    Calls Tryz.prog 206 #[v, .int .i64 (at_ : Int)] w fun e w' => e = .returned (.int .i64 (lastE (at_ : Int) ws[at_] ps)) ∧ Below w.heap.size w w' := by
  obtain ⟨vW, vP, rfl, h1, h2⟩ := h
  obtain ⟨aW, cW, rfl, _, hcW⟩ := h1.shape
  obtain ⟨aP, cP, rfl, _, hcP⟩ := h2.shape
  clear h1 h2
  obtain ⟨bW, oW, rfl, hbW, hcellW⟩ := hcW (by omega)
  have hb0 : Below w.heap.size w (w.alloc (.cells #[.slice (some ⟨bW, oW, none⟩) ws.length cW, .slice aP ps.length cP] 69)) := (Below.refl _ _).alloc (Nat.le_refl _) _
  have hcw := (hb0.cell (p := ⟨bW, oW + at_, none⟩) hbW).trans (hcellW at_ ha)
  clear hcW hcellW
  go_enter Tryz.func206, Tryz.ntmps206
  go_wp2
  go_loop [5] (fun i => ∃ k : Nat, k ≤ ps.length ∧ i = .int .i64 ((k : Int) - 1) ∧ Hid (∀ j (h : j < ps.length), k ≤ j → ¬ ps[j].at_ = (at_ : Int))) (fun i => (intOf i + 1).toNat)
  case atStart => exact ⟨ps.length, Nat.le_refl _, rfl, fun j h a => absurd h (by omega)⟩
  case round =>
    obtain ⟨k, hk, rfl, H⟩ := hrel
    cases k with
    | zero =>
      have E := hideIt (lastE_none (d := ws[at_]) (fun p hp => by obtain ⟨i, hi, rfl⟩ := List.getElem_of_mem hp; exact H.out i hi (by omega)))
      clear H hcP
      go_wp2
      go_ret
      exact ⟨ret_int E.out.symm, hb0⟩
    | succ m =>
      have em : (((m + 1 : Nat) : Int) - 1) = (m : Int) := by omega
      rw [em]
      clear em
      obtain ⟨b, o, rfl, hbl, hcell⟩ := hcP (by omega)
      obtain ⟨d0, d1⟩ := hcell m (by omega)
      have e0 := (hb0.cell (p := ⟨b, o + m * 2, none⟩) hbl).trans d0
      have e1 := (hb0.cell (p := ⟨b, o + m * 2 + 1, none⟩) hbl).trans d1
      clear d0 d1 hcell hcP
      have hm : m < ps.length := by omega
      by_cases c : ps[m].at_ = (at_ : Int)
      · have c' : (ps[m].at_ == (at_ : Int)) = true := by simpa using c
        have E := hideIt (lastE_hit (d := ws[at_]) hm c (fun j hj hlt => H.out j hj (by omega)))
        clear H c
        go_wp2
        go_ret
        exact ⟨ret_int E.out.symm, hb0⟩
      · have c' : (ps[m].at_ == (at_ : Int)) = false := by simpa using c
        have C := hideIt c
        clear c
        go_wp2
        go_round
        case rel =>
          refine ⟨m, by omega, by go_num, fun j hj hle => ?_⟩
          by_cases e : j = m
          · subst e; exact C.out
          · exact H.out j hj (by omega)
        case measure => simp [intOf] <;> omega
def readV (ws : List Int) (ps : List Se) (at_ : Int) : Int := if askE ws ps at_ = 0 then lastE at_ (ws[at_.toNat]?.getD 0) ps else 0
theorem readV_not {ws : List Int} {ps : List Se} {at_ : Int} (h : ¬ askE ws ps at_ = 0) : readV ws ps at_ = 0 := by unfold readV; rw [if_neg h]
theorem readV_ok {ws : List Int} {ps : List Se} {k : Nat} (h : askE ws ps (k : Int) = 0) (hk : k < ws.length) : readV ws ps (k : Int) = lastE (k : Int) ws[k] ps := by
  unfold readV; rw [if_pos h]; simp [hk]
theorem askE_cases (ws : List Int) (ps : List Se) (at_ : Int) : (askE ws ps at_ = 1 ∨ askE ws ps at_ = 14) ∨ (askE ws ps at_ = 0 ∧ blkB ws ps = true ∧ ∃ k : Nat, at_ = (k : Int) ∧ k < 32 ∧ k < ws.length) := by
  by_cases c1 : blkB ws ps = true
  · by_cases c2 : secB at_ = true
    · have := secB_true c2
      have hl := (blkB_len c1).1
      exact .inr ⟨askE_ok c1 c2, c1, at_.toNat, by omega, by omega, by omega⟩
    · exact .inl (.inr (askE_place c1 (by simpa using c2)))
  · exact .inl (.inl (askE_bad (by simpa using c1)))
end Go.Proofs.YtmeiionabonhnaaGreatDoor

namespace Go.Proofs.YtmeiionabonhnaaGreatDoor
open Go.RowKit
def putR (w : World) (bR : Nat) (a b c d : Value) : World := (((w.setCell ⟨bR, 0, none⟩ a).setCell ⟨bR, 1, none⟩ b).setCell ⟨bR, 2, none⟩ c).setCell ⟨bR, 3, none⟩ d
end Go.Proofs.YtmeiionabonhnaaGreatDoor

namespace Go.Proofs.YtmeiionabonhnaaGreatDoor
open Go.RowKit
def Mi.cells (s : Mi) : List Value := [.int .i64 s.kind, .int .i64 s.at_, .int .i64 s.val]
def mis (ps : List Mi) : List Value := ps.flatMap Mi.cells
theorem Mi.cells_len (s : Mi) : s.cells.length = 3 := rfl
theorem mis_len (ps : List Mi) : (mis ps).length = ps.length * 3 := flatMap_len _ 3 Mi.cells_len ps
theorem mis_at0 (ps : List Mi) (k : Nat) (h : k < ps.length) : (mis ps)[k * 3]? = some (.int .i64 ps[k].kind) := flatMap_at _ 3 Mi.cells_len ps k 0 h (by omega)
theorem mis_at1 (ps : List Mi) (k : Nat) (h : k < ps.length) : (mis ps)[k * 3 + 1]? = some (.int .i64 ps[k].at_) := flatMap_at _ 3 Mi.cells_len ps k 1 h (by omega)
theorem mis_at2 (ps : List Mi) (k : Nat) (h : k < ps.length) : (mis ps)[k * 3 + 2]? = some (.int .i64 ps[k].val) := flatMap_at _ 3 Mi.cells_len ps k 2 h (by omega)
def RdM (w : World) (v : Value) (ps : List Mi) : Prop := Rd w 3 v ps.length (mis ps)
theorem RdM.shape {w : World} {v : Value} {ps : List Mi} (h : RdM w v ps) : ∃ ao cap, v = .slice ao ps.length cap ∧ ps.length ≤ cap ∧ (0 < ps.length → ∃ b o, ao = some ⟨b, o, none⟩ ∧ b < w.heap.size ∧
    ∀ k (h : k < ps.length), w.cell? ⟨b, o + k * 3, none⟩ = some (.int .i64 ps[k].kind) ∧ w.cell? ⟨b, o + k * 3 + 1, none⟩ = some (.int .i64 ps[k].at_) ∧ w.cell? ⟨b, o + k * 3 + 2, none⟩ = some (.int .i64 ps[k].val)) := by
  obtain ⟨_, ao, cap, rfl, h2, h3⟩ := h
  refine ⟨ao, cap, rfl, h2.1, fun hn => ?_⟩
  obtain ⟨b, o, rfl, hb, hc⟩ := h3 hn
  exact ⟨b, o, rfl, hb, fun k hk => ⟨(hc (k * 3) (by omega)).trans (mis_at0 ps k hk), (hc (k * 3 + 1) (by omega)).trans (mis_at1 ps k hk), (hc (k * 3 + 2) (by omega)).trans (mis_at2 ps k hk)⟩⟩
theorem infoMic : (Tryz.prog.info? 206).map (fun i => (i.zero, i.size, i.bytes)) = some (some (.agg #[.int .i64 0, .int .i64 0, .int .i64 0]), 3, 24) := by kernel_rfl
set_option maxHeartbeats 1000000 in
theorem toMic_any (a v : Int) (f : Int) (w : World) : Calls Tryz.prog 150 #[.agg #[.int .i64 a, .int .i64 v, .int .i64 f]] w fun e w' => e = .returned (.agg #[.int .i64 a, .int .i64 v, .int .i64 f]) ∧ Below w.heap.size w w' := by
  go_enter Tryz.func150, Tryz.ntmps150
  go_wp2
  refine bodyPost_ret (v := .agg #[.int .i64 a, .int .i64 v, .int .i64 f]) (by simp [results, Tryz.results150, go_sem]) rfl ⟨rfl, ?_⟩
  repeat (refine Below.alloc ?_ (by simp <;> omega) _)
  exact Below.refl _ _
theorem put3M_step {ys : List Value} {ps : List Mi} {k : Nat} (hk : k < ps.length) (hl : ys.length = ps.length * 3) (h : ∀ j, j < k * 3 → ys[j]? = (mis ps)[j]?) :
    ∀ j, j < (k + 1) * 3 → (put3 ys k (.int .i64 ps[k].kind) (.int .i64 ps[k].at_) (.int .i64 ps[k].val))[j]? = (mis ps)[j]? := by
  intro j hj
  rw [put3_at (by omega)]
  split
  · rename_i e; rw [e, mis_at2 ps k hk]
  · split
    · rename_i e; rw [e, mis_at1 ps k hk]
    · split
      · rename_i e; rw [e, mis_at0 ps k hk]
      · exact h j (by omega)
theorem mis_all {ys : List Value} {ps : List Mi} (hl : ys.length = ps.length * 3) (h : ∀ j, j < ps.length * 3 → ys[j]? = (mis ps)[j]?) : ys = mis ps := by
  apply List.ext_getElem?
  intro j
  by_cases hj : j < ps.length * 3
  · exact h j hj
  · rw [List.getElem?_eq_none (by omega), List.getElem?_eq_none (by rw [mis_len]; omega)]
set_option maxHeartbeats 1000000 in
theorem toMicroS_any (v : Value) (ps : List Mi) (w : World) (h : RdM w v ps) (hn : ps.length ≤ 1048576) :
    Calls Tryz.prog 98 #[v] w fun e w' => ∃ v', e = .returned v' ∧ Row w' 206 3 w.heap.size w'.heap.size v' ps.length (mis ps) ∧ Below w.heap.size w w' := by
  obtain ⟨ao, cap, rfl, hcap, hc⟩ := h.shape
  clear h
  have hmk := run_make_rows (P := Tryz.prog) 72 206 (.agg #[.int .i64 0, .int .i64 0, .int .i64 0]) 3 24 Tryz.underlying72 infoMic .i64 .i64 ps.length (by omega) (by omega)
  go_enter Tryz.func98, Tryz.ntmps98
  go_wp2
  go_loopw [4] (fun i wr => ∃ k : Nat, k ≤ ps.length ∧ i = .int .i64 k ∧ (∃ ys, Row wr 206 3 w.heap.size (w.heap.size + 1) (.slice (some ⟨w.heap.size, 0, none⟩) ps.length ps.length) ps.length ys ∧ ∀ j, j < k * 3 → ys[j]? = (mis ps)[j]?) ∧ Below w.heap.size w wr ∧ w.heap.size + 1 ≤ wr.heap.size) (fun i _ => ps.length - (intOf i).toNat)
  case atStart =>
    refine ⟨0, by omega, rfl, ⟨_, row_made w (.agg #[.int .i64 0, .int .i64 0, .int .i64 0]) 3 ps.length 206 (by simp [maxLen]; omega), fun j hj => absurd hj (by omega)⟩, (Below.refl _ _).alloc (Nat.le_refl _) _, by simp⟩
  case round =>
    obtain ⟨k, hk, rfl, ⟨ys, hrow, hys⟩, hb, hz⟩ := hrel
    by_cases hlt : k < ps.length
    · obtain ⟨b, o, rfl, hbl, hcell⟩ := hc (by omega)
      obtain ⟨c0, c1, c2⟩ := hcell k hlt
      have d0 := (hb.cell (p := ⟨b, o + k * 3, none⟩) hbl).trans c0
      have d1 := (hb.cell (p := ⟨b, o + k * 3 + 1, none⟩) hbl).trans c1
      have d2 := (hb.cell (p := ⟨b, o + k * 3 + 2, none⟩) hbl).trans c2
      have RH := hideIt hrow
      have YH := hideIt hys
      clear hcell hc c0 c1 c2 hrow hys
      go_wp2_with fail
      refine (toMic_any _ _ _ _).mono ?_
      rintro e w1 ⟨rfl, hb1⟩
      have R1 := hideIt (RH.out.below hb1 (by omega))
      obtain ⟨_, _, _, hsz, hfr, hcl⟩ := R1.out.at
      have hl := RH.out.len
      have f0 := hfr (k * 3)
      have f1 := hfr (k * 3 + 1)
      have f2 := hfr (k * 3 + 2)
      have e0 : w1.cell? ⟨w.heap.size, k * 3, none⟩ = some (ys[k * 3]'(by omega)) := by rw [hcl _ (by omega)]; simp
      have e1 : w1.cell? ⟨w.heap.size, k * 3 + 1, none⟩ = some (ys[k * 3 + 1]'(by omega)) := by rw [hcl _ (by omega)]; simp
      have e2 : w1.cell? ⟨w.heap.size, k * 3 + 2, none⟩ = some (ys[k * 3 + 2]'(by omega)) := by rw [hcl _ (by omega)]; simp
      have BH := hideIt (hb.trans (hb1.mono (show w.heap.size ≤ wr.heap.size by omega)))
      have hz1 := hb1.size
      clear hfr hcl hb1 hb d0 d1 d2
      have P1 := hideIt (R1.out.put3 k (.int .i64 ps[k].kind) (.int .i64 ps[k].at_) (.int .i64 ps[k].val))
      have B1 := hideIt (((BH.out.setCell (p := ⟨w.heap.size, k * 3, none⟩) (Nat.le_refl _) (.int .i64 ps[k].kind)).setCell (p := ⟨w.heap.size, k * 3 + 1, none⟩) (Nat.le_refl _) (.int .i64 ps[k].at_)).setCell (p := ⟨w.heap.size, k * 3 + 2, none⟩) (Nat.le_refl _) (.int .i64 ps[k].val))
      go_wp2
      go_roundw
      case rel => exact ⟨k + 1, by omega, by go_num, ⟨_, P1.out, put3M_step hlt hl YH.out⟩, B1.out, by simp; omega⟩
      case measure => simp [intOf]; omega
    · have e : k = ps.length := by omega
      subst e
      have hl := hrow.len
      have RH := hideIt hrow
      have YH := hideIt hys
      clear hrow hys hc
      go_wp2
      go_ret
      have e := mis_all hl YH.out
      refine ⟨_, rfl, ?_, hb⟩
      rw [← e]
      exact RH.out.wide (Nat.le_refl _) hz
theorem szMicroS_any (ao : Option Addr) (n cap : Nat) (left : Int) (w : World) (hn : n ≤ maxLen) (h0 : 0 ≤ left) (h1 : left ≤ 1048576) :
    Calls Tryz.prog 87 #[.slice ao n cap, .int .i64 left] w fun e w' => e = .returned (.int .i64 (less left n)) ∧ w' = w := by
  unfold maxLen at hn
  by_cases h : left < n
  · have e : less left n = -1 := by unfold less; rw [if_pos h]
    rw [e]; clear e
    go_enter Tryz.func87, Tryz.ntmps87
    go_wp2
    go_ret
    exact ⟨rfl, rfl⟩
  · have e : less left n = left - n := by unfold less; rw [if_neg h]
    rw [e]; clear e
    go_enter Tryz.func87, Tryz.ntmps87
    go_wp2
    go_ret
    exact ⟨rfl, rfl⟩
set_option maxHeartbeats 1000000 in
theorem eqMic_same (a v : Int) (f : Int) (w : World) : Calls Tryz.prog 160 #[.agg #[.int .i64 a, .int .i64 v, .int .i64 f], .agg #[.int .i64 a, .int .i64 v, .int .i64 f]] w fun e w' => e = .returned (.bool true) ∧ Below w.heap.size w w' := by
  go_enter Tryz.func160, Tryz.ntmps160
  go_wp2
  go_ret
  refine ⟨rfl, ?_⟩
  repeat (refine Below.alloc ?_ (by simp <;> omega) _)
  exact Below.refl _ _
end Go.Proofs.YtmeiionabonhnaaGreatDoor

namespace Go.Proofs.YtmeiionabonhnaaGreatDoor
open Go.RowKit
theorem ten_cells {w : World} {b : Nat} {t : TypeId} {x0 x1 x2 x3 x4 x5 x6 x7 x8 x9 : Value} (h : w.heap[b]? = some (.cells #[x0, x1, x2, x3, x4, x5, x6, x7, x8, x9] t (0, 0))) : w.cell? ⟨b, 0, none⟩ = some x0 ∧ w.cell? ⟨b, 1, none⟩ = some x1 ∧ w.cell? ⟨b, 2, none⟩ = some x2 ∧ w.cell? ⟨b, 3, none⟩ = some x3 ∧ w.cell? ⟨b, 4, none⟩ = some x4 ∧ w.cell? ⟨b, 5, none⟩ = some x5 ∧ w.cell? ⟨b, 6, none⟩ = some x6 ∧ w.cell? ⟨b, 7, none⟩ = some x7 ∧ w.cell? ⟨b, 8, none⟩ = some x8 ∧ w.cell? ⟨b, 9, none⟩ = some x9 ∧ w.frozen? ⟨b, 0, none⟩ = false ∧ w.frozen? ⟨b, 1, none⟩ = false ∧ w.frozen? ⟨b, 2, none⟩ = false ∧ w.frozen? ⟨b, 3, none⟩ = false ∧ w.frozen? ⟨b, 4, none⟩ = false ∧ w.frozen? ⟨b, 5, none⟩ = false ∧ w.frozen? ⟨b, 6, none⟩ = false ∧ w.frozen? ⟨b, 7, none⟩ = false ∧ w.frozen? ⟨b, 8, none⟩ = false ∧ w.frozen? ⟨b, 9, none⟩ = false := by
  simp [World.cell?, World.frozen?, h]
theorem ten_set0 {w : World} {b : Nat} {t : TypeId} {x0 x1 x2 x3 x4 x5 x6 x7 x8 x9 : Value} (h : w.heap[b]? = some (.cells #[x0, x1, x2, x3, x4, x5, x6, x7, x8, x9] t (0, 0))) (u : Value) : (w.setCell ⟨b, 0, none⟩ u).heap[b]? = some (.cells #[u, x1, x2, x3, x4, x5, x6, x7, x8, x9] t (0, 0)) := by simp [World.setCell, Array.getElem?_modify, h]
theorem ten_set1 {w : World} {b : Nat} {t : TypeId} {x0 x1 x2 x3 x4 x5 x6 x7 x8 x9 : Value} (h : w.heap[b]? = some (.cells #[x0, x1, x2, x3, x4, x5, x6, x7, x8, x9] t (0, 0))) (u : Value) : (w.setCell ⟨b, 1, none⟩ u).heap[b]? = some (.cells #[x0, u, x2, x3, x4, x5, x6, x7, x8, x9] t (0, 0)) := by simp [World.setCell, Array.getElem?_modify, h]
theorem ten_set2 {w : World} {b : Nat} {t : TypeId} {x0 x1 x2 x3 x4 x5 x6 x7 x8 x9 : Value} (h : w.heap[b]? = some (.cells #[x0, x1, x2, x3, x4, x5, x6, x7, x8, x9] t (0, 0))) (u : Value) : (w.setCell ⟨b, 2, none⟩ u).heap[b]? = some (.cells #[x0, x1, u, x3, x4, x5, x6, x7, x8, x9] t (0, 0)) := by simp [World.setCell, Array.getElem?_modify, h]
theorem ten_set3 {w : World} {b : Nat} {t : TypeId} {x0 x1 x2 x3 x4 x5 x6 x7 x8 x9 : Value} (h : w.heap[b]? = some (.cells #[x0, x1, x2, x3, x4, x5, x6, x7, x8, x9] t (0, 0))) (u : Value) : (w.setCell ⟨b, 3, none⟩ u).heap[b]? = some (.cells #[x0, x1, x2, u, x4, x5, x6, x7, x8, x9] t (0, 0)) := by simp [World.setCell, Array.getElem?_modify, h]
theorem ten_set4 {w : World} {b : Nat} {t : TypeId} {x0 x1 x2 x3 x4 x5 x6 x7 x8 x9 : Value} (h : w.heap[b]? = some (.cells #[x0, x1, x2, x3, x4, x5, x6, x7, x8, x9] t (0, 0))) (u : Value) : (w.setCell ⟨b, 4, none⟩ u).heap[b]? = some (.cells #[x0, x1, x2, x3, u, x5, x6, x7, x8, x9] t (0, 0)) := by simp [World.setCell, Array.getElem?_modify, h]
theorem ten_set5 {w : World} {b : Nat} {t : TypeId} {x0 x1 x2 x3 x4 x5 x6 x7 x8 x9 : Value} (h : w.heap[b]? = some (.cells #[x0, x1, x2, x3, x4, x5, x6, x7, x8, x9] t (0, 0))) (u : Value) : (w.setCell ⟨b, 5, none⟩ u).heap[b]? = some (.cells #[x0, x1, x2, x3, x4, u, x6, x7, x8, x9] t (0, 0)) := by simp [World.setCell, Array.getElem?_modify, h]
theorem ten_set6 {w : World} {b : Nat} {t : TypeId} {x0 x1 x2 x3 x4 x5 x6 x7 x8 x9 : Value} (h : w.heap[b]? = some (.cells #[x0, x1, x2, x3, x4, x5, x6, x7, x8, x9] t (0, 0))) (u : Value) : (w.setCell ⟨b, 6, none⟩ u).heap[b]? = some (.cells #[x0, x1, x2, x3, x4, x5, u, x7, x8, x9] t (0, 0)) := by simp [World.setCell, Array.getElem?_modify, h]
theorem ten_set7 {w : World} {b : Nat} {t : TypeId} {x0 x1 x2 x3 x4 x5 x6 x7 x8 x9 : Value} (h : w.heap[b]? = some (.cells #[x0, x1, x2, x3, x4, x5, x6, x7, x8, x9] t (0, 0))) (u : Value) : (w.setCell ⟨b, 7, none⟩ u).heap[b]? = some (.cells #[x0, x1, x2, x3, x4, x5, x6, u, x8, x9] t (0, 0)) := by simp [World.setCell, Array.getElem?_modify, h]
theorem ten_set8 {w : World} {b : Nat} {t : TypeId} {x0 x1 x2 x3 x4 x5 x6 x7 x8 x9 : Value} (h : w.heap[b]? = some (.cells #[x0, x1, x2, x3, x4, x5, x6, x7, x8, x9] t (0, 0))) (u : Value) : (w.setCell ⟨b, 8, none⟩ u).heap[b]? = some (.cells #[x0, x1, x2, x3, x4, x5, x6, x7, u, x9] t (0, 0)) := by simp [World.setCell, Array.getElem?_modify, h]
theorem ten_dev {w : World} {b : Nat} {t : TypeId} {x0 x1 x2 x3 x4 x5 x6 x7 x8 x9 : Value} (h : w.heap[b]? = some (.cells #[x0, x1, x2, x3, x4, x5, x6, x7, x8, x9] t (0, 0))) (p q r s : Value) : (putR w b p q r s).heap[b]? = some (.cells #[p, q, r, s, x4, x5, x6, x7, x8, x9] t (0, 0)) := ten_set3 (ten_set2 (ten_set1 (ten_set0 h p) q) r) s
def put10 (w : World) (b : Nat) (x0 x1 x2 x3 x4 x5 x6 x7 x8 x9 : Value) : World := ((((((((((w.setCell ⟨b, 0, none⟩ x0).setCell ⟨b, 1, none⟩ x1).setCell ⟨b, 2, none⟩ x2).setCell ⟨b, 3, none⟩ x3).setCell ⟨b, 4, none⟩ x4).setCell ⟨b, 5, none⟩ x5).setCell ⟨b, 6, none⟩ x6).setCell ⟨b, 7, none⟩ x7).setCell ⟨b, 8, none⟩ x8).setCell ⟨b, 9, none⟩ x9)
theorem tri3 {w : World} {b : Nat} {t : TypeId} {x y z : Value} (h : w.heap[b]? = some (.cells #[x, y, z] t (0, 0))) : w.cell? ⟨b, 0, none⟩ = some x ∧ w.cell? ⟨b, 1, none⟩ = some y ∧ w.cell? ⟨b, 2, none⟩ = some z ∧ w.frozen? ⟨b, 0, none⟩ = false ∧ w.frozen? ⟨b, 1, none⟩ = false ∧ w.frozen? ⟨b, 2, none⟩ = false := by simp [World.cell?, World.frozen?, h]
end Go.Proofs.YtmeiionabonhnaaGreatDoor

namespace Go.Proofs.YtmeiionabonhnaaGreatDoor
open Go.RowKit
set_option maxHeartbeats 2000000 in
theorem eqMicroS_same (va vb : Value) (ps : List Mi) (w : World) (ha : RdM w va ps) (hb : RdM w vb ps) (hn : ps.length ≤ 2147483648) :
    Calls Tryz.prog 104 #[va, vb] w fun e w' => e = .returned (.bool true) ∧ Below w.heap.size w w' := by
  obtain ⟨ao, cap, rfl, hcap, hc⟩ := ha.shape
  obtain ⟨ao2, cap2, rfl, hcap2, hc2⟩ := hb.shape
  clear ha hb
  go_enter Tryz.func104, Tryz.ntmps104
  go_wp2
  go_loopw [5] (fun i wr => ∃ k : Nat, k ≤ ps.length ∧ i = .int .i64 k ∧ Below w.heap.size w wr) (fun i _ => ps.length - (intOf i).toNat)
  case atStart => exact ⟨0, by omega, rfl, Below.refl _ _⟩
  case round =>
    obtain ⟨k, hk, rfl, hbw⟩ := hrel
    by_cases hlt : k < ps.length
    · obtain ⟨b, o, rfl, hbl, hcell⟩ := hc (by omega)
      obtain ⟨b2, o2, rfl, hbl2, hcell2⟩ := hc2 (by omega)
      obtain ⟨c0, c1, c2⟩ := hcell k hlt
      obtain ⟨c3, c4, c5⟩ := hcell2 k hlt
      have d0 := (hbw.cell (p := ⟨b, o + k * 3, none⟩) hbl).trans c0
      have d1 := (hbw.cell (p := ⟨b, o + k * 3 + 1, none⟩) hbl).trans c1
      have d2 := (hbw.cell (p := ⟨b, o + k * 3 + 2, none⟩) hbl).trans c2
      have d3 := (hbw.cell (p := ⟨b2, o2 + k * 3, none⟩) hbl2).trans c3
      have d4 := (hbw.cell (p := ⟨b2, o2 + k * 3 + 1, none⟩) hbl2).trans c4
      have d5 := (hbw.cell (p := ⟨b2, o2 + k * 3 + 2, none⟩) hbl2).trans c5
      have hlt' : (k : Int) < (ps.length : Int) := by omega
      have hge : (0 : Int) ≤ (k : Int) := by omega
      have hz := hbw.size
      clear hcell hcell2 hc hc2 c0 c1 c2 c3 c4 c5
      go_wp2_with fail
      go_region_with (go_at_call 160; refine (eqMic_same _ _ _ _).mono ?_; rintro e w1 ⟨rfl, hb1⟩)
      all_goals
        go_wp2
        go_roundw
        case rel => exact ⟨k + 1, by omega, by go_num, hbw.trans (Below.mono (Below.trans ((Below.refl _ _).drew) ‹_›) hz)⟩
        case measure => simp [intOf]; omega
    · go_wp2
      go_ret
      exact ⟨rfl, hbw⟩
end Go.Proofs.YtmeiionabonhnaaGreatDoor
