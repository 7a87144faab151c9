/- Several texts laid together: BlkOKI, BlkRead, DtA. -/
import Derived.Test.YtgnfbiohjdepcaaGreatDoorZAZ
import Derived.Test.YtgnfbiohjdepcaaGreatDoorZAU
import Derived.Test.YtgnfbiohjdepcaaGreatDoorZAW
import Derived.Test.YtgnfbiohjdepcaaGreatDoorZAX
import Derived.Test.YtgnfbiohjdepcaaGreatDoorZAY
namespace Go.Proofs.YtgnfbiohjdepcaaGreatDoor
open Go.RowKit
def seB (s : Se) : Bool := secB s.at_ && wordB s.val
theorem seB_true {s : Se} (h : seB s = true) : secB s.at_ = true ∧ wordB s.val = true := by unfold seB at h; simpa using h
theorem seB_false {s : Se} {p : Prop} (h : seB s = false) (h1 : secB s.at_ = false → p) (h2 : wordB s.val = false → p) : p := by
  unfold seB at h
  rw [Bool.and_eq_false_iff] at h
  exact h.elim h1 h2
def sesB (ps : List Se) : Bool := decide (∀ k (h : k < ps.length), seB ps[k] = true)
theorem sesB_true {ps : List Se} (h : sesB ps = true) : ∀ k (h : k < ps.length), seB ps[k] = true := of_decide_eq_true h
theorem sesB_mk {ps : List Se} (h : ∀ k (h : k < ps.length), seB ps[k] = true) : sesB ps = true := decide_eq_true h
theorem sesB_not {ps : List Se} {k : Nat} (hk : k < ps.length) (h : seB ps[k] = false) : sesB ps = false := decide_eq_false (fun x => by have := x k hk; rw [h] at this; cases this)
theorem sesB_ex {ps : List Se} (h : sesB ps = false) : ∃ k, ∃ h : k < ps.length, seB ps[k] = false := by
  apply Classical.byContradiction
  intro hn
  have : sesB ps = true := sesB_mk (fun k hk => by
    cases e : seB ps[k] with
    | true => rfl
    | false => exact absurd ⟨k, hk, e⟩ hn)
  rw [h] at this
  cases this
set_option maxHeartbeats 1000000 in
theorem isWrite_any (s : Se) (w : World) : Calls Tryz.prog 99 #[.agg #[.int .i64 s.at_, .int .i64 s.val]] w fun e w' => e = .returned (.bool (seB s)) ∧ Below w.heap.size w w' := by
  have hb0 : Below w.heap.size w (w.alloc (.cells #[.int .i64 s.at_, .int .i64 s.val] 138)) := (Below.refl _ _).alloc (Nat.le_refl _) _
  by_cases q : secB s.at_ = true
  · have E := hideIt (show seB s = wordB s.val by unfold seB; rw [q]; rfl)
    have Q := hideIt q
    clear q
    go_enter Tryz.func99, Tryz.ntmps99
    go_wp2_with (first | (go_at_call 130; refine (isSector_any _ _).mono ?_; rw [Q.out]; rintro e w' ⟨rfl, rfl⟩) | (go_at_call 72; refine (isWord_any _ _).mono ?_; rintro e w' ⟨rfl, rfl⟩))
    go_ret
    exact ⟨ret_bool E.out.symm, hb0⟩
  · have q' : secB s.at_ = false := by simpa using q
    have E := hideIt (show seB s = false by unfold seB; rw [q']; rfl)
    have Q := hideIt q'
    clear q q'
    go_enter Tryz.func99, Tryz.ntmps99
    go_wp2_with (go_at_call 130; refine (isSector_any _ _).mono ?_; rw [Q.out]; rintro e w' ⟨rfl, rfl⟩)
    go_ret
    exact ⟨ret_bool E.out.symm, hb0⟩
set_option maxHeartbeats 4000000 in
theorem everyWrite_any (v : Value) (ps : List Se) (w : World) (h : RdE w v ps) (hn : ps.length ≤ 1048576) :
    Calls Tryz.prog 98 #[v, .func (.func 99) #[] #[]] w fun e w' => e = .returned (.bool (sesB ps)) ∧ Below w.heap.size w w' := by
  obtain ⟨aP, cP, rfl, _, hcP⟩ := h.shape
  clear h
  go_enter Tryz.func98, Tryz.ntmps98
  go_wp2
  go_loopw [6, 9] (fun _ i wr => ∃ k : Nat, k ≤ ps.length ∧ i = .int .i64 k ∧ Hid (∀ j (h : j < ps.length), j < k → seB ps[j] = true) ∧ Below w.heap.size w wr) (fun _ i _ => ps.length - (intOf i).toNat)
  case atStart => exact ⟨0, by omega, rfl, fun j h a => absurd a (by omega), Below.refl _ _⟩
  case round =>
    obtain ⟨m, hm, rfl, H, hbw⟩ := hrel
    have hz := hbw.size
    by_cases hlt2 : m < ps.length
    · obtain ⟨b2, o2, rfl, hbl2, hcell2⟩ := hcP (by omega)
      obtain ⟨d0, d1⟩ := hcell2 m hlt2
      have e0 := (hbw.cell (p := ⟨b2, o2 + m * 2, none⟩) hbl2).trans d0
      have e1 := (hbw.cell (p := ⟨b2, o2 + m * 2 + 1, none⟩) hbl2).trans d1
      have hb1 := hideIt (hbw.alloc hz (.cells #[.int .i64 ps[m].at_, .int .i64 ps[m].val] 138))
      clear d0 d1 hcell2 hcP
      by_cases q : seB ps[m] = true
      · have Q := hideIt q
        clear q
        go_wp2_with (go_at_call 99; refine (isWrite_any ps[m] _).mono ?_; rw [Q.out]; rintro e w' ⟨rfl, hw'⟩)
        have hw2 := hb1.out.trans (hw'.mono (by simp; omega))
        clear hb1 hw'
        go_roundw
        case rel =>
          refine ⟨m + 1, by omega, by go_num, fun j h a => ?_, hw2⟩
          by_cases e : j = m
          · subst e; exact Q.out
          · exact H.out j h (by omega)
        case measure => simp [intOf]; omega
      · have Q := hideIt (show seB ps[m] = false by simpa using q)
        have E := hideIt (sesB_not hlt2 Q.out)
        clear q
        go_wp2_with (go_at_call 99; refine (isWrite_any ps[m] _).mono ?_; rw [Q.out]; rintro e w' ⟨rfl, hw'⟩)
        have hw2 := hb1.out.trans (hw'.mono (by simp; omega))
        go_ret
        exact ⟨ret_bool E.out.symm, hw2⟩
    · have E := hideIt (sesB_mk (fun j h => H.out j h (by omega)))
      go_wp2
      go_ret
      exact ⟨ret_bool E.out.symm, hbw⟩
set_option maxHeartbeats 4000000 in
theorem implBlkOK_any (v : Value) (ws : List Int) (ps : List Se) (w : World) (h : RdBlk w v ws ps) (hw : ws.length ≤ 1048576) (hp : ps.length ≤ 1048576) :
    Calls Tryz.prog 58 #[v] w fun e w' => e = .returned (.bool (blkB ws ps)) ∧ Below w.heap.size w w' := by
  obtain ⟨vW, vP, rfl, h1, h2⟩ := h
  obtain ⟨aW, cW, rfl, _, hcW⟩ := h1.shape
  obtain ⟨aP, cP, rfl, _, hcP⟩ := h2.shape
  have H1 := hideIt h1
  have H2 := hideIt h2
  clear h1 h2 hcW hcP
  have hb0 : Below w.heap.size w (w.alloc (.cells #[.slice aW ws.length cW, .slice aP ps.length cP] 39)) := (Below.refl _ _).alloc (Nat.le_refl _) _
  have HB := hideIt hb0
  by_cases c1 : ws.length = 32
  case neg =>
    have E := hideIt (blkB_len1 (ps := ps) c1)
    have c1' : ((ws.length : Int) == 32) = false := by rw [beq_eq_false_iff_ne]; omega
    clear c1
    go_enter Tryz.func58, Tryz.ntmps58
    go_wp2
    go_ret
    exact ⟨ret_bool E.out.symm, HB.out⟩
  have c1n : ((ws.length : Int) == 32) = true := by simp; omega
  have C1 := hideIt c1
  clear c1
  by_cases c2 : 400 < ps.length
  · have E := hideIt (blkB_len2 (ws := ws) c2)
    have c2' : decide ((ps.length : Int) ≤ 400) = false := by simp; omega
    go_enter Tryz.func58, Tryz.ntmps58
    go_wp2
    go_ret
    exact ⟨ret_bool E.out.symm, HB.out⟩
  by_cases c3 : wordsB ws = true
  case neg =>
    have c3' : wordsB ws = false := by simpa using c3
    obtain ⟨k, hk, hkf⟩ := wordsB_ex c3'
    have E := hideIt (blkB_w (ps := ps) hk hkf)
    have W0 := hideIt c3'
    clear c3 c3' hkf hk
    go_enter Tryz.func58, Tryz.ntmps58
    go_wp2_with (go_at_call 97; refine (everyWord_any _ ws _ (Rd.below H1.out HB.out) (by omega)).mono ?_; rw [W0.out]; rintro e w' ⟨rfl, rfl⟩)
    go_ret
    exact ⟨ret_bool E.out.symm, HB.out⟩
  have HW := hideIt (wordsB_true c3)
  have W1 := hideIt c3
  clear c3
  cases c4 : sesB ps with
  | true =>
    have E := hideIt (blkB_mk C1.out (by omega) HW.out (fun j h => seB_true (sesB_true c4 j h)))
    have W2 := hideIt c4
    clear c4
    go_enter Tryz.func58, Tryz.ntmps58
    go_wp2_with (first | (go_at_call 97; refine (everyWord_any _ ws _ (Rd.below H1.out HB.out) (by omega)).mono ?_; rw [W1.out]; rintro e w' ⟨rfl, rfl⟩) | (go_at_call 98; refine (everyWrite_any _ ps _ (Rd.below H2.out HB.out) (by omega)).mono ?_; rw [W2.out]; rintro e w' ⟨rfl, hw'⟩))
    go_ret
    exact ⟨ret_bool E.out.symm, HB.out.trans (hw'.mono (by simp))⟩
  | false =>
    obtain ⟨k, hk, hkf⟩ := sesB_ex c4
    have E := hideIt (show blkB ws ps = false from seB_false hkf (blkB_a (ws := ws) hk) (blkB_v (ws := ws) hk))
    have W2 := hideIt c4
    clear c4 hk hkf
    go_enter Tryz.func58, Tryz.ntmps58
    go_wp2_with (first | (go_at_call 97; refine (everyWord_any _ ws _ (Rd.below H1.out HB.out) (by omega)).mono ?_; rw [W1.out]; rintro e w' ⟨rfl, rfl⟩) | (go_at_call 98; refine (everyWrite_any _ ps _ (Rd.below H2.out HB.out) (by omega)).mono ?_; rw [W2.out]; rintro e w' ⟨rfl, hw'⟩))
    go_ret
    exact ⟨ret_bool E.out.symm, HB.out.trans (hw'.mono (by simp))⟩
end Go.Proofs.YtgnfbiohjdepcaaGreatDoor

namespace Go.Proofs.YtgnfbiohjdepcaaGreatDoor
open Go.RowKit
def askE (ws : List Int) (ps : List Se) (at_ : Int) : Int := if blkB ws ps = false then 1 else if secB at_ = false then 14 else 0
theorem askE_bad {ws : List Int} {ps : List Se} {at_ : Int} (h : blkB ws ps = false) : askE ws ps at_ = 1 := by unfold askE; rw [if_pos h]
theorem askE_place {ws : List Int} {ps : List Se} {at_ : Int} (h : blkB ws ps = true) (h2 : secB at_ = false) : askE ws ps at_ = 14 := by unfold askE; rw [if_neg (by rw [h]; simp), if_pos h2]
theorem askE_ok {ws : List Int} {ps : List Se} {at_ : Int} (h : blkB ws ps = true) (h2 : secB at_ = true) : askE ws ps at_ = 0 := by unfold askE; rw [if_neg (by rw [h]; simp), if_neg (by rw [h2]; simp)]
set_option maxHeartbeats 1000000 in
theorem sectorFault_any (v : Value) (ws : List Int) (ps : List Se) (at_ : Int) (w : World) (h : RdBlk w v ws ps) (hw : ws.length ≤ 1048576) (hp : ps.length ≤ 1048576) :
    Calls Tryz.prog 105 #[v, .int .i64 at_] w fun e w' => e = .returned (.int .i64 (askE ws ps at_)) ∧ Below w.heap.size w w' := by
  have HR := hideIt h
  obtain ⟨vW, vP, rfl, h1, h2⟩ := h
  obtain ⟨aW, cW, rfl, _⟩ := h1.shape
  obtain ⟨aP, cP, rfl, _⟩ := h2.shape
  clear h1 h2
  have hb0 : Below w.heap.size w (w.alloc (.cells #[.slice aW ws.length cW, .slice aP ps.length cP] 39)) := (Below.refl _ _).alloc (Nat.le_refl _) _
  by_cases c1 : blkB ws ps = true
  · by_cases c2 : secB at_ = true
    · rw [askE_ok c1 c2]
      go_enter Tryz.func105, Tryz.ntmps105
      go_wp2_with (first | (go_at_call 58; refine (implBlkOK_any _ ws ps _ (HR.out.below hb0) hw hp).mono ?_; rintro e w1 ⟨rfl, hb1⟩) | (go_at_call 130; refine (isSector_any _ _).mono ?_; rintro e w2 ⟨rfl, rfl⟩))
      go_ret
      exact ⟨rfl, below_trans hb0 hb1 (by simp)⟩
    · have c2' : secB at_ = false := by simpa using c2
      rw [askE_place c1 c2']
      clear c2
      go_enter Tryz.func105, Tryz.ntmps105
      go_wp2_with (first | (go_at_call 58; refine (implBlkOK_any _ ws ps _ (HR.out.below hb0) hw hp).mono ?_; rintro e w1 ⟨rfl, hb1⟩) | (go_at_call 130; refine (isSector_any _ _).mono ?_; rintro e w2 ⟨rfl, rfl⟩))
      go_ret
      exact ⟨rfl, below_trans hb0 hb1 (by simp)⟩
  · have c1' : blkB ws ps = false := by simpa using c1
    rw [askE_bad c1']
    clear c1
    go_enter Tryz.func105, Tryz.ntmps105
    go_wp2_with (first | (go_at_call 58; refine (implBlkOK_any _ ws ps _ (HR.out.below hb0) hw hp).mono ?_; rintro e w1 ⟨rfl, hb1⟩) | (go_at_call 130; refine (isSector_any _ _).mono ?_; rintro e w2 ⟨rfl, rfl⟩))
    go_ret
    exact ⟨rfl, below_trans hb0 hb1 (by simp)⟩
def lastE (at_ d : Int) (ps : List Se) : Int := ps.foldl (fun acc p => if p.at_ = at_ then p.val else acc) d
theorem lastE_none {at_ d : Int} : ∀ {ps : List Se}, (∀ p ∈ ps, ¬ p.at_ = at_) → lastE at_ d ps = d
  | [], _ => rfl
  | p :: ps, h => by
    show lastE at_ (if p.at_ = at_ then p.val else d) ps = d
    rw [if_neg (h p (by simp))]
    exact lastE_none (fun q hq => h q (by simp [hq]))
theorem lastE_append (at_ d : Int) (ps qs : List Se) : lastE at_ d (ps ++ qs) = lastE at_ (lastE at_ d ps) qs := by simp [lastE]
theorem lastE_hit {at_ d : Int} {ps : List Se} {k : Nat} (hk : k < ps.length) (h : ps[k].at_ = at_) (ha : ∀ j (hj : j < ps.length), k < j → ¬ ps[j].at_ = at_) : lastE at_ d ps = ps[k].val := by
  have e : ps = ps.take k ++ (ps[k] :: ps.drop (k + 1)) := by rw [← List.drop_eq_getElem_cons hk, List.take_append_drop]
  conv => lhs; rw [e]
  rw [lastE_append]
  show lastE at_ (if ps[k].at_ = at_ then ps[k].val else _) (ps.drop (k + 1)) = _
  rw [if_pos h]
  apply lastE_none
  intro p hp
  obtain ⟨i, hi, rfl⟩ := List.getElem_of_mem hp
  rw [List.getElem_drop]
  exact ha _ _ (by omega)
set_option maxHeartbeats 2000000 in
theorem l02Read_any (v : Value) (ws : List Int) (ps : List Se) (at_ : Nat) (w : World) (h : RdBlk w v ws ps) (hw : ws.length ≤ 1048576) (hp : ps.length ≤ 1048576) (ha : at_ < ws.length) :
    Calls Tryz.prog 94 #[v, .int .i64 (at_ : Int)] w fun e w' => e = .returned (.int .i64 (lastE (at_ : Int) ws[at_] ps)) ∧ Below w.heap.size w w' := by
  obtain ⟨vW, vP, rfl, h1, h2⟩ := h
  obtain ⟨aW, cW, rfl, _, hcW⟩ := h1.shape
  obtain ⟨aP, cP, rfl, _, hcP⟩ := h2.shape
  clear h1 h2
  obtain ⟨bW, oW, rfl, hbW, hcellW⟩ := hcW (by omega)
  have hb0 : Below w.heap.size w (w.alloc (.cells #[.slice (some ⟨bW, oW, none⟩) ws.length cW, .slice aP ps.length cP] 39)) := (Below.refl _ _).alloc (Nat.le_refl _) _
  have hcw := (hb0.cell (p := ⟨bW, oW + at_, none⟩) hbW).trans (hcellW at_ ha)
  clear hcW hcellW
  go_enter Tryz.func94, Tryz.ntmps94
  go_wp2
  go_loop [5] (fun i => ∃ k : Nat, k ≤ ps.length ∧ i = .int .i64 ((k : Int) - 1) ∧ Hid (∀ j (h : j < ps.length), k ≤ j → ¬ ps[j].at_ = (at_ : Int))) (fun i => (intOf i + 1).toNat)
  case atStart => exact ⟨ps.length, Nat.le_refl _, rfl, fun j h a => absurd h (by omega)⟩
  case round =>
    obtain ⟨k, hk, rfl, H⟩ := hrel
    cases k with
    | zero =>
      have E := hideIt (lastE_none (d := ws[at_]) (fun p hp => by obtain ⟨i, hi, rfl⟩ := List.getElem_of_mem hp; exact H.out i hi (by omega)))
      clear H hcP
      go_wp2
      go_ret
      exact ⟨ret_int E.out.symm, hb0⟩
    | succ m =>
      have em : (((m + 1 : Nat) : Int) - 1) = (m : Int) := by omega
      rw [em]
      clear em
      obtain ⟨b, o, rfl, hbl, hcell⟩ := hcP (by omega)
      obtain ⟨d0, d1⟩ := hcell m (by omega)
      have e0 := (hb0.cell (p := ⟨b, o + m * 2, none⟩) hbl).trans d0
      have e1 := (hb0.cell (p := ⟨b, o + m * 2 + 1, none⟩) hbl).trans d1
      clear d0 d1 hcell hcP
      have hm : m < ps.length := by omega
      by_cases c : ps[m].at_ = (at_ : Int)
      · have c' : (ps[m].at_ == (at_ : Int)) = true := by simpa using c
        have E := hideIt (lastE_hit (d := ws[at_]) hm c (fun j hj hlt => H.out j hj (by omega)))
        clear H c
        go_wp2
        go_ret
        exact ⟨ret_int E.out.symm, hb0⟩
      · have c' : (ps[m].at_ == (at_ : Int)) = false := by simpa using c
        have C := hideIt c
        clear c
        go_wp2
        go_round
        case rel =>
          refine ⟨m, by omega, by go_num, fun j hj hle => ?_⟩
          by_cases e : j = m
          · subst e; exact C.out
          · exact H.out j hj (by omega)
        case measure => simp [intOf] <;> omega
def readV (ws : List Int) (ps : List Se) (at_ : Int) : Int := if askE ws ps at_ = 0 then lastE at_ (ws[at_.toNat]?.getD 0) ps else 0
theorem readV_not {ws : List Int} {ps : List Se} {at_ : Int} (h : ¬ askE ws ps at_ = 0) : readV ws ps at_ = 0 := by unfold readV; rw [if_neg h]
theorem readV_ok {ws : List Int} {ps : List Se} {k : Nat} (h : askE ws ps (k : Int) = 0) (hk : k < ws.length) : readV ws ps (k : Int) = lastE (k : Int) ws[k] ps := by
  unfold readV; rw [if_pos h]; simp [hk]
theorem askE_cases (ws : List Int) (ps : List Se) (at_ : Int) : (askE ws ps at_ = 1 ∨ askE ws ps at_ = 14) ∨ (askE ws ps at_ = 0 ∧ blkB ws ps = true ∧ ∃ k : Nat, at_ = (k : Int) ∧ k < 32 ∧ k < ws.length) := by
  by_cases c1 : blkB ws ps = true
  · by_cases c2 : secB at_ = true
    · have := secB_true c2
      have hl := (blkB_len c1).1
      exact .inr ⟨askE_ok c1 c2, c1, at_.toNat, by omega, by omega, by omega⟩
    · exact .inl (.inr (askE_place c1 (by simpa using c2)))
  · exact .inl (.inl (askE_bad (by simpa using c1)))
end Go.Proofs.YtgnfbiohjdepcaaGreatDoor

namespace Go.Proofs.YtgnfbiohjdepcaaGreatDoor
open Go.RowKit
def pgV (ws : List Int) (ps : List St) (es : List Int) (qs : List Se) (e : Int) : Int := if e % 4 = 1 then ldW ws ps (312 + e / 4).toNat else if e % 4 = 2 then lastE (e / 4) (es[(e / 4).toNat]?.getD 0) qs else 0
def flI (ns : List Ino) (ds : List Den) (s : ByteArray) : Int × Int := if (lkI ns ds s).2 = 0 then (if kindAt ns (lkI ns ds s).1 = 1 then ((lkI ns ds s).1, 0) else (0, 9)) else (0, (lkI ns ds s).2)
def sizeAt (ns : List Ino) (z : Int) : Int := (inoAt ns z.toNat).size
def pageAt (ns : List Ino) (z : Int) (p : Int) : Int := (inoAt ns z.toNat).map.getD p.toNat 0
def rpF (ws : List Int) (ps : List St) (es : List Int) (qs : List Se) (ns : List Ino) (i page : Int) : Int × Int := if 0 ≤ page ∧ page < sizeAt ns i then (pgV ws ps es qs (pageAt ns i page), 0) else (0, 4)
def rpI (ws : List Int) (ps : List St) (es : List Int) (qs : List Se) (ns : List Ino) (ds : List Den) (s : ByteArray) (page : Int) : Int × Int := if (flI ns ds s).2 = 0 then rpF ws ps es qs ns (flI ns ds s).1 page else (0, (flI ns ds s).2)
def dvB (ws : List Int) (ps : List St) (es : List Int) (qs : List Se) : Bool := (pmB ws ps && blkB es qs) && riB (layW ws ps)
def rpR (ws : List Int) (ps : List St) (es : List Int) (qs : List Se) (s : ByteArray) (page : Int) : Int × Int := if 65536 < s.size then (0, 2) else if dvB ws ps es qs = true then rpI ws ps es qs (inosOf (layW ws ps) 16) (densOf (layW ws ps) 24) s page else (0, 1)
def fpI (ns : List Ino) : Int := firstIx (fun i => !hasB (usedOf (mapped ns) 1) (i : Int)) 24
def fsI (ns : List Ino) : Int := firstIx (fun i => !hasB (usedOf (mapped ns) 2) (i : Int)) 32
def wrS (ns : List Ino) (x : Int) : List Mi := if 0 ≤ fpI ns then ⟨1, 312 + fpI ns, x⟩ :: flushL [312 + fpI ns] else [⟨4, fsI ns, x⟩, ⟨5, 0, 0⟩]
def wrE (ns : List Ino) : Int := if 0 ≤ fpI ns then 4 * fpI ns + 1 else 4 * fsI ns + 2
def wrU (i page size e : Int) : List Se := ⟨48 + 12 * i + (3 + page), e⟩ :: (if size ≤ page then [⟨48 + 12 * i + 1, page + 1⟩] else [])
def wrF (ns : List Ino) (i page x : Int) : List Mi × Int := if (0 ≤ page ∧ page < 8) ∧ wordB x = true then (if fpI ns < 0 ∧ fsI ns < 0 then ([], 7) else (wrS ns x ++ planL (upsL (wrU i page (sizeAt ns i) (wrE ns))), 0)) else ([], 4)
def wrI (ns : List Ino) (ds : List Den) (s : ByteArray) (page x : Int) : List Mi × Int := if (flI ns ds s).2 = 0 then wrF ns (flI ns ds s).1 page x else ([], (flI ns ds s).2)
def wrR (ws : List Int) (ps : List St) (es : List Int) (qs : List Se) (s : ByteArray) (page x : Int) : List Mi × Int := if 65536 < s.size then ([], 2) else if dvB ws ps es qs = true then wrI (inosOf (layW ws ps) 16) (densOf (layW ws ps) 24) s page x else ([], 1)
def pgL (ws : List Int) (ps : List St) (es : List Int) (qs : List Se) (x : Ino) (k : Nat) : List Int := (List.range k).map fun j => pgV ws ps es qs (x.map.getD j 0)
def psI (ws : List Int) (ps : List St) (es : List Int) (qs : List Se) (ns : List Ino) (ds : List Den) (s : ByteArray) : List Int × Int := if (flI ns ds s).2 = 0 then (pgL ws ps es qs (inoAt ns (flI ns ds s).1.toNat) (sizeAt ns (flI ns ds s).1).toNat, 0) else ([], (flI ns ds s).2)
def psR (ws : List Int) (ps : List St) (es : List Int) (qs : List Se) (s : ByteArray) : List Int × Int := if 65536 < s.size then ([], 2) else if dvB ws ps es qs = true then psI ws ps es qs (inosOf (layW ws ps) 16) (densOf (layW ws ps) 24) s else ([], 1)
theorem pgL_step (ws : List Int) (ps : List St) (es : List Int) (qs : List Se) (x : Ino) (k : Nat) : pgL ws ps es qs x (k + 1) = pgL ws ps es qs x k ++ [pgV ws ps es qs (x.map.getD k 0)] := by
  unfold pgL
  rw [List.range_succ, List.map_append]
  rfl
theorem fl_file {ns : List Ino} {ds : List Den} {s : ByteArray} (I : Img ns ds) (h : (flI ns ds s).2 = 0) : ∃ i : Nat, i < 16 ∧ (flI ns ds s).1 = (i : Int) ∧ (inoAt ns i).kind = 1 := by
  unfold flI at h ⊢
  by_cases c : (lkI ns ds s).2 = 0
  · rw [if_pos c] at h ⊢
    by_cases d : kindAt ns (lkI ns ds s).1 = 1
    · rw [if_pos d]
      obtain ⟨i, e, hi, _, k⟩ := lk_plain I c (by rw [d]; omega)
      exact ⟨i, hi, e, k⟩
    · rw [if_neg d] at h
      simp at h
  · rw [if_neg c] at h
    exact absurd h c
end Go.Proofs.YtgnfbiohjdepcaaGreatDoor
