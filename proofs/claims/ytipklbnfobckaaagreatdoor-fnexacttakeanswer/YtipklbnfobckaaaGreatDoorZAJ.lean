/- Several texts laid together: PmFence, BlkOKI, BlkRead, BlkSm. -/
import Derived.Test.YtipklbnfobckaaaGreatDoorZAI
import Derived.Test.YtipklbnfobckaaaGreatDoorBlkOK
import Derived.Test.YtipklbnfobckaaaGreatDoorZAG
namespace Go.Proofs.YtipklbnfobckaaaGreatDoor
open Go.RowKit

/-- The words behind a fence, a store after the other; and what is left. -/
def fenW (ws : List Int) (ps : List St) : List Int := ps.foldl (fun acc p => if p.fl then acc.set p.at_.toNat p.val else acc) ws
def fenP (ps : List St) : List St := ps.filter (fun p => !p.fl)
theorem fenW_snoc (ws : List Int) (ps : List St) (p : St) : fenW ws (ps ++ [p]) = if p.fl then (fenW ws ps).set p.at_.toNat p.val else fenW ws ps := by simp [fenW]
theorem fenW_len (ws : List Int) : ∀ ps : List St, (fenW ws ps).length = ws.length := by
  intro ps
  unfold fenW
  induction ps generalizing ws with
  | nil => rfl
  | cons p ps ih =>
    rw [List.foldl_cons, ih]
    split <;> simp
theorem fenP_snoc (ps : List St) (p : St) : fenP (ps ++ [p]) = if p.fl then fenP ps else fenP ps ++ [p] := by
  unfold fenP
  rw [List.filter_append]
  cases h : p.fl <;> simp [h]
theorem fenP_le (ps : List St) : (fenP ps).length ≤ ps.length := List.length_filter_le _ _


/-- In the midst of a fence: the words so far, the stores, what is left so far. -/
structure FenInv (w wr : World) (ws : List Int) (ps : List St) (lo hi : Nat) (vW vP vL : Value) (m : Nat) : Prop where
  words : Row wr 3 1 lo hi vW ws.length (ints (fenW ws (ps.take m)))
  left : wr.ownsRow hi 165 3 vL (fenP (ps.take m)).length (sts (fenP (ps.take m)))
  pend : Row wr 165 3 lo hi vP ps.length (sts ps)
  box : wr.heap[w.heap.size]? = some (.cells #[vW, vP] 41 (0, 0))
  res : wr.heap[w.heap.size + 1]? = some (.cells #[.slice none 0 0, .slice none 0 0] 41 (0, 0))
  below : Below w.heap.size w wr
  size : hi ≤ wr.heap.size

theorem FenInv.hit {w wr : World} {ws : List Int} {ps : List St} {lo hi : Nat} {b n cap : Nat} {vP vL : Value} {m : Nat} (h : FenInv w wr ws ps lo hi (.slice (some ⟨b, 0, none⟩) n cap) vP vL m) (hm : m < ps.length) (hf : ps[m].fl = true) (hlo : w.heap.size + 2 ≤ lo) (o : Obj) (hn : n = ws.length) :
    FenInv w ((wr.setCell ⟨b, ps[m].at_.toNat, none⟩ (.int .i64 ps[m].val)).alloc o) ws ps lo hi (.slice (some ⟨b, 0, none⟩) n cap) vP vL (m + 1) := by
  subst hn
  obtain ⟨h1, h2, h3, h4, h5, h6, h7⟩ := h
  obtain ⟨_, hb1, hb2, _⟩ := h1.at
  have e1 : fenW ws (ps.take (m + 1)) = (fenW ws (ps.take m)).set ps[m].at_.toNat ps[m].val := by rw [take_snoc ps m hm, fenW_snoc, if_pos hf]
  have e2 : fenP (ps.take (m + 1)) = fenP (ps.take m) := by rw [take_snoc ps m hm, fenP_snoc, if_pos hf]
  refine ⟨?_, ?_, ?_, ?_, ?_, ?_, ?_⟩
  · rw [e1, ← ints_set]
    exact (h1.stored _ _).alloc (by simp; omega) o
  · rw [e2]
    exact ((own_block h2).same (w' := wr.setCell ⟨b, ps[m].at_.toNat, none⟩ (.int .i64 ps[m].val)) (fun k hk _ => Below.heap_setCell _ _ _ _ (by simp only; omega))).1.alloc o
  · exact (h3.apart h1 (by decide) (World.ownsRow.stored h1.1 _ _).2).alloc (by simp; omega) o
  · refine at_old ?_
    rw [Below.heap_setCell _ _ _ _ (by simp only; omega)]; exact h4
  · refine at_old ?_
    rw [Below.heap_setCell _ _ _ _ (by simp only; omega)]; exact h5
  · exact (h6.setCell (by simp only; omega) _).alloc (by simp; exact h6.size) o
  · simp; omega

theorem FenInv.miss {w wr w' : World} {ws : List Int} {ps : List St} {lo hi : Nat} {vW vP vL vL' : Value} {m : Nat} (h : FenInv w wr ws ps lo hi vW vP vL m) (hm : m < ps.length) (hf : ps[m].fl = false) (hlo : w.heap.size + 2 ≤ lo) (hhi : lo ≤ hi) (o o' : Obj)
    (ho : w'.ownsRow hi 165 3 vL' ((fenP (ps.take m)).length + 1) (sts (fenP (ps.take m)) ++ St.cells ps[m])) (hg : ((wr.alloc o).alloc o').grownBy w' vL.ownBlock) : FenInv w w' ws ps lo hi vW vP vL' (m + 1) := by
  obtain ⟨h1, h2, h3, h4, h5, h6, h7⟩ := h
  have hl := fun k hk => (((h2.alloc o).alloc o').lt k hk).1
  have e1 : fenW ws (ps.take (m + 1)) = fenW ws (ps.take m) := by rw [take_snoc ps m hm, fenW_snoc, hf]; rfl
  have e2 : fenP (ps.take (m + 1)) = fenP (ps.take m) ++ [ps[m]] := by rw [take_snoc ps m hm, fenP_snoc, hf]; rfl
  have keep : ∀ k, k < hi → w'.heap[k]? = ((wr.alloc o).alloc o').heap[k]? := fun k hk => hg.block k (by simp; omega) (fun e => by have := hl k e.symm; omega)
  have l4 := (Array.getElem?_eq_some_iff.1 h4).1
  refine ⟨?_, ?_, ?_, ?_, ?_, ?_, ?_⟩
  · rw [e1]
    exact ((h1.alloc h7 o).alloc (by simp; omega) o').same (fun k _ hk => keep k hk)
  · rw [e2, List.length_append, sts_snoc]; exact ho
  · exact ((h3.alloc h7 o).alloc (by simp; omega) o').same (fun k _ hk => keep k hk)
  · rw [keep _ (by omega)]; exact at_old (at_old h4)
  · rw [keep _ (by omega)]; exact at_old (at_old h5)
  · exact ((h6.alloc h6.size o).alloc (by simp; have := h6.size; omega) o').grown hg (by simp; have := h6.size; omega) (fun k hk => by have := hl k hk; omega)
  · have := hg.size; simp at this; omega

set_option maxHeartbeats 4000000 in
theorem l01Fence_any (v : Value) (ws : List Int) (ps : List St) (w : World) (h : RdPm w v ws ps) (hw : ws.length ≤ 1048576) (hp : ps.length ≤ 1048576) (hok : ∀ j (h : j < ps.length), 0 ≤ ps[j].at_ ∧ ps[j].at_ < ws.length) :
    Calls Tryz.prog 210 #[v] w fun e w' => ∃ v', e = .returned v' ∧ RowPm w' w.heap.size w'.heap.size v' (fenW ws ps) (fenP ps) ∧ Below w.heap.size w w' := by
  have HR := hideIt h
  obtain ⟨vW, vP, rfl, h1, h2⟩ := h
  obtain ⟨aW, cW, rfl, _⟩ := h1.shape
  obtain ⟨aP, cP, rfl, _⟩ := h2.shape
  have HOK := hideIt hok
  clear h1 h2 hok
  have hb0 : Below w.heap.size w ((w.alloc (.cells #[.slice aW ws.length cW, .slice aP ps.length cP] 41)).alloc (.cells #[.slice none 0 0, .slice none 0 0] 41)) := by
    repeat (refine Below.alloc ?_ (by simp <;> omega) _)
    exact Below.refl _ _
  go_enter Tryz.func210, Tryz.ntmps210
  go_wp2_with fail
  refine (l01Own_any _ ws ps _ (HR.out.below hb0) (by omega) (by omega)).mono ?_
  rintro e w2 ⟨v2, rfl, hr2, hb2⟩
  obtain ⟨vW2, vP2, rfl, hI2, hS2⟩ := hr2
  obtain ⟨aW2, cW2, rfl⟩ := RdI.form hI2.rd rfl
  obtain ⟨aP2, cP2, rfl⟩ := RdS.form hS2.rd rfl
  simp only [World.size_alloc] at hI2 hS2
  have hz2 : w.heap.size + 2 ≤ w2.heap.size := by have := hb2.size; simp at this; omega
  have V0 := (hb2.block w.heap.size (by simp <;> omega)).trans (at_old (at_new rfl))
  have V1 := (hb2.block (w.heap.size + 1) (by simp)).trans (at_new (by simp))
  have B2 := below_trans hb0 hb2 (by simp <;> omega)
  obtain ⟨x1, x2, x3, x4⟩ := two_cells V0
  have INV : Hid (FenInv w (((w2.setCell ⟨w.heap.size, 0, none⟩ (.slice aW2 ws.length cW2)).setCell ⟨w.heap.size, 1, none⟩ (.slice aP2 ps.length cP2)).alloc (.cells #[] 165)) ws ps (w.heap.size + 1 + 1) w2.heap.size (.slice aW2 ws.length cW2) (.slice aP2 ps.length cP2) (.slice (some ⟨w2.heap.size, 0, none⟩) 0 0) 0) := by
    refine ⟨?_, ?_, ?_, ?_, ?_, ?_, ?_⟩
    · refine ((hI2.same fun b hb1 _ => ?_).alloc (by simp) _)
      rw [Below.heap_setCell _ _ _ _ (by simp only; omega), Below.heap_setCell _ _ _ _ (by simp only; omega)]
    · have := World.ownsRow_lit (base := w2.heap.size) (e := 165) (size := 3) ((w2.setCell ⟨w.heap.size, 0, none⟩ (.slice aW2 ws.length cW2)).setCell ⟨w.heap.size, 1, none⟩ (.slice aP2 ps.length cP2)) #[] 0 (by simp) (by simp) rfl
      simpa [fenP, sts] using this
    · refine ((hS2.same fun b hb1 _ => ?_).alloc (by simp) _)
      rw [Below.heap_setCell _ _ _ _ (by simp only; omega), Below.heap_setCell _ _ _ _ (by simp only; omega)]
    · exact at_old (two_set1 (two_set0 V0 _) _)
    · refine at_old ?_
      rw [Below.heap_setCell _ _ _ _ (by simp only; omega), Below.heap_setCell _ _ _ _ (by simp only; omega)]
      exact V1
    · exact ((B2.setCell (by simp only; omega) _).setCell (by simp only; omega) _).alloc (by simp; omega) _
    · simp
  clear hb0 hb2 hI2 hS2 V0 V1 B2
  go_wp2
  go_loopw [3, 4, 5] (fun vL i _ wr => ∃ m : Nat, m ≤ ps.length ∧ i = .int .i64 m ∧ Hid (FenInv w wr ws ps (w.heap.size + 1 + 1) w2.heap.size (.slice aW2 ws.length cW2) (.slice aP2 ps.length cP2) vL m)) (fun _ i _ _ => ps.length - (intOf i).toNat)
  case atStart => exact ⟨0, by omega, rfl, INV⟩
  case round =>
    obtain ⟨m, hm, rfl, I⟩ := hrel
    obtain ⟨y1, y2, y3, y4⟩ := two_cells I.out.box
    by_cases hlt : m < ps.length
    · obtain ⟨_, ao', cap', e', _, hc⟩ := I.out.pend.rd
      cases e'
      obtain ⟨b, o, rfl, hbl, _⟩ := hc (by omega)
      obtain ⟨rfl, _, _, _, hfr, hcl⟩ := I.out.pend.at
      have e0 := (hcl (m * 3) (by omega)).trans (sts_at0 _ m hlt)
      have e1 := (hcl (m * 3 + 1) (by omega)).trans (sts_at1 _ m hlt)
      have e2 := (hcl (m * 3 + 2) (by omega)).trans (sts_at2 _ m hlt)
      obtain ⟨q0, q1⟩ := HOK.out m hlt
      have hsz := I.out.size
      clear hc hfr hcl
      cases hf : ps[m].fl
      · rw [hf] at e2
        have ec : St.cells ⟨ps[m].at_, ps[m].val, false⟩ = St.cells ps[m] := by simp [St.cells, hf]
        have hr := rd_one (wr.alloc (.cells #[.int .i64 ps[m].at_, .int .i64 ps[m].val, .bool false] 165)) ps[m].at_ ps[m].val false
        simp only [World.size_alloc] at hr
        have HRD := hideIt hr
        have HOW := hideIt ((I.out.left.alloc (.cells #[.int .i64 ps[m].at_, .int .i64 ps[m].val, .bool false] 165)).alloc (.cells #[.int .i64 ps[m].at_, .int .i64 ps[m].val, .bool false] 165))
        have hfl := fenP_le (ps.take m)
        rw [List.length_take] at hfl
        have EC := hideIt ec
        have HF := hideIt hf
        have HS := hideIt hsz
        clear hr ec hf hsz
        go_wp2_with (at_builtin; refine wpList_append_rd _ rfl (.tmp 30) (.tmp 32) 39 rfl w2.heap.size 165 (.agg #[.int .i64 0, .int .i64 0, .bool false]) 3 24 Tryz.underlying39 info52 rfl (by decide) _ _ _ rfl HOW.out _ 1 (St.cells ⟨ps[m].at_, ps[m].val, false⟩) rfl HRD.out (cells_one _) (by simp [maxLen]; omega) (by omega) (by have := HS.out; simp; omega) ?_)
        intro vN wN hownN hgrN
        have I1 := hideIt (I.out.miss hlt HF.out (Nat.le_refl _) hz2 _ _ (by rw [← EC.out]; exact hownN) hgrN)
        clear hownN hgrN
        go_wp2
        go_roundw
        case rel => exact ⟨m + 1, by omega, by go_num, I1⟩
        case measure => simp [intOf]; omega
      · rw [hf] at e2
        obtain ⟨_, aw', cw', ew', _, hcw⟩ := I.out.words.rd
        cases ew'
        obtain ⟨bw, ow, rfl, hblw, _⟩ := hcw (by omega)
        obtain ⟨rfl, _, _, _, hfrw, hclw⟩ := (I.out.words.alloc hsz (.cells #[.int .i64 ps[m].at_, .int .i64 ps[m].val, .bool true] 165)).at
        have hj : ps[m].at_.toNat < (fenW ws (ps.take m)).length := by rw [fenW_len]; omega
        have g0 := hfrw ps[m].at_.toNat
        have g1 := (hclw ps[m].at_.toNat (by omega)).trans (ints_at _ _ hj)
        have I1 := hideIt (I.out.hit hlt hf (Nat.le_refl _) (.cells #[.int .i64 ps[m].at_, .int .i64 ps[m].val, .bool true] 165) rfl)
        obtain ⟨z1, z2, _, _⟩ := two_cells (at_old (o := .cells #[.int .i64 ps[m].at_, .int .i64 ps[m].val, .bool true] 165) I.out.box)
        clear hcw hfrw hclw
        go_wp2
        go_roundw
        case rel => exact ⟨m + 1, by omega, by go_num, I1⟩
        case measure => simp [intOf]; omega
    · have e : m = ps.length := by omega
      subst e
      obtain ⟨aL, cL, hvL⟩ := RdS.form (own_block I.out.left).rd (n := (fenP ps).length) (by rw [List.take_length])
      subst hvL
      obtain ⟨t1, t2, t3, t4⟩ := two_cells I.out.res
      have hsz := I.out.size
      go_wp2
      have I2 := I.out
      refine bodyPost_ret (v := .agg #[.slice aW2 ws.length cW2, .slice aL (fenP ps).length cL]) (by simp [results, Tryz.results210, go_sem, t1, t2]) rfl ?_
      refine ⟨_, rfl, ⟨_, _, rfl, ?_, ?_⟩, ((I2.below.setCell (by simp only; omega) _).setCell (by simp only; omega) _).setCell (by simp only; omega) _⟩
      · rw [fenW_len]
        have := I2.words
        rw [List.take_length] at this
        refine (this.same fun b h1 h2 => ?_).wide (by omega) (by simp; omega)
        rw [Below.heap_setCell _ _ _ _ (by simp only; omega), Below.heap_setCell _ _ _ _ (by simp only; omega), Below.heap_setCell _ _ _ _ (by simp only; omega)]
      · have := own_block I2.left
        rw [List.take_length] at this
        refine (this.same fun b h1 h2 => ?_).wide (by omega) (by simp)
        rw [Below.heap_setCell _ _ _ _ (by simp only; omega), Below.heap_setCell _ _ _ _ (by simp only; omega), Below.heap_setCell _ _ _ _ (by simp only; omega)]
end Go.Proofs.YtipklbnfobckaaaGreatDoor

namespace Go.Proofs.YtipklbnfobckaaaGreatDoor
open Go.RowKit

/-- A write that is right. -/
def seB (s : Se) : Bool := secB s.at_ && wordB s.val
theorem seB_true {s : Se} (h : seB s = true) : secB s.at_ = true ∧ wordB s.val = true := by unfold seB at h; simpa using h
theorem seB_false {s : Se} {p : Prop} (h : seB s = false) (h1 : secB s.at_ = false → p) (h2 : wordB s.val = false → p) : p := by
  unfold seB at h
  rw [Bool.and_eq_false_iff] at h
  exact h.elim h1 h2
/-- All writes are right. -/
def sesB (ps : List Se) : Bool := decide (∀ k (h : k < ps.length), seB ps[k] = true)
theorem sesB_true {ps : List Se} (h : sesB ps = true) : ∀ k (h : k < ps.length), seB ps[k] = true := of_decide_eq_true h
theorem sesB_mk {ps : List Se} (h : ∀ k (h : k < ps.length), seB ps[k] = true) : sesB ps = true := decide_eq_true h
theorem sesB_not {ps : List Se} {k : Nat} (hk : k < ps.length) (h : seB ps[k] = false) : sesB ps = false := decide_eq_false (fun x => by have := x k hk; rw [h] at this; cases this)
theorem sesB_ex {ps : List Se} (h : sesB ps = false) : ∃ k, ∃ h : k < ps.length, seB ps[k] = false := by
  apply Classical.byContradiction
  intro hn
  have : sesB ps = true := sesB_mk (fun k hk => by
    cases e : seB ps[k] with
    | true => rfl
    | false => exact absurd ⟨k, hk, e⟩ hn)
  rw [h] at this
  cases this

set_option maxHeartbeats 1000000 in
theorem isWrite_any (s : Se) (w : World) : Calls Tryz.prog 160 #[.agg #[.int .i64 s.at_, .int .i64 s.val]] w fun e w' => e = .returned (.bool (seB s)) ∧ Below w.heap.size w w' := by
  have hb0 : Below w.heap.size w (w.alloc (.cells #[.int .i64 s.at_, .int .i64 s.val] 167)) := (Below.refl _ _).alloc (Nat.le_refl _) _
  by_cases q : secB s.at_ = true
  · have E := hideIt (show seB s = wordB s.val by unfold seB; rw [q]; rfl)
    have Q := hideIt q
    clear q
    go_enter Tryz.func160, Tryz.ntmps160
    go_wp2_with (first | (go_at_call 223; refine (isSector_any _ _).mono ?_; rw [Q.out]; rintro e w' ⟨rfl, rfl⟩) | (go_at_call 156; refine (isWord_any _ _).mono ?_; rintro e w' ⟨rfl, rfl⟩))
    go_ret
    exact ⟨ret_bool E.out.symm, hb0⟩
  · have q' : secB s.at_ = false := by simpa using q
    have E := hideIt (show seB s = false by unfold seB; rw [q']; rfl)
    have Q := hideIt q'
    clear q q'
    go_enter Tryz.func160, Tryz.ntmps160
    go_wp2_with (go_at_call 223; refine (isSector_any _ _).mono ?_; rw [Q.out]; rintro e w' ⟨rfl, rfl⟩)
    go_ret
    exact ⟨ret_bool E.out.symm, hb0⟩

set_option maxHeartbeats 4000000 in
theorem everyWrite_any (v : Value) (ps : List Se) (w : World) (h : RdE w v ps) (hn : ps.length ≤ 1048576) :
    Calls Tryz.prog 159 #[v, .func (.func 160) #[] #[]] w fun e w' => e = .returned (.bool (sesB ps)) ∧ Below w.heap.size w w' := by
  obtain ⟨aP, cP, rfl, _, hcP⟩ := h.shape
  clear h
  go_enter Tryz.func159, Tryz.ntmps159
  go_wp2
  go_loopw [6, 9] (fun _ i wr => ∃ k : Nat, k ≤ ps.length ∧ i = .int .i64 k ∧ Hid (∀ j (h : j < ps.length), j < k → seB ps[j] = true) ∧ Below w.heap.size w wr) (fun _ i _ => ps.length - (intOf i).toNat)
  case atStart => exact ⟨0, by omega, rfl, fun j h a => absurd a (by omega), Below.refl _ _⟩
  case round =>
    obtain ⟨m, hm, rfl, H, hbw⟩ := hrel
    have hz := hbw.size
    by_cases hlt2 : m < ps.length
    · obtain ⟨b2, o2, rfl, hbl2, hcell2⟩ := hcP (by omega)
      obtain ⟨d0, d1⟩ := hcell2 m hlt2
      have e0 := (hbw.cell (p := ⟨b2, o2 + m * 2, none⟩) hbl2).trans d0
      have e1 := (hbw.cell (p := ⟨b2, o2 + m * 2 + 1, none⟩) hbl2).trans d1
      have hb1 := hideIt (hbw.alloc hz (.cells #[.int .i64 ps[m].at_, .int .i64 ps[m].val] 167))
      clear d0 d1 hcell2 hcP
      by_cases q : seB ps[m] = true
      · have Q := hideIt q
        clear q
        go_wp2_with (go_at_call 160; refine (isWrite_any ps[m] _).mono ?_; rw [Q.out]; rintro e w' ⟨rfl, hw'⟩)
        have hw2 := hb1.out.trans (hw'.mono (by simp; omega))
        clear hb1 hw'
        go_roundw
        case rel =>
          refine ⟨m + 1, by omega, by go_num, fun j h a => ?_, hw2⟩
          by_cases e : j = m
          · subst e; exact Q.out
          · exact H.out j h (by omega)
        case measure => simp [intOf]; omega
      · have Q := hideIt (show seB ps[m] = false by simpa using q)
        have E := hideIt (sesB_not hlt2 Q.out)
        clear q
        go_wp2_with (go_at_call 160; refine (isWrite_any ps[m] _).mono ?_; rw [Q.out]; rintro e w' ⟨rfl, hw'⟩)
        have hw2 := hb1.out.trans (hw'.mono (by simp; omega))
        go_ret
        exact ⟨ret_bool E.out.symm, hw2⟩
    · have E := hideIt (sesB_mk (fun j h => H.out j h (by omega)))
      go_wp2
      go_ret
      exact ⟨ret_bool E.out.symm, hbw⟩

set_option maxHeartbeats 4000000 in
theorem implBlkOK_any (v : Value) (ws : List Int) (ps : List Se) (w : World) (h : RdBlk w v ws ps) (hw : ws.length ≤ 1048576) (hp : ps.length ≤ 1048576) :
    Calls Tryz.prog 104 #[v] w fun e w' => e = .returned (.bool (blkB ws ps)) ∧ Below w.heap.size w w' := by
  obtain ⟨vW, vP, rfl, h1, h2⟩ := h
  obtain ⟨aW, cW, rfl, _, hcW⟩ := h1.shape
  obtain ⟨aP, cP, rfl, _, hcP⟩ := h2.shape
  have H1 := hideIt h1
  have H2 := hideIt h2
  clear h1 h2 hcW hcP
  have hb0 : Below w.heap.size w (w.alloc (.cells #[.slice aW ws.length cW, .slice aP ps.length cP] 44)) := (Below.refl _ _).alloc (Nat.le_refl _) _
  have HB := hideIt hb0
  by_cases c1 : ws.length = 32
  case neg =>
    have E := hideIt (blkB_len1 (ps := ps) c1)
    have c1' : ((ws.length : Int) == 32) = false := by rw [beq_eq_false_iff_ne]; omega
    clear c1
    go_enter Tryz.func104, Tryz.ntmps104
    go_wp2
    go_ret
    exact ⟨ret_bool E.out.symm, HB.out⟩
  have c1n : ((ws.length : Int) == 32) = true := by simp; omega
  have C1 := hideIt c1
  clear c1
  by_cases c2 : 400 < ps.length
  · have E := hideIt (blkB_len2 (ws := ws) c2)
    have c2' : decide ((ps.length : Int) ≤ 400) = false := by simp; omega
    go_enter Tryz.func104, Tryz.ntmps104
    go_wp2
    go_ret
    exact ⟨ret_bool E.out.symm, HB.out⟩
  by_cases c3 : wordsB ws = true
  case neg =>
    have c3' : wordsB ws = false := by simpa using c3
    obtain ⟨k, hk, hkf⟩ := wordsB_ex c3'
    have E := hideIt (blkB_w (ps := ps) hk hkf)
    have W0 := hideIt c3'
    clear c3 c3' hkf hk
    go_enter Tryz.func104, Tryz.ntmps104
    go_wp2_with (go_at_call 105; refine (everyWord_any _ ws _ (Rd.below H1.out HB.out) (by omega)).mono ?_; rw [W0.out]; rintro e w' ⟨rfl, rfl⟩)
    go_ret
    exact ⟨ret_bool E.out.symm, HB.out⟩
  have HW := hideIt (wordsB_true c3)
  have W1 := hideIt c3
  clear c3
  cases c4 : sesB ps with
  | true =>
    have E := hideIt (blkB_mk C1.out (by omega) HW.out (fun j h => seB_true (sesB_true c4 j h)))
    have W2 := hideIt c4
    clear c4
    go_enter Tryz.func104, Tryz.ntmps104
    go_wp2_with (first | (go_at_call 105; refine (everyWord_any _ ws _ (Rd.below H1.out HB.out) (by omega)).mono ?_; rw [W1.out]; rintro e w' ⟨rfl, rfl⟩) | (go_at_call 159; refine (everyWrite_any _ ps _ (Rd.below H2.out HB.out) (by omega)).mono ?_; rw [W2.out]; rintro e w' ⟨rfl, hw'⟩))
    go_ret
    exact ⟨ret_bool E.out.symm, HB.out.trans (hw'.mono (by simp))⟩
  | false =>
    obtain ⟨k, hk, hkf⟩ := sesB_ex c4
    have E := hideIt (show blkB ws ps = false from seB_false hkf (blkB_a (ws := ws) hk) (blkB_v (ws := ws) hk))
    have W2 := hideIt c4
    clear c4 hk hkf
    go_enter Tryz.func104, Tryz.ntmps104
    go_wp2_with (first | (go_at_call 105; refine (everyWord_any _ ws _ (Rd.below H1.out HB.out) (by omega)).mono ?_; rw [W1.out]; rintro e w' ⟨rfl, rfl⟩) | (go_at_call 159; refine (everyWrite_any _ ps _ (Rd.below H2.out HB.out) (by omega)).mono ?_; rw [W2.out]; rintro e w' ⟨rfl, hw'⟩))
    go_ret
    exact ⟨ret_bool E.out.symm, HB.out.trans (hw'.mono (by simp))⟩
end Go.Proofs.YtipklbnfobckaaaGreatDoor

namespace Go.Proofs.YtipklbnfobckaaaGreatDoor
open Go.RowKit

/-- The code that the calls with a place ask first. -/
def askE (ws : List Int) (ps : List Se) (at_ : Int) : Int := if blkB ws ps = false then 1 else if secB at_ = false then 14 else 0
theorem askE_bad {ws : List Int} {ps : List Se} {at_ : Int} (h : blkB ws ps = false) : askE ws ps at_ = 1 := by unfold askE; rw [if_pos h]
theorem askE_place {ws : List Int} {ps : List Se} {at_ : Int} (h : blkB ws ps = true) (h2 : secB at_ = false) : askE ws ps at_ = 14 := by unfold askE; rw [if_neg (by rw [h]; simp), if_pos h2]
theorem askE_ok {ws : List Int} {ps : List Se} {at_ : Int} (h : blkB ws ps = true) (h2 : secB at_ = true) : askE ws ps at_ = 0 := by unfold askE; rw [if_neg (by rw [h]; simp), if_neg (by rw [h2]; simp)]

set_option maxHeartbeats 1000000 in
theorem sectorFault_any (v : Value) (ws : List Int) (ps : List Se) (at_ : Int) (w : World) (h : RdBlk w v ws ps) (hw : ws.length ≤ 1048576) (hp : ps.length ≤ 1048576) :
    Calls Tryz.prog 294 #[v, .int .i64 at_] w fun e w' => e = .returned (.int .i64 (askE ws ps at_)) ∧ Below w.heap.size w w' := by
  have HR := hideIt h
  obtain ⟨vW, vP, rfl, h1, h2⟩ := h
  obtain ⟨aW, cW, rfl, _⟩ := h1.shape
  obtain ⟨aP, cP, rfl, _⟩ := h2.shape
  clear h1 h2
  have hb0 : Below w.heap.size w (w.alloc (.cells #[.slice aW ws.length cW, .slice aP ps.length cP] 44)) := (Below.refl _ _).alloc (Nat.le_refl _) _
  by_cases c1 : blkB ws ps = true
  · by_cases c2 : secB at_ = true
    · rw [askE_ok c1 c2]
      go_enter Tryz.func294, Tryz.ntmps294
      go_wp2_with (first | (go_at_call 104; refine (implBlkOK_any _ ws ps _ (HR.out.below hb0) hw hp).mono ?_; rintro e w1 ⟨rfl, hb1⟩) | (go_at_call 223; refine (isSector_any _ _).mono ?_; rintro e w2 ⟨rfl, rfl⟩))
      go_ret
      exact ⟨rfl, below_trans hb0 hb1 (by simp)⟩
    · have c2' : secB at_ = false := by simpa using c2
      rw [askE_place c1 c2']
      clear c2
      go_enter Tryz.func294, Tryz.ntmps294
      go_wp2_with (first | (go_at_call 104; refine (implBlkOK_any _ ws ps _ (HR.out.below hb0) hw hp).mono ?_; rintro e w1 ⟨rfl, hb1⟩) | (go_at_call 223; refine (isSector_any _ _).mono ?_; rintro e w2 ⟨rfl, rfl⟩))
      go_ret
      exact ⟨rfl, below_trans hb0 hb1 (by simp)⟩
  · have c1' : blkB ws ps = false := by simpa using c1
    rw [askE_bad c1']
    clear c1
    go_enter Tryz.func294, Tryz.ntmps294
    go_wp2_with (first | (go_at_call 104; refine (implBlkOK_any _ ws ps _ (HR.out.below hb0) hw hp).mono ?_; rintro e w1 ⟨rfl, hb1⟩) | (go_at_call 223; refine (isSector_any _ _).mono ?_; rintro e w2 ⟨rfl, rfl⟩))
    go_ret
    exact ⟨rfl, below_trans hb0 hb1 (by simp)⟩

/-- Either a code, or a right device and a place. -/
theorem askE_cases (ws : List Int) (ps : List Se) (at_ : Int) : (askE ws ps at_ = 1 ∨ askE ws ps at_ = 14) ∨ (askE ws ps at_ = 0 ∧ blkB ws ps = true ∧ ∃ k : Nat, at_ = (k : Int) ∧ k < 32 ∧ k < ws.length) := by
  by_cases c1 : blkB ws ps = true
  · by_cases c2 : secB at_ = true
    · have := secB_true c2
      have hl := (blkB_len c1).1
      exact .inr ⟨askE_ok c1 c2, c1, at_.toNat, by omega, by omega, by omega⟩
    · exact .inl (.inr (askE_place c1 (by simpa using c2)))
  · exact .inl (.inl (askE_bad (by simpa using c1)))

end Go.Proofs.YtipklbnfobckaaaGreatDoor

namespace Go.Proofs.YtipklbnfobckaaaGreatDoor
open Go.RowKit

theorem ses_one (ps : List Se) : ∀ u ∈ ses ps, u.oneCell' = true := by
  intro u hu
  simp only [ses, List.mem_flatMap, Se.cells] at hu
  obtain ⟨s, _, hs⟩ := hu
  simp at hs
  rcases hs with rfl | rfl <;> rfl
theorem RowBlk.setCell {w : World} {lo hi : Nat} {v : Value} {ws : List Int} {ps : List Se} (h : RowBlk w lo hi v ws ps) {a : Addr} (ha : a.block < lo) (u : Value) : RowBlk (w.setCell a u) lo hi v ws ps := by
  obtain ⟨vW, vP, rfl, h1, h2⟩ := h
  exact ⟨vW, vP, rfl, h1.same (fun b hb _ => Below.heap_setCell _ _ _ _ (by omega)), h2.same (fun b hb _ => Below.heap_setCell _ _ _ _ (by omega))⟩
theorem RowBlk.alloc {w : World} {lo hi : Nat} {v : Value} {ws : List Int} {ps : List Se} (h : RowBlk w lo hi v ws ps) (hi1 : hi ≤ w.heap.size) (o : Obj) : RowBlk (w.alloc o) lo hi v ws ps :=
  h.below ((Below.refl _ _).alloc (Nat.le_refl _) o) hi1
theorem RowBlk.zero (w : World) (lo hi : Nat) : RowBlk w lo hi (.agg #[.slice none 0 0, .slice none 0 0]) [] [] := ⟨_, _, rfl, RowZ.nil _ _ _, Row.nil _ _ _ _ _⟩
theorem ses_snoc (ps : List Se) (s : Se) : ses (ps ++ [s]) = ses ps ++ s.cells := by simp [ses]
/-- The shape of a slice, its length as it is wanted. -/
theorem RdE.form {w : World} {v : Value} {ps : List Se} (h : RdE w v ps) {n : Nat} (hn : ps.length = n) : ∃ ao cap, v = .slice ao n cap := by
  obtain ⟨ao, cap, e, _⟩ := h.shape
  exact ⟨ao, cap, by rw [← hn]; exact e⟩
theorem blkB_at {ws : List Int} {ps : List Se} (h : blkB ws ps = true) : ∀ j (hj : j < ps.length), 0 ≤ ps[j].at_ ∧ ps[j].at_ < 32 := fun j hj => secB_true (blkB_store h j hj).1
/-- One write, laid in a block of its own, as a slice of one. -/
theorem rd_sec (w1 : World) (a x : Int) : Rd (w1.alloc (.cells #[.int .i64 a, .int .i64 x] 167)) 2 (.slice (some ⟨w1.heap.size, 0, none⟩) 1 1) 1 (Se.cells ⟨a, x⟩) := by
  refine ⟨rfl, _, _, rfl, ⟨Nat.le_refl _, fun e => by cases e⟩, fun _ => ⟨w1.heap.size, 0, rfl, by simp, fun j hj => ?_⟩⟩
  obtain ⟨e0, e1, _, _⟩ := two_cells (at_new (w := w1) (o := .cells #[.int .i64 a, .int .i64 x] 167) rfl)
  rw [Nat.zero_add]
  rcases (show j = 0 ∨ j = 1 from by omega) with rfl | rfl
  · exact e0
  · exact e1
end Go.Proofs.YtipklbnfobckaaaGreatDoor
