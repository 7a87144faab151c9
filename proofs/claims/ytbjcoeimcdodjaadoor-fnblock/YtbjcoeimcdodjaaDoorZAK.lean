/- Several texts laid together: BlkRead, BlkSm. -/
import Derived.Test.YtbjcoeimcdodjaaDoorBlkOKI
namespace Go.Proofs.YtbjcoeimcdodjaaDoor
open Go.RowKit
def askE (ws : List Int) (ps : List Se) (at_ : Int) : Int := if blkB ws ps = false then 1 else if secB at_ = false then 14 else 0
theorem askE_bad {ws : List Int} {ps : List Se} {at_ : Int} (h : blkB ws ps = false) : askE ws ps at_ = 1 := by unfold askE; rw [if_pos h]
theorem askE_place {ws : List Int} {ps : List Se} {at_ : Int} (h : blkB ws ps = true) (h2 : secB at_ = false) : askE ws ps at_ = 14 := by unfold askE; rw [if_neg (by rw [h]; simp), if_pos h2]
theorem askE_ok {ws : List Int} {ps : List Se} {at_ : Int} (h : blkB ws ps = true) (h2 : secB at_ = true) : askE ws ps at_ = 0 := by unfold askE; rw [if_neg (by rw [h]; simp), if_neg (by rw [h2]; simp)]
set_option maxHeartbeats 1000000 in
theorem sectorFault_any (v : Value) (ws : List Int) (ps : List Se) (at_ : Int) (w : World) (h : RdBlk w v ws ps) (hw : ws.length ≤ 1048576) (hp : ps.length ≤ 1048576) :
    Calls Tryd.prog 30 #[v, .int .i64 at_] w fun e w' => e = .returned (.int .i64 (askE ws ps at_)) ∧ Below w.heap.size w w' := by
  have HR := hideIt h
  obtain ⟨vW, vP, rfl, h1, h2⟩ := h
  obtain ⟨aW, cW, rfl, _⟩ := h1.shape
  obtain ⟨aP, cP, rfl, _⟩ := h2.shape
  clear h1 h2
  have hb0 : Below w.heap.size w (w.alloc (.cells #[.slice aW ws.length cW, .slice aP ps.length cP] 26)) := (Below.refl _ _).alloc (Nat.le_refl _) _
  by_cases c1 : blkB ws ps = true
  · by_cases c2 : secB at_ = true
    · rw [askE_ok c1 c2]
      go_enter Tryd.func30, Tryd.ntmps30
      go_wp2_with (first | (go_at_call 18; refine (implBlkOK_any _ ws ps _ (HR.out.below hb0) hw hp).mono ?_; rintro e w1 ⟨rfl, hb1⟩) | (go_at_call 55; refine (isSector_any _ _).mono ?_; rintro e w2 ⟨rfl, rfl⟩))
      go_ret
      exact ⟨rfl, below_trans hb0 hb1 (by simp)⟩
    · have c2' : secB at_ = false := by simpa using c2
      rw [askE_place c1 c2']
      clear c2
      go_enter Tryd.func30, Tryd.ntmps30
      go_wp2_with (first | (go_at_call 18; refine (implBlkOK_any _ ws ps _ (HR.out.below hb0) hw hp).mono ?_; rintro e w1 ⟨rfl, hb1⟩) | (go_at_call 55; refine (isSector_any _ _).mono ?_; rintro e w2 ⟨rfl, rfl⟩))
      go_ret
      exact ⟨rfl, below_trans hb0 hb1 (by simp)⟩
  · have c1' : blkB ws ps = false := by simpa using c1
    rw [askE_bad c1']
    clear c1
    go_enter Tryd.func30, Tryd.ntmps30
    go_wp2_with (first | (go_at_call 18; refine (implBlkOK_any _ ws ps _ (HR.out.below hb0) hw hp).mono ?_; rintro e w1 ⟨rfl, hb1⟩) | (go_at_call 55; refine (isSector_any _ _).mono ?_; rintro e w2 ⟨rfl, rfl⟩))
    go_ret
    exact ⟨rfl, below_trans hb0 hb1 (by simp)⟩
def lastE (at_ d : Int) (ps : List Se) : Int := ps.foldl (fun acc p => if p.at_ = at_ then p.val else acc) d
theorem lastE_none {at_ d : Int} : ∀ {ps : List Se}, (∀ p ∈ ps, ¬ p.at_ = at_) → lastE at_ d ps = d
  | [], _ => rfl
  | p :: ps, h => by
    show lastE at_ (if p.at_ = at_ then p.val else d) ps = d
    rw [if_neg (h p (by simp))]
    exact lastE_none (fun q hq => h q (by simp [hq]))
theorem lastE_append (at_ d : Int) (ps qs : List Se) : lastE at_ d (ps ++ qs) = lastE at_ (lastE at_ d ps) qs := by simp [lastE]
def readV (ws : List Int) (ps : List Se) (at_ : Int) : Int := if askE ws ps at_ = 0 then lastE at_ (ws[at_.toNat]?.getD 0) ps else 0
theorem readV_not {ws : List Int} {ps : List Se} {at_ : Int} (h : ¬ askE ws ps at_ = 0) : readV ws ps at_ = 0 := by unfold readV; rw [if_neg h]
theorem readV_ok {ws : List Int} {ps : List Se} {k : Nat} (h : askE ws ps (k : Int) = 0) (hk : k < ws.length) : readV ws ps (k : Int) = lastE (k : Int) ws[k] ps := by
  unfold readV; rw [if_pos h]; simp [hk]
theorem askE_cases (ws : List Int) (ps : List Se) (at_ : Int) : (askE ws ps at_ = 1 ∨ askE ws ps at_ = 14) ∨ (askE ws ps at_ = 0 ∧ blkB ws ps = true ∧ ∃ k : Nat, at_ = (k : Int) ∧ k < 32 ∧ k < ws.length) := by
  by_cases c1 : blkB ws ps = true
  · by_cases c2 : secB at_ = true
    · have := secB_true c2
      have hl := (blkB_len c1).1
      exact .inr ⟨askE_ok c1 c2, c1, at_.toNat, by omega, by omega, by omega⟩
    · exact .inl (.inr (askE_place c1 (by simpa using c2)))
  · exact .inl (.inl (askE_bad (by simpa using c1)))
end Go.Proofs.YtbjcoeimcdodjaaDoor

namespace Go.Proofs.YtbjcoeimcdodjaaDoor
open Go.RowKit
theorem ses_one (ps : List Se) : ∀ u ∈ ses ps, u.oneCell' = true := by
  intro u hu
  simp only [ses, List.mem_flatMap, Se.cells] at hu
  obtain ⟨s, _, hs⟩ := hu
  simp at hs
  rcases hs with rfl | rfl <;> rfl
theorem RowBlk.setCell {w : World} {lo hi : Nat} {v : Value} {ws : List Int} {ps : List Se} (h : RowBlk w lo hi v ws ps) {a : Addr} (ha : a.block < lo) (u : Value) : RowBlk (w.setCell a u) lo hi v ws ps := by
  obtain ⟨vW, vP, rfl, h1, h2⟩ := h
  exact ⟨vW, vP, rfl, h1.same (fun b hb _ => Below.heap_setCell _ _ _ _ (by omega)), h2.same (fun b hb _ => Below.heap_setCell _ _ _ _ (by omega))⟩
theorem RowBlk.alloc {w : World} {lo hi : Nat} {v : Value} {ws : List Int} {ps : List Se} (h : RowBlk w lo hi v ws ps) (hi1 : hi ≤ w.heap.size) (o : Obj) : RowBlk (w.alloc o) lo hi v ws ps :=
  h.below ((Below.refl _ _).alloc (Nat.le_refl _) o) hi1
theorem RowBlk.zero (w : World) (lo hi : Nat) : RowBlk w lo hi (.agg #[.slice none 0 0, .slice none 0 0]) [] [] := ⟨_, _, rfl, RowZ.nil _ _ _, Row.nil _ _ _ _ _⟩
theorem ses_snoc (ps : List Se) (s : Se) : ses (ps ++ [s]) = ses ps ++ s.cells := by simp [ses]
theorem RdE.form {w : World} {v : Value} {ps : List Se} (h : RdE w v ps) {n : Nat} (hn : ps.length = n) : ∃ ao cap, v = .slice ao n cap := by
  obtain ⟨ao, cap, e, _⟩ := h.shape
  exact ⟨ao, cap, by rw [← hn]; exact e⟩
theorem blkB_at {ws : List Int} {ps : List Se} (h : blkB ws ps = true) : ∀ j (hj : j < ps.length), 0 ≤ ps[j].at_ ∧ ps[j].at_ < 32 := fun j hj => secB_true (blkB_store h j hj).1
theorem rd_sec (w1 : World) (a x : Int) : Rd (w1.alloc (.cells #[.int .i64 a, .int .i64 x] 59)) 2 (.slice (some ⟨w1.heap.size, 0, none⟩) 1 1) 1 (Se.cells ⟨a, x⟩) := by
  refine ⟨rfl, _, _, rfl, ⟨Nat.le_refl _, fun e => by cases e⟩, fun _ => ⟨w1.heap.size, 0, rfl, by simp, fun j hj => ?_⟩⟩
  obtain ⟨e0, e1, _, _⟩ := two_cells (at_new (w := w1) (o := .cells #[.int .i64 a, .int .i64 x] 59) rfl)
  rw [Nat.zero_add]
  rcases (show j = 0 ∨ j = 1 from by omega) with rfl | rfl
  · exact e0
  · exact e1
end Go.Proofs.YtbjcoeimcdodjaaDoor
