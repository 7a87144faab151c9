/- Several texts laid together: BlkRead, BlkSm, BlkOwn, BlkWrite, BlkBar. -/
import Derived.Test.YtbjalmiheipjjaaDoorBlkOKI
import Derived.Deep.RegionLaw
namespace Go.Proofs.YtbjalmiheipjjaaDoor
open Go.RowKit
def askE (ws : List Int) (ps : List Se) (at_ : Int) : Int := if blkB ws ps = false then 1 else if secB at_ = false then 14 else 0
theorem askE_bad {ws : List Int} {ps : List Se} {at_ : Int} (h : blkB ws ps = false) : askE ws ps at_ = 1 := by unfold askE; rw [if_pos h]
theorem askE_place {ws : List Int} {ps : List Se} {at_ : Int} (h : blkB ws ps = true) (h2 : secB at_ = false) : askE ws ps at_ = 14 := by unfold askE; rw [if_neg (by rw [h]; simp), if_pos h2]
theorem askE_ok {ws : List Int} {ps : List Se} {at_ : Int} (h : blkB ws ps = true) (h2 : secB at_ = true) : askE ws ps at_ = 0 := by unfold askE; rw [if_neg (by rw [h]; simp), if_neg (by rw [h2]; simp)]
set_option maxHeartbeats 1000000 in
theorem sectorFault_any (v : Value) (ws : List Int) (ps : List Se) (at_ : Int) (w : World) (h : RdBlk w v ws ps) (hw : ws.length ≤ 1048576) (hp : ps.length ≤ 1048576) :
    Calls Tryd.prog 71 #[v, .int .i64 at_] w fun e w' => e = .returned (.int .i64 (askE ws ps at_)) ∧ Below w.heap.size w w' := by
  have HR := hideIt h
  obtain ⟨vW, vP, rfl, h1, h2⟩ := h
  obtain ⟨aW, cW, rfl, _⟩ := h1.shape
  obtain ⟨aP, cP, rfl, _⟩ := h2.shape
  clear h1 h2
  have hb0 : Below w.heap.size w (w.alloc (.cells #[.slice aW ws.length cW, .slice aP ps.length cP] 34)) := (Below.refl _ _).alloc (Nat.le_refl _) _
  by_cases c1 : blkB ws ps = true
  · by_cases c2 : secB at_ = true
    · rw [askE_ok c1 c2]
      go_enter Tryd.func71, Tryd.ntmps71
      go_wp2_with (first | (go_at_call 46; refine (implBlkOK_any _ ws ps _ (HR.out.below hb0) hw hp).mono ?_; rintro e w1 ⟨rfl, hb1⟩) | (go_at_call 72; refine (isSector_any _ _).mono ?_; rintro e w2 ⟨rfl, rfl⟩))
      go_ret
      exact ⟨rfl, below_trans hb0 hb1 (by simp)⟩
    · have c2' : secB at_ = false := by simpa using c2
      rw [askE_place c1 c2']
      clear c2
      go_enter Tryd.func71, Tryd.ntmps71
      go_wp2_with (first | (go_at_call 46; refine (implBlkOK_any _ ws ps _ (HR.out.below hb0) hw hp).mono ?_; rintro e w1 ⟨rfl, hb1⟩) | (go_at_call 72; refine (isSector_any _ _).mono ?_; rintro e w2 ⟨rfl, rfl⟩))
      go_ret
      exact ⟨rfl, below_trans hb0 hb1 (by simp)⟩
  · have c1' : blkB ws ps = false := by simpa using c1
    rw [askE_bad c1']
    clear c1
    go_enter Tryd.func71, Tryd.ntmps71
    go_wp2_with (first | (go_at_call 46; refine (implBlkOK_any _ ws ps _ (HR.out.below hb0) hw hp).mono ?_; rintro e w1 ⟨rfl, hb1⟩) | (go_at_call 72; refine (isSector_any _ _).mono ?_; rintro e w2 ⟨rfl, rfl⟩))
    go_ret
    exact ⟨rfl, below_trans hb0 hb1 (by simp)⟩
theorem askE_cases (ws : List Int) (ps : List Se) (at_ : Int) : (askE ws ps at_ = 1 ∨ askE ws ps at_ = 14) ∨ (askE ws ps at_ = 0 ∧ blkB ws ps = true ∧ ∃ k : Nat, at_ = (k : Int) ∧ k < 32 ∧ k < ws.length) := by
  by_cases c1 : blkB ws ps = true
  · by_cases c2 : secB at_ = true
    · have := secB_true c2
      have hl := (blkB_len c1).1
      exact .inr ⟨askE_ok c1 c2, c1, at_.toNat, by omega, by omega, by omega⟩
    · exact .inl (.inr (askE_place c1 (by simpa using c2)))
  · exact .inl (.inl (askE_bad (by simpa using c1)))
end Go.Proofs.YtbjalmiheipjjaaDoor

namespace Go.Proofs.YtbjalmiheipjjaaDoor
open Go.RowKit
theorem ses_one (ps : List Se) : ∀ u ∈ ses ps, u.oneCell' = true := by
  intro u hu
  simp only [ses, List.mem_flatMap, Se.cells] at hu
  obtain ⟨s, _, hs⟩ := hu
  simp at hs
  rcases hs with rfl | rfl <;> rfl
theorem RowBlk.setCell {w : World} {lo hi : Nat} {v : Value} {ws : List Int} {ps : List Se} (h : RowBlk w lo hi v ws ps) {a : Addr} (ha : a.block < lo) (u : Value) : RowBlk (w.setCell a u) lo hi v ws ps := by
  obtain ⟨vW, vP, rfl, h1, h2⟩ := h
  exact ⟨vW, vP, rfl, h1.same (fun b hb _ => Below.heap_setCell _ _ _ _ (by omega)), h2.same (fun b hb _ => Below.heap_setCell _ _ _ _ (by omega))⟩
theorem RowBlk.alloc {w : World} {lo hi : Nat} {v : Value} {ws : List Int} {ps : List Se} (h : RowBlk w lo hi v ws ps) (hi1 : hi ≤ w.heap.size) (o : Obj) : RowBlk (w.alloc o) lo hi v ws ps :=
  h.below ((Below.refl _ _).alloc (Nat.le_refl _) o) hi1
theorem RowBlk.zero (w : World) (lo hi : Nat) : RowBlk w lo hi (.agg #[.slice none 0 0, .slice none 0 0]) [] [] := ⟨_, _, rfl, RowZ.nil _ _ _, Row.nil _ _ _ _ _⟩
theorem ses_snoc (ps : List Se) (s : Se) : ses (ps ++ [s]) = ses ps ++ s.cells := by simp [ses]
theorem RdE.form {w : World} {v : Value} {ps : List Se} (h : RdE w v ps) {n : Nat} (hn : ps.length = n) : ∃ ao cap, v = .slice ao n cap := by
  obtain ⟨ao, cap, e, _⟩ := h.shape
  exact ⟨ao, cap, by rw [← hn]; exact e⟩
theorem blkB_at {ws : List Int} {ps : List Se} (h : blkB ws ps = true) : ∀ j (hj : j < ps.length), 0 ≤ ps[j].at_ ∧ ps[j].at_ < 32 := fun j hj => secB_true (blkB_store h j hj).1
end Go.Proofs.YtbjalmiheipjjaaDoor

namespace Go.Proofs.YtbjalmiheipjjaaDoor
open Go.RowKit
def RowBlk3 (w : World) (lo hi : Nat) (v : Value) (ws : List Int) (ps : List Se) : Prop := ∃ vW vP, v = .agg #[vW, vP] ∧ Row w 3 1 lo hi vW ws.length (ints ws) ∧ Row w 107 2 lo hi vP ps.length (ses ps)
end Go.Proofs.YtbjalmiheipjjaaDoor

namespace Go.Proofs.YtbjalmiheipjjaaDoor
open Go.RowKit
def writeC (ws : List Int) (ps : List Se) (at_ v : Int) : Int := if askE ws ps at_ = 0 then if wordB v = false then 4 else if ps.length = 400 then 7 else 0 else askE ws ps at_
def writeWs (ws : List Int) (ps : List Se) (at_ v : Int) : List Int := if writeC ws ps at_ v = 0 ∨ writeC ws ps at_ v = 7 then ws else []
def writePs (ws : List Int) (ps : List Se) (at_ v : Int) : List Se := if writeC ws ps at_ v = 0 then ps ++ [⟨at_, v⟩] else if writeC ws ps at_ v = 7 then ps else []
theorem write_cases (ws : List Int) (ps : List Se) (at_ v : Int) :
    ((askE ws ps at_ = 1 ∨ askE ws ps at_ = 14) ∧ writeC ws ps at_ v = askE ws ps at_ ∧ writeWs ws ps at_ v = [] ∧ writePs ws ps at_ v = []) ∨
    (askE ws ps at_ = 0 ∧ wordB v = false ∧ writeC ws ps at_ v = 4 ∧ writeWs ws ps at_ v = [] ∧ writePs ws ps at_ v = []) ∨
    (askE ws ps at_ = 0 ∧ wordB v = true ∧ ps.length = 400 ∧ writeC ws ps at_ v = 7 ∧ writeWs ws ps at_ v = ws ∧ writePs ws ps at_ v = ps) ∨
    (askE ws ps at_ = 0 ∧ wordB v = true ∧ ¬ ps.length = 400 ∧ writeC ws ps at_ v = 0 ∧ writeWs ws ps at_ v = ws ∧ writePs ws ps at_ v = ps ++ [⟨at_, v⟩]) := by
  rcases askE_cases ws ps at_ with hc | ⟨hc, _⟩
  · left
    have e : writeC ws ps at_ v = askE ws ps at_ := by unfold writeC; rw [if_neg (by omega)]
    refine ⟨hc, e, ?_, ?_⟩
    · unfold writeWs; rw [e, if_neg (by omega)]
    · unfold writePs; rw [e, if_neg (by omega), if_neg (by omega)]
  · right
    by_cases c1 : wordB v = true
    · right
      by_cases c2 : ps.length = 400
      · have e : writeC ws ps at_ v = 7 := by unfold writeC; rw [if_pos hc, if_neg (by rw [c1]; simp), if_pos c2]
        refine .inl ⟨hc, c1, c2, e, ?_, ?_⟩
        · unfold writeWs; rw [e, if_pos (.inr rfl)]
        · unfold writePs; rw [e, if_neg (by decide), if_pos rfl]
      · have e : writeC ws ps at_ v = 0 := by unfold writeC; rw [if_pos hc, if_neg (by rw [c1]; simp), if_neg c2]
        refine .inr ⟨hc, c1, c2, e, ?_, ?_⟩
        · unfold writeWs; rw [e, if_pos (.inl rfl)]
        · unfold writePs; rw [e, if_pos rfl]
    · have c1' : wordB v = false := by simpa using c1
      have e : writeC ws ps at_ v = 4 := by unfold writeC; rw [if_pos hc, if_pos c1']
      refine .inl ⟨hc, c1', e, ?_, ?_⟩
      · unfold writeWs; rw [e, if_neg (by decide)]
      · unfold writePs; rw [e, if_neg (by decide), if_neg (by decide)]
end Go.Proofs.YtbjalmiheipjjaaDoor

namespace Go.Proofs.YtbjalmiheipjjaaDoor
open Go.RowKit
def layE (ws : List Int) (ps : List Se) : List Int := ps.foldl (fun acc p => acc.set p.at_.toNat p.val) ws
theorem layE_snoc (ws : List Int) (ps : List Se) (p : Se) : layE ws (ps ++ [p]) = (layE ws ps).set p.at_.toNat p.val := by simp [layE]
theorem layE_len (ws : List Int) : ∀ ps : List Se, (layE ws ps).length = ws.length := by
  intro ps
  unfold layE
  induction ps generalizing ws with
  | nil => rfl
  | cons p ps ih => rw [List.foldl_cons, ih]; simp
def barC (ws : List Int) (ps : List Se) : Int := if blkB ws ps = true then 0 else 1
def barWs (ws : List Int) (ps : List Se) : List Int := if blkB ws ps = true then layE ws ps else []
theorem bar_not {ws : List Int} {ps : List Se} (h : blkB ws ps = false) : barC ws ps = 1 ∧ barWs ws ps = [] := by
  unfold barC barWs
  rw [h]
  exact ⟨rfl, rfl⟩
theorem bar_ok {ws : List Int} {ps : List Se} (h : blkB ws ps = true) : barC ws ps = 0 ∧ barWs ws ps = layE ws ps := by
  unfold barC barWs
  rw [h]
  exact ⟨rfl, rfl⟩
end Go.Proofs.YtbjalmiheipjjaaDoor
