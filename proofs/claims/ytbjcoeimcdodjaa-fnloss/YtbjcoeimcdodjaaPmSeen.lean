/- All words as they are loaded: by the program, and by the model. -/
import Derived.Test.YtbjcoeimcdodjaaZAI
namespace Go.Proofs.Ytbjcoeimcdodjaa
open Go.RowKit
def layW (ws : List Int) (ps : List St) : List Int := ps.foldl (fun acc p => acc.set p.at_.toNat p.val) ws
theorem layW_snoc (ws : List Int) (ps : List St) (p : St) : layW ws (ps ++ [p]) = (layW ws ps).set p.at_.toNat p.val := by simp [layW]
theorem layW_len (ws : List Int) : ∀ ps : List St, (layW ws ps).length = ws.length := by
  intro ps
  unfold layW
  induction ps generalizing ws with
  | nil => rfl
  | cons p ps ih => rw [List.foldl_cons, ih]; simp
theorem layW_at : ∀ (ps : List St) (ws : List Int) (k : Nat) (hk : k < ws.length) (_ : ∀ p ∈ ps, 0 ≤ p.at_) (hk' : k < (layW ws ps).length), (layW ws ps)[k] = lastW (k : Int) ws[k] ps
  | [], ws, k, hk, _, _ => rfl
  | p :: ps, ws, k, hk, h0, hk' => by
    have hk2 : k < (ws.set p.at_.toNat p.val).length := by simpa using hk
    have := layW_at ps (ws.set p.at_.toNat p.val) k hk2 (fun q hq => h0 q (by simp [hq])) hk'
    show (layW (ws.set p.at_.toNat p.val) ps)[k] = lastW (k : Int) (if p.at_ = (k : Int) then p.val else ws[k]) ps
    rw [this, List.getElem_set]
    have hp := h0 p (by simp)
    by_cases e : p.at_ = (k : Int)
    · rw [if_pos (by omega), if_pos e]
    · rw [if_neg (by omega), if_neg e]
def seenC (ws : List Int) (ps : List St) : Int := if pmB ws ps = true then 0 else 1
def seenZ (ws : List Int) (ps : List St) : List Int := if pmB ws ps = true then layW ws ps else []
theorem seen_not {ws : List Int} {ps : List St} (h : pmB ws ps = false) : seenC ws ps = 1 ∧ seenZ ws ps = [] := by
  unfold seenC seenZ
  rw [h]
  exact ⟨rfl, rfl⟩
theorem seen_ok {ws : List Int} {ps : List St} (h : pmB ws ps = true) : seenC ws ps = 0 ∧ seenZ ws ps = layW ws ps := by
  unfold seenC seenZ
  rw [h]
  exact ⟨rfl, rfl⟩
set_option maxRecDepth 100000 in
set_option maxHeartbeats 4000000 in
theorem implPmSeen_any (v : Value) (ws : List Int) (ps : List St) (w : World) (h : RdPm w v ws ps) (hw : ws.length ≤ 1048576) (hp : ps.length ≤ 1048576) :
    Calls Try.prog 18 #[v] w fun e w' => ∃ v', e = .returned (.tuple #[v', .int .i64 (seenC ws ps)]) ∧ Row w' 3 1 w.heap.size w'.heap.size v' (seenZ ws ps).length (ints (seenZ ws ps)) ∧ Below w.heap.size w w' := by
  have HR := hideIt h
  obtain ⟨vW, vP, rfl, h1, h2⟩ := h
  have H1 := hideIt h1
  obtain ⟨aW, cW, rfl, _⟩ := h1.shape
  obtain ⟨aP, cP, rfl, _, hcP⟩ := h2.shape
  have HP := hideIt hcP
  clear h1 h2 hcP
  have hb0 : Below w.heap.size w (w.alloc (.cells #[.slice aW ws.length cW, .slice aP ps.length cP] 26)) := (Below.refl _ _).alloc (Nat.le_refl _) _
  by_cases hc : pmB ws ps = true
  · obtain ⟨e1, e2⟩ := seen_ok hc
    rw [e1, e2]
    clear e1 e2
    have OK := hideIt (pmB_in hc)
    go_enter Try.func18, Try.ntmps18
    go_wp2_with fail
    refine (implPmOK_any _ ws ps _ (HR.out.below hb0) hw hp).mono ?_
    rintro e w1 ⟨rfl, hb1⟩
    have hz1 : w.heap.size + 1 ≤ w1.heap.size := by have := hb1.size; simp at this; omega
    have V0 := (hb1.block w.heap.size (by simp <;> omega)).trans (at_new rfl)
    obtain ⟨x1, x2, x3, x4⟩ := two_cells V0
    have B1 := hideIt (below_trans hb0 hb1 (by simp <;> omega))
    have VH := hideIt V0
    clear hb0 hb1 V0
    go_wp2_with (at_builtin; refine wpList_append_rd _ rfl (.const (.slice none 0 0)) (.tmp 11) 23 rfl w1.heap.size 3 (.int .i64 0) 1 8 Try.underlying23 info3 rfl (by decide) _ 0 [] rfl (World.ownsRow_nil _ _ _ _) _ ws.length (ints ws) rfl (Rd.below H1.out B1.out) (ints_one ws) (by simp [maxLen]; omega) (by omega) (Nat.le_refl _) ?_)
    intro v2 w2 hown2 hgr2
    have hown2 : w2.ownsRow w1.heap.size 3 1 v2 ws.length (ints ws) := by simpa using hown2
    obtain ⟨aW2, cW2, rfl⟩ := RdI.form (own_block hown2).rd rfl
    have hz2 : w1.heap.size ≤ w2.heap.size := hgr2.size
    have B2 := B1.out.grown hgr2 (by omega) (fun k hk => by cases hk)
    have V0 := (hgr2.block w.heap.size (by omega) (by simp [Value.ownBlock])).trans VH.out
    obtain ⟨z1, z2, z3, z4⟩ := two_cells V0
    have START := hideIt (And.intro (own_block hown2) B2)
    clear x1 x2 x3 x4 hown2 hgr2 B2 V0
    go_wp2
    go_loopw [6, 16] (fun _ i wr => ∃ m : Nat, m ≤ ps.length ∧ i = .int .i64 m ∧ Row wr 3 1 w1.heap.size w2.heap.size (.slice aW2 ws.length cW2) ws.length (ints (layW ws (ps.take m))) ∧ Below w.heap.size w wr ∧ w2.heap.size ≤ wr.heap.size) (fun _ i _ => ps.length - (intOf i).toNat)
    case atStart => exact ⟨0, by omega, rfl, START.out.1, START.out.2, Nat.le_refl _⟩
    case round =>
      obtain ⟨m, hm, rfl, hrow, hb, hz⟩ := hrel
      by_cases hlt : m < ps.length
      · obtain ⟨b, o, rfl, hbl, hcell⟩ := HP.out (by omega)
        obtain ⟨e0, e1, e2⟩ := hcell m hlt
        have d0 := (hb.cell (p := ⟨b, o + m * 3, none⟩) hbl).trans e0
        have d1 := (hb.cell (p := ⟨b, o + m * 3 + 1, none⟩) hbl).trans e1
        have d2 := (hb.cell (p := ⟨b, o + m * 3 + 2, none⟩) hbl).trans e2
        obtain ⟨q0, q1⟩ := OK.out m hlt
        obtain ⟨_, aw', cw', ew', _, hcw⟩ := hrow.rd
        cases ew'
        obtain ⟨bw, ow, rfl, hblw, _⟩ := hcw (by omega)
        obtain ⟨rfl, hb1, _, _, hfrw, hclw⟩ := (hrow.alloc hz (.cells #[.int .i64 ps[m].at_, .int .i64 ps[m].val, .bool ps[m].fl] 45)).at
        have hj : ps[m].at_.toNat < (layW ws (ps.take m)).length := by rw [layW_len]; omega
        have g0 := hfrw ps[m].at_.toNat
        have g1 := (hclw ps[m].at_.toNat (by omega)).trans (ints_at _ _ hj)
        have F : Hid (Row ((wr.setCell ⟨bw, ps[m].at_.toNat, none⟩ (.int .i64 ps[m].val)).alloc (.cells #[.int .i64 ps[m].at_, .int .i64 ps[m].val, .bool ps[m].fl] 45)) 3 1 w1.heap.size w2.heap.size (.slice (some ⟨bw, 0, none⟩) ws.length cW2) ws.length (ints (layW ws (ps.take (m + 1))))) := by
          rw [take_snoc ps m hlt, layW_snoc, ← ints_set]
          exact (hrow.stored _ _).alloc (by simp; omega) _
        have G := hideIt ((hb.setCell (p := ⟨bw, ps[m].at_.toNat, none⟩) (by simp only; omega) (.int .i64 ps[m].val)).alloc (by simp; omega) (.cells #[.int .i64 ps[m].at_, .int .i64 ps[m].val, .bool ps[m].fl] 45))
        clear hrow hcell e0 e1 e2 hcw hfrw hclw
        go_wp2
        go_roundw
        case rel => exact ⟨m + 1, by omega, by go_num, F.out, G.out, by simp; omega⟩
        case measure => simp [intOf]; omega
      · have e : m = ps.length := by omega
        subst e
        have R := hideIt hrow
        clear hrow
        go_wp2
        go_ret2
        refine ⟨_, rfl, ?_, hb⟩
        have := R.out
        rw [List.take_length] at this
        rw [layW_len]
        exact this.wide (by omega) hz
  · have hc' : pmB ws ps = false := by simpa using hc
    clear hc
    obtain ⟨e1, e2⟩ := seen_not hc'
    rw [e1, e2]
    clear e1 e2
    go_enter Try.func18, Try.ntmps18
    go_wp2_with fail
    refine (implPmOK_any _ ws ps _ (HR.out.below hb0) hw hp).mono ?_
    rintro e w1 ⟨rfl, hb1⟩
    have B1 := hideIt (below_trans hb0 hb1 (by simp <;> omega))
    clear hb0 hb1
    go_wp2
    go_ret2
    exact ⟨_, rfl, Row.nil _ _ _ _ _, B1.out⟩
end Go.Proofs.Ytbjcoeimcdodjaa
