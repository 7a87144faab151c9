/- All writes made sure: by the model. -/
import Derived.Test.YtbjcoeimcdodjaaDoorBlkOwn
namespace Go.Proofs.YtbjcoeimcdodjaaDoor
open Go.RowKit
def layE (ws : List Int) (ps : List Se) : List Int := ps.foldl (fun acc p => acc.set p.at_.toNat p.val) ws
theorem layE_snoc (ws : List Int) (ps : List Se) (p : Se) : layE ws (ps ++ [p]) = (layE ws ps).set p.at_.toNat p.val := by simp [layE]
theorem layE_len (ws : List Int) : ∀ ps : List Se, (layE ws ps).length = ws.length := by
  intro ps
  unfold layE
  induction ps generalizing ws with
  | nil => rfl
  | cons p ps ih => rw [List.foldl_cons, ih]; simp
def barC (ws : List Int) (ps : List Se) : Int := if blkB ws ps = true then 0 else 1
def barWs (ws : List Int) (ps : List Se) : List Int := if blkB ws ps = true then layE ws ps else []
theorem bar_not {ws : List Int} {ps : List Se} (h : blkB ws ps = false) : barC ws ps = 1 ∧ barWs ws ps = [] := by
  unfold barC barWs
  rw [h]
  exact ⟨rfl, rfl⟩
theorem bar_ok {ws : List Int} {ps : List Se} (h : blkB ws ps = true) : barC ws ps = 0 ∧ barWs ws ps = layE ws ps := by
  unfold barC barWs
  rw [h]
  exact ⟨rfl, rfl⟩
structure BarInv (w wr : World) (eZ : TypeId) (ws : List Int) (ps : List Se) (lo hi : Nat) (vW vP : Value) (m : Nat) : Prop where
  words : Row wr eZ 1 lo hi vW ws.length (ints (layE ws (ps.take m)))
  pend : Row wr 59 2 lo hi vP ps.length (ses ps)
  box : wr.heap[w.heap.size]? = some (.cells #[vW, vP] 26 (0, 0))
  res : wr.heap[w.heap.size + 1]? = some (.cells #[.slice none 0 0, .slice none 0 0] 26 (0, 0))
  below : Below w.heap.size w wr
  size : hi ≤ wr.heap.size
theorem BarInv.hit {w wr : World} {eZ : TypeId} {ws : List Int} {ps : List Se} {lo hi : Nat} {b n cap : Nat} {vP : Value} {m : Nat} (h : BarInv w wr eZ ws ps lo hi (.slice (some ⟨b, 0, none⟩) n cap) vP m) (he : eZ ≠ 59) (hm : m < ps.length) (hlo : w.heap.size + 2 ≤ lo) (hn : n = ws.length) :
    BarInv w (wr.setCell ⟨b, ps[m].at_.toNat, none⟩ (.int .i64 ps[m].val)) eZ ws ps lo hi (.slice (some ⟨b, 0, none⟩) n cap) vP (m + 1) := by
  subst hn
  obtain ⟨h1, h3, h4, h5, h6, h7⟩ := h
  obtain ⟨_, hb1, hb2, _⟩ := h1.at
  have e1 : layE ws (ps.take (m + 1)) = (layE ws (ps.take m)).set ps[m].at_.toNat ps[m].val := by rw [take_snoc ps m hm, layE_snoc]
  refine ⟨?_, ?_, ?_, ?_, ?_, ?_⟩
  · rw [e1, ← ints_set]
    exact h1.stored _ _
  · exact h3.apart h1 (Ne.symm he) (World.ownsRow.stored h1.1 _ _).2
  · rw [Below.heap_setCell _ _ _ _ (by simp only; omega)]; exact h4
  · rw [Below.heap_setCell _ _ _ _ (by simp only; omega)]; exact h5
  · exact h6.setCell (by simp only; omega) _
  · simpa using h7
theorem BarInv.drew {w wr : World} {eZ : TypeId} {ws : List Int} {ps : List Se} {lo hi : Nat} {vW vP : Value} {m : Nat} (h : BarInv w wr eZ ws ps lo hi vW vP m) : BarInv w wr.drew eZ ws ps lo hi vW vP m := by
  obtain ⟨h1, h2, h4, h5, h6, h7⟩ := h
  exact ⟨h1.same (fun _ _ _ => rfl), h2.same (fun _ _ _ => rfl), h4, h5, h6.drew, h7⟩
set_option maxRecDepth 100000 in
set_option maxHeartbeats 4000000 in
theorem l02Barrier_any (v : Value) (ws : List Int) (ps : List Se) (w : World) (h : RdBlk w v ws ps) (hw : ws.length ≤ 1048576) (hp : ps.length ≤ 1048576) (hok : ∀ j (h : j < ps.length), 0 ≤ ps[j].at_ ∧ ps[j].at_ < ws.length) :
    Calls Tryd.prog 52 #[v] w fun e w' => ∃ v', e = .returned v' ∧ RowBlk w' w.heap.size w'.heap.size v' (layE ws ps) [] ∧ Below w.heap.size w w' := by
  have HR := hideIt h
  obtain ⟨vW, vP, rfl, h1, h2⟩ := h
  obtain ⟨aW, cW, rfl, _⟩ := h1.shape
  obtain ⟨aP, cP, rfl, _⟩ := h2.shape
  have HOK := hideIt hok
  clear h1 h2 hok
  have hb0 : Below w.heap.size w ((w.alloc (.cells #[.slice aW ws.length cW, .slice aP ps.length cP] 26)).alloc (.cells #[.slice none 0 0, .slice none 0 0] 26)) := by
    repeat (refine Below.alloc ?_ (by simp <;> omega) _)
    exact Below.refl _ _
  go_enter Tryd.func52, Tryd.ntmps52
  go_wp2_with fail
  refine (l02Own_any _ ws ps _ (HR.out.below hb0) (by omega) (by omega)).mono ?_
  rintro e w2 ⟨v2, rfl, hr2, hb2⟩
  obtain ⟨vW2, vP2, rfl, hI2, hS2⟩ := hr2
  obtain ⟨aW2, cW2, rfl⟩ := RdI.form hI2.rd rfl
  obtain ⟨aP2, cP2, rfl⟩ := RdE.form hS2.rd rfl
  obtain ⟨eZ, heZ, hI2⟩ := hI2
  simp only [World.size_alloc] at hI2 hS2
  have HE := hideIt heZ
  have hz2 : w.heap.size + 2 ≤ w2.heap.size := by have := hb2.size; simp at this; omega
  have V0 := (hb2.block w.heap.size (by simp <;> omega)).trans (at_old (at_new rfl))
  have V1 := (hb2.block (w.heap.size + 1) (by simp)).trans (at_new (by simp))
  have B2 := below_trans hb0 hb2 (by simp <;> omega)
  obtain ⟨x1, x2, x3, x4⟩ := two_cells V0
  have INV : Hid (BarInv w ((w2.setCell ⟨w.heap.size, 0, none⟩ (.slice aW2 ws.length cW2)).setCell ⟨w.heap.size, 1, none⟩ (.slice aP2 ps.length cP2)) eZ ws ps (w.heap.size + 1 + 1) w2.heap.size (.slice aW2 ws.length cW2) (.slice aP2 ps.length cP2) 0) := by
    refine ⟨?_, ?_, ?_, ?_, ?_, ?_⟩
    · refine hI2.same fun b hb1 _ => ?_
      rw [Below.heap_setCell _ _ _ _ (by simp only; omega), Below.heap_setCell _ _ _ _ (by simp only; omega)]
    · refine hS2.same fun b hb1 _ => ?_
      rw [Below.heap_setCell _ _ _ _ (by simp only; omega), Below.heap_setCell _ _ _ _ (by simp only; omega)]
    · exact two_set1 (two_set0 V0 _) _
    · rw [Below.heap_setCell _ _ _ _ (by simp only; omega), Below.heap_setCell _ _ _ _ (by simp only; omega)]
      exact V1
    · exact (B2.setCell (by simp only; omega) _).setCell (by simp only; omega) _
    · simp
  clear hb0 hb2 hI2 hS2 V0 V1 B2 heZ
  go_wp2
  go_loopw [3] (fun i wr => ∃ m : Nat, m ≤ ps.length ∧ i = .int .i64 m ∧ Hid (BarInv w wr eZ ws ps (w.heap.size + 1 + 1) w2.heap.size (.slice aW2 ws.length cW2) (.slice aP2 ps.length cP2) m)) (fun i _ => ps.length - (intOf i).toNat)
  case atStart => exact ⟨0, by omega, rfl, INV⟩
  case round =>
    obtain ⟨m, hm, rfl, I⟩ := hrel
    obtain ⟨y1, y2, y3, y4⟩ := two_cells I.out.box
    by_cases hlt : m < ps.length
    · obtain ⟨_, ao', cap', e', _, hc⟩ := I.out.pend.rd
      cases e'
      obtain ⟨b, o, rfl, hbl, _⟩ := hc (by omega)
      obtain ⟨rfl, _, _, _, hfr, hcl⟩ := I.out.pend.at
      have e0 := (hcl (m * 2) (by omega)).trans (ses_at0 _ m hlt)
      have e1 := (hcl (m * 2 + 1) (by omega)).trans (ses_at1 _ m hlt)
      obtain ⟨q0, q1⟩ := HOK.out m hlt
      obtain ⟨_, aw', cw', ew', _, hcw⟩ := I.out.words.rd
      cases ew'
      obtain ⟨bw, ow, rfl, hblw, _⟩ := hcw (by omega)
      obtain ⟨rfl, _, _, _, hfrw, hclw⟩ := I.out.words.at
      have hj : ps[m].at_.toNat < (layE ws (ps.take m)).length := by rw [layE_len]; omega
      have g0 := hfrw ps[m].at_.toNat
      have g1 := (hclw ps[m].at_.toNat (by omega)).trans (ints_at _ _ hj)
      have q1' : ps[m].at_ < (ws.length : Int) := q1
      have hlt' : (m : Int) < (ps.length : Int) := by omega
      have hge : (0 : Int) ≤ (m : Int) := by omega
      clear hc hfr hcl hcw hfrw hclw
      go_wp2
      go_region
      all_goals
        go_wp2
        go_roundw
        case rel =>
          refine ⟨m + 1, by omega, by go_num, ?_⟩
          first | exact (I.out.hit HE.out hlt (Nat.le_refl _) rfl).drew | exact I.out.drew.hit HE.out hlt (Nat.le_refl _) rfl
        case measure => simp [intOf]; omega
    · have e : m = ps.length := by omega
      subst e
      have hsz := I.out.size
      obtain ⟨z1, z2, z3, z4⟩ := two_cells (at_old (o := .cells #[] 59) I.out.box)
      obtain ⟨t1, t2, t3, t4⟩ := two_cells (at_old (o := .cells #[] 59) I.out.res)
      have ho : (wr.alloc (.cells #[] 59)).ownsRow wr.heap.size 59 2 (.slice (some ⟨wr.heap.size, 0, none⟩) 0 0) 0 [] := by
        simpa using World.ownsRow_lit (base := wr.heap.size) (e := 59) (size := 2) wr #[] 0 (by simp) (by simp) rfl
      have HO := hideIt ho
      clear ho
      go_wp2
      have I2 := I.out
      refine bodyPost_ret (v := .agg #[.slice aW2 ws.length cW2, .slice (some ⟨wr.heap.size, 0, none⟩) 0 0]) (by simp [results, Tryd.results52, go_sem, t1, t2]) rfl ?_
      refine ⟨_, rfl, ⟨_, _, rfl, ⟨eZ, HE.out, ?_⟩, ?_⟩, (((I2.below.alloc (by omega) _).setCell (by simp only; omega) _).setCell (by simp only; omega) _).setCell (by simp only; omega) _⟩
      · rw [layE_len]
        have := I2.words
        rw [List.take_length] at this
        refine ((this.alloc hsz (.cells #[] 59)).same fun b h1 h2 => ?_).wide (by omega) (by simp; omega)
        rw [Below.heap_setCell _ _ _ _ (by simp only; omega), Below.heap_setCell _ _ _ _ (by simp only; omega), Below.heap_setCell _ _ _ _ (by simp only; omega)]
      · refine ((own_block HO.out).same fun b h1 h2 => ?_).wide (by omega) (by simp)
        rw [Below.heap_setCell _ _ _ _ (by simp only; omega), Below.heap_setCell _ _ _ _ (by simp only; omega), Below.heap_setCell _ _ _ _ (by simp only; omega)]
end Go.Proofs.YtbjcoeimcdodjaaDoor
