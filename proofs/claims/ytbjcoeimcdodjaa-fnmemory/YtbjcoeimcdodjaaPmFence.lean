/- What is flushed made sure: by the model. -/
import Derived.Test.YtbjcoeimcdodjaaPmFlush
namespace Go.Proofs.Ytbjcoeimcdodjaa
open Go.RowKit
def fenW (ws : List Int) (ps : List St) : List Int := ps.foldl (fun acc p => if p.fl then acc.set p.at_.toNat p.val else acc) ws
def fenP (ps : List St) : List St := ps.filter (fun p => !p.fl)
theorem fenW_snoc (ws : List Int) (ps : List St) (p : St) : fenW ws (ps ++ [p]) = if p.fl then (fenW ws ps).set p.at_.toNat p.val else fenW ws ps := by simp [fenW]
theorem fenW_len (ws : List Int) : ∀ ps : List St, (fenW ws ps).length = ws.length := by
  intro ps
  unfold fenW
  induction ps generalizing ws with
  | nil => rfl
  | cons p ps ih =>
    rw [List.foldl_cons, ih]
    split <;> simp
theorem fenP_snoc (ps : List St) (p : St) : fenP (ps ++ [p]) = if p.fl then fenP ps else fenP ps ++ [p] := by
  unfold fenP
  rw [List.filter_append]
  cases h : p.fl <;> simp [h]
theorem fenP_le (ps : List St) : (fenP ps).length ≤ ps.length := List.length_filter_le _ _
structure FenInv (w wr : World) (ws : List Int) (ps : List St) (lo hi : Nat) (vW vP vL : Value) (m : Nat) : Prop where
  words : Row wr 3 1 lo hi vW ws.length (ints (fenW ws (ps.take m)))
  left : wr.ownsRow hi 45 3 vL (fenP (ps.take m)).length (sts (fenP (ps.take m)))
  pend : Row wr 45 3 lo hi vP ps.length (sts ps)
  box : wr.heap[w.heap.size]? = some (.cells #[vW, vP] 26 (0, 0))
  res : wr.heap[w.heap.size + 1]? = some (.cells #[.slice none 0 0, .slice none 0 0] 26 (0, 0))
  below : Below w.heap.size w wr
  size : hi ≤ wr.heap.size
theorem FenInv.hit {w wr : World} {ws : List Int} {ps : List St} {lo hi : Nat} {b n cap : Nat} {vP vL : Value} {m : Nat} (h : FenInv w wr ws ps lo hi (.slice (some ⟨b, 0, none⟩) n cap) vP vL m) (hm : m < ps.length) (hf : ps[m].fl = true) (hlo : w.heap.size + 2 ≤ lo) (o : Obj) (hn : n = ws.length) :
    FenInv w ((wr.setCell ⟨b, ps[m].at_.toNat, none⟩ (.int .i64 ps[m].val)).alloc o) ws ps lo hi (.slice (some ⟨b, 0, none⟩) n cap) vP vL (m + 1) := by
  subst hn
  obtain ⟨h1, h2, h3, h4, h5, h6, h7⟩ := h
  obtain ⟨_, hb1, hb2, _⟩ := h1.at
  have e1 : fenW ws (ps.take (m + 1)) = (fenW ws (ps.take m)).set ps[m].at_.toNat ps[m].val := by rw [take_snoc ps m hm, fenW_snoc, if_pos hf]
  have e2 : fenP (ps.take (m + 1)) = fenP (ps.take m) := by rw [take_snoc ps m hm, fenP_snoc, if_pos hf]
  refine ⟨?_, ?_, ?_, ?_, ?_, ?_, ?_⟩
  · rw [e1, ← ints_set]
    exact (h1.stored _ _).alloc (by simp; omega) o
  · rw [e2]
    exact ((own_block h2).same (w' := wr.setCell ⟨b, ps[m].at_.toNat, none⟩ (.int .i64 ps[m].val)) (fun k hk _ => Below.heap_setCell _ _ _ _ (by simp only; omega))).1.alloc o
  · exact (h3.apart h1 (by decide) (World.ownsRow.stored h1.1 _ _).2).alloc (by simp; omega) o
  · refine at_old ?_
    rw [Below.heap_setCell _ _ _ _ (by simp only; omega)]; exact h4
  · refine at_old ?_
    rw [Below.heap_setCell _ _ _ _ (by simp only; omega)]; exact h5
  · exact (h6.setCell (by simp only; omega) _).alloc (by simp; exact h6.size) o
  · simp; omega
theorem FenInv.miss {w wr w' : World} {ws : List Int} {ps : List St} {lo hi : Nat} {vW vP vL vL' : Value} {m : Nat} (h : FenInv w wr ws ps lo hi vW vP vL m) (hm : m < ps.length) (hf : ps[m].fl = false) (hlo : w.heap.size + 2 ≤ lo) (hhi : lo ≤ hi) (o o' : Obj)
    (ho : w'.ownsRow hi 45 3 vL' ((fenP (ps.take m)).length + 1) (sts (fenP (ps.take m)) ++ St.cells ps[m])) (hg : ((wr.alloc o).alloc o').grownBy w' vL.ownBlock) : FenInv w w' ws ps lo hi vW vP vL' (m + 1) := by
  obtain ⟨h1, h2, h3, h4, h5, h6, h7⟩ := h
  have hl := fun k hk => (((h2.alloc o).alloc o').lt k hk).1
  have e1 : fenW ws (ps.take (m + 1)) = fenW ws (ps.take m) := by rw [take_snoc ps m hm, fenW_snoc, hf]; rfl
  have e2 : fenP (ps.take (m + 1)) = fenP (ps.take m) ++ [ps[m]] := by rw [take_snoc ps m hm, fenP_snoc, hf]; rfl
  have keep : ∀ k, k < hi → w'.heap[k]? = ((wr.alloc o).alloc o').heap[k]? := fun k hk => hg.block k (by simp; omega) (fun e => by have := hl k e.symm; omega)
  have l4 := (Array.getElem?_eq_some_iff.1 h4).1
  refine ⟨?_, ?_, ?_, ?_, ?_, ?_, ?_⟩
  · rw [e1]
    exact ((h1.alloc h7 o).alloc (by simp; omega) o').same (fun k _ hk => keep k hk)
  · rw [e2, List.length_append, sts_snoc]; exact ho
  · exact ((h3.alloc h7 o).alloc (by simp; omega) o').same (fun k _ hk => keep k hk)
  · rw [keep _ (by omega)]; exact at_old (at_old h4)
  · rw [keep _ (by omega)]; exact at_old (at_old h5)
  · exact ((h6.alloc h6.size o).alloc (by simp; have := h6.size; omega) o').grown hg (by simp; have := h6.size; omega) (fun k hk => by have := hl k hk; omega)
  · have := hg.size; simp at this; omega
set_option maxHeartbeats 4000000 in
theorem l01Fence_any (v : Value) (ws : List Int) (ps : List St) (w : World) (h : RdPm w v ws ps) (hw : ws.length ≤ 1048576) (hp : ps.length ≤ 1048576) (hok : ∀ j (h : j < ps.length), 0 ≤ ps[j].at_ ∧ ps[j].at_ < ws.length) :
    Calls Try.prog 50 #[v] w fun e w' => ∃ v', e = .returned v' ∧ RowPm w' w.heap.size w'.heap.size v' (fenW ws ps) (fenP ps) ∧ Below w.heap.size w w' := by
  have HR := hideIt h
  obtain ⟨vW, vP, rfl, h1, h2⟩ := h
  obtain ⟨aW, cW, rfl, _⟩ := h1.shape
  obtain ⟨aP, cP, rfl, _⟩ := h2.shape
  have HOK := hideIt hok
  clear h1 h2 hok
  have hb0 : Below w.heap.size w ((w.alloc (.cells #[.slice aW ws.length cW, .slice aP ps.length cP] 26)).alloc (.cells #[.slice none 0 0, .slice none 0 0] 26)) := by
    repeat (refine Below.alloc ?_ (by simp <;> omega) _)
    exact Below.refl _ _
  go_enter Try.func50, Try.ntmps50
  go_wp2_with fail
  refine (l01Own_any _ ws ps _ (HR.out.below hb0) (by omega) (by omega)).mono ?_
  rintro e w2 ⟨v2, rfl, hr2, hb2⟩
  obtain ⟨vW2, vP2, rfl, hI2, hS2⟩ := hr2
  obtain ⟨aW2, cW2, rfl⟩ := RdI.form hI2.rd rfl
  obtain ⟨aP2, cP2, rfl⟩ := RdS.form hS2.rd rfl
  simp only [World.size_alloc] at hI2 hS2
  have hz2 : w.heap.size + 2 ≤ w2.heap.size := by have := hb2.size; simp at this; omega
  have V0 := (hb2.block w.heap.size (by simp <;> omega)).trans (at_old (at_new rfl))
  have V1 := (hb2.block (w.heap.size + 1) (by simp)).trans (at_new (by simp))
  have B2 := below_trans hb0 hb2 (by simp <;> omega)
  obtain ⟨x1, x2, x3, x4⟩ := two_cells V0
  have INV : Hid (FenInv w (((w2.setCell ⟨w.heap.size, 0, none⟩ (.slice aW2 ws.length cW2)).setCell ⟨w.heap.size, 1, none⟩ (.slice aP2 ps.length cP2)).alloc (.cells #[] 45)) ws ps (w.heap.size + 1 + 1) w2.heap.size (.slice aW2 ws.length cW2) (.slice aP2 ps.length cP2) (.slice (some ⟨w2.heap.size, 0, none⟩) 0 0) 0) := by
    refine ⟨?_, ?_, ?_, ?_, ?_, ?_, ?_⟩
    · refine ((hI2.same fun b hb1 _ => ?_).alloc (by simp) _)
      rw [Below.heap_setCell _ _ _ _ (by simp only; omega), Below.heap_setCell _ _ _ _ (by simp only; omega)]
    · have := World.ownsRow_lit (base := w2.heap.size) (e := 45) (size := 3) ((w2.setCell ⟨w.heap.size, 0, none⟩ (.slice aW2 ws.length cW2)).setCell ⟨w.heap.size, 1, none⟩ (.slice aP2 ps.length cP2)) #[] 0 (by simp) (by simp) rfl
      simpa [fenP, sts] using this
    · refine ((hS2.same fun b hb1 _ => ?_).alloc (by simp) _)
      rw [Below.heap_setCell _ _ _ _ (by simp only; omega), Below.heap_setCell _ _ _ _ (by simp only; omega)]
    · exact at_old (two_set1 (two_set0 V0 _) _)
    · refine at_old ?_
      rw [Below.heap_setCell _ _ _ _ (by simp only; omega), Below.heap_setCell _ _ _ _ (by simp only; omega)]
      exact V1
    · exact ((B2.setCell (by simp only; omega) _).setCell (by simp only; omega) _).alloc (by simp; omega) _
    · simp
  clear hb0 hb2 hI2 hS2 V0 V1 B2
  go_wp2
  go_loopw [3, 4, 5] (fun vL i _ wr => ∃ m : Nat, m ≤ ps.length ∧ i = .int .i64 m ∧ Hid (FenInv w wr ws ps (w.heap.size + 1 + 1) w2.heap.size (.slice aW2 ws.length cW2) (.slice aP2 ps.length cP2) vL m)) (fun _ i _ _ => ps.length - (intOf i).toNat)
  case atStart => exact ⟨0, by omega, rfl, INV⟩
  case round =>
    obtain ⟨m, hm, rfl, I⟩ := hrel
    obtain ⟨y1, y2, y3, y4⟩ := two_cells I.out.box
    by_cases hlt : m < ps.length
    · obtain ⟨_, ao', cap', e', _, hc⟩ := I.out.pend.rd
      cases e'
      obtain ⟨b, o, rfl, hbl, _⟩ := hc (by omega)
      obtain ⟨rfl, _, _, _, hfr, hcl⟩ := I.out.pend.at
      have e0 := (hcl (m * 3) (by omega)).trans (sts_at0 _ m hlt)
      have e1 := (hcl (m * 3 + 1) (by omega)).trans (sts_at1 _ m hlt)
      have e2 := (hcl (m * 3 + 2) (by omega)).trans (sts_at2 _ m hlt)
      obtain ⟨q0, q1⟩ := HOK.out m hlt
      have hsz := I.out.size
      clear hc hfr hcl
      cases hf : ps[m].fl
      · rw [hf] at e2
        have ec : St.cells ⟨ps[m].at_, ps[m].val, false⟩ = St.cells ps[m] := by simp [St.cells, hf]
        have hr := rd_one (wr.alloc (.cells #[.int .i64 ps[m].at_, .int .i64 ps[m].val, .bool false] 45)) ps[m].at_ ps[m].val false
        simp only [World.size_alloc] at hr
        have HRD := hideIt hr
        have HOW := hideIt ((I.out.left.alloc (.cells #[.int .i64 ps[m].at_, .int .i64 ps[m].val, .bool false] 45)).alloc (.cells #[.int .i64 ps[m].at_, .int .i64 ps[m].val, .bool false] 45))
        have hfl := fenP_le (ps.take m)
        rw [List.length_take] at hfl
        have EC := hideIt ec
        have HF := hideIt hf
        have HS := hideIt hsz
        clear hr ec hf hsz
        go_wp2_with (at_builtin; refine wpList_append_rd _ rfl (.tmp 30) (.tmp 32) 24 rfl w2.heap.size 45 (.agg #[.int .i64 0, .int .i64 0, .bool false]) 3 24 Try.underlying24 info52 rfl (by decide) _ _ _ rfl HOW.out _ 1 (St.cells ⟨ps[m].at_, ps[m].val, false⟩) rfl HRD.out (cells_one _) (by simp [maxLen]; omega) (by omega) (by have := HS.out; simp; omega) ?_)
        intro vN wN hownN hgrN
        have I1 := hideIt (I.out.miss hlt HF.out (Nat.le_refl _) hz2 _ _ (by rw [← EC.out]; exact hownN) hgrN)
        clear hownN hgrN
        go_wp2
        go_roundw
        case rel => exact ⟨m + 1, by omega, by go_num, I1⟩
        case measure => simp [intOf]; omega
      · rw [hf] at e2
        obtain ⟨_, aw', cw', ew', _, hcw⟩ := I.out.words.rd
        cases ew'
        obtain ⟨bw, ow, rfl, hblw, _⟩ := hcw (by omega)
        obtain ⟨rfl, _, _, _, hfrw, hclw⟩ := (I.out.words.alloc hsz (.cells #[.int .i64 ps[m].at_, .int .i64 ps[m].val, .bool true] 45)).at
        have hj : ps[m].at_.toNat < (fenW ws (ps.take m)).length := by rw [fenW_len]; omega
        have g0 := hfrw ps[m].at_.toNat
        have g1 := (hclw ps[m].at_.toNat (by omega)).trans (ints_at _ _ hj)
        have I1 := hideIt (I.out.hit hlt hf (Nat.le_refl _) (.cells #[.int .i64 ps[m].at_, .int .i64 ps[m].val, .bool true] 45) rfl)
        obtain ⟨z1, z2, _, _⟩ := two_cells (at_old (o := .cells #[.int .i64 ps[m].at_, .int .i64 ps[m].val, .bool true] 45) I.out.box)
        clear hcw hfrw hclw
        go_wp2
        go_roundw
        case rel => exact ⟨m + 1, by omega, by go_num, I1⟩
        case measure => simp [intOf]; omega
    · have e : m = ps.length := by omega
      subst e
      obtain ⟨aL, cL, hvL⟩ := RdS.form (own_block I.out.left).rd (n := (fenP ps).length) (by rw [List.take_length])
      subst hvL
      obtain ⟨t1, t2, t3, t4⟩ := two_cells I.out.res
      have hsz := I.out.size
      go_wp2
      have I2 := I.out
      refine bodyPost_ret (v := .agg #[.slice aW2 ws.length cW2, .slice aL (fenP ps).length cL]) (by simp [results, Try.results50, go_sem, t1, t2]) rfl ?_
      refine ⟨_, rfl, ⟨_, _, rfl, ?_, ?_⟩, ((I2.below.setCell (by simp only; omega) _).setCell (by simp only; omega) _).setCell (by simp only; omega) _⟩
      · rw [fenW_len]
        have := I2.words
        rw [List.take_length] at this
        refine (this.same fun b h1 h2 => ?_).wide (by omega) (by simp; omega)
        rw [Below.heap_setCell _ _ _ _ (by simp only; omega), Below.heap_setCell _ _ _ _ (by simp only; omega), Below.heap_setCell _ _ _ _ (by simp only; omega)]
      · have := own_block I2.left
        rw [List.take_length] at this
        refine (this.same fun b h1 h2 => ?_).wide (by omega) (by simp)
        rw [Below.heap_setCell _ _ _ _ (by simp only; omega), Below.heap_setCell _ _ _ _ (by simp only; omega), Below.heap_setCell _ _ _ _ (by simp only; omega)]
end Go.Proofs.Ytbjcoeimcdodjaa
