/- What is stored, flushed and fenced is sure: the plain mathematics; two memories held against one another. -/
import Derived.Test.YtbjcoeimcdodjaaZAZ
import Derived.Test.YtbjcoeimcdodjaaCrashP
namespace Go.Proofs.Ytbjcoeimcdodjaa
open Go.RowKit
theorem lastW_snoc (k : Int) (d v : Int) (f : Bool) (ps : List St) : lastW k d (ps ++ [⟨k, v, f⟩]) = v := by
  rw [lastW_append]
  show (if k = k then v else _) = v
  rw [if_pos rfl]
theorem keptS_away {a : Nat} : ∀ (ps : List St) (s : Int × Int), (∀ p ∈ ps, ¬ p.at_ = (a : Int)) → keptS a s ps = s
  | [], _, _ => rfl
  | p :: ps, s, h => by
    show keptS a (kept1 a s p) ps = s
    rw [show kept1 a s p = s from if_neg (fun x => h p (by simp) x.1)]
    exact keptS_away ps s (fun q hq => h q (by simp [hq]))
theorem keptS_of {a : Nat} : ∀ (ps : List St) (s : Int × Int), (keptS a s ps).1 = s.1 ∨ ∃ p ∈ ps, p.at_ = (a : Int) ∧ (keptS a s ps).1 = p.val
  | [], _ => .inl rfl
  | p :: ps, s => by
    show (keptS a (kept1 a s p) ps).1 = s.1 ∨ _
    by_cases c : p.at_ = (a : Int) ∧ 0 < s.2
    · have e : kept1 a s p = (p.val, s.2 - 1) := if_pos c
      have e2 : keptS a s (p :: ps) = keptS a (p.val, s.2 - 1) ps := by show keptS a (kept1 a s p) ps = _; rw [e]
      rw [e2, e]
      rcases keptS_of ps (p.val, s.2 - 1) with h | ⟨q, hq, h1, h2⟩
      · exact .inr ⟨p, by simp, c.1, h⟩
      · exact .inr ⟨q, by simp [hq], h1, h2⟩
    · have e : kept1 a s p = s := if_neg c
      have e2 : keptS a s (p :: ps) = keptS a s ps := by show keptS a (kept1 a s p) ps = _; rw [e]
      rw [e2, e]
      rcases keptS_of ps s with h | ⟨q, hq, h1, h2⟩
      · exact .inl h
      · exact .inr ⟨q, by simp [hq], h1, h2⟩
def crW (ws : List Int) (ps : List St) (zs : List Int) : List Int := spW (unsN ps 336) zs ps ws (unsN ps 336).length
theorem crW_len {ws : List Int} {ps : List St} {zs : List Int} : (crW ws ps zs).length = ws.length := spW_len _ _ _ _ _
theorem crW_at {ws : List Int} {ps : List St} {zs : List Int} {a : Nat} (ha : a < ws.length) : ∃ m, (crW ws ps zs)[a]?.getD 0 = (keptS a (ws[a]?.getD 0, m) ps).1 :=
  ⟨_, spW_at (unsN ps 336) zs ps ws (unsN_apart ps 336) _ (Nat.le_refl _) a ha⟩
theorem crW_ok {ws : List Int} {ps : List St} {zs : List Int} {n : Nat} (h : PmP ws ps n) : PmP (crW ws ps zs) [] 0 := by
  refine ⟨crW_len.trans h.len, Nat.le_refl _, fun z hz => ?_, by simp, by simp⟩
  obtain ⟨i, hi, rfl⟩ := List.getElem_of_mem hz
  have hi' : i < ws.length := by rw [← crW_len (ps := ps) (zs := zs)]; exact hi
  obtain ⟨m, e⟩ := crW_at (ps := ps) (zs := zs) hi'
  rw [List.getElem?_eq_getElem hi, Option.getD_some] at e
  rw [e]
  rcases keptS_of ps (ws[i]?.getD 0, m) with h1 | ⟨p, hp, _, h2⟩
  · rw [h1]
    show 0 ≤ ws[i]?.getD 0 ∧ _
    rw [List.getElem?_eq_getElem hi', Option.getD_some]
    exact h.word _ (List.getElem_mem hi')
  · rw [h2]
    exact (h.store p hp).2
theorem crash_ok {ws : List Int} {ps : List St} {zs : List Int} (h : pmB ws ps = true) (hz : keepsB zs = true) (hl : zs.length ≤ 4096) : crashC ws ps zs = 0 ∧ crashWs ws ps zs = crW ws ps zs := by
  rcases crash_cases ws ps zs with ⟨c, _⟩ | ⟨_, c, _⟩ | ⟨_, _, c, _⟩ | ⟨_, _, _, e1, e2⟩
  · omega
  · rw [h] at c; cases c
  · rw [hz] at c; cases c
  · exact ⟨e1, e2⟩
theorem keepZ_B (bs : List Int) : keepsB (keepZ bs) = true := keepsB_mk (fun k hk => by have := keepZ_ok bs _ (List.getElem_mem hk); omega)
theorem fence_away (k : Int) (ps : List St) : ∀ p ∈ fenP (ps.map (fl1 k)), ¬ p.at_ = k := by
  intro p hp e
  unfold fenP at hp
  rw [List.mem_filter, List.mem_map] at hp
  obtain ⟨⟨q, _, rfl⟩, hf⟩ := hp
  unfold fl1 at hf e
  split at hf
  · simp at hf
  · rename_i c
    rw [if_neg c] at e
    exact c (by rw [e])
theorem fence_there (k : Nat) (v : Int) (f : Bool) (ps : List St) (ws : List Int) (hk : k < ws.length) : (fenW ws ((ps ++ [(⟨(k : Int), v, f⟩ : St)]).map (fl1 (k : Int))))[k]?.getD 0 = v := by
  have e : fl1 (k : Int) ⟨(k : Int), v, f⟩ = ⟨(k : Int), v, true⟩ := if_pos rfl
  rw [List.map_append, List.map_cons, List.map_nil, e, fenW_snoc, if_pos rfl]
  have hl : k < (fenW ws (ps.map (fl1 (k : Int)))).length := by rw [fenW_len]; exact hk
  simp [hl]
theorem sure_there (k : Nat) (v : Int) (f : Bool) (ps : List St) (ws zs : List Int) (hk : k < ws.length) : (crW (fenW ws ((ps ++ [(⟨(k : Int), v, f⟩ : St)]).map (fl1 (k : Int)))) (fenP ((ps ++ [(⟨(k : Int), v, f⟩ : St)]).map (fl1 (k : Int)))) zs)[k]?.getD 0 = v := by
  obtain ⟨m, e⟩ := crW_at (ws := fenW ws ((ps ++ [(⟨(k : Int), v, f⟩ : St)]).map (fl1 (k : Int)))) (ps := fenP ((ps ++ [(⟨(k : Int), v, f⟩ : St)]).map (fl1 (k : Int)))) (zs := zs) (a := k) (by rw [fenW_len]; exact hk)
  rw [e, keptS_away _ _ (fence_away (k : Int) _)]
  exact fence_there k v f ps ws hk
set_option maxHeartbeats 2000000 in
theorem samePm_same (va vb : Value) (ws : List Int) (w : World) (ha : RdPm w va ws []) (hb : RdPm w vb ws []) (hn : ws.length ≤ 2147483648) :
    Calls Try.prog 16 #[va, vb] w fun e w' => e = .returned (.bool true) ∧ Below w.heap.size w w' := by
  obtain ⟨vW, vP, rfl, h1, h2⟩ := ha
  obtain ⟨uW, uP, rfl, h3, h4⟩ := hb
  obtain ⟨aW, cW, rfl, _⟩ := h1.shape
  obtain ⟨aP, cP, e2, _⟩ := h2.shape
  obtain ⟨bW, dW, rfl, _⟩ := h3.shape
  obtain ⟨bP, dP, e4, _⟩ := h4.shape
  simp only [List.length_nil] at e2 e4
  subst e2 e4
  have H1 := hideIt h1
  have H3 := hideIt h3
  clear h1 h2 h3 h4
  have hb0 : Below w.heap.size w ((w.alloc (.cells #[.slice aW ws.length cW, .slice aP 0 cP] 26)).alloc (.cells #[.slice bW ws.length dW, .slice bP 0 dP] 26)) := by
    repeat (refine Below.alloc ?_ (by simp <;> omega) _)
    exact Below.refl _ _
  go_enter Try.func16, Try.ntmps16
  go_wp2_with fail
  refine (sameInts_same _ _ ws _ (Rd.below H1.out hb0) (Rd.below H3.out hb0) hn).mono ?_
  rintro e w1 ⟨rfl, hb1⟩
  have hz1 : w.heap.size + 2 ≤ w1.heap.size := by have := hb1.size; simp at this; omega
  obtain ⟨x1, x2, _, _⟩ := two_cells ((hb1.block w.heap.size (by simp <;> omega)).trans (at_old (at_new rfl)))
  obtain ⟨y1, y2, _, _⟩ := two_cells ((hb1.block (w.heap.size + 1) (by simp <;> omega)).trans (at_new (by simp)))
  have B1 := hideIt (below_trans hb0 hb1 (by simp <;> omega))
  clear hb0 hb1
  go_wp2
  go_loop [5] (fun i => i = .int .i64 0) (fun _ => 0)
  case atStart => rfl
  case round =>
    subst hrel
    go_wp2
    go_ret
    exact ⟨rfl, B1.out⟩
structure CutC (w0 wx : World) (X : List Int) (aW aP : Option Addr) (cW cP bx : Nat) : Prop where
  lo : w0.heap.size ≤ bx
  hi : bx < wx.heap.size
  box : wx.heap[bx]? = some (.cells #[.slice aW 336 cW, .slice aP 0 cP] 26 (0, 0))
  rd : RdPm wx (.agg #[.slice aW 336 cW, .slice aP 0 cP]) X []
  below : Below w0.heap.size w0 wx
theorem CutC.new {w0 wf : World} {X : List Int} {aW aP : Option Addr} {cW cP : Nat} (hr : RdPm wf (.agg #[.slice aW 336 cW, .slice aP 0 cP]) X []) (hb : Below w0.heap.size w0 wf) : CutC w0 (wf.alloc (.cells #[.slice aW 336 cW, .slice aP 0 cP] 26)) X aW aP cW cP wf.heap.size :=
  ⟨hb.size, by simp, at_new rfl, hr.below ((Below.refl _ _).alloc (Nat.le_refl _) _), below_allocS hb _⟩
theorem CutC.old {w0 wf : World} {X : List Int} {aW aP : Option Addr} {cW cP bx : Nat} (hl : X.length = 336) (hr : RdPm wf (.agg #[.slice aW 336 cW, .slice aP 0 cP]) X []) (hb : Below w0.heap.size w0 wf) (hx : w0.heap.size ≤ bx) (hv : wf.heap[bx]? = some (.cells #[.slice none 0 0, .slice none 0 0] 26 (0, 0))) : CutC w0 ((wf.setCell ⟨bx, 0, none⟩ (.slice aW 336 cW)).setCell ⟨bx, 1, none⟩ (.slice aP 0 cP)) X aW aP cW cP bx :=
  ⟨hx, by have := (Array.getElem?_eq_some_iff.1 hv).1; simpa [World.setCell] using this, by simp [World.setCell, Array.getElem?_modify, hv],
    hr.boxed hl hv (by simp [World.setCell]) (fun j _ hne => by rw [Below.heap_setCell _ _ _ _ (by simp only; omega), Below.heap_setCell _ _ _ _ (by simp only; omega)]),
    (hb.setCell (by simp only; omega) _).setCell (by simp only; omega) _⟩
end Go.Proofs.Ytbjcoeimcdodjaa
