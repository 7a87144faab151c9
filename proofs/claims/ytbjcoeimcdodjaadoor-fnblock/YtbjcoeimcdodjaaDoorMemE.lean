/- What is written is read, and behind a barrier it is sure: the plain mathematics; two devices held against one another. -/
import Derived.Test.YtbjcoeimcdodjaaDoorDrawE
import Derived.Test.YtbjcoeimcdodjaaDoorZAP
import Derived.Test.YtbjcoeimcdodjaaDoorBlkCrI
import Derived.Test.YtbjcoeimcdodjaaDoorBlkReadI
import Derived.Test.YtbjcoeimcdodjaaDoorBlkWriteI
import Derived.Test.YtbjcoeimcdodjaaDoorBlkBarI
import Derived.Test.YtbjcoeimcdodjaaDoorBlkUnsI
import Derived.Test.YtbjcoeimcdodjaaDoorBlkOKI
namespace Go.Proofs.YtbjcoeimcdodjaaDoor
open Go.RowKit
theorem lastE_snoc (k : Int) (d v : Int) (ps : List Se) : lastE k d (ps ++ [⟨k, v⟩]) = v := by
  rw [lastE_append]
  show (if k = k then v else _) = v
  rw [if_pos rfl]
theorem keptE_away {a : Nat} : ∀ (ps : List Se) (s : Int × Int), (∀ p ∈ ps, ¬ p.at_ = (a : Int)) → keptE a s ps = s
  | [], _, _ => rfl
  | p :: ps, s, h => by
    show keptE a (kept1E a s p) ps = s
    rw [show kept1E a s p = s from if_neg (fun x => h p (by simp) x.1)]
    exact keptE_away ps s (fun q hq => h q (by simp [hq]))
theorem layE_at : ∀ (ps : List Se) (ws : List Int) (k : Nat) (hk : k < ws.length) (_ : ∀ p ∈ ps, 0 ≤ p.at_) (hk' : k < (layE ws ps).length), (layE ws ps)[k] = lastE (k : Int) ws[k] ps
  | [], ws, k, hk, _, _ => rfl
  | p :: ps, ws, k, hk, h0, hk' => by
    have hk2 : k < (ws.set p.at_.toNat p.val).length := by simpa using hk
    have := layE_at ps (ws.set p.at_.toNat p.val) k hk2 (fun q hq => h0 q (by simp [hq])) hk'
    show (layE (ws.set p.at_.toNat p.val) ps)[k] = lastE (k : Int) (if p.at_ = (k : Int) then p.val else ws[k]) ps
    rw [this, List.getElem_set]
    have hp := h0 p (by simp)
    by_cases e : p.at_ = (k : Int)
    · rw [if_pos (by omega), if_pos e]
    · rw [if_neg (by omega), if_neg e]
def crE (ws : List Int) (ps : List Se) (zs : List Int) : List Int := spE (unsNE ps 32) zs ps ws (unsNE ps 32).length
theorem crE_len {ws : List Int} {ps : List Se} {zs : List Int} : (crE ws ps zs).length = ws.length := spE_len _ _ _ _ _
theorem crE_nil (ws zs : List Int) : crE ws [] zs = ws := by
  have e : unsNE [] 32 = [] := by
    unfold unsNE
    rw [List.filter_eq_nil_iff]
    intro a _ h
    simp [hasE] at h
  unfold crE
  rw [e]
  rfl
theorem crashE_ok {ws : List Int} {ps : List Se} {zs : List Int} (h : blkB ws ps = true) (hz : keepsB zs = true) (hl : zs.length ≤ 4096) : crashCE ws ps zs = 0 ∧ crashWE ws ps zs = crE ws ps zs := by
  rcases crashE_cases ws ps zs with ⟨c, _⟩ | ⟨_, c, _⟩ | ⟨_, _, c, _⟩ | ⟨_, _, _, e1, e2⟩
  · omega
  · rw [h] at c; cases c
  · rw [hz] at c; cases c
  · exact ⟨e1, e2⟩
theorem keepZ_BE (bs : List Int) : keepsB (keepZ bs) = true := keepsB_mk (fun k hk => by have := keepZ_ok bs _ (List.getElem_mem hk); omega)
theorem keepIE_one (z : Int) (i : Nat) : keepI [z] i = z := by
  unfold keepI
  simp [Nat.mod_one]
theorem lfE_zero (us : List Nat) : ∀ i a, lfE us [0] i a = 0
  | 0, _ => rfl
  | i + 1, a => by
    rw [lfE, keepIE_one]
    split
    · rfl
    · exact lfE_zero us i a
theorem lfE_one {us : List Nat} {z : Int} {a : Nat} : ∀ i, (∃ j, j < i ∧ a = us[j]?.getD 0) → lfE us [z] i a = z
  | 0, ⟨j, h, _⟩ => absurd h (by omega)
  | i + 1, ⟨j, h, e⟩ => by
    rw [lfE, keepIE_one]
    by_cases c : a = us[i]?.getD 0
    · rw [if_pos c]
    · rw [if_neg c]
      exact lfE_one i ⟨j, by rcases Nat.lt_succ_iff_lt_or_eq.1 h with h | h
                             · exact h
                             · subst h; exact absurd e c, e⟩
theorem crE_none (ws : List Int) (ps : List Se) : crE ws ps [0] = ws := by
  refine sameE_of_getD crE_len (fun a ha => ?_)
  rw [crE_len] at ha
  have := spE_at (unsNE ps 32) [0] ps ws (unsNE_apart ps 32) _ (Nat.le_refl _) a ha
  rw [lfE_zero, keptE_stop (by simp)] at this
  exact this
theorem keptE_all {a : Nat} : ∀ (ps : List Se) (d m : Int), (ps.length : Int) ≤ m → (keptE a (d, m) ps).1 = lastE (a : Int) d ps
  | [], _, _, _ => rfl
  | p :: ps, d, m, h => by
    simp only [List.length_cons] at h
    show (keptE a (kept1E a (d, m) p) ps).1 = lastE (a : Int) (if p.at_ = (a : Int) then p.val else d) ps
    by_cases c : p.at_ = (a : Int)
    · rw [show kept1E a (d, m) p = (p.val, m - 1) from if_pos ⟨c, by show 0 < m; omega⟩, if_pos c]
      exact keptE_all ps p.val (m - 1) (by omega)
    · rw [show kept1E a (d, m) p = (d, m) from if_neg (fun x => c x.1), if_neg c]
      exact keptE_all ps d m (by omega)
theorem crE_all {ws : List Int} {ps : List Se} {n : Nat} (h : BlkP ws ps n) (hn : n ≤ 400) : crE ws ps [400] = layE ws ps := by
  refine sameE_of_getD (crE_len.trans (layE_len ws ps).symm) (fun a ha => ?_)
  rw [crE_len] at ha
  have e := spE_at (unsNE ps 32) [400] ps ws (unsNE_apart ps 32) _ (Nat.le_refl _) a ha
  have hl : a < (layE ws ps).length := by rw [layE_len]; exact ha
  have e2 := layE_at ps ws a ha (fun p hp => (h.store p hp).1.1) hl
  have ew : ws[a]?.getD 0 = ws[a] := by rw [List.getElem?_eq_getElem ha]; rfl
  show (spE (unsNE ps 32) [400] ps ws (unsNE ps 32).length)[a]?.getD 0 = _
  rw [e, List.getElem?_eq_getElem hl, Option.getD_some, e2, ew]
  by_cases c : ∃ p ∈ ps, p.at_ = (a : Int)
  · have hm : a ∈ unsNE ps 32 := by
      obtain ⟨p, hp, hpa⟩ := c
      unfold unsNE
      rw [List.mem_filter]
      refine ⟨by rw [List.mem_range]; have := h.len; omega, ?_⟩
      simp only [hasE, List.any_eq_true]
      exact ⟨p, hp, by simp [hpa]⟩
    obtain ⟨j, hj, ej⟩ := List.getElem_of_mem hm
    rw [lfE_one _ ⟨j, hj, by rw [List.getElem?_eq_getElem hj, Option.getD_some, ej]⟩]
    exact keptE_all ps _ _ (by have := h.few; omega)
  · have c' : ∀ p ∈ ps, ¬ p.at_ = (a : Int) := fun p hp x => c ⟨p, hp, x⟩
    rw [keptE_away ps _ c', lastE_none c']
theorem layE_there (k : Nat) (x : Int) (ps : List Se) (ws : List Int) (_hk : k < ws.length) (hk' : k < (layE ws (ps ++ [⟨(k : Int), x⟩])).length) : (layE ws (ps ++ [⟨(k : Int), x⟩]))[k] = x := by
  have e : layE ws (ps ++ [⟨(k : Int), x⟩]) = (layE ws ps).set k x := by rw [layE_snoc]; rfl
  simp only [e, List.getElem_set_self]
set_option maxHeartbeats 2000000 in
theorem sameBlk_same (va vb : Value) (ws : List Int) (w : World) (ha : RdBlk w va ws []) (hb : RdBlk w vb ws []) (hn : ws.length ≤ 2147483648) :
    Calls Tryd.prog 17 #[va, vb] w fun e w' => e = .returned (.bool true) ∧ Below w.heap.size w w' := by
  obtain ⟨vW, vP, rfl, h1, h2⟩ := ha
  obtain ⟨uW, uP, rfl, h3, h4⟩ := hb
  obtain ⟨aW, cW, rfl, _⟩ := h1.shape
  obtain ⟨aP, cP, e2, _⟩ := h2.shape
  obtain ⟨bW, dW, rfl, _⟩ := h3.shape
  obtain ⟨bP, dP, e4, _⟩ := h4.shape
  simp only [List.length_nil] at e2 e4
  subst e2 e4
  have H1 := hideIt h1
  have H3 := hideIt h3
  clear h1 h2 h3 h4
  have hb0 : Below w.heap.size w ((w.alloc (.cells #[.slice aW ws.length cW, .slice aP 0 cP] 26)).alloc (.cells #[.slice bW ws.length dW, .slice bP 0 dP] 26)) := by
    repeat (refine Below.alloc ?_ (by simp <;> omega) _)
    exact Below.refl _ _
  go_enter Tryd.func17, Tryd.ntmps17
  go_wp2_with fail
  refine (sameIntsE_same _ _ ws _ (Rd.below H1.out hb0) (Rd.below H3.out hb0) hn).mono ?_
  rintro e w1 ⟨rfl, hb1⟩
  have hz1 : w.heap.size + 2 ≤ w1.heap.size := by have := hb1.size; simp at this; omega
  obtain ⟨x1, x2, _, _⟩ := two_cells ((hb1.block w.heap.size (by simp <;> omega)).trans (at_old (at_new rfl)))
  obtain ⟨y1, y2, _, _⟩ := two_cells ((hb1.block (w.heap.size + 1) (by simp <;> omega)).trans (at_new (by simp)))
  have B1 := hideIt (below_trans hb0 hb1 (by simp <;> omega))
  clear hb0 hb1
  go_wp2
  go_loop [5] (fun i => i = .int .i64 0) (fun _ => 0)
  case atStart => rfl
  case round =>
    subst hrel
    go_wp2
    go_ret
    exact ⟨rfl, B1.out⟩
structure CutE (w0 wx : World) (X : List Int) (aW aP : Option Addr) (cW cP bx : Nat) : Prop where
  lo : w0.heap.size ≤ bx
  hi : bx < wx.heap.size
  box : wx.heap[bx]? = some (.cells #[.slice aW 32 cW, .slice aP 0 cP] 26 (0, 0))
  rd : RdBlk wx (.agg #[.slice aW 32 cW, .slice aP 0 cP]) X []
  below : Below w0.heap.size w0 wx
theorem CutE.new {w0 wf : World} {X : List Int} {aW aP : Option Addr} {cW cP lo hi : Nat} (hr : RowBlk wf lo hi (.agg #[.slice aW 32 cW, .slice aP 0 cP]) X []) (hb : Below w0.heap.size w0 wf) : CutE w0 (wf.alloc (.cells #[.slice aW 32 cW, .slice aP 0 cP] 26)) X aW aP cW cP wf.heap.size :=
  ⟨hb.size, by simp, at_new rfl, hr.rd.below ((Below.refl _ _).alloc (Nat.le_refl _) _), below_allocQ hb _⟩
theorem CutE.old {w0 wf : World} {X : List Int} {aW aP : Option Addr} {cW cP bx lo hi : Nat} (hlo : bx < lo) (hr : RowBlk wf lo hi (.agg #[.slice aW 32 cW, .slice aP 0 cP]) X []) (hb : Below w0.heap.size w0 wf) (hx : w0.heap.size ≤ bx) (hv : wf.heap[bx]? = some (.cells #[.slice none 0 0, .slice none 0 0] 26 (0, 0))) : CutE w0 ((wf.setCell ⟨bx, 0, none⟩ (.slice aW 32 cW)).setCell ⟨bx, 1, none⟩ (.slice aP 0 cP)) X aW aP cW cP bx :=
  ⟨hx, by have := (Array.getElem?_eq_some_iff.1 hv).1; simpa [World.setCell] using this, by simp [World.setCell, Array.getElem?_modify, hv],
    ((hr.setCell (a := ⟨bx, 0, none⟩) hlo _).setCell (a := ⟨bx, 1, none⟩) hlo _).rd,
    (hb.setCell (by simp only; omega) _).setCell (by simp only; omega) _⟩
end Go.Proofs.YtbjcoeimcdodjaaDoor
