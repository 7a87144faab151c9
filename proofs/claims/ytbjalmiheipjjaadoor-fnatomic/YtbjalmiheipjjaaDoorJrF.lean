/- Plans of flushes: by the model. -/
import Derived.Test.YtbjalmiheipjjaaDoorZAZ
import Derived.Test.YtbjalmiheipjjaaDoorZAN
import Derived.BigRegion
import Derived.BigQuiet
import Derived.Deep.QuietTactic
import Derived.Deep.DeepCutAuto
import Derived.Deep.RegionWith
namespace Go.Proofs.YtbjalmiheipjjaaDoor
open Go.RowKit
theorem mis_snoc (l : List Mi) (m : Mi) : mis (l ++ [m]) = mis l ++ m.cells := by simp [mis]
theorem mis_append (l l' : List Mi) : mis (l ++ l') = mis l ++ mis l' := by simp [mis]
theorem mic_one (m : Mi) : ∀ u ∈ m.cells, u.oneCell' = true := by
  intro u hu
  simp [Mi.cells] at hu
  rcases hu with rfl | rfl | rfl <;> rfl
theorem mis_one (l : List Mi) : ∀ u ∈ mis l, u.oneCell' = true := by
  intro u hu
  simp only [mis, List.mem_flatMap] at hu
  obtain ⟨m, _, hm⟩ := hu
  exact mic_one m u hm
theorem rd_mic (w1 : World) (k a x : Int) : Rd (w1.alloc (.cells #[.int .i64 k, .int .i64 a, .int .i64 x] 61)) 3 (.slice (some ⟨w1.heap.size, 0, none⟩) 1 1) 1 (Mi.cells ⟨k, a, x⟩) := by
  refine ⟨rfl, _, _, rfl, ⟨Nat.le_refl _, fun e => by cases e⟩, fun _ => ⟨w1.heap.size, 0, rfl, by simp, fun j hj => ?_⟩⟩
  obtain ⟨e0, e1, e2⟩ := three_cells (at_new (w := w1) (o := .cells #[.int .i64 k, .int .i64 a, .int .i64 x] 61) rfl)
  rw [Nat.zero_add]
  rcases (show j = 0 ∨ j = 1 ∨ j = 2 from by omega) with rfl | rfl | rfl
  · exact e0
  · exact e1
  · exact e2
theorem RdM.form {w : World} {v : Value} {ps : List Mi} (h : RdM w v ps) {n : Nat} (hn : ps.length = n) : ∃ ao cap, v = .slice ao n cap := by
  obtain ⟨ao, cap, e, _⟩ := h.shape
  exact ⟨ao, cap, hn ▸ e⟩
theorem owns_drewN {w : World} {base : Nat} {e : TypeId} {size : Nat} {v : Value} {n : Nat} {xs : List Value} (h : w.ownsRow base e size v n xs) (k : Nat) : (w.drewN k).ownsRow base e size v n xs := by
  induction k with
  | zero => exact h
  | succ k ih => exact ih
theorem below_drewJ {B : Nat} {a w : World} (h : Below B a w) (n : Nat) : Below B a (w.drewN n) := by
  induction n with
  | zero => exact h
  | succ n ih => exact ⟨ih.os, ih.tape, ih.output, ih.size, ih.block⟩
theorem size_drewN (w : World) (n : Nat) : (w.drewN n).heap.size = w.heap.size := by
  induction n with
  | zero => rfl
  | succ n ih => exact ih
def knownU (ks : List Int) (i k : Nat) : Bool := (List.range k).any (fun j => ks[j]?.getD 0 / 8 == ks[i]?.getD 0 / 8)
theorem knownU_succ (ks : List Int) (i k : Nat) : knownU ks i (k + 1) = (knownU ks i k || (ks[k]?.getD 0 / 8 == ks[i]?.getD 0 / 8)) := by
  unfold knownU
  rw [List.range_succ, List.any_append]
  simp
theorem nl_le (ks : List Int) : ∀ i, (nl ks i).length ≤ i
  | 0 => Nat.le_refl _
  | i + 1 => by
    rw [nl]
    split
    · have := nl_le ks i; omega
    · have := nl_le ks i; simp; omega
set_option maxRecDepth 100000 in
set_option maxHeartbeats 4000000 in
theorem l04Flush_any (v : Value) (zs : List Int) (w : World) (h : RdI w v zs) (hn : zs.length ≤ 4096) (hz0 : ∀ k (h : k < zs.length), 0 ≤ zs[k] ∧ zs[k] < 336) :
    Calls Tryd.prog 63 #[v] w fun e w' => ∃ v', e = .returned v' ∧ Row w' 61 3 w.heap.size w'.heap.size v' (flushL zs).length (mis (flushL zs)) ∧ Below w.heap.size w w' := by
  obtain ⟨aZ, cZ, rfl, _, hcZ⟩ := h.shape
  have HZ := hideIt hcZ
  have Z0 := hideIt hz0
  clear h hcZ hz0
  have ho : (w.alloc (.cells #[] 61)).ownsRow w.heap.size 61 3 (.slice (some ⟨w.heap.size, 0, none⟩) 0 0) 0 [] := by
    simpa using World.ownsRow_lit (base := w.heap.size) (e := 61) (size := 3) w #[] 0 (by simp) (by simp) rfl
  have START := hideIt (And.intro ho ((Below.refl w.heap.size w).alloc (Nat.le_refl _) (.cells #[] 61)))
  clear ho
  go_enter Tryd.func63, Tryd.ntmps63
  go_wp2
  go_loopw [3, 4, 5, 6] (fun vL i _ _ wr => ∃ m : Nat, m ≤ zs.length ∧ i = .int .i64 m ∧ Hid (wr.ownsRow w.heap.size 61 3 vL (nl zs m).length (mis (nl zs m)) ∧ Below w.heap.size w wr) ∧ w.heap.size ≤ wr.heap.size) (fun _ i _ _ _ => zs.length - (intOf i).toNat)
  case atStart => exact ⟨0, by omega, rfl, ⟨by simpa [nl, mis] using START.out.1, START.out.2⟩, by simp⟩
  case round =>
    obtain ⟨m, hm, rfl, I, hz⟩ := hrel
    by_cases hlt : m < zs.length
    · obtain ⟨b, o, rfl, hbl, hcell⟩ := HZ.out (by omega)
      have CELL := hideIt hcell
      clear hcell
      have m0 : (0 : Int) ≤ (m : Int) := by omega
      have m1 : (m : Int) < (zs.length : Int) := by omega
      go_wp2
      go_loopw [5, 6] (fun f kk wr2 => ∃ k : Nat, k ≤ m ∧ kk = .int .i64 k ∧ f = .bool (knownU zs m k) ∧ Hid (wr2.ownsRow w.heap.size 61 3 u3 (nl zs m).length (mis (nl zs m)) ∧ Below w.heap.size w wr2) ∧ w.heap.size ≤ wr2.heap.size) (fun _ kk _ => m - (intOf kk).toNat)
      case atStart => exact ⟨0, by omega, rfl, rfl, I, hz⟩
      case round =>
        obtain ⟨k, hk, rfl, rfl, J, hz2⟩ := hrel
        by_cases hlk : k < m
        · have k0 : (0 : Int) ≤ (k : Int) := by omega
          have k1 : (k : Int) < (m : Int) := by omega
          have k2 : (k : Int) < (zs.length : Int) := by omega
          have hkz : k < zs.length := by omega
          have d0 := (J.out.2.cell (p := ⟨b, o + k, none⟩) hbl).trans (CELL.out k hkz)
          have d1 := (J.out.2.cell (p := ⟨b, o + m, none⟩) hbl).trans (CELL.out m hlt)
          have p0 := Z0.out k hkz
          have p1 := Z0.out m hlt
          have SU := hideIt (show knownU zs m (k + 1) = (knownU zs m k || (zs[k] / 8 == zs[m] / 8)) by rw [knownU_succ, List.getElem?_eq_getElem hkz, List.getElem?_eq_getElem hlt]; rfl)
          generalize zs[k] = x at *
          generalize zs[m] = y at *
          generalize knownU zs m k = fb at *
          rcases (show fb = true ∨ (fb = false ∧ (x / 8 == y / 8) = true) ∨ (fb = false ∧ (x / 8 == y / 8) = false) by cases fb <;> cases (x / 8 == y / 8) <;> simp) with rfl | ⟨rfl, q⟩ | ⟨rfl, q⟩
          all_goals
            go_wp2
            go_quiet (fail)
            go_wp2
            go_roundw
            case rel => exact ⟨k + 1, by omega, by go_num, by rw [SU.out]; first | rfl | (rw [q]; rfl), ⟨owns_drewN J.out.1 _, below_drewJ J.out.2 _⟩, by rw [size_drewN]; exact hz2⟩
            case measure => simp [intOf]; omega
        · obtain rfl : k = m := by omega
          by_cases c : knownU zs k k = true
          · have E := hideIt (show nl zs (k + 1) = nl zs k by rw [nl]; exact if_pos c)
            rw [c]
            clear c
            go_wp2
            go_roundw
            case rel => exact ⟨k + 1, by omega, by go_num, by rw [E.out]; exact J, hz2⟩
            case measure => simp [intOf]; omega
          · have c' : knownU zs k k = false := by simpa using c
            have d1 := (J.out.2.cell (p := ⟨b, o + k, none⟩) hbl).trans (CELL.out k hlt)
            have E := hideIt (show nl zs (k + 1) = nl zs k ++ [⟨2, zs[k], 0⟩] by
              rw [nl]
              have : ¬ knownL zs k = true := fun x => c x
              rw [if_neg this, List.getElem?_eq_getElem hlt]
              rfl)
            rw [c']
            clear c c'
            generalize zs[k] = y at *
            have O2 := hideIt (J.out.1.alloc (.cells #[.int .i64 2, .int .i64 y, .int .i64 0] 61))
            have HRD := hideIt (rd_mic wr 2 y 0)
            have hle := nl_le zs k
            go_wp2_with (at_builtin; refine wpList_append_rd _ rfl (.tmp 35) (.tmp 41) 25 rfl w.heap.size 61 (.agg #[.int .i64 0, .int .i64 0, .int .i64 0]) 3 24 Tryd.underlying25 infoMic rfl (by decide) _ _ _ rfl O2.out _ 1 _ rfl HRD.out (mic_one _) (by simp [maxLen]; omega) (by omega) (by simp; omega) ?_)
            intro vN wN hownN hgrN
            have hl := fun q hq => (O2.out.lt q hq).1
            have hzN := hgrN.size
            simp only [World.size_alloc] at hzN
            have G : Hid (wN.ownsRow w.heap.size 61 3 vN (nl zs (k + 1)).length (mis (nl zs (k + 1))) ∧ Below w.heap.size w wN) := by
              refine ⟨?_, (J.out.2.alloc (by omega) (.cells #[.int .i64 2, .int .i64 y, .int .i64 0] 61)).grown hgrN (by simp; omega) (fun q hq => hl q hq)⟩
              rw [E.out, mis_snoc, List.length_append]
              exact hownN
            clear hownN hgrN hl
            go_wp2
            go_roundw
            case rel => exact ⟨k + 1, by omega, by go_num, G, by omega⟩
            case measure => simp [intOf]; omega
    · obtain rfl : m = zs.length := by omega
      have E := hideIt (show flushL zs = nl zs zs.length ++ [⟨3, 0, 0⟩] from rfl)
      have O2 := hideIt (I.out.1.alloc (.cells #[.int .i64 3, .int .i64 0, .int .i64 0] 61))
      have HRD := hideIt (rd_mic wr 3 0 0)
      have hle := nl_le zs zs.length
      go_wp2_with (at_builtin; refine wpList_append_rd _ rfl (.tmp 43) (.tmp 45) 25 rfl w.heap.size 61 (.agg #[.int .i64 0, .int .i64 0, .int .i64 0]) 3 24 Tryd.underlying25 infoMic rfl (by decide) _ _ _ rfl O2.out _ 1 _ rfl HRD.out (mic_one _) (by simp [maxLen]; omega) (by omega) (by simp; omega) ?_)
      intro vN wN hownN hgrN
      have hl := fun q hq => (O2.out.lt q hq).1
      have G : Hid (wN.ownsRow w.heap.size 61 3 vN (flushL zs).length (mis (flushL zs)) ∧ Below w.heap.size w wN) := by
        refine ⟨?_, (I.out.2.alloc (by omega) (.cells #[.int .i64 3, .int .i64 0, .int .i64 0] 61)).grown hgrN (by simp; omega) (fun q hq => hl q hq)⟩
        rw [E.out, mis_snoc, List.length_append]
        exact hownN
      clear hownN hgrN hl
      obtain ⟨aL, cL, hvL⟩ := RdM.form (own_block G.out.1).rd rfl
      subst hvL
      go_wp2
      go_ret
      exact ⟨_, rfl, own_block G.out.1, G.out.2⟩
def allP (zs : List Int) : Bool := decide (∀ k (h : k < zs.length), 0 ≤ zs[k] ∧ zs[k] < 336)
def flC (zs : List Int) : Int := if 4096 < zs.length then 2 else if 50 < zs.length then 6 else if allP zs = true then 0 else 14
def fpL (zs : List Int) : List Mi := if flC zs = 0 then flushL zs else []
theorem fp_cases (zs : List Int) : (4096 < zs.length ∧ flC zs = 2 ∧ fpL zs = []) ∨ (¬ 4096 < zs.length ∧ 50 < zs.length ∧ flC zs = 6 ∧ fpL zs = []) ∨ (¬ 4096 < zs.length ∧ ¬ 50 < zs.length ∧ allP zs = false ∧ flC zs = 14 ∧ fpL zs = []) ∨ (¬ 4096 < zs.length ∧ ¬ 50 < zs.length ∧ allP zs = true ∧ flC zs = 0 ∧ fpL zs = flushL zs) := by
  by_cases c1 : 4096 < zs.length
  · have e : flC zs = 2 := by unfold flC; rw [if_pos c1]
    exact .inl ⟨c1, e, by unfold fpL; rw [e]; rfl⟩
  · by_cases c2 : 50 < zs.length
    · have e : flC zs = 6 := by unfold flC; rw [if_neg c1, if_pos c2]
      exact .inr (.inl ⟨c1, c2, e, by unfold fpL; rw [e]; rfl⟩)
    · by_cases c3 : allP zs = true
      · have e : flC zs = 0 := by unfold flC; rw [if_neg c1, if_neg c2, if_pos c3]
        exact .inr (.inr (.inr ⟨c1, c2, c3, e, by unfold fpL; rw [e]; rfl⟩))
      · have c3' : allP zs = false := by simpa using c3
        have e : flC zs = 14 := by unfold flC; rw [if_neg c1, if_neg c2, c3']; rfl
        exact .inr (.inr (.inl ⟨c1, c2, c3', e, by unfold fpL; rw [e]; rfl⟩))
theorem flushL_len (zs : List Int) : (flushL zs).length ≤ zs.length + 1 := by
  unfold flushL
  have := nl_le zs zs.length
  simp
  omega
theorem row_empty (w : World) (t : TypeId) (size : Nat) : Row (w.alloc (.cells #[] t)) t size w.heap.size (w.alloc (.cells #[] t)).heap.size (.slice (some ⟨w.heap.size, 0, none⟩) 0 0) 0 [] :=
  own_block (by simpa using World.ownsRow_lit (base := w.heap.size) (e := t) (size := size) w #[] 0 (by simp) (by simp) (by simp))
end Go.Proofs.YtbjalmiheipjjaaDoor
