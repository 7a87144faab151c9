/- The helpers of the laws over slices of inodes. -/
import Derived.Test.YtfcjhhiekjbbiaaDoorImD
import Derived.Deep.RegionWith
namespace Go.Proofs.YtfcjhhiekjbbiaaDoor
open Go.RowKit

/-- Values laid into a row, one behind the other. -/
def setsL : List Value → Nat → List Value → List Value
  | ys, _, [] => ys
  | ys, a, u :: us => setsL (ys.set a u) (a + 1) us
def setsW (b : Nat) : World → Nat → List Value → World
  | w, _, [] => w
  | w, a, u :: us => setsW b (w.setCell ⟨b, a, none⟩ u) (a + 1) us
theorem setsL_at : ∀ (us ys : List Value) (a j : Nat), j < ys.length → (setsL ys a us)[j]? = if a ≤ j ∧ j < a + us.length then us[j - a]? else ys[j]?
  | [], ys, a, j, _ => by rw [if_neg (by simp only [List.length_nil]; omega)]; rfl
  | u :: us, ys, a, j, hj => by
    rw [setsL, setsL_at us (ys.set a u) (a + 1) j (by rw [List.length_set]; exact hj)]
    simp only [List.length_cons]
    by_cases c : a + 1 ≤ j ∧ j < a + 1 + us.length
    · rw [if_pos c, if_pos (by omega), show j - a = (j - (a + 1)) + 1 by omega, List.getElem?_cons_succ]
    · rw [if_neg c]
      by_cases q : j = a
      · subst q
        rw [if_pos (by omega), Nat.sub_self, List.getElem?_set_self hj]
        rfl
      · rw [if_neg (by omega), List.getElem?_set_ne (by omega)]
theorem Row.sets {e : TypeId} {size lo hi : Nat} {b n cap : Nat} : ∀ (us : List Value) {w : World} {xs : List Value} (_ : Row w e size lo hi (.slice (some ⟨b, 0, none⟩) n cap) n xs) (a : Nat), Row (setsW b w a us) e size lo hi (.slice (some ⟨b, 0, none⟩) n cap) n (setsL xs a us)
  | [], _, _, h, _ => h
  | u :: us, _, _, h, a => Row.sets us (h.stored a u) (a + 1)
theorem Below.sets {B b : Nat} {w0 : World} (hb : B ≤ b) : ∀ (us : List Value) {w : World} (_ : Below B w0 w) (a : Nat), Below B w0 (setsW b w a us)
  | [], _, h, _ => h
  | u :: us, _, h, a => Below.sets hb us (h.setCell (p := ⟨b, a, none⟩) hb u) (a + 1)
theorem sets_size {b : Nat} : ∀ (us : List Value) (w : World) (a : Nat), (setsW b w a us).heap.size = w.heap.size
  | [], _, _ => rfl
  | u :: us, w, a => by rw [setsW, sets_size us]; simp

/-- The cells of inodes. -/
def inos (ps : List Ino) : List Value := ps.flatMap Ino.cs
theorem Ino.cs_len (x : Ino) : x.cs.length = 11 := rfl
theorem inos_len (ps : List Ino) : (inos ps).length = ps.length * 11 := flatMap_len _ 11 Ino.cs_len ps
theorem inos_at (ps : List Ino) (k i : Nat) (h : k < ps.length) (hi : i < 11) : (inos ps)[k * 11 + i]? = ps[k].cs[i]? := (flatMap_at _ 11 Ino.cs_len ps k i h hi).trans (by rw [List.getElem?_eq_getElem (show i < ps[k].cs.length by rw [Ino.cs_len]; exact hi)])
theorem sets_step {ys : List Value} {ps : List Ino} {k : Nat} (hk : k < ps.length) (hl : ys.length = ps.length * 11) (h : ∀ j, j < k * 11 → ys[j]? = (inos ps)[j]?) :
    ∀ j, j < (k + 1) * 11 → (setsL ys (k * 11) ps[k].cs)[j]? = (inos ps)[j]? := by
  intro j hj
  rw [setsL_at _ _ _ _ (by omega), Ino.cs_len]
  by_cases c : k * 11 ≤ j ∧ j < k * 11 + 11
  · rw [if_pos c]
    have := inos_at ps k (j - k * 11) hk (by omega)
    rw [show k * 11 + (j - k * 11) = j by omega] at this
    exact this.symm
  · rw [if_neg c]
    exact h j (by omega)
theorem inos_all {ys : List Value} {ps : List Ino} (hl : ys.length = ps.length * 11) (h : ∀ j, j < ps.length * 11 → ys[j]? = (inos ps)[j]?) : ys = inos ps := by
  apply List.ext_getElem?
  intro j
  by_cases hj : j < ps.length * 11
  · exact h j hj
  · rw [List.getElem?_eq_none (by omega), List.getElem?_eq_none (by rw [inos_len]; omega)]

/-- A slice of inodes that can be read. -/
def RdN (w : World) (v : Value) (ps : List Ino) : Prop := Rd w 11 v ps.length (inos ps)
theorem RdN.shape {w : World} {v : Value} {ps : List Ino} (h : RdN w v ps) : ∃ ao cap, v = .slice ao ps.length cap ∧ ps.length ≤ cap ∧ (0 < ps.length → ∃ b o, ao = some ⟨b, o, none⟩ ∧ b < w.heap.size ∧
    ∀ k (h : k < ps.length), w.cell? ⟨b, o + k * 11, none⟩ = some (.int .i64 ps[k].kind) ∧ w.cell? ⟨b, o + k * 11 + 1, none⟩ = some (.int .i64 ps[k].size) ∧ w.cell? ⟨b, o + k * 11 + 2, none⟩ = some (.int .i64 ps[k].links) ∧ w.cell? ⟨b, o + k * 11 + 3, none⟩ = some (.int .i64 ps[k].m0) ∧ w.cell? ⟨b, o + k * 11 + 4, none⟩ = some (.int .i64 ps[k].m1) ∧ w.cell? ⟨b, o + k * 11 + 5, none⟩ = some (.int .i64 ps[k].m2) ∧ w.cell? ⟨b, o + k * 11 + 6, none⟩ = some (.int .i64 ps[k].m3) ∧ w.cell? ⟨b, o + k * 11 + 7, none⟩ = some (.int .i64 ps[k].m4) ∧ w.cell? ⟨b, o + k * 11 + 8, none⟩ = some (.int .i64 ps[k].m5) ∧ w.cell? ⟨b, o + k * 11 + 9, none⟩ = some (.int .i64 ps[k].m6) ∧ w.cell? ⟨b, o + k * 11 + 10, none⟩ = some (.int .i64 ps[k].m7)) := by
  obtain ⟨_, ao, cap, rfl, h2, h3⟩ := h
  refine ⟨ao, cap, rfl, h2.1, fun hn => ?_⟩
  obtain ⟨b, o, rfl, hb, hc⟩ := h3 hn
  exact ⟨b, o, rfl, hb, fun k hk => ⟨(hc (k * 11) (by omega)).trans (inos_at ps k 0 hk (by omega)), (hc (k * 11 + 1) (by omega)).trans (inos_at ps k 1 hk (by omega)), (hc (k * 11 + 2) (by omega)).trans (inos_at ps k 2 hk (by omega)), (hc (k * 11 + 3) (by omega)).trans (inos_at ps k 3 hk (by omega)), (hc (k * 11 + 4) (by omega)).trans (inos_at ps k 4 hk (by omega)), (hc (k * 11 + 5) (by omega)).trans (inos_at ps k 5 hk (by omega)), (hc (k * 11 + 6) (by omega)).trans (inos_at ps k 6 hk (by omega)), (hc (k * 11 + 7) (by omega)).trans (inos_at ps k 7 hk (by omega)), (hc (k * 11 + 8) (by omega)).trans (inos_at ps k 8 hk (by omega)), (hc (k * 11 + 9) (by omega)).trans (inos_at ps k 9 hk (by omega)), (hc (k * 11 + 10) (by omega)).trans (inos_at ps k 10 hk (by omega))⟩⟩

theorem infoIno : (Tryd.prog.info? 56).map (fun i => (i.zero, i.size, i.bytes)) = some (some (.agg #[.int .i64 0, .int .i64 0, .int .i64 0, .int .i64 0, .int .i64 0, .int .i64 0, .int .i64 0, .int .i64 0, .int .i64 0, .int .i64 0, .int .i64 0]), 11, 88) := by kernel_rfl

set_option maxRecDepth 100000 in
set_option maxHeartbeats 4000000 in
theorem toInodeS_any (v : Value) (ps : List Ino) (w : World) (h : RdN w v ps) (hn : ps.length ≤ 1048576) :
    Calls Tryd.prog 17 #[v] w fun e w' => ∃ v', e = .returned v' ∧ Row w' 56 11 w.heap.size w'.heap.size v' ps.length (inos ps) ∧ Below w.heap.size w w' := by
  obtain ⟨ao, cap, rfl, hcap, hc⟩ := h.shape
  clear h
  have hmk := run_make_rows (P := Tryd.prog) 30 56 (.agg #[.int .i64 0, .int .i64 0, .int .i64 0, .int .i64 0, .int .i64 0, .int .i64 0, .int .i64 0, .int .i64 0, .int .i64 0, .int .i64 0, .int .i64 0]) 11 88 Tryd.underlying30 infoIno .i64 .i64 ps.length (by omega) (by omega)
  go_enter Tryd.func17, Tryd.ntmps17
  go_wp2
  go_loopw [4] (fun i wr => ∃ k : Nat, k ≤ ps.length ∧ i = .int .i64 k ∧ (∃ ys, Row wr 56 11 w.heap.size (w.heap.size + 1) (.slice (some ⟨w.heap.size, 0, none⟩) ps.length ps.length) ps.length ys ∧ ∀ j, j < k * 11 → ys[j]? = (inos ps)[j]?) ∧ Below w.heap.size w wr ∧ w.heap.size + 1 ≤ wr.heap.size) (fun i _ => ps.length - (intOf i).toNat)
  case atStart =>
    refine ⟨0, by omega, rfl, ⟨_, row_made w (.agg #[.int .i64 0, .int .i64 0, .int .i64 0, .int .i64 0, .int .i64 0, .int .i64 0, .int .i64 0, .int .i64 0, .int .i64 0, .int .i64 0, .int .i64 0]) 11 ps.length 56 (by simp [maxLen]; omega), fun j hj => absurd hj (by omega)⟩, (Below.refl _ _).alloc (Nat.le_refl _) _, by simp⟩
  case round =>
    obtain ⟨k, hk, rfl, ⟨ys, hrow, hys⟩, hb, hz⟩ := hrel
    by_cases hlt : k < ps.length
    · obtain ⟨b, o, rfl, hbl, hcell⟩ := hc (by omega)
      obtain ⟨c0, c1, c2, c3, c4, c5, c6, c7, c8, c9, c10⟩ := hcell k hlt
      have d0 := (hb.cell (p := ⟨b, o + k * 11, none⟩) hbl).trans c0
      have d1 := (hb.cell (p := ⟨b, o + k * 11 + 1, none⟩) hbl).trans c1
      have d2 := (hb.cell (p := ⟨b, o + k * 11 + 2, none⟩) hbl).trans c2
      have d3 := (hb.cell (p := ⟨b, o + k * 11 + 3, none⟩) hbl).trans c3
      have d4 := (hb.cell (p := ⟨b, o + k * 11 + 4, none⟩) hbl).trans c4
      have d5 := (hb.cell (p := ⟨b, o + k * 11 + 5, none⟩) hbl).trans c5
      have d6 := (hb.cell (p := ⟨b, o + k * 11 + 6, none⟩) hbl).trans c6
      have d7 := (hb.cell (p := ⟨b, o + k * 11 + 7, none⟩) hbl).trans c7
      have d8 := (hb.cell (p := ⟨b, o + k * 11 + 8, none⟩) hbl).trans c8
      have d9 := (hb.cell (p := ⟨b, o + k * 11 + 9, none⟩) hbl).trans c9
      have d10 := (hb.cell (p := ⟨b, o + k * 11 + 10, none⟩) hbl).trans c10
      have RH := hideIt hrow
      have YH := hideIt hys
      have LX := hideIt (fun w1 => toInode_any ps[k] w1)
      have XC := hideIt (show ps[k].cs = [.int .i64 ps[k].kind, .int .i64 ps[k].size, .int .i64 ps[k].links, .int .i64 ps[k].m0, .int .i64 ps[k].m1, .int .i64 ps[k].m2, .int .i64 ps[k].m3, .int .i64 ps[k].m4, .int .i64 ps[k].m5, .int .i64 ps[k].m6, .int .i64 ps[k].m7] from rfl)
      have hl := hrow.len
      have ST := hideIt (sets_step hlt hl hys)
      clear hcell hc c0 c1 c2 c3 c4 c5 c6 c7 c8 c9 c10 hrow hys
      go_wp2_with fail
      refine (LX.out _).mono ?_
      rintro e w1 ⟨rfl, hb1⟩
      have R1 := hideIt (RH.out.below hb1 (by omega))
      obtain ⟨_, _, _, hsz, hfr, hcl⟩ := R1.out.at
      have f0 := hfr (k * 11)
      have e0 : w1.cell? ⟨w.heap.size, k * 11, none⟩ = some (ys[k * 11]'(by omega)) := by rw [hcl _ (by omega)]; simp
      have f1 := hfr (k * 11 + 1)
      have e1 : w1.cell? ⟨w.heap.size, k * 11 + 1, none⟩ = some (ys[k * 11 + 1]'(by omega)) := by rw [hcl _ (by omega)]; simp
      have f2 := hfr (k * 11 + 2)
      have e2 : w1.cell? ⟨w.heap.size, k * 11 + 2, none⟩ = some (ys[k * 11 + 2]'(by omega)) := by rw [hcl _ (by omega)]; simp
      have f3 := hfr (k * 11 + 3)
      have e3 : w1.cell? ⟨w.heap.size, k * 11 + 3, none⟩ = some (ys[k * 11 + 3]'(by omega)) := by rw [hcl _ (by omega)]; simp
      have f4 := hfr (k * 11 + 4)
      have e4 : w1.cell? ⟨w.heap.size, k * 11 + 4, none⟩ = some (ys[k * 11 + 4]'(by omega)) := by rw [hcl _ (by omega)]; simp
      have f5 := hfr (k * 11 + 5)
      have e5 : w1.cell? ⟨w.heap.size, k * 11 + 5, none⟩ = some (ys[k * 11 + 5]'(by omega)) := by rw [hcl _ (by omega)]; simp
      have f6 := hfr (k * 11 + 6)
      have e6 : w1.cell? ⟨w.heap.size, k * 11 + 6, none⟩ = some (ys[k * 11 + 6]'(by omega)) := by rw [hcl _ (by omega)]; simp
      have f7 := hfr (k * 11 + 7)
      have e7 : w1.cell? ⟨w.heap.size, k * 11 + 7, none⟩ = some (ys[k * 11 + 7]'(by omega)) := by rw [hcl _ (by omega)]; simp
      have f8 := hfr (k * 11 + 8)
      have e8 : w1.cell? ⟨w.heap.size, k * 11 + 8, none⟩ = some (ys[k * 11 + 8]'(by omega)) := by rw [hcl _ (by omega)]; simp
      have f9 := hfr (k * 11 + 9)
      have e9 : w1.cell? ⟨w.heap.size, k * 11 + 9, none⟩ = some (ys[k * 11 + 9]'(by omega)) := by rw [hcl _ (by omega)]; simp
      have f10 := hfr (k * 11 + 10)
      have e10 : w1.cell? ⟨w.heap.size, k * 11 + 10, none⟩ = some (ys[k * 11 + 10]'(by omega)) := by rw [hcl _ (by omega)]; simp
      have BH := hideIt (hb.trans (hb1.mono (show w.heap.size ≤ wr.heap.size by omega)))
      have hz1 := hb1.size
      clear hfr hcl hb1 hb d0 d1 d2 d3 d4 d5 d6 d7 d8 d9 d10
      have P1 := hideIt (R1.out.sets ps[k].cs (k * 11))
      have B1 := hideIt (Below.sets (Nat.le_refl _) ps[k].cs BH.out (k * 11))
      have Z1 := hideIt (sets_size (b := w.heap.size) ps[k].cs w1 (k * 11))
      unfold Ino.v
      go_wp2
      go_roundw
      case rel => exact ⟨k + 1, by omega, by go_num, ⟨_, P1.out, ST.out⟩, B1.out, by have := Z1.out; exact Nat.le_trans (by omega) (Nat.le_of_eq this.symm)⟩
      case measure => simp [intOf]; omega
    · have e : k = ps.length := by omega
      subst e
      have hl := hrow.len
      have RH := hideIt hrow
      have YH := hideIt hys
      clear hrow hys hc
      go_wp2
      go_ret
      have e := inos_all hl YH.out
      refine ⟨_, rfl, ?_, hb⟩
      rw [← e]
      exact RH.out.wide (Nat.le_refl _) hz
end Go.Proofs.YtfcjhhiekjbbiaaDoor
