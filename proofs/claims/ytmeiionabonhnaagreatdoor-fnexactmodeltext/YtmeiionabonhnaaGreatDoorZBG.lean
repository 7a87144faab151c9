/- Several texts laid together: MdA, PlA. -/
import Derived.Test.YtmeiionabonhnaaGreatDoorThD
import Derived.Test.YtmeiionabonhnaaGreatDoorThE
import Derived.Test.YtmeiionabonhnaaGreatDoorZAF
import Derived.Test.YtmeiionabonhnaaGreatDoorZAX
import Derived.Test.YtmeiionabonhnaaGreatDoorZAT
import Derived.Test.YtmeiionabonhnaaGreatDoorStN
import Derived.Maps.Views
namespace Go.Proofs.YtmeiionabonhnaaGreatDoor
open Go.RowKit
theorem RdTh.form {w : World} {v : Value} {ts : List Th} (h : RdTh w v ts) : ∃ ao cap, v = .slice ao ts.length cap := by
  obtain ⟨us, e, r⟩ := h
  obtain ⟨ao, cap, rfl, -⟩ := r.shape
  exact ⟨ao, cap, by rw [map_fst_len e]⟩
theorem OwU.same {w w' : World} {lo hi : Nat} {v : Value} {us : List (Th × Value)} (h : OwU w lo hi v us) (hs : ∀ b, lo ≤ b → b < hi → w'.heap[b]? = w.heap[b]?) : OwU w' lo hi v us := ⟨h.row.same hs, fun k hk => (h.pg k hk).same hs, h.ap⟩
theorem RowTh.same {w w' : World} {lo hi : Nat} {v : Value} {ts : List Th} (h : RowTh w lo hi v ts) (hs : ∀ b, lo ≤ b → b < hi → w'.heap[b]? = w.heap[b]?) : RowTh w' lo hi v ts := by
  obtain ⟨us, e, r⟩ := h
  exact ⟨us, e, r.same hs⟩
def RdMd (w : World) (v : Value) (ts : List Th) (ps : List Den) : Prop := ∃ vW vP, v = .agg #[vW, vP] ∧ RdTh w vW ts ∧ RdD w vP ps
def RowMd (w : World) (lo hi : Nat) (v : Value) (ts : List Th) (ps : List Den) : Prop := ∃ vW vP lt ut lp up, v = .agg #[vW, vP] ∧ RowTh w lt ut vW ts ∧ Row w 140 3 lp up vP ps.length (dens ps) ∧ lo ≤ lt ∧ ut ≤ hi ∧ lo ≤ lp ∧ up ≤ hi ∧ (ut ≤ lp ∨ up ≤ lt)
theorem RowMd.rd {w : World} {lo hi : Nat} {v : Value} {ts : List Th} {ps : List Den} (h : RowMd w lo hi v ts ps) : RdMd w v ts ps := by
  obtain ⟨vW, vP, lt, ut, lp, up, rfl, h1, h2, -⟩ := h
  exact ⟨vW, vP, rfl, h1.rd, h2.rd⟩
theorem RdMd.below {w w' : World} {v : Value} {ts : List Th} {ps : List Den} (h : RdMd w v ts ps) (hb : Below w.heap.size w w') : RdMd w' v ts ps := by
  obtain ⟨vW, vP, rfl, h1, h2⟩ := h
  exact ⟨vW, vP, rfl, h1.below hb, Rd.below h2 hb⟩
theorem RowMd.below {w w' : World} {lo hi : Nat} {v : Value} {ts : List Th} {ps : List Den} (h : RowMd w lo hi v ts ps) {B : Nat} (hb : Below B w w') (hB : hi ≤ B) : RowMd w' lo hi v ts ps := by
  obtain ⟨vW, vP, lt, ut, lp, up, rfl, h1, h2, q⟩ := h
  exact ⟨vW, vP, lt, ut, lp, up, rfl, h1.below hb (by omega), h2.below hb (by omega), q⟩
theorem RdMd.form {w : World} {v : Value} {ts : List Th} {ps : List Den} (h : RdMd w v ts ps) : ∃ aW cW aP cP, v = .agg #[.slice aW ts.length cW, .slice aP ps.length cP] := by
  obtain ⟨vW, vP, rfl, h1, h2⟩ := h
  obtain ⟨aW, cW, rfl⟩ := h1.form
  obtain ⟨aP, cP, rfl, -⟩ := h2.shape
  exact ⟨aW, cW, aP, cP, rfl⟩
set_option maxHeartbeats 2000000 in
theorem toModel_any (v : Value) (ts : List Th) (ps : List Den) (w : World) (h : RdMd w v ts ps) (hw : ts.length ≤ 1048576) (hg : ∀ k (hk : k < ts.length), ts[k].pages.length ≤ 1048576) (hp : ps.length ≤ 1048576) :
    Calls Tryz.prog 9 #[v] w fun e w' => ∃ v', e = .returned v' ∧ RowMd w' w.heap.size w'.heap.size v' ts ps ∧ Below w.heap.size w w' := by
  obtain ⟨vW, vP, rfl, h1, h2⟩ := h
  have H1 := hideIt h1
  have H2 := hideIt h2
  obtain ⟨aW, cW, eW⟩ := h1.form
  obtain ⟨aP, cP, eP, _⟩ := h2.shape
  clear h1 h2
  subst eW eP
  go_enter Tryz.func9, Tryz.ntmps9
  go_wp2_with fail
  have hb0 : Below w.heap.size w (((w.alloc (.cells #[.slice aW ts.length cW, .slice aP ps.length cP] 25)).alloc (.cells #[.slice none 0 0, .slice none 0 0] 33)).alloc (.cells #[.slice none 0 0, .slice none 0 0] 33)) := by
    repeat (refine Below.alloc ?_ (by simp <;> omega) _)
    exact Below.refl _ _
  refine (toThingS_any _ ts _ (H1.out.below hb0) hw hg).mono ?_
  rintro e w1 ⟨v1, rfl, hr1, hb1⟩
  obtain ⟨a1, c1, rfl⟩ := hr1.rd.form
  have hz1 : w.heap.size + 3 ≤ w1.heap.size := by have := hb1.size; simp at this; omega
  have V0 := (hb1.block w.heap.size (by simp <;> omega)).trans (at_old (at_old (at_new rfl)))
  have V1 := (hb1.block (w.heap.size + 1) (by simp <;> omega)).trans (at_old (at_new (by simp)))
  have V2 := (hb1.block (w.heap.size + 1 + 1) (by simp <;> omega)).trans (at_new (by simp))
  have B1 := hideIt (hb0.trans (hb1.mono (by simp <;> omega)))
  have R1 := hideIt hr1
  obtain ⟨x1, x2, _, _⟩ := two_cells V0
  obtain ⟨y1, y2, y3, y4⟩ := two_cells V2
  have V2' := two_set0 V2 (.slice a1 ts.length c1)
  have V1' := (Below.heap_setCell w1 ⟨w.heap.size + 1 + 1, 0, none⟩ (.slice a1 ts.length c1) (w.heap.size + 1) (by simp)).trans V1
  have VH := hideIt (And.intro V1' V2')
  clear hb0 hb1 hr1 V0 V1 V2 V1' V2'
  go_wp2_with fail
  have hb2 := B1.out.setCell (p := ⟨w.heap.size + 1 + 1, 0, none⟩) (by simp; omega) (.slice a1 ts.length c1)
  refine (toDirentS_any _ ps _ (Rd.below H2.out hb2) hp).mono ?_
  rintro e w2 ⟨v2, rfl, hr2, hb3⟩
  obtain ⟨_, a2, c2, rfl, _⟩ := hr2.rd
  have hz2 : w1.heap.size ≤ w2.heap.size := by have := hb3.size; simpa using this
  have V1 := (hb3.block _ (by simp; omega)).trans VH.out.1
  have V2 := (hb3.block _ (by simp; omega)).trans VH.out.2
  have B2 := hideIt (hb2.trans (hb3.mono (by simp; omega)))
  have K2 := hideIt hb3
  have R2 := hideIt hr2
  clear hb2 hb3 hr2
  obtain ⟨z1, z2, z3, z4⟩ := two_cells V2
  obtain ⟨t1, t2, t3, t4⟩ := two_cells V1
  clear V1 V2
  go_wp2
  refine bodyPost_ret (v := .agg #[.slice a1 ts.length c1, .slice a2 ps.length c2]) (by simp [results, Tryz.results9, go_sem, t1, t2]) rfl ?_
  refine ⟨_, rfl, ⟨_, _, w.heap.size + 3, w1.heap.size, w1.heap.size, w2.heap.size, rfl, (R1.out.same fun b h1 h2 => ?_).wide (by simp) (Nat.le_refl _), (R2.out.same fun b h1 h2 => ?_).wide (by simp) (Nat.le_refl _), by omega, by simp; omega, by omega, by simp, .inl (Nat.le_refl _)⟩, ?_⟩
  · simp only [World.size_alloc] at h1
    rw [Below.heap_setCell _ _ _ _ (by simp only; omega), Below.heap_setCell _ _ _ _ (by simp only; omega), Below.heap_setCell _ _ _ _ (by simp only; omega), K2.out.block b (by simp; omega), Below.heap_setCell _ _ _ _ (by simp only; omega)]
  · simp at h1
    rw [Below.heap_setCell _ _ _ _ (by simp only; omega), Below.heap_setCell _ _ _ _ (by simp only; omega), Below.heap_setCell _ _ _ _ (by simp only; omega)]
  · exact ((B2.out.setCell (by simp only; omega) _).setCell (by simp only; omega) _).setCell (by simp only; omega) _
set_option maxHeartbeats 2000000 in
theorem eqModel_same (va vb : Value) (ts : List Th) (ps : List Den) (w : World) (ha : RdMd w va ts ps) (hb : RdMd w vb ts ps) (hw : ts.length ≤ 2147483648) (hg : ∀ k (hk : k < ts.length), ts[k].pages.length ≤ 2147483648) (hp : ps.length ≤ 2147483648) :
    Calls Tryz.prog 12 #[va, vb] w fun e w' => e = .returned (.bool true) ∧ Below w.heap.size w w' := by
  obtain ⟨vW, vP, rfl, h1, h2⟩ := ha
  obtain ⟨uW, uP, rfl, h3, h4⟩ := hb
  obtain ⟨aW, cW, rfl⟩ := h1.form
  obtain ⟨aP, cP, rfl, _⟩ := h2.shape
  obtain ⟨bW, dW, rfl⟩ := h3.form
  obtain ⟨bP, dP, rfl, _⟩ := h4.shape
  have H1 := hideIt h1
  have H2 := hideIt h2
  have H3 := hideIt h3
  have H4 := hideIt h4
  clear h1 h2 h3 h4
  go_enter Tryz.func12, Tryz.ntmps12
  go_wp2_with fail
  have hb0 : Below w.heap.size w ((w.alloc (.cells #[.slice aW ts.length cW, .slice aP ps.length cP] 33)).alloc (.cells #[.slice bW ts.length dW, .slice bP ps.length dP] 33)) := by
    repeat (refine Below.alloc ?_ (by simp <;> omega) _)
    exact Below.refl _ _
  refine (eqThingS_same _ _ ts _ (H1.out.below hb0) (H3.out.below hb0) hw hg).mono ?_
  rintro e w1 ⟨rfl, hb1⟩
  have hz1 : w.heap.size + 2 ≤ w1.heap.size := by have := hb1.size; simp at this; omega
  have V0 := (hb1.block w.heap.size (by simp <;> omega)).trans (at_old (at_new rfl))
  have V1 := (hb1.block (w.heap.size + 1) (by simp <;> omega)).trans (at_new (by simp))
  have B1 := hb0.trans (hb1.mono (by simp <;> omega))
  obtain ⟨x1, x2, _, _⟩ := two_cells V0
  obtain ⟨y1, y2, _, _⟩ := two_cells V1
  clear hb0 hb1 V0 V1
  go_wp2_with fail
  refine (eqDirentS_same _ _ ps _ (Rd.below H2.out B1) (Rd.below H4.out B1) hp).mono ?_
  rintro e w2 ⟨rfl, hb2⟩
  go_wp2
  go_ret
  exact ⟨rfl, B1.trans (hb2.mono (by omega))⟩
end Go.Proofs.YtmeiionabonhnaaGreatDoor

namespace Go.Proofs.YtmeiionabonhnaaGreatDoor
open Go.RowKit
def keyB (s : ByteArray) : Lit := .string s.data.toList
theorem key_isKey (s : ByteArray) : WideAt.IsKeyLit (keyB s) := by
  unfold keyB
  simp [WideAt.IsKeyLit]
theorem key_inj {s t : ByteArray} (h : keyB s = keyB t) : s = t := by
  unfold keyB at h
  injection h with h
  exact bytes_ext h
end Go.Proofs.YtmeiionabonhnaaGreatDoor
