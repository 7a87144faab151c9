/- Several texts laid together: JlN, LawJournal, DevC. -/
import Derived.Test.YtbjalmiheipjjaaDoorJlM
import Derived.BigQuiet
import Derived.Deep.QuietTactic
import Derived.Deep.DeepCutAuto
import Derived.Test.YtbjalmiheipjjaaDoorZAQ
namespace Go.Proofs.YtbjalmiheipjjaaDoor
open Go.RowKit
theorem at_one (v : Value) (i : Int) (w : World) : Calls Tryd.prog 9 #[v, .int .i64 i, .int .i64 1] w fun e w' => e = .returned (.int .i64 0) ∧ Below w.heap.size w w' := by
  go_enter Tryd.func9, Tryd.ntmps9
  go_wp2
  go_ret
  exact ⟨rfl, Below.refl _ _⟩
theorem at_some (v : Value) (bs : List Int) (i n : Int) (w : World) (h : RdB w v bs) (hl : bs.length ≤ 1048576) (h0 : 0 ≤ i) (h1 : i ≤ 9) (hn : 1 ≤ n) (hn2 : n ≤ 100000) :
    Calls Tryd.prog 9 #[v, .int .i64 i, .int .i64 n] w fun e w' => ∃ x : Nat, e = .returned (.int .i64 (x : Int)) ∧ (x : Int) < n ∧ Below w.heap.size w w' := by
  by_cases c : n = 1
  · subst c
    refine (at_one v i w).mono ?_
    rintro e w' ⟨rfl, hb⟩
    exact ⟨0, rfl, by omega, hb⟩
  · refine (at_exact v bs i n w h hl h0 h1 (by omega) hn2).mono ?_
    rintro e w' ⟨rfl, hb⟩
    have := atV_bd bs i n (by omega)
    exact ⟨(atV bs i n).toNat, by rw [Int.toNat_of_nonneg this.1], by omega, hb⟩
theorem mis_take (l : List Mi) (m j : Nat) (hj : j < m * 3) (hm : m ≤ l.length) : (mis l)[j]? = (mis (l.take m))[j]? := by
  have e : mis l = mis (l.take m) ++ mis (l.drop m) := by rw [← mis_append, List.take_append_drop]
  rw [e, List.getElem?_append_left (by rw [mis_len, List.length_take]; omega)]
theorem rd_take {w : World} {ao : Option Addr} {n c : Nat} {l : List Mi} {m : Nat} (h : RdM w (.slice ao n c) l) (hn : l.length = n) (hm : m ≤ n) : RdM w (.slice ao m c) (l.take m) := by
  subst hn
  obtain ⟨_, ao', cap, e, h2, h3⟩ := h
  injection e with e1 _ e3
  subst e1 e3
  have hl : (l.take m).length = m := by rw [List.length_take]; omega
  refine ⟨by rw [mis_len], ao, c, by rw [hl], ⟨by rw [hl]; omega, h2.2⟩, fun hp => ?_⟩
  rw [hl] at hp
  obtain ⟨b, o, rfl, hb, hcl⟩ := h3 (by omega)
  refine ⟨b, o, rfl, hb, fun j hj => ?_⟩
  rw [hl] at hj
  rw [hcl j (by omega)]
  exact mis_take l m j hj hm
theorem replay_math {us : List Se} (h : DrOK us) (hl : us.length ≤ 5) (m : Nat) (zs : List Int) :
    ∃ W P rl F, ms ((planL (upsL us)).take m) zs336 [] zs32 [] = ⟨0, W, P, zs32, []⟩ ∧ pmB W P = true ∧ pmB (crW W P zs) [] = true ∧ rpC (crW W P zs) [] = 0 ∧ rpL (crW W P zs) [] = rl ∧ rl.length ≤ 100 ∧
      ms rl (crW W P zs) [] zs32 [] = ⟨0, F, [], zs32, []⟩ ∧ pmB F [] = true ∧
      ∀ (m2 : Nat) (zs2 : List Int), ∃ W2 P2 rl2 F2, ms (rl.take m2) (crW W P zs) [] zs32 [] = ⟨0, W2, P2, zs32, []⟩ ∧ pmB W2 P2 = true ∧ pmB (crW W2 P2 zs2) [] = true ∧ rpC (crW W2 P2 zs2) [] = 0 ∧ rpL (crW W2 P2 zs2) [] = rl2 ∧ rl2.length ≤ 100 ∧
        ms rl2 (crW W2 P2 zs2) [] zs32 [] = ⟨0, F2, [], zs32, []⟩ ∧ pmB F2 [] = true ∧ F2.drop 48 = F.drop 48 := by
  obtain ⟨W, P, e1, h1, h2, hc⟩ := plan_crash h hl m zs
  rcases hc with ⟨r1, r2, hx⟩ | ⟨r1, r2, hw⟩
  · refine ⟨W, P, [], crW W P zs, e1, h1, h2, r1, r2, by simp, none_done h2, h2, fun m2 zs2 => ⟨crW W P zs, [], [], crW W P zs, ?_, h2, ?_, ?_, ?_, by simp, ?_, h2, rfl⟩⟩
    · rw [List.take_nil]; exact none_done h2
    all_goals rw [crash_sure]
    · exact h2
    · exact r1
    · exact r2
    · exact none_done h2
  · obtain ⟨F, e2, h3, hd⟩ := apply_done h hl h2 hw
    have hL := applyL_len us
    refine ⟨W, P, _, F, e1, h1, h2, r1, r2, by omega, e2, h3, fun m2 zs2 => ?_⟩
    have h0 : 0 < us.length := by
      apply Classical.byContradiction
      intro h0
      obtain rfl : us = [] := by cases us with | nil => rfl | cons u l => simp at h0
      have h8 : (crW W P zs)[8]?.getD 0 = 0 := hw.1
      have := (rp_zero h2 h8).2
      rw [r2] at this
      simp [applyL, seg, flushL] at this
    obtain ⟨W2, P2, e3, h4, h5, hc2⟩ := apply_crash h hl h2 h0 hw m2 zs2
    rcases hc2 with ⟨q1, q2, hd2⟩ | ⟨q1, q2, hw2⟩
    · exact ⟨W2, P2, [], _, e3, h4, h5, q1, q2, by simp, none_done h5, h5, (done_due h (pmB_iff.1 h5).1 hd2).trans (done_due h (pmB_iff.1 h3).1 hd).symm⟩
    · obtain ⟨F2, e4, h6, hd2⟩ := apply_done h hl h5 hw2
      exact ⟨W2, P2, _, F2, e3, h4, h5, q1, q2, by omega, e4, h6, (done_due h (pmB_iff.1 h6).1 hd2).trans (done_due h (pmB_iff.1 h3).1 hd).symm⟩
end Go.Proofs.YtbjalmiheipjjaaDoor

namespace Go.Proofs.YtbjalmiheipjjaaDoor
open Go.RowKit
theorem rd_drop {w : World} {b o n c : Nat} {zs : List Int} {m : Nat} (h : RdI w (.slice (some ⟨b, o, none⟩) n c) zs) (hn : zs.length = n) (hm : m < n) : RdI w (.slice (some ⟨b, o + m, none⟩) (n - m) (c - m)) (zs.drop m) := by
  subst hn
  obtain ⟨ao, cap, e, hc, hcell⟩ := h.shape
  cases e
  obtain ⟨b', o', e', hb, hcl⟩ := hcell (by omega)
  cases e'
  refine ⟨by rw [ints_len, Nat.mul_one], some ⟨b, o + m, none⟩, c - m, by rw [List.length_drop], ⟨by rw [List.length_drop]; omega, fun e => by cases e⟩, fun _ => ⟨b, o + m, rfl, hb, fun j hj => ?_⟩⟩
  rw [List.length_drop, Nat.mul_one] at hj
  rw [ints_at _ j (by rw [List.length_drop]; omega), List.getElem_drop]
  have := hcl (m + j) (by omega)
  rw [← Nat.add_assoc] at this
  exact this
theorem rd_some {w : World} {ao : Option Addr} {n c : Nat} {zs : List Int} (h : RdI w (.slice ao n c) zs) (hn : 0 < n) : ∃ b o, ao = some ⟨b, o, none⟩ ∧ n ≤ c := by
  obtain ⟨_, ao', cap, e, h2, h3⟩ := h
  injection e with e1 e2 e3
  subst e1 e2 e3
  obtain ⟨b, o, rfl, _⟩ := h3 (by omega)
  exact ⟨b, o, rfl, h2.1⟩
end Go.Proofs.YtbjalmiheipjjaaDoor

namespace Go.Proofs.YtbjalmiheipjjaaDoor
open Go.RowKit
theorem below_allocD {a w : World} (h : Below a.heap.size a w) (o : Obj) : Below a.heap.size a (w.alloc o) := h.alloc h.size o
structure CutD (w0 wx : World) (v0 v1 v2 v3 : Value) (W : List Int) (P : List St) (E : List Int) (Q : List Se) (bx lo hi : Nat) : Prop where
  lo0 : w0.heap.size ≤ lo
  hi1 : hi ≤ wx.heap.size
  bx0 : w0.heap.size ≤ bx
  bx1 : bx < wx.heap.size
  apart : bx < lo ∨ hi ≤ bx
  box : wx.heap[bx]? = some (.cells #[v0, v1, v2, v3] 36 (0, 0))
  row : RowDev wx lo hi (.agg #[v0, v1, v2, v3]) W P E Q
  below : Below w0.heap.size w0 wx
theorem CutD.new {w0 wf : World} {v0 v1 v2 v3 : Value} {W : List Int} {P : List St} {E : List Int} {Q : List Se} {lo hi : Nat} (hr : RowDev wf lo hi (.agg #[v0, v1, v2, v3]) W P E Q) (hlo : w0.heap.size ≤ lo) (hhi : hi ≤ wf.heap.size) (hb : Below w0.heap.size w0 wf) : CutD w0 (wf.alloc (.cells #[v0, v1, v2, v3] 36)) v0 v1 v2 v3 W P E Q wf.heap.size lo hi :=
  ⟨hlo, by simp; omega, hb.size, by simp, .inr hhi, at_new rfl, hr.alloc hhi _, below_allocD hb _⟩
theorem CutD.old {w0 wf : World} {v0 v1 v2 v3 : Value} {W : List Int} {P : List St} {E : List Int} {Q : List Se} {bx lo hi : Nat} (hlt : bx < lo) (hr : RowDev wf lo hi (.agg #[v0, v1, v2, v3]) W P E Q) (hlo : w0.heap.size ≤ lo) (hhi : hi ≤ wf.heap.size) (hb : Below w0.heap.size w0 wf) (hx : w0.heap.size ≤ bx) (hv : wf.heap[bx]? = some (.cells #[.slice none 0 0, .slice none 0 0, .slice none 0 0, .slice none 0 0] 36 (0, 0))) : CutD w0 (putR wf bx v0 v1 v2 v3) v0 v1 v2 v3 W P E Q bx lo hi :=
  ⟨hlo, by rw [putR_size]; exact hhi, hx, by rw [putR_size]; exact (Array.getElem?_eq_some_iff.1 hv).1, .inl hlt, by simp [putR, World.setCell, Array.getElem?_modify, hv], hr.outside (putR_out wf bx v0 v1 v2 v3) (by omega) hhi, hb.trans ((putR_out wf bx v0 v1 v2 v3).below hx hb.size)⟩
end Go.Proofs.YtbjalmiheipjjaaDoor
