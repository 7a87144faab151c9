/- Several texts laid together: MdA, MdC, OpL, DtE, DuG. -/
import Derived.Test.YtmeiionabonhnaaGreatDoorZAK
import Derived.Test.YtmeiionabonhnaaGreatDoorThE
import Derived.Test.YtmeiionabonhnaaGreatDoorZAD
import Derived.Deep.DeepCutAuto
namespace Go.Proofs.YtmeiionabonhnaaGreatDoor
open Go.RowKit
theorem RdTh.form {w : World} {v : Value} {ts : List Th} (h : RdTh w v ts) : ∃ ao cap, v = .slice ao ts.length cap := by
  obtain ⟨us, e, r⟩ := h
  obtain ⟨ao, cap, rfl, -⟩ := r.shape
  exact ⟨ao, cap, by rw [map_fst_len e]⟩
theorem OwU.same {w w' : World} {lo hi : Nat} {v : Value} {us : List (Th × Value)} (h : OwU w lo hi v us) (hs : ∀ b, lo ≤ b → b < hi → w'.heap[b]? = w.heap[b]?) : OwU w' lo hi v us := ⟨h.row.same hs, fun k hk => (h.pg k hk).same hs, h.ap⟩
theorem RowTh.same {w w' : World} {lo hi : Nat} {v : Value} {ts : List Th} (h : RowTh w lo hi v ts) (hs : ∀ b, lo ≤ b → b < hi → w'.heap[b]? = w.heap[b]?) : RowTh w' lo hi v ts := by
  obtain ⟨us, e, r⟩ := h
  exact ⟨us, e, r.same hs⟩
def RdMd (w : World) (v : Value) (ts : List Th) (ps : List Den) : Prop := ∃ vW vP, v = .agg #[vW, vP] ∧ RdTh w vW ts ∧ RdD w vP ps
def RowMd (w : World) (lo hi : Nat) (v : Value) (ts : List Th) (ps : List Den) : Prop := ∃ vW vP lt ut lp up, v = .agg #[vW, vP] ∧ RowTh w lt ut vW ts ∧ Row w 140 3 lp up vP ps.length (dens ps) ∧ lo ≤ lt ∧ ut ≤ hi ∧ lo ≤ lp ∧ up ≤ hi ∧ (ut ≤ lp ∨ up ≤ lt)
theorem RowMd.rd {w : World} {lo hi : Nat} {v : Value} {ts : List Th} {ps : List Den} (h : RowMd w lo hi v ts ps) : RdMd w v ts ps := by
  obtain ⟨vW, vP, lt, ut, lp, up, rfl, h1, h2, -⟩ := h
  exact ⟨vW, vP, rfl, h1.rd, h2.rd⟩
theorem RdMd.below {w w' : World} {v : Value} {ts : List Th} {ps : List Den} (h : RdMd w v ts ps) (hb : Below w.heap.size w w') : RdMd w' v ts ps := by
  obtain ⟨vW, vP, rfl, h1, h2⟩ := h
  exact ⟨vW, vP, rfl, h1.below hb, Rd.below h2 hb⟩
theorem RowMd.below {w w' : World} {lo hi : Nat} {v : Value} {ts : List Th} {ps : List Den} (h : RowMd w lo hi v ts ps) {B : Nat} (hb : Below B w w') (hB : hi ≤ B) : RowMd w' lo hi v ts ps := by
  obtain ⟨vW, vP, lt, ut, lp, up, rfl, h1, h2, q⟩ := h
  exact ⟨vW, vP, lt, ut, lp, up, rfl, h1.below hb (by omega), h2.below hb (by omega), q⟩
theorem RowMd.outside {w w' : World} {lo hi : Nat} {v : Value} {ts : List Th} {ps : List Den} (h : RowMd w lo hi v ts ps) {lo' hi' : Nat} (ho : Outside lo' hi' w w') (hd : hi ≤ lo' ∨ hi' ≤ lo) (hz : hi ≤ w.heap.size) : RowMd w' lo hi v ts ps := by
  obtain ⟨vW, vP, lt, ut, lp, up, rfl, h1, h2, q⟩ := h
  exact ⟨vW, vP, lt, ut, lp, up, rfl, h1.outside ho (by omega) (by omega), h2.outside ho (by omega) (by omega), q⟩
theorem RowMd.wide {w : World} {lo hi : Nat} {v : Value} {ts : List Th} {ps : List Den} (h : RowMd w lo hi v ts ps) {lo' hi' : Nat} (a : lo' ≤ lo) (b : hi ≤ hi') : RowMd w lo' hi' v ts ps := by
  obtain ⟨vW, vP, lt, ut, lp, up, rfl, h1, h2, q⟩ := h
  exact ⟨vW, vP, lt, ut, lp, up, rfl, h1, h2, by omega⟩
theorem RdMd.form {w : World} {v : Value} {ts : List Th} {ps : List Den} (h : RdMd w v ts ps) : ∃ aW cW aP cP, v = .agg #[.slice aW ts.length cW, .slice aP ps.length cP] := by
  obtain ⟨vW, vP, rfl, h1, h2⟩ := h
  obtain ⟨aW, cW, rfl⟩ := h1.form
  obtain ⟨aP, cP, rfl, -⟩ := h2.shape
  exact ⟨aW, cW, aP, cP, rfl⟩
set_option maxHeartbeats 2000000 in
theorem toModel_any (v : Value) (ts : List Th) (ps : List Den) (w : World) (h : RdMd w v ts ps) (hw : ts.length ≤ 1048576) (hg : ∀ k (hk : k < ts.length), ts[k].pages.length ≤ 1048576) (hp : ps.length ≤ 1048576) :
    Calls Tryz.prog 9 #[v] w fun e w' => ∃ v', e = .returned v' ∧ RowMd w' w.heap.size w'.heap.size v' ts ps ∧ Below w.heap.size w w' := by
  obtain ⟨vW, vP, rfl, h1, h2⟩ := h
  have H1 := hideIt h1
  have H2 := hideIt h2
  obtain ⟨aW, cW, eW⟩ := h1.form
  obtain ⟨aP, cP, eP, _⟩ := h2.shape
  clear h1 h2
  subst eW eP
  go_enter Tryz.func9, Tryz.ntmps9
  go_wp2_with fail
  have hb0 : Below w.heap.size w (((w.alloc (.cells #[.slice aW ts.length cW, .slice aP ps.length cP] 25)).alloc (.cells #[.slice none 0 0, .slice none 0 0] 33)).alloc (.cells #[.slice none 0 0, .slice none 0 0] 33)) := by
    repeat (refine Below.alloc ?_ (by simp <;> omega) _)
    exact Below.refl _ _
  refine (toThingS_any _ ts _ (H1.out.below hb0) hw hg).mono ?_
  rintro e w1 ⟨v1, rfl, hr1, hb1⟩
  obtain ⟨a1, c1, rfl⟩ := hr1.rd.form
  have hz1 : w.heap.size + 3 ≤ w1.heap.size := by have := hb1.size; simp at this; omega
  have V0 := (hb1.block w.heap.size (by simp <;> omega)).trans (at_old (at_old (at_new rfl)))
  have V1 := (hb1.block (w.heap.size + 1) (by simp <;> omega)).trans (at_old (at_new (by simp)))
  have V2 := (hb1.block (w.heap.size + 1 + 1) (by simp <;> omega)).trans (at_new (by simp))
  have B1 := hideIt (hb0.trans (hb1.mono (by simp <;> omega)))
  have R1 := hideIt hr1
  obtain ⟨x1, x2, _, _⟩ := two_cells V0
  obtain ⟨y1, y2, y3, y4⟩ := two_cells V2
  have V2' := two_set0 V2 (.slice a1 ts.length c1)
  have V1' := (Below.heap_setCell w1 ⟨w.heap.size + 1 + 1, 0, none⟩ (.slice a1 ts.length c1) (w.heap.size + 1) (by simp)).trans V1
  have VH := hideIt (And.intro V1' V2')
  clear hb0 hb1 hr1 V0 V1 V2 V1' V2'
  go_wp2_with fail
  have hb2 := B1.out.setCell (p := ⟨w.heap.size + 1 + 1, 0, none⟩) (by simp; omega) (.slice a1 ts.length c1)
  refine (toDirentS_any _ ps _ (Rd.below H2.out hb2) hp).mono ?_
  rintro e w2 ⟨v2, rfl, hr2, hb3⟩
  obtain ⟨_, a2, c2, rfl, _⟩ := hr2.rd
  have hz2 : w1.heap.size ≤ w2.heap.size := by have := hb3.size; simpa using this
  have V1 := (hb3.block _ (by simp; omega)).trans VH.out.1
  have V2 := (hb3.block _ (by simp; omega)).trans VH.out.2
  have B2 := hideIt (hb2.trans (hb3.mono (by simp; omega)))
  have K2 := hideIt hb3
  have R2 := hideIt hr2
  clear hb2 hb3 hr2
  obtain ⟨z1, z2, z3, z4⟩ := two_cells V2
  obtain ⟨t1, t2, t3, t4⟩ := two_cells V1
  clear V1 V2
  go_wp2
  refine bodyPost_ret (v := .agg #[.slice a1 ts.length c1, .slice a2 ps.length c2]) (by simp [results, Tryz.results9, go_sem, t1, t2]) rfl ?_
  refine ⟨_, rfl, ⟨_, _, w.heap.size + 3, w1.heap.size, w1.heap.size, w2.heap.size, rfl, (R1.out.same fun b h1 h2 => ?_).wide (by simp) (Nat.le_refl _), (R2.out.same fun b h1 h2 => ?_).wide (by simp) (Nat.le_refl _), by omega, by simp; omega, by omega, by simp, .inl (Nat.le_refl _)⟩, ?_⟩
  · simp only [World.size_alloc] at h1
    rw [Below.heap_setCell _ _ _ _ (by simp only; omega), Below.heap_setCell _ _ _ _ (by simp only; omega), Below.heap_setCell _ _ _ _ (by simp only; omega), K2.out.block b (by simp; omega), Below.heap_setCell _ _ _ _ (by simp only; omega)]
  · simp at h1
    rw [Below.heap_setCell _ _ _ _ (by simp only; omega), Below.heap_setCell _ _ _ _ (by simp only; omega), Below.heap_setCell _ _ _ _ (by simp only; omega)]
  · exact ((B2.out.setCell (by simp only; omega) _).setCell (by simp only; omega) _).setCell (by simp only; omega) _
set_option maxHeartbeats 2000000 in
theorem eqModel_same (va vb : Value) (ts : List Th) (ps : List Den) (w : World) (ha : RdMd w va ts ps) (hb : RdMd w vb ts ps) (hw : ts.length ≤ 2147483648) (hg : ∀ k (hk : k < ts.length), ts[k].pages.length ≤ 2147483648) (hp : ps.length ≤ 2147483648) :
    Calls Tryz.prog 12 #[va, vb] w fun e w' => e = .returned (.bool true) ∧ Below w.heap.size w w' := by
  obtain ⟨vW, vP, rfl, h1, h2⟩ := ha
  obtain ⟨uW, uP, rfl, h3, h4⟩ := hb
  obtain ⟨aW, cW, rfl⟩ := h1.form
  obtain ⟨aP, cP, rfl, _⟩ := h2.shape
  obtain ⟨bW, dW, rfl⟩ := h3.form
  obtain ⟨bP, dP, rfl, _⟩ := h4.shape
  have H1 := hideIt h1
  have H2 := hideIt h2
  have H3 := hideIt h3
  have H4 := hideIt h4
  clear h1 h2 h3 h4
  go_enter Tryz.func12, Tryz.ntmps12
  go_wp2_with fail
  have hb0 : Below w.heap.size w ((w.alloc (.cells #[.slice aW ts.length cW, .slice aP ps.length cP] 33)).alloc (.cells #[.slice bW ts.length dW, .slice bP ps.length dP] 33)) := by
    repeat (refine Below.alloc ?_ (by simp <;> omega) _)
    exact Below.refl _ _
  refine (eqThingS_same _ _ ts _ (H1.out.below hb0) (H3.out.below hb0) hw hg).mono ?_
  rintro e w1 ⟨rfl, hb1⟩
  have hz1 : w.heap.size + 2 ≤ w1.heap.size := by have := hb1.size; simp at this; omega
  have V0 := (hb1.block w.heap.size (by simp <;> omega)).trans (at_old (at_new rfl))
  have V1 := (hb1.block (w.heap.size + 1) (by simp <;> omega)).trans (at_new (by simp))
  have B1 := hb0.trans (hb1.mono (by simp <;> omega))
  obtain ⟨x1, x2, _, _⟩ := two_cells V0
  obtain ⟨y1, y2, _, _⟩ := two_cells V1
  clear hb0 hb1 V0 V1
  go_wp2_with fail
  refine (eqDirentS_same _ _ ps _ (Rd.below H2.out B1) (Rd.below H4.out B1) hp).mono ?_
  rintro e w2 ⟨rfl, hb2⟩
  go_wp2
  go_ret
  exact ⟨rfl, B1.trans (hb2.mono (by omega))⟩
end Go.Proofs.YtmeiionabonhnaaGreatDoor

namespace Go.Proofs.YtmeiionabonhnaaGreatDoor
open Go.RowKit
theorem roomD_small {ps : List Den} {left : Int} (h0 : 0 ≤ left) (h1 : left ≤ 1048576) (h : ¬ roomD ps ps.length left < 0) : ps.length ≤ 1048576 := by
  rcases Nat.lt_or_ge 1048576 ps.length with q | q
  · exfalso
    have := roomD_neg ps left h0 0 (by unfold roomD; rw [if_pos (by omega)]; omega) ps.length
    rw [Nat.zero_add] at this
    omega
  · exact q
set_option maxRecDepth 100000 in
set_option maxHeartbeats 4000000 in
theorem szModel_any (v : Value) (ts : List Th) (ps : List Den) (left : Int) (w : World) (h : RdMd w v ts ps) (hn : ts.length ≤ maxLen) (hg : ∀ k (hk : k < ts.length), ts[k].pages.length ≤ maxLen) (hm : ps.length ≤ maxLen) (hs : ∀ k (h : k < ps.length), ps[k].name.size ≤ maxLen) (h0 : 0 ≤ left) (h1 : left ≤ 1048576) :
    Calls Tryz.prog 7 #[v, .int .i64 left] w fun e w' => ∃ r : Int, e = .returned (.int .i64 r) ∧ (0 ≤ r → (ts.length + totT ts ≤ 1048576 ∧ ps.length ≤ 1048576) ∧ r ≤ 1048576) ∧ -1 ≤ r ∧ Below w.heap.size w w' := by
  obtain ⟨vW, vP, rfl, hI, hD⟩ := h
  have LT := hideIt (fun w1 (hb : Below w.heap.size w w1) => szThingS_any vW ts left w1 (hI.below hb) hn hg h0 h1)
  have LD := hideIt (fun (q : Int) w1 (hb : Below w.heap.size w w1) (a : 0 ≤ q) (b : q ≤ 1048576) => szDirentS_any vP ps q w1 (Rd.below hD hb) hm hs a b)
  obtain ⟨aW, cW, hvW⟩ := hI.form
  obtain ⟨aP, cP, hvP, _⟩ := hD.shape
  subst hvW hvP
  clear hI hD hs hm hg hn
  obtain ⟨W, hW⟩ : ∃ W : World, W = w.alloc (.cells #[.slice aW ts.length cW, .slice aP ps.length cP] 25) := ⟨_, rfl⟩
  have BW : Hid (Below w.heap.size w W) := by rw [hW]; exact (Below.refl _ _).alloc (Nat.le_refl _) _
  have VW : Hid (W.heap[w.heap.size]? = some (.cells #[.slice aW ts.length cW, .slice aP ps.length cP] 25 (0, 0))) := by rw [hW]; exact at_new rfl
  have hz : w.heap.size < W.heap.size := by rw [hW]; simp
  go_enter Tryz.func7, Tryz.ntmps7
  go_wp2_with fail
  rw [← hW]
  clear hW
  refine (LT.out W BW.out).mono ?_
  rintro e w1 ⟨q, rfl, hq, hq1, hb1⟩
  have B1 := hideIt (below_trans BW.out hb1 BW.out.size)
  have V1 := hideIt ((hb1.block _ hz).trans VW.out)
  have HQ := hideIt hq
  clear hb1 LT hq
  by_cases c : q < 0
  · clear LD
    go_wp2
    go_ret
    exact ⟨_, rfl, fun z => absurd z (by decide), by decide, B1.out⟩
  · obtain ⟨x0, x1, _, _⟩ := two_cells V1.out
    have hq2 := HQ.out (by omega)
    have hq3 := hq2.2
    have HT := hideIt hq2.1
    clear hq2
    go_wp2_with fail
    refine (LD.out q w1 B1.out (by omega) hq3).mono ?_
    rintro e w2 ⟨rfl, hb2⟩
    have rl := roomD_le ps q (by omega) ps.length
    have RS := hideIt (fun z => roomD_small (ps := ps) (left := q) (by omega) hq3 z)
    have B2 := hideIt (below_trans B1.out hb2 B1.out.size)
    clear hb2 LD x0 x1
    generalize roomD ps ps.length q = r at *
    by_cases d : r < 0
    · have : r = -1 := by omega
      subst this
      go_wp2
      go_ret
      exact ⟨_, rfl, fun z => absurd z (by decide), by decide, B2.out⟩
    · go_wp2
      go_ret
      exact ⟨_, rfl, fun _ => ⟨⟨HT.out, RS.out d⟩, by omega⟩, by omega, B2.out⟩
end Go.Proofs.YtmeiionabonhnaaGreatDoor

namespace Go.Proofs.YtmeiionabonhnaaGreatDoor
open Go.RowKit
set_option maxRecDepth 100000 in
set_option maxHeartbeats 2000000 in
theorem toOp_any (k : Int) (p t : ByteArray) (g x : Int) (w : World) : Calls Tryz.prog 51 #[.agg #[.int .i64 k, .string p, .string t, .int .i64 g, .int .i64 x]] w fun e w' => e = .returned (.agg #[.int .i64 k, .string p, .string t, .int .i64 g, .int .i64 x]) ∧ Below w.heap.size w w' := by
  go_enter Tryz.func51, Tryz.ntmps51
  go_wp2
  refine bodyPost_ret (v := .agg #[.int .i64 k, .string p, .string t, .int .i64 g, .int .i64 x]) (by simp [results, Tryz.results51, go_sem]) rfl ⟨rfl, ?_⟩
  repeat (first | exact Below.refl _ _ | refine Below.setCell ?_ (by simp only; omega) _ | refine Below.alloc ?_ (by simp <;> omega) _)
def opZ (p t : ByteArray) (left : Int) : Int := if left < (p.size : Int) + (t.size : Int) then -1 else left - (p.size : Int) - (t.size : Int)
set_option maxRecDepth 100000 in
set_option maxHeartbeats 2000000 in
theorem szOp_any (k : Int) (p t : ByteArray) (g x left : Int) (w : World) (hp : p.size ≤ maxLen) (ht : t.size ≤ maxLen) (h0 : 0 ≤ left) (h1 : left ≤ 1048576) : Calls Tryz.prog 45 #[.agg #[.int .i64 k, .string p, .string t, .int .i64 g, .int .i64 x], .int .i64 left] w fun e w' => e = .returned (.int .i64 (opZ p t left)) ∧ Below w.heap.size w w' := by
  unfold maxLen at hp ht
  have EO := hideIt (show opZ p t left = if left < (p.size : Int) + (t.size : Int) then -1 else left - (p.size : Int) - (t.size : Int) from rfl)
  have BW := hideIt ((Below.refl w.heap.size w).alloc (Nat.le_refl _) (.cells #[.int .i64 k, .string p, .string t, .int .i64 g, .int .i64 x] 58))
  generalize opZ p t left = r at *
  by_cases c : left < (p.size : Int)
  · rw [if_pos (by omega)] at EO
    obtain rfl := EO.out
    have c' : left - (p.size : Int) < 0 := by omega
    go_enter Tryz.func45, Tryz.ntmps45
    go_wp2
    go_ret
    exact ⟨rfl, BW.out⟩
  have c' : ¬ left - (p.size : Int) < 0 := by omega
  by_cases d : left < (p.size : Int) + (t.size : Int)
  · rw [if_pos d] at EO
    obtain rfl := EO.out
    have d' : left - (p.size : Int) - (t.size : Int) < 0 := by omega
    go_enter Tryz.func45, Tryz.ntmps45
    go_wp2
    go_ret
    exact ⟨rfl, BW.out⟩
  · rw [if_neg d] at EO
    obtain rfl := EO.out
    have d' : ¬ left - (p.size : Int) - (t.size : Int) < 0 := by omega
    go_enter Tryz.func45, Tryz.ntmps45
    go_wp2
    go_ret
    exact ⟨rfl, BW.out⟩
end Go.Proofs.YtmeiionabonhnaaGreatDoor

namespace Go.Proofs.YtmeiionabonhnaaGreatDoor
open Go.RowKit
def opB (k : Int) (p t : ByteArray) (g x : Int) : Bool := decide ((1 ≤ k ∧ k ≤ 10) ∧ p.size ≤ 65536 ∧ t.size ≤ 65536 ∧ (k = 4 ∨ k = 5 ∨ t.size = 0) ∧ (k = 6 ∨ x = 0) ∧ ((6 ≤ k ∧ k ≤ 8) ∨ g = 0))
set_option maxRecDepth 100000 in
set_option maxHeartbeats 4000000 in
theorem specOpOK_any (k : Int) (p t : ByteArray) (g x : Int) (w : World) :
    Calls Tryz.prog 90 #[.agg #[.int .i64 k, .string p, .string t, .int .i64 g, .int .i64 x]] w fun e w' => e = .returned (.bool (opB k p t g x)) ∧ Below w.heap.size w w' := by
  have BW := hideIt ((Below.refl w.heap.size w).alloc (Nat.le_refl _) (.cells #[.int .i64 k, .string p, .string t, .int .i64 g, .int .i64 x] 76))
  have ET := hideIt (noBytes t)
  have NO := hideIt (fun h => show opB k p t g x = false from decide_eq_false h)
  have YES := hideIt (fun h => show opB k p t g x = true from decide_eq_true h)
  obtain ⟨W, hW⟩ : ∃ W, W = w.alloc (.cells #[.int .i64 k, .string p, .string t, .int .i64 g, .int .i64 x] 76) := ⟨_, rfl⟩
  rw [← hW] at BW
  have CB : Hid (W.heap[w.heap.size]? = some (.cells #[.int .i64 k, .string p, .string t, .int .i64 g, .int .i64 x] 76 (0, 0))) := by rw [hW]; exact at_new rfl
  have x0 : W.cell? ⟨w.heap.size, 0, none⟩ = some (.int .i64 k) := by rw [hW]; simp [go_sem]
  have x1 : W.cell? ⟨w.heap.size, 1, none⟩ = some (.string p) := by rw [hW]; simp [go_sem]
  have x2 : W.cell? ⟨w.heap.size, 2, none⟩ = some (.string t) := by rw [hW]; simp [go_sem]
  have x3 : W.cell? ⟨w.heap.size, 3, none⟩ = some (.int .i64 g) := by rw [hW]; simp [go_sem]
  have x4 : W.cell? ⟨w.heap.size, 4, none⟩ = some (.int .i64 x) := by rw [hW]; simp [go_sem]
  clear CB
  by_cases c1 : 1 ≤ k ∧ k ≤ 10
  case neg =>
    rw [NO.out (fun h => c1 h.1)]
    go_enter Tryz.func90, Tryz.ntmps90
    go_wp2_with fail
    rw [← hW]
    clear hW
    refine (l01In_no _ _ _ _ c1).mono ?_
    rintro e w' ⟨rfl, hw'⟩
    subst w'
    go_wp2
    go_ret
    exact ⟨rfl, BW.out⟩
  by_cases c2 : (65536 : Int) < (p.size : Int)
  case pos =>
    rw [NO.out (fun h => by have := h.2.1; omega)]
    go_enter Tryz.func90, Tryz.ntmps90
    go_wp2_with fail
    rw [← hW]
    clear hW
    refine (l01In_yes _ _ _ _ c1).mono ?_
    rintro e w' ⟨rfl, hw'⟩
    subst w'
    go_wp2
    go_ret
    exact ⟨rfl, BW.out⟩
  by_cases c3 : (65536 : Int) < (t.size : Int)
  case pos =>
    rw [NO.out (fun h => by have := h.2.2.1; omega)]
    go_enter Tryz.func90, Tryz.ntmps90
    go_wp2_with fail
    rw [← hW]
    clear hW
    refine (l01In_yes _ _ _ _ c1).mono ?_
    rintro e w' ⟨rfl, hw'⟩
    subst w'
    go_wp2
    go_ret
    exact ⟨rfl, BW.out⟩
  by_cases d4 : k = 4
  case pos =>
    subst d4
    by_cases c8 : x = 0
    case neg =>
      rw [NO.out (fun h => by have := h.2.2.2.2.1; omega)]
      have q8 : (x != 0) = true := by rw [bne_iff_ne]; exact c8
      go_enter Tryz.func90, Tryz.ntmps90
      go_wp2_with fail
      rw [← hW]
      clear hW
      refine (l01In_yes _ _ _ _ c1).mono ?_
      rintro e w' ⟨rfl, hw'⟩
      subst w'
      go_wp2
      go_ret
      exact ⟨rfl, BW.out⟩
    subst c8
    by_cases c9 : g = 0
    · rw [YES.out ⟨by omega, by omega, by omega, by omega, by omega, by omega⟩]
      subst c9
      go_enter Tryz.func90, Tryz.ntmps90
      go_wp2_with fail
      rw [← hW]
      clear hW
      refine (l01In_yes _ _ _ _ c1).mono ?_
      rintro e w' ⟨rfl, hw'⟩
      subst w'
      go_wp2_with fail
      refine (l01In_no _ _ _ _ (by omega)).mono ?_
      rintro e w' ⟨rfl, hw'⟩
      subst w'
      go_wp2
      go_ret
      exact ⟨rfl, BW.out⟩
    · rw [NO.out (fun h => by have := h.2.2.2.2.2; omega)]
      have q9 : (g == 0) = false := by rw [beq_eq_false_iff_ne]; exact c9
      go_enter Tryz.func90, Tryz.ntmps90
      go_wp2_with fail
      rw [← hW]
      clear hW
      refine (l01In_yes _ _ _ _ c1).mono ?_
      rintro e w' ⟨rfl, hw'⟩
      subst w'
      go_wp2_with fail
      refine (l01In_no _ _ _ _ (by omega)).mono ?_
      rintro e w' ⟨rfl, hw'⟩
      subst w'
      go_wp2
      go_ret
      exact ⟨rfl, BW.out⟩
  by_cases d5 : k = 5
  case pos =>
    subst d5
    by_cases c8 : x = 0
    case neg =>
      rw [NO.out (fun h => by have := h.2.2.2.2.1; omega)]
      have q8 : (x != 0) = true := by rw [bne_iff_ne]; exact c8
      go_enter Tryz.func90, Tryz.ntmps90
      go_wp2_with fail
      rw [← hW]
      clear hW
      refine (l01In_yes _ _ _ _ c1).mono ?_
      rintro e w' ⟨rfl, hw'⟩
      subst w'
      go_wp2
      go_ret
      exact ⟨rfl, BW.out⟩
    subst c8
    by_cases c9 : g = 0
    · rw [YES.out ⟨by omega, by omega, by omega, by omega, by omega, by omega⟩]
      subst c9
      go_enter Tryz.func90, Tryz.ntmps90
      go_wp2_with fail
      rw [← hW]
      clear hW
      refine (l01In_yes _ _ _ _ c1).mono ?_
      rintro e w' ⟨rfl, hw'⟩
      subst w'
      go_wp2_with fail
      refine (l01In_no _ _ _ _ (by omega)).mono ?_
      rintro e w' ⟨rfl, hw'⟩
      subst w'
      go_wp2
      go_ret
      exact ⟨rfl, BW.out⟩
    · rw [NO.out (fun h => by have := h.2.2.2.2.2; omega)]
      have q9 : (g == 0) = false := by rw [beq_eq_false_iff_ne]; exact c9
      go_enter Tryz.func90, Tryz.ntmps90
      go_wp2_with fail
      rw [← hW]
      clear hW
      refine (l01In_yes _ _ _ _ c1).mono ?_
      rintro e w' ⟨rfl, hw'⟩
      subst w'
      go_wp2_with fail
      refine (l01In_no _ _ _ _ (by omega)).mono ?_
      rintro e w' ⟨rfl, hw'⟩
      subst w'
      go_wp2
      go_ret
      exact ⟨rfl, BW.out⟩
  have q4 : (k != 4) = true := by rw [bne_iff_ne]; exact d4
  have q5 : (k != 5) = true := by rw [bne_iff_ne]; exact d5
  by_cases c6 : t.toList = []
  case neg =>
    rw [NO.out (fun h => by rcases h.2.2.2.1 with a | a | a; exact d4 a; exact d5 a; exact c6 (ET.out.2 a))]
    have qe : t.toList.isEmpty = false := by rw [List.isEmpty_eq_false_iff]; exact c6
    go_enter Tryz.func90, Tryz.ntmps90
    go_wp2_with fail
    rw [← hW]
    clear hW
    refine (l01In_yes _ _ _ _ c1).mono ?_
    rintro e w' ⟨rfl, hw'⟩
    subst w'
    go_wp2
    go_ret
    exact ⟨rfl, BW.out⟩
  have t0 := ET.out.1 c6
  by_cases d6 : k = 6
  case pos =>
    subst d6
    rw [YES.out ⟨by omega, by omega, by omega, by omega, by omega, by omega⟩]
    go_enter Tryz.func90, Tryz.ntmps90
    go_wp2_with fail
    rw [← hW]
    clear hW
    refine (l01In_yes _ _ _ _ c1).mono ?_
    rintro e w' ⟨rfl, hw'⟩
    subst w'
    go_wp2_with fail
    refine (l01In_yes _ _ _ _ (by omega)).mono ?_
    rintro e w' ⟨rfl, hw'⟩
    subst w'
    go_wp2
    go_ret
    exact ⟨rfl, BW.out⟩
  have q6 : (k != 6) = true := by rw [bne_iff_ne]; exact d6
  by_cases c8 : x = 0
  case neg =>
    rw [NO.out (fun h => by have := h.2.2.2.2.1; omega)]
    have q8 : (x != 0) = true := by rw [bne_iff_ne]; exact c8
    go_enter Tryz.func90, Tryz.ntmps90
    go_wp2_with fail
    rw [← hW]
    clear hW
    refine (l01In_yes _ _ _ _ c1).mono ?_
    rintro e w' ⟨rfl, hw'⟩
    subst w'
    go_wp2
    go_ret
    exact ⟨rfl, BW.out⟩
  subst c8
  by_cases d7 : 6 ≤ k ∧ k ≤ 8
  case pos =>
    rw [YES.out ⟨by omega, by omega, by omega, by omega, by omega, by omega⟩]
    go_enter Tryz.func90, Tryz.ntmps90
    go_wp2_with fail
    rw [← hW]
    clear hW
    refine (l01In_yes _ _ _ _ c1).mono ?_
    rintro e w' ⟨rfl, hw'⟩
    subst w'
    go_wp2_with fail
    refine (l01In_yes _ _ _ _ (by omega)).mono ?_
    rintro e w' ⟨rfl, hw'⟩
    subst w'
    go_wp2
    go_ret
    exact ⟨rfl, BW.out⟩
  by_cases c9 : g = 0
  · rw [YES.out ⟨by omega, by omega, by omega, by omega, by omega, by omega⟩]
    subst c9
    go_enter Tryz.func90, Tryz.ntmps90
    go_wp2_with fail
    rw [← hW]
    clear hW
    refine (l01In_yes _ _ _ _ c1).mono ?_
    rintro e w' ⟨rfl, hw'⟩
    subst w'
    go_wp2_with fail
    refine (l01In_no _ _ _ _ (by omega)).mono ?_
    rintro e w' ⟨rfl, hw'⟩
    subst w'
    go_wp2
    go_ret
    exact ⟨rfl, BW.out⟩
  · rw [NO.out (fun h => by have := h.2.2.2.2.2; omega)]
    have q9 : (g == 0) = false := by rw [beq_eq_false_iff_ne]; exact c9
    go_enter Tryz.func90, Tryz.ntmps90
    go_wp2_with fail
    rw [← hW]
    clear hW
    refine (l01In_yes _ _ _ _ c1).mono ?_
    rintro e w' ⟨rfl, hw'⟩
    subst w'
    go_wp2_with fail
    refine (l01In_no _ _ _ _ (by omega)).mono ?_
    rintro e w' ⟨rfl, hw'⟩
    subst w'
    go_wp2
    go_ret
    exact ⟨rfl, BW.out⟩
end Go.Proofs.YtmeiionabonhnaaGreatDoor

namespace Go.Proofs.YtmeiionabonhnaaGreatDoor
open Go.RowKit
def opEq (k : Int) (p t : ByteArray) (g x : Int) (k' : Int) (p' t' : ByteArray) (g' x' : Int) : Bool := k == k' && (p.toList == p'.toList && (t.toList == t'.toList && (g == g' && x == x')))
set_option maxRecDepth 100000 in
set_option maxHeartbeats 4000000 in
@[go_sem ↓] theorem eqOp (k : Int) (p t : ByteArray) (g x : Int) (k' : Int) (p' t' : ByteArray) (g' x' : Int) (w : World) : (Op.equalIn 10000 76 (.agg #[.int .i64 k, .string p, .string t, .int .i64 g, .int .i64 x]) (.agg #[.int .i64 k', .string p', .string t', .int .i64 g', .int .i64 x'])).run Tryz.prog w = .ok (opEq k p t g x k' p' t' g' x') w := by
  unfold opEq
  cases g0 : (k == k')
  · go_simp
  cases g1 : (p.toList == p'.toList)
  · go_simp
  cases g2 : (t.toList == t'.toList)
  · go_simp
  cases g3 : (g == g')
  · go_simp
  cases g4 : (x == x')
  · go_simp
  · go_simp
theorem no_bytes : (⟨#[]⟩ : ByteArray).toList = [] := (noBytes _).2 rfl
theorem op_zero (t : ByteArray) (g x : Int) : opEq 0 ⟨#[]⟩ t g x 0 ⟨#[]⟩ ⟨#[]⟩ 0 0 = decide (t.size = 0 ∧ g = 0 ∧ x = 0) := by
  unfold opEq
  rw [Bool.eq_iff_iff]
  simp only [Bool.and_eq_true, beq_iff_eq, decide_eq_true_eq, no_bytes, true_and]
  rw [noBytes t]
theorem op_in {k : Int} {p t : ByteArray} {g x : Int} (hp : ¬ 65536 < p.size) (ht : ¬ 65536 < t.size) (hk : 1 ≤ k ∧ k ≤ 10) {P : Prop} [Decidable P] (h : P ↔ ((k = 4 ∨ k = 5 ∨ t.size = 0) ∧ (k = 6 ∨ x = 0) ∧ ((6 ≤ k ∧ k ≤ 8) ∨ g = 0))) : opB k p t g x = decide P := by
  unfold opB
  rw [decide_eq_decide, h]
  exact ⟨fun q => q.2.2.2, fun q => ⟨hk, by omega, by omega, q⟩⟩
theorem op_out {k : Int} {p t : ByteArray} {g x : Int} (h : ¬ ((1 ≤ k ∧ k ≤ 10) ∧ p.size ≤ 65536 ∧ t.size ≤ 65536)) : opB k p t g x = false := decide_eq_false (fun q => h ⟨q.1, q.2.1, q.2.2.1⟩)
set_option maxRecDepth 100000 in
set_option maxHeartbeats 8000000 in
theorem implOpOK_any (k : Int) (p t : ByteArray) (g x : Int) (w : World) :
    Calls Tryz.prog 157 #[.agg #[.int .i64 k, .string p, .string t, .int .i64 g, .int .i64 x]] w fun e w' => e = .returned (.bool (opB k p t g x)) ∧ Below w.heap.size w w' := by
  by_cases c1 : 65536 < p.size
  · rw [op_out (fun h => by omega)]
    have q : (p.size : Int) > 65536 := by omega
    clear c1
    go_enter Tryz.func157, Tryz.ntmps157
    go_wp2
    go_ret
    exact ⟨rfl, (Below.refl _ _).alloc (Nat.le_refl _) _⟩
  have q1 : ¬ (p.size : Int) > 65536 := by omega
  by_cases c2 : 65536 < t.size
  · rw [op_out (fun h => by omega)]
    have q : (t.size : Int) > 65536 := by omega
    clear c1 c2
    go_enter Tryz.func157, Tryz.ntmps157
    go_wp2
    go_ret
    exact ⟨rfl, (Below.refl _ _).alloc (Nat.le_refl _) _⟩
  have q2 : ¬ (t.size : Int) > 65536 := by omega
  by_cases hk : 1 ≤ k ∧ k ≤ 10
  case neg =>
    rw [op_out (fun h => hk h.1)]
    have k1 : (k == 1) = false := by rw [beq_eq_false_iff_ne]; omega
    have k2 : (k == 2) = false := by rw [beq_eq_false_iff_ne]; omega
    have k3 : (k == 3) = false := by rw [beq_eq_false_iff_ne]; omega
    have k4 : (k == 4) = false := by rw [beq_eq_false_iff_ne]; omega
    have k5 : (k == 5) = false := by rw [beq_eq_false_iff_ne]; omega
    have k6 : (k == 6) = false := by rw [beq_eq_false_iff_ne]; omega
    have k7 : (k == 7) = false := by rw [beq_eq_false_iff_ne]; omega
    have k8 : (k == 8) = false := by rw [beq_eq_false_iff_ne]; omega
    have k9 : (k == 9) = false := by rw [beq_eq_false_iff_ne]; omega
    have k10 : (k == 10) = false := by rw [beq_eq_false_iff_ne]; omega
    clear c1 c2 hk
    go_enter Tryz.func157, Tryz.ntmps157
    go_wp2
    go_ret
    exact ⟨rfl, by repeat (first | exact Below.refl _ _ | refine Below.setCell ?_ (by simp only; omega) _ | refine Below.alloc ?_ (by simp) _)⟩
  have OI := hideIt (fun (P : Prop) (_ : Decidable P) h => op_in (k := k) (p := p) (t := t) (g := g) (x := x) c1 c2 hk (P := P) h)
  clear c1 c2
  rcases (show k = 1 ∨ k = 2 ∨ k = 3 ∨ k = 4 ∨ k = 5 ∨ k = 6 ∨ k = 7 ∨ k = 8 ∨ k = 9 ∨ k = 10 by omega) with rfl | rfl | rfl | rfl | rfl | rfl | rfl | rfl | rfl | rfl
  · have E : Hid (opB 1 p t g x = opEq 0 ⟨#[]⟩ t g x 0 ⟨#[]⟩ ⟨#[]⟩ 0 0) := by
      unfold Hid
      rw [op_zero]
      exact OI.out _ _ ⟨fun q => ⟨by omega, by omega, by omega⟩, fun q => ⟨by first | rfl | omega, by omega, by omega⟩⟩
    rw [E.out]
    clear E OI hk
    go_enter Tryz.func157, Tryz.ntmps157
    go_wp2
    go_ret
    exact ⟨rfl, by repeat (first | exact Below.refl _ _ | refine Below.setCell ?_ (by simp only; omega) _ | refine Below.alloc ?_ (by simp) _)⟩
  · have E : Hid (opB 2 p t g x = opEq 0 ⟨#[]⟩ t g x 0 ⟨#[]⟩ ⟨#[]⟩ 0 0) := by
      unfold Hid
      rw [op_zero]
      exact OI.out _ _ ⟨fun q => ⟨by omega, by omega, by omega⟩, fun q => ⟨by first | rfl | omega, by omega, by omega⟩⟩
    rw [E.out]
    clear E OI hk
    go_enter Tryz.func157, Tryz.ntmps157
    go_wp2
    go_ret
    exact ⟨rfl, by repeat (first | exact Below.refl _ _ | refine Below.setCell ?_ (by simp only; omega) _ | refine Below.alloc ?_ (by simp) _)⟩
  · have E : Hid (opB 3 p t g x = opEq 0 ⟨#[]⟩ t g x 0 ⟨#[]⟩ ⟨#[]⟩ 0 0) := by
      unfold Hid
      rw [op_zero]
      exact OI.out _ _ ⟨fun q => ⟨by omega, by omega, by omega⟩, fun q => ⟨by first | rfl | omega, by omega, by omega⟩⟩
    rw [E.out]
    clear E OI hk
    go_enter Tryz.func157, Tryz.ntmps157
    go_wp2
    go_ret
    exact ⟨rfl, by repeat (first | exact Below.refl _ _ | refine Below.setCell ?_ (by simp only; omega) _ | refine Below.alloc ?_ (by simp) _)⟩
  · have E : Hid (opB 4 p t g x = opEq 0 ⟨#[]⟩ ⟨#[]⟩ g x 0 ⟨#[]⟩ ⟨#[]⟩ 0 0) := by
      unfold Hid
      rw [op_zero]
      exact OI.out _ _ ⟨fun q => ⟨by omega, by omega, by omega⟩, fun q => ⟨by first | rfl | omega, by omega, by omega⟩⟩
    rw [E.out]
    clear E OI hk
    go_enter Tryz.func157, Tryz.ntmps157
    go_wp2
    go_ret
    exact ⟨rfl, by repeat (first | exact Below.refl _ _ | refine Below.setCell ?_ (by simp only; omega) _ | refine Below.alloc ?_ (by simp) _)⟩
  · have E : Hid (opB 5 p t g x = opEq 0 ⟨#[]⟩ ⟨#[]⟩ g x 0 ⟨#[]⟩ ⟨#[]⟩ 0 0) := by
      unfold Hid
      rw [op_zero]
      exact OI.out _ _ ⟨fun q => ⟨by omega, by omega, by omega⟩, fun q => ⟨by first | rfl | omega, by omega, by omega⟩⟩
    rw [E.out]
    clear E OI hk
    go_enter Tryz.func157, Tryz.ntmps157
    go_wp2
    go_ret
    exact ⟨rfl, by repeat (first | exact Below.refl _ _ | refine Below.setCell ?_ (by simp only; omega) _ | refine Below.alloc ?_ (by simp) _)⟩
  · have E : Hid (opB 6 p t g x = opEq 0 ⟨#[]⟩ t 0 0 0 ⟨#[]⟩ ⟨#[]⟩ 0 0) := by
      unfold Hid
      rw [op_zero]
      exact OI.out _ _ ⟨fun q => ⟨by omega, by omega, by omega⟩, fun q => ⟨by first | rfl | omega, by omega, by omega⟩⟩
    rw [E.out]
    clear E OI hk
    go_enter Tryz.func157, Tryz.ntmps157
    go_wp2
    go_ret
    exact ⟨rfl, by repeat (first | exact Below.refl _ _ | refine Below.setCell ?_ (by simp only; omega) _ | refine Below.alloc ?_ (by simp) _)⟩
  · have E : Hid (opB 7 p t g x = opEq 0 ⟨#[]⟩ t 0 x 0 ⟨#[]⟩ ⟨#[]⟩ 0 0) := by
      unfold Hid
      rw [op_zero]
      exact OI.out _ _ ⟨fun q => ⟨by omega, by omega, by omega⟩, fun q => ⟨by first | rfl | omega, by omega, by omega⟩⟩
    rw [E.out]
    clear E OI hk
    go_enter Tryz.func157, Tryz.ntmps157
    go_wp2
    go_ret
    exact ⟨rfl, by repeat (first | exact Below.refl _ _ | refine Below.setCell ?_ (by simp only; omega) _ | refine Below.alloc ?_ (by simp) _)⟩
  · have E : Hid (opB 8 p t g x = opEq 0 ⟨#[]⟩ t 0 x 0 ⟨#[]⟩ ⟨#[]⟩ 0 0) := by
      unfold Hid
      rw [op_zero]
      exact OI.out _ _ ⟨fun q => ⟨by omega, by omega, by omega⟩, fun q => ⟨by first | rfl | omega, by omega, by omega⟩⟩
    rw [E.out]
    clear E OI hk
    go_enter Tryz.func157, Tryz.ntmps157
    go_wp2
    go_ret
    exact ⟨rfl, by repeat (first | exact Below.refl _ _ | refine Below.setCell ?_ (by simp only; omega) _ | refine Below.alloc ?_ (by simp) _)⟩
  · have E : Hid (opB 9 p t g x = opEq 0 ⟨#[]⟩ t g x 0 ⟨#[]⟩ ⟨#[]⟩ 0 0) := by
      unfold Hid
      rw [op_zero]
      exact OI.out _ _ ⟨fun q => ⟨by omega, by omega, by omega⟩, fun q => ⟨by first | rfl | omega, by omega, by omega⟩⟩
    rw [E.out]
    clear E OI hk
    go_enter Tryz.func157, Tryz.ntmps157
    go_wp2
    go_ret
    exact ⟨rfl, by repeat (first | exact Below.refl _ _ | refine Below.setCell ?_ (by simp only; omega) _ | refine Below.alloc ?_ (by simp) _)⟩
  · have E : Hid (opB 10 p t g x = opEq 0 ⟨#[]⟩ t g x 0 ⟨#[]⟩ ⟨#[]⟩ 0 0) := by
      unfold Hid
      rw [op_zero]
      exact OI.out _ _ ⟨fun q => ⟨by omega, by omega, by omega⟩, fun q => ⟨by first | rfl | omega, by omega, by omega⟩⟩
    rw [E.out]
    clear E OI hk
    go_enter Tryz.func157, Tryz.ntmps157
    go_wp2
    go_ret
    exact ⟨rfl, by repeat (first | exact Below.refl _ _ | refine Below.setCell ?_ (by simp only; omega) _ | refine Below.alloc ?_ (by simp) _)⟩
end Go.Proofs.YtmeiionabonhnaaGreatDoor
