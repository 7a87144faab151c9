/- Worlds: how they are read; counted, held against one another, copied. -/
import Derived.Test.YtmeiionabonhnaaGreatDoorAoC
import Derived.Test.YtmeiionabonhnaaGreatDoorFqC
import Derived.Test.YtmeiionabonhnaaGreatDoorZAO
import Derived.Deep.DeepCutAuto
namespace Go.Proofs.YtmeiionabonhnaaGreatDoor
open Go.RowKit
theorem wd_cell {w : World} {b : Nat} {t : TypeId} {c : Array Value} (h : w.heap[b]? = some (.cells c t (0, 0))) (i : Nat) {x : Value} (e : c[i]? = some x) : w.cell? ⟨b, i, none⟩ = some x := by
  simp [World.cell?, h, e]
theorem wd_frz {w : World} {b : Nat} {t : TypeId} {c : Array Value} (h : w.heap[b]? = some (.cells c t (0, 0))) (i : Nat) : w.frozen? ⟨b, i, none⟩ = false := by
  simp [World.frozen?, h]
theorem wd_set {w : World} {b : Nat} {t : TypeId} {l : List Value} (h : w.heap[b]? = some (.cells l.toArray t (0, 0))) (i : Nat) (u : Value) : (w.setCell ⟨b, i, none⟩ u).heap[b]? = some (.cells (l.set i u).toArray t (0, 0)) := by
  simp [World.setCell, Array.getElem?_modify, h]
theorem outside_setRow (w : World) (b : Nat) (c : Array Value) : Outside b (b + 1) w (w.setRow b c) :=
  ⟨rfl, rfl, rfl, by simp [World.setRow], fun k h1 h2 => by simp [World.setRow, Array.getElem?_modify]; omega⟩
theorem RdAs.form {w : World} {v : Value} {ts : List Aw} (h : RdAs w v ts) : ∃ ao cap, v = .slice ao ts.length cap := by
  obtain ⟨us, e, r⟩ := h
  obtain ⟨ao, cap, rfl, -⟩ := r.shape
  exact ⟨ao, cap, by rw [aw_fst_len e]⟩
def RdWd (w : World) (v : Value) (ws : List Int) (ps : List St) (es : List Int) (qs : List Se) (hs : List Int) (td : List Mi) (cd vl : Int) (nm : List ByteArray) (fr : Bool) (ts : List Th) (ds : List Den) (ok : Int) (op ot : ByteArray) (og ox : Int) (az : List Aw) (ag : Bool) : Prop :=
  ∃ aW cW aP cP aS cS aQ cQ aH cH aT cT aN cN aG cG aD cD aR cR, v = .agg #[.slice aW ws.length cW, .slice aP ps.length cP, .slice aS es.length cS, .slice aQ qs.length cQ, .slice aH hs.length cH, .slice aT td.length cT, .int .i64 cd, .int .i64 vl, .slice aN nm.length cN, .bool fr, .slice aG ts.length cG, .slice aD ds.length cD, .int .i64 ok, .string op, .string ot, .int .i64 og, .int .i64 ox, .slice aR az.length cR, .bool ag] ∧ RdF w (.agg #[.slice aW ws.length cW, .slice aP ps.length cP, .slice aS es.length cS, .slice aQ qs.length cQ, .slice aH hs.length cH, .slice aT td.length cT, .int .i64 cd, .int .i64 vl, .slice aN nm.length cN, .bool fr]) ws ps es qs hs td cd vl nm fr ∧ RdMd w (.agg #[.slice aG ts.length cG, .slice aD ds.length cD]) ts ds ∧ RdAs w (.slice aR az.length cR) az
theorem RdWd.below {w w' : World} {v : Value} {ws : List Int} {ps : List St} {es : List Int} {qs : List Se} {hs : List Int} {td : List Mi} {cd vl : Int} {nm : List ByteArray} {fr : Bool} {ts : List Th} {ds : List Den} {ok : Int} {op ot : ByteArray} {og ox : Int} {az : List Aw} {ag : Bool} (h : RdWd w v ws ps es qs hs td cd vl nm fr ts ds ok op ot og ox az ag) (hb : Below w.heap.size w w') : RdWd w' v ws ps es qs hs td cd vl nm fr ts ds ok op ot og ox az ag := by
  obtain ⟨aW, cW, aP, cP, aS, cS, aQ, cQ, aH, cH, aT, cT, aN, cN, aG, cG, aD, cD, aR, cR, e, f, m, a⟩ := h
  exact ⟨aW, cW, aP, cP, aS, cS, aQ, cQ, aH, cH, aT, cT, aN, cN, aG, cG, aD, cD, aR, cR, e, f.below hb, m.below hb, a.below hb⟩
def box19 (w : World) (g : Nat) : Bool := match w.heap[g]? with | some (.cells c _ (0, 0)) => c.size == 19 | _ => false
def cells19 (w : World) (g : Nat) : Array Value := match w.heap[g]? with | some (.cells c _ (0, 0)) => c | _ => #[]
theorem infoWd : (Tryz.prog.info? 79).map (fun i => i.size) = some 19 := by kernel_rfl
theorem infoLW : (Tryz.prog.info? 61).map (fun i => i.size) = some 19 := by kernel_rfl
@[go_sem ↓] theorem load19 (g : Nat) (w : World) (h : box19 w g = true) : (loadVar 79 ⟨g, 0, none⟩).run Tryz.prog w = .ok (.agg (cells19 w g)) w := by
  unfold box19 at h
  unfold cells19
  split at h
  · rename_i c t hg
    exact run_loadVar_row w g t 79 c (0, 0) _ hg Tryz.underlying79 rfl (infoWd.trans (congrArg some (eq_of_beq h).symm))
  · cases h
@[go_sem ↓] theorem load19L (g : Nat) (w : World) (h : box19 w g = true) : (loadVar 61 ⟨g, 0, none⟩).run Tryz.prog w = .ok (.agg (cells19 w g)) w := by
  unfold box19 at h
  unfold cells19
  split at h
  · rename_i c t hg
    exact run_loadVar_row w g t 61 c (0, 0) _ hg Tryz.underlying61 rfl (infoLW.trans (congrArg some (eq_of_beq h).symm))
  · cases h
set_option maxHeartbeats 2000000 in
theorem eqOp_same (k : Int) (p t : ByteArray) (g x : Int) (w : World) : Calls Tryz.prog 56 #[.agg #[.int .i64 k, .string p, .string t, .int .i64 g, .int .i64 x], .agg #[.int .i64 k, .string p, .string t, .int .i64 g, .int .i64 x]] w fun e w' => e = .returned (.bool true) ∧ Below w.heap.size w w' := by
  have BW : Hid (Below w.heap.size w ((w.alloc (.cells #[.int .i64 k, .string p, .string t, .int .i64 g, .int .i64 x] 76)).alloc (.cells #[.int .i64 k, .string p, .string t, .int .i64 g, .int .i64 x] 76))) := ((Below.refl _ _).alloc (Nat.le_refl _) _).alloc (by simp) _
  go_enter Tryz.func56, Tryz.ntmps56
  go_wp2
  go_ret
  exact ⟨rfl, BW.out⟩
set_option maxRecDepth 100000 in
set_option maxHeartbeats 8000000 in
theorem szWorld_any (v : Value) (ws : List Int) (ps : List St) (es : List Int) (qs : List Se) (hs : List Int) (td : List Mi) (cd vl : Int) (nm : List ByteArray) (fr : Bool) (ts : List Th) (ds : List Den) (ok : Int) (op ot : ByteArray) (og ox : Int) (az : List Aw) (ag : Bool) (w : World) (h : RdWd w v ws ps es qs hs td cd vl nm fr ts ds ok op ot og ox az ag) (hws : ws.length ≤ maxLen) (hps : ps.length ≤ maxLen) (hes : es.length ≤ maxLen) (hqs : qs.length ≤ maxLen) (hhs : hs.length ≤ maxLen) (htd : td.length ≤ maxLen) (hnm : nm.length ≤ maxLen) (hz : ∀ k (hk : k < nm.length), nm[k].size ≤ maxLen)
    (hts : ts.length ≤ maxLen) (htg : ∀ k (hk : k < ts.length), ts[k].pages.length ≤ maxLen) (hds : ds.length ≤ maxLen) (hdn : ∀ k (h : k < ds.length), ds[k].name.size ≤ maxLen) (hop : op.size ≤ maxLen) (hot : ot.size ≤ maxLen)
    (haz : az.length ≤ maxLen) (hap : ∀ k (hk : k < az.length), az[k].names.length ≤ maxLen) (han : ∀ k (hk : k < az.length), ∀ j (hj : j < az[k].names.length), az[k].names[j].size ≤ maxLen) :
    Calls Tryz.prog 18 #[v, .int .i64 1048576] w fun e w' => ∃ r : Int, e = .returned (.int .i64 r) ∧ (0 ≤ r → (ws.length ≤ 1048576 ∧ ps.length ≤ 1048576 ∧ es.length ≤ 1048576 ∧ qs.length ≤ 1048576 ∧ hs.length ≤ 1048576 ∧ td.length ≤ 1048576 ∧ nm.length ≤ 1048576) ∧ (ts.length + totT ts ≤ 1048576 ∧ ds.length ≤ 1048576) ∧ (az.length ≤ 1048576 ∧ ∀ k (hk : k < az.length), az[k].names.length ≤ 1048576)) ∧ -1 ≤ r ∧ Below w.heap.size w w' := by
  obtain ⟨aW, cW, aP, cP, aS, cS, aQ, cQ, aH, cH, aT, cT, aN, cN, aG, cG, aD, cD, aR, cR, rfl, f1, m1, a1⟩ := h
  have LF : Hid (∀ w1, Below w.heap.size w w1 → Calls Tryz.prog 44 #[.agg #[.slice aW ws.length cW, .slice aP ps.length cP, .slice aS es.length cS, .slice aQ qs.length cQ, .slice aH hs.length cH, .slice aT td.length cT, .int .i64 cd, .int .i64 vl, .slice aN nm.length cN, .bool fr], .int .i64 1048576] w1 fun e w' => ∃ r : Int, e = .returned (.int .i64 r) ∧ (0 ≤ r → (ws.length ≤ 1048576 ∧ ps.length ≤ 1048576 ∧ es.length ≤ 1048576 ∧ qs.length ≤ 1048576 ∧ hs.length ≤ 1048576 ∧ td.length ≤ 1048576 ∧ nm.length ≤ 1048576) ∧ r ≤ 1048576) ∧ -1 ≤ r ∧ Below w1.heap.size w1 w') := fun w1 hb => by
    have f2 := f1.below hb
    obtain ⟨bW, dW, bP, dP, bS, dS, bQ, dQ, bH, dH, bT, dT, bN, dN, e, -, -, -, n1⟩ := f2
    injection e with e; injection e with e
    simp only [List.cons.injEq, Value.slice.injEq, and_true, true_and] at e
    obtain ⟨⟨rfl, rfl⟩, ⟨rfl, rfl⟩, ⟨rfl, rfl⟩, ⟨rfl, rfl⟩, ⟨rfl, rfl⟩, ⟨rfl, rfl⟩, ⟨rfl, rfl⟩⟩ := e
    exact szFs_any aW aP aS aQ aH aT aN cW cP cS cQ cH cT cN ws ps es qs hs td cd vl nm fr w1 hws hps hes hqs hhs htd hnm n1 hz
  have LM : Hid (∀ (r : Int) w1, 0 ≤ r → r ≤ 1048576 → Below w.heap.size w w1 → Calls Tryz.prog 7 #[.agg #[.slice aG ts.length cG, .slice aD ds.length cD], .int .i64 r] w1 fun e w' => ∃ q : Int, e = .returned (.int .i64 q) ∧ (0 ≤ q → (ts.length + totT ts ≤ 1048576 ∧ ds.length ≤ 1048576) ∧ q ≤ 1048576) ∧ -1 ≤ q ∧ Below w1.heap.size w1 w') := fun r w1 h0 h1 hb => szModel_any _ ts ds r w1 (m1.below hb) hts htg hds hdn h0 h1
  have LO : Hid (∀ (r : Int) w1, 0 ≤ r → r ≤ 1048576 → Calls Tryz.prog 45 #[.agg #[.int .i64 ok, .string op, .string ot, .int .i64 og, .int .i64 ox], .int .i64 r] w1 fun e w' => ∃ q : Int, e = .returned (.int .i64 q) ∧ q ≤ 1048576 ∧ -1 ≤ q ∧ Below w1.heap.size w1 w') := fun r w1 h0 h1 => by
    refine (szOp_any ok op ot og ox r w1 hop hot h0 h1).mono ?_
    rintro e w2 ⟨rfl, hb⟩
    refine ⟨_, rfl, ?_, ?_, hb⟩ <;> unfold opZ <;> split <;> omega
  have LA : Hid (∀ (r : Int) w1, 0 ≤ r → r ≤ 1048576 → Below w.heap.size w w1 → Calls Tryz.prog 46 #[.slice aR az.length cR, .int .i64 r] w1 fun e w' => ∃ q : Int, e = .returned (.int .i64 q) ∧ (0 ≤ q → (az.length ≤ 1048576 ∧ ∀ k (hk : k < az.length), az[k].names.length ≤ 1048576) ∧ q ≤ 1048576) ∧ -1 ≤ q ∧ Below w1.heap.size w1 w') := fun r w1 h0 h1 hb => szAnswerS_any _ az r w1 (a1.below hb) haz hap han h0 h1
  clear hws hps hes hqs hhs htd hnm hz hts htg hds hdn hop hot haz hap han f1 m1 a1
  obtain ⟨V, hV⟩ : ∃ V, V = w.alloc (.cells #[.slice aW ws.length cW, .slice aP ps.length cP, .slice aS es.length cS, .slice aQ qs.length cQ, .slice aH hs.length cH, .slice aT td.length cT, .int .i64 cd, .int .i64 vl, .slice aN nm.length cN, .bool fr, .slice aG ts.length cG, .slice aD ds.length cD, .int .i64 ok, .string op, .string ot, .int .i64 og, .int .i64 ox, .slice aR az.length cR, .bool ag] 61) := ⟨_, rfl⟩
  have BV : Hid (Below w.heap.size w V) := by rw [hV]; exact (Below.refl _ _).alloc (Nat.le_refl _) _
  have XV : Hid (V.heap[w.heap.size]? = some (.cells #[.slice aW ws.length cW, .slice aP ps.length cP, .slice aS es.length cS, .slice aQ qs.length cQ, .slice aH hs.length cH, .slice aT td.length cT, .int .i64 cd, .int .i64 vl, .slice aN nm.length cN, .bool fr, .slice aG ts.length cG, .slice aD ds.length cD, .int .i64 ok, .string op, .string ot, .int .i64 og, .int .i64 ox, .slice aR az.length cR, .bool ag] 61 (0, 0))) := by rw [hV]; exact at_new rfl
  have ltV : w.heap.size < V.heap.size := lt_box XV.out
  go_enter Tryz.func18, Tryz.ntmps18
  go_upto_region 1 with fail
  rw [← hV]
  clear hV
  have x0 : V.cell? ⟨w.heap.size, 0, none⟩ = some (.slice aW ws.length cW) := wd_cell XV.out 0 rfl
  have x1 : V.cell? ⟨w.heap.size, 1, none⟩ = some (.slice aP ps.length cP) := wd_cell XV.out 1 rfl
  have x2 : V.cell? ⟨w.heap.size, 2, none⟩ = some (.slice aS es.length cS) := wd_cell XV.out 2 rfl
  have x3 : V.cell? ⟨w.heap.size, 3, none⟩ = some (.slice aQ qs.length cQ) := wd_cell XV.out 3 rfl
  have x4 : V.cell? ⟨w.heap.size, 4, none⟩ = some (.slice aH hs.length cH) := wd_cell XV.out 4 rfl
  have x5 : V.cell? ⟨w.heap.size, 5, none⟩ = some (.slice aT td.length cT) := wd_cell XV.out 5 rfl
  have x6 : V.cell? ⟨w.heap.size, 6, none⟩ = some (.int .i64 cd) := wd_cell XV.out 6 rfl
  have x7 : V.cell? ⟨w.heap.size, 7, none⟩ = some (.int .i64 vl) := wd_cell XV.out 7 rfl
  have x8 : V.cell? ⟨w.heap.size, 8, none⟩ = some (.slice aN nm.length cN) := wd_cell XV.out 8 rfl
  have x9 : V.cell? ⟨w.heap.size, 9, none⟩ = some (.bool fr) := wd_cell XV.out 9 rfl
  go_wp2_with fail
  refine (LF.out V BV.out).mono ?_
  rintro e w1 ⟨r1, rfl, s1, m1, hb⟩
  have Bw1 := hideIt (below_trans BV.out hb BV.out.size)
  have Xw1 := hideIt (box_below XV.out hb (by omega))
  have ltw1 : w.heap.size < w1.heap.size := lt_box Xw1.out
  clear x0 x1 x2 x3 x4 x5 x6 x7 x8 x9 BV XV ltV hb LF
  by_cases c1 : r1 < 0
  · clear Xw1 LM LO LA s1
    go_wp2
    go_ret
    exact ⟨-1, rfl, fun h => absurd h (by decide), by decide, Bw1.out⟩
  obtain ⟨g1, q1⟩ := s1 (by omega)
  clear s1
  have G1 := hideIt g1
  clear g1
  have x10 : w1.cell? ⟨w.heap.size, 10, none⟩ = some (.slice aG ts.length cG) := wd_cell Xw1.out 10 rfl
  have x11 : w1.cell? ⟨w.heap.size, 11, none⟩ = some (.slice aD ds.length cD) := wd_cell Xw1.out 11 rfl
  go_wp2_with fail
  refine (LM.out r1 w1 (by omega) q1 Bw1.out).mono ?_
  rintro e w2 ⟨r2, rfl, s2, m2, hb⟩
  have Bw2 := hideIt (below_trans Bw1.out hb Bw1.out.size)
  have Xw2 := hideIt (box_below Xw1.out hb (by omega))
  have ltw2 : w.heap.size < w2.heap.size := lt_box Xw2.out
  clear x10 x11 Bw1 Xw1 ltw1 hb LM
  by_cases c2 : r2 < 0
  · clear Xw2 LO LA s2
    go_wp2
    go_ret
    exact ⟨-1, rfl, fun h => absurd h (by decide), by decide, Bw2.out⟩
  obtain ⟨g2, q2⟩ := s2 (by omega)
  clear s2
  have G2 := hideIt g2
  clear g2
  have x12 : w2.cell? ⟨w.heap.size, 12, none⟩ = some (.int .i64 ok) := wd_cell Xw2.out 12 rfl
  have x13 : w2.cell? ⟨w.heap.size, 13, none⟩ = some (.string op) := wd_cell Xw2.out 13 rfl
  have x14 : w2.cell? ⟨w.heap.size, 14, none⟩ = some (.string ot) := wd_cell Xw2.out 14 rfl
  have x15 : w2.cell? ⟨w.heap.size, 15, none⟩ = some (.int .i64 og) := wd_cell Xw2.out 15 rfl
  have x16 : w2.cell? ⟨w.heap.size, 16, none⟩ = some (.int .i64 ox) := wd_cell Xw2.out 16 rfl
  go_wp2_with fail
  refine (LO.out r2 w2 (by omega) q2).mono ?_
  rintro e w3 ⟨r3, rfl, s3, m3, hb⟩
  have Bw3 := hideIt (below_trans Bw2.out hb Bw2.out.size)
  have Xw3 := hideIt (box_below Xw2.out hb (by omega))
  have ltw3 : w.heap.size < w3.heap.size := lt_box Xw3.out
  clear x12 x13 x14 x15 x16 Bw2 Xw2 ltw2 hb LO
  by_cases c3 : r3 < 0
  · clear Xw3 LA 
    go_wp2
    go_ret
    exact ⟨-1, rfl, fun h => absurd h (by decide), by decide, Bw3.out⟩
  have q3 := s3
  have x17 : w3.cell? ⟨w.heap.size, 17, none⟩ = some (.slice aR az.length cR) := wd_cell Xw3.out 17 rfl
  go_wp2_with fail
  refine (LA.out r3 w3 (by omega) q3 Bw3.out).mono ?_
  rintro e w4 ⟨r4, rfl, s4, m4, hb⟩
  have Bw4 := hideIt (below_trans Bw3.out hb Bw3.out.size)
  have Xw4 := hideIt (box_below Xw3.out hb (by omega))
  have ltw4 : w.heap.size < w4.heap.size := lt_box Xw4.out
  clear x17 Bw3 Xw3 ltw3 hb LA
  by_cases c4 : r4 < 0
  · clear Xw4  s4
    go_wp2
    go_ret
    exact ⟨-1, rfl, fun h => absurd h (by decide), by decide, Bw4.out⟩
  obtain ⟨g4, q4⟩ := s4 (by omega)
  clear s4
  have G4 := hideIt g4
  clear g4
  go_wp2
  go_ret
  exact ⟨_, rfl, fun _ => ⟨G1.out, G2.out, G4.out⟩, by omega, Bw4.out⟩
set_option maxRecDepth 100000 in
set_option maxHeartbeats 8000000 in
theorem eqWorld_same (va vb : Value) (ws : List Int) (ps : List St) (es : List Int) (qs : List Se) (hs : List Int) (td : List Mi) (cd vl : Int) (nm : List ByteArray) (fr : Bool) (ts : List Th) (ds : List Den) (ok : Int) (op ot : ByteArray) (og ox : Int) (az : List Aw) (ag : Bool) (w : World) (ha : RdWd w va ws ps es qs hs td cd vl nm fr ts ds ok op ot og ox az ag) (hb : RdWd w vb ws ps es qs hs td cd vl nm fr ts ds ok op ot og ox az ag) (hws : ws.length ≤ 2147483648) (hps : ps.length ≤ 2147483648) (hes : es.length ≤ 2147483648) (hqs : qs.length ≤ 2147483648) (hhs : hs.length ≤ 2147483648) (htd : td.length ≤ 2147483648) (hnm : nm.length ≤ 2147483648) (hts : ts.length ≤ 2147483648) (htg : ∀ k (hk : k < ts.length), ts[k].pages.length ≤ 2147483648) (hds : ds.length ≤ 2147483648) (haz : az.length ≤ 2147483648) (hap : ∀ k (hk : k < az.length), az[k].names.length ≤ 2147483648) :
    Calls Tryz.prog 22 #[va, vb] w fun e w' => e = .returned (.bool true) ∧ Below w.heap.size w w' := by
  obtain ⟨aW, cW, aP, cP, aS, cS, aQ, cQ, aH, cH, aT, cT, aN, cN, aG, cG, aD, cD, aR, cR, rfl, f1, m1, a1⟩ := ha
  obtain ⟨bW, dW, bP, dP, bS, dS, bQ, dQ, bH, dH, bT, dT, bN, dN, bG, dG, bD, dD, bR, dR, rfl, f2, m2, a2⟩ := hb
  have LF := hideIt (fun w1 (h : Below w.heap.size w w1) => eqFs_same _ _ ws ps es qs hs td cd vl nm fr w1 (f1.below h) (f2.below h) hws hps hes hqs hhs htd hnm)
  have LM := hideIt (fun w1 (h : Below w.heap.size w w1) => eqModel_same _ _ ts ds w1 (m1.below h) (m2.below h) hts htg hds)
  have LA := hideIt (fun w1 (h : Below w.heap.size w w1) => eqAnswerS_same _ _ az w1 (a1.below h) (a2.below h) haz hap)
  have LO := hideIt (fun w1 => eqOp_same ok op ot og ox w1)
  clear f1 f2 m1 m2 a1 a2 hws hps hes hqs hhs htd hnm hts htg hds haz hap
  obtain ⟨V, hV⟩ : ∃ V, V = (w.alloc (.cells #[.slice aW ws.length cW, .slice aP ps.length cP, .slice aS es.length cS, .slice aQ qs.length cQ, .slice aH hs.length cH, .slice aT td.length cT, .int .i64 cd, .int .i64 vl, .slice aN nm.length cN, .bool fr, .slice aG ts.length cG, .slice aD ds.length cD, .int .i64 ok, .string op, .string ot, .int .i64 og, .int .i64 ox, .slice aR az.length cR, .bool ag] 79)).alloc (.cells #[.slice bW ws.length dW, .slice bP ps.length dP, .slice bS es.length dS, .slice bQ qs.length dQ, .slice bH hs.length dH, .slice bT td.length dT, .int .i64 cd, .int .i64 vl, .slice bN nm.length dN, .bool fr, .slice bG ts.length dG, .slice bD ds.length dD, .int .i64 ok, .string op, .string ot, .int .i64 og, .int .i64 ox, .slice bR az.length dR, .bool ag] 79) := ⟨_, rfl⟩
  have BV : Hid (Below w.heap.size w V) := by rw [hV]; exact ((Below.refl _ _).alloc (Nat.le_refl _) _).alloc (by simp) _
  have XV : Hid (V.heap[w.heap.size]? = some (.cells #[.slice aW ws.length cW, .slice aP ps.length cP, .slice aS es.length cS, .slice aQ qs.length cQ, .slice aH hs.length cH, .slice aT td.length cT, .int .i64 cd, .int .i64 vl, .slice aN nm.length cN, .bool fr, .slice aG ts.length cG, .slice aD ds.length cD, .int .i64 ok, .string op, .string ot, .int .i64 og, .int .i64 ox, .slice aR az.length cR, .bool ag] 79 (0, 0))) := by rw [hV]; exact at_old (at_new rfl)
  have YV : Hid (V.heap[w.heap.size + 1]? = some (.cells #[.slice bW ws.length dW, .slice bP ps.length dP, .slice bS es.length dS, .slice bQ qs.length dQ, .slice bH hs.length dH, .slice bT td.length dT, .int .i64 cd, .int .i64 vl, .slice bN nm.length dN, .bool fr, .slice bG ts.length dG, .slice bD ds.length dD, .int .i64 ok, .string op, .string ot, .int .i64 og, .int .i64 ox, .slice bR az.length dR, .bool ag] 79 (0, 0))) := by rw [hV]; exact at_new (by simp)
  have zV : w.heap.size + 1 < V.heap.size := lt_box YV.out
  go_enter Tryz.func22, Tryz.ntmps22
  go_upto_region 1 with fail
  rw [← hV]
  clear hV
  have x0 : V.cell? ⟨w.heap.size, 0, none⟩ = some (.slice aW ws.length cW) := wd_cell XV.out 0 rfl
  have x1 : V.cell? ⟨w.heap.size, 1, none⟩ = some (.slice aP ps.length cP) := wd_cell XV.out 1 rfl
  have x2 : V.cell? ⟨w.heap.size, 2, none⟩ = some (.slice aS es.length cS) := wd_cell XV.out 2 rfl
  have x3 : V.cell? ⟨w.heap.size, 3, none⟩ = some (.slice aQ qs.length cQ) := wd_cell XV.out 3 rfl
  have x4 : V.cell? ⟨w.heap.size, 4, none⟩ = some (.slice aH hs.length cH) := wd_cell XV.out 4 rfl
  have x5 : V.cell? ⟨w.heap.size, 5, none⟩ = some (.slice aT td.length cT) := wd_cell XV.out 5 rfl
  have x6 : V.cell? ⟨w.heap.size, 6, none⟩ = some (.int .i64 cd) := wd_cell XV.out 6 rfl
  have x7 : V.cell? ⟨w.heap.size, 7, none⟩ = some (.int .i64 vl) := wd_cell XV.out 7 rfl
  have x8 : V.cell? ⟨w.heap.size, 8, none⟩ = some (.slice aN nm.length cN) := wd_cell XV.out 8 rfl
  have x9 : V.cell? ⟨w.heap.size, 9, none⟩ = some (.bool fr) := wd_cell XV.out 9 rfl
  have y0 : V.cell? ⟨w.heap.size + 1, 0, none⟩ = some (.slice bW ws.length dW) := wd_cell YV.out 0 rfl
  have y1 : V.cell? ⟨w.heap.size + 1, 1, none⟩ = some (.slice bP ps.length dP) := wd_cell YV.out 1 rfl
  have y2 : V.cell? ⟨w.heap.size + 1, 2, none⟩ = some (.slice bS es.length dS) := wd_cell YV.out 2 rfl
  have y3 : V.cell? ⟨w.heap.size + 1, 3, none⟩ = some (.slice bQ qs.length dQ) := wd_cell YV.out 3 rfl
  have y4 : V.cell? ⟨w.heap.size + 1, 4, none⟩ = some (.slice bH hs.length dH) := wd_cell YV.out 4 rfl
  have y5 : V.cell? ⟨w.heap.size + 1, 5, none⟩ = some (.slice bT td.length dT) := wd_cell YV.out 5 rfl
  have y6 : V.cell? ⟨w.heap.size + 1, 6, none⟩ = some (.int .i64 cd) := wd_cell YV.out 6 rfl
  have y7 : V.cell? ⟨w.heap.size + 1, 7, none⟩ = some (.int .i64 vl) := wd_cell YV.out 7 rfl
  have y8 : V.cell? ⟨w.heap.size + 1, 8, none⟩ = some (.slice bN nm.length dN) := wd_cell YV.out 8 rfl
  have y9 : V.cell? ⟨w.heap.size + 1, 9, none⟩ = some (.bool fr) := wd_cell YV.out 9 rfl
  go_wp2_with fail
  refine (LF.out V BV.out).mono ?_
  rintro e w1 ⟨rfl, hb⟩
  have Bw1 := hideIt (below_trans BV.out hb BV.out.size)
  have Xw1 := hideIt (box_below XV.out hb (by omega))
  have Yw1 := hideIt (box_below YV.out hb (by omega))
  have zw1 : w.heap.size + 1 < w1.heap.size := lt_box Yw1.out
  clear x0 y0 x1 y1 x2 y2 x3 y3 x4 y4 x5 y5 x6 y6 x7 y7 x8 y8 x9 y9 BV XV YV zV hb LF
  have x10 : w1.cell? ⟨w.heap.size, 10, none⟩ = some (.slice aG ts.length cG) := wd_cell Xw1.out 10 rfl
  have x11 : w1.cell? ⟨w.heap.size, 11, none⟩ = some (.slice aD ds.length cD) := wd_cell Xw1.out 11 rfl
  have y10 : w1.cell? ⟨w.heap.size + 1, 10, none⟩ = some (.slice bG ts.length dG) := wd_cell Yw1.out 10 rfl
  have y11 : w1.cell? ⟨w.heap.size + 1, 11, none⟩ = some (.slice bD ds.length dD) := wd_cell Yw1.out 11 rfl
  go_wp2_with fail
  refine (LM.out w1 Bw1.out).mono ?_
  rintro e w2 ⟨rfl, hb⟩
  have Bw2 := hideIt (below_trans Bw1.out hb Bw1.out.size)
  have Xw2 := hideIt (box_below Xw1.out hb (by omega))
  have Yw2 := hideIt (box_below Yw1.out hb (by omega))
  have zw2 : w.heap.size + 1 < w2.heap.size := lt_box Yw2.out
  clear x10 y10 x11 y11 Bw1 Xw1 Yw1 zw1 hb LM
  have x12 : w2.cell? ⟨w.heap.size, 12, none⟩ = some (.int .i64 ok) := wd_cell Xw2.out 12 rfl
  have x13 : w2.cell? ⟨w.heap.size, 13, none⟩ = some (.string op) := wd_cell Xw2.out 13 rfl
  have x14 : w2.cell? ⟨w.heap.size, 14, none⟩ = some (.string ot) := wd_cell Xw2.out 14 rfl
  have x15 : w2.cell? ⟨w.heap.size, 15, none⟩ = some (.int .i64 og) := wd_cell Xw2.out 15 rfl
  have x16 : w2.cell? ⟨w.heap.size, 16, none⟩ = some (.int .i64 ox) := wd_cell Xw2.out 16 rfl
  have y12 : w2.cell? ⟨w.heap.size + 1, 12, none⟩ = some (.int .i64 ok) := wd_cell Yw2.out 12 rfl
  have y13 : w2.cell? ⟨w.heap.size + 1, 13, none⟩ = some (.string op) := wd_cell Yw2.out 13 rfl
  have y14 : w2.cell? ⟨w.heap.size + 1, 14, none⟩ = some (.string ot) := wd_cell Yw2.out 14 rfl
  have y15 : w2.cell? ⟨w.heap.size + 1, 15, none⟩ = some (.int .i64 og) := wd_cell Yw2.out 15 rfl
  have y16 : w2.cell? ⟨w.heap.size + 1, 16, none⟩ = some (.int .i64 ox) := wd_cell Yw2.out 16 rfl
  go_wp2_with fail
  refine (LO.out w2).mono ?_
  rintro e w3 ⟨rfl, hb⟩
  have Bw3 := hideIt (below_trans Bw2.out hb Bw2.out.size)
  have Xw3 := hideIt (box_below Xw2.out hb (by omega))
  have Yw3 := hideIt (box_below Yw2.out hb (by omega))
  have zw3 : w.heap.size + 1 < w3.heap.size := lt_box Yw3.out
  clear x12 y12 x13 y13 x14 y14 x15 y15 x16 y16 Bw2 Xw2 Yw2 zw2 hb LO
  have x17 : w3.cell? ⟨w.heap.size, 17, none⟩ = some (.slice aR az.length cR) := wd_cell Xw3.out 17 rfl
  have y17 : w3.cell? ⟨w.heap.size + 1, 17, none⟩ = some (.slice bR az.length dR) := wd_cell Yw3.out 17 rfl
  go_wp2_with fail
  refine (LA.out w3 Bw3.out).mono ?_
  rintro e w4 ⟨rfl, hb⟩
  have Bw4 := hideIt (below_trans Bw3.out hb Bw3.out.size)
  have Xw4 := hideIt (box_below Xw3.out hb (by omega))
  have Yw4 := hideIt (box_below Yw3.out hb (by omega))
  have zw4 : w.heap.size + 1 < w4.heap.size := lt_box Yw4.out
  clear x17 y17 Bw3 Xw3 Yw3 zw3 hb LA
  have x18 : w4.cell? ⟨w.heap.size, 18, none⟩ = some (.bool ag) := wd_cell Xw4.out 18 rfl
  have y18 : w4.cell? ⟨w.heap.size + 1, 18, none⟩ = some (.bool ag) := wd_cell Yw4.out 18 rfl
  go_wp2
  go_ret
  exact ⟨rfl, Bw4.out⟩
set_option maxRecDepth 100000 in
set_option maxHeartbeats 8000000 in
theorem toWorld_any (v : Value) (ws : List Int) (ps : List St) (es : List Int) (qs : List Se) (hs : List Int) (td : List Mi) (cd vl : Int) (nm : List ByteArray) (fr : Bool) (ts : List Th) (ds : List Den) (ok : Int) (op ot : ByteArray) (og ox : Int) (az : List Aw) (ag : Bool) (w : World) (h : RdWd w v ws ps es qs hs td cd vl nm fr ts ds ok op ot og ox az ag) (hws : ws.length ≤ 1048576) (hps : ps.length ≤ 1048576) (hes : es.length ≤ 1048576) (hqs : qs.length ≤ 1048576) (hhs : hs.length ≤ 1048576) (htd : td.length ≤ 1048576) (hnm : nm.length ≤ 1048576) (hts : ts.length ≤ 1048576) (htg : ∀ k (hk : k < ts.length), ts[k].pages.length ≤ 1048576) (hds : ds.length ≤ 1048576) (haz : az.length ≤ 1048576) (hap : ∀ k (hk : k < az.length), az[k].names.length ≤ 1048576) :
    Calls Tryz.prog 20 #[v] w fun e w' => ∃ v', e = .returned v' ∧ RdWd w' v' ws ps es qs hs td cd vl nm fr ts ds ok op ot og ox az ag ∧ Below w.heap.size w w' := by
  obtain ⟨aW, cW, aP, cP, aS, cS, aQ, cQ, aH, cH, aT, cT, aN, cN, aG, cG, aD, cD, aR, cR, rfl, f1, m1, a1⟩ := h
  have LF := hideIt (fun w1 (h : Below w.heap.size w w1) => toFs_any _ ws ps es qs hs td cd vl nm fr w1 (f1.below h) hws hps hes hqs hhs htd hnm)
  have LM := hideIt (fun w1 (h : Below w.heap.size w w1) => toModel_any _ ts ds w1 (m1.below h) hts htg hds)
  have LA := hideIt (fun w1 (h : Below w.heap.size w w1) => toAnswerS_any _ az w1 (a1.below h) haz hap)
  have LO := hideIt (fun w1 => toOp_any ok op ot og ox w1)
  clear f1 m1 a1 hws hps hes hqs hhs htd hnm hts htg hds haz hap
  obtain ⟨V, hV⟩ : ∃ V, V = ((w.alloc (.cells #[.slice aW ws.length cW, .slice aP ps.length cP, .slice aS es.length cS, .slice aQ qs.length cQ, .slice aH hs.length cH, .slice aT td.length cT, .int .i64 cd, .int .i64 vl, .slice aN nm.length cN, .bool fr, .slice aG ts.length cG, .slice aD ds.length cD, .int .i64 ok, .string op, .string ot, .int .i64 og, .int .i64 ox, .slice aR az.length cR, .bool ag] 61)).alloc (.cells #[.slice none 0 0, .slice none 0 0, .slice none 0 0, .slice none 0 0, .slice none 0 0, .slice none 0 0, .int .i64 0, .int .i64 0, .slice none 0 0, .bool false, .slice none 0 0, .slice none 0 0, .int .i64 0, .string ⟨#[]⟩, .string ⟨#[]⟩, .int .i64 0, .int .i64 0, .slice none 0 0, .bool false] 79)).alloc (.cells #[.slice none 0 0, .slice none 0 0, .slice none 0 0, .slice none 0 0, .slice none 0 0, .slice none 0 0, .int .i64 0, .int .i64 0, .slice none 0 0, .bool false, .slice none 0 0, .slice none 0 0, .int .i64 0, .string ⟨#[]⟩, .string ⟨#[]⟩, .int .i64 0, .int .i64 0, .slice none 0 0, .bool false] 79) := ⟨_, rfl⟩
  have zV : V.heap.size = w.heap.size + 1 + 1 + 1 := by rw [hV]; simp
  have BV : Hid (Below w.heap.size w V) := by rw [hV]; exact (((Below.refl _ _).alloc (Nat.le_refl _) _).alloc (by simp) _).alloc (by simp <;> omega) _
  have XV : Hid (V.heap[w.heap.size]? = some (.cells #[.slice aW ws.length cW, .slice aP ps.length cP, .slice aS es.length cS, .slice aQ qs.length cQ, .slice aH hs.length cH, .slice aT td.length cT, .int .i64 cd, .int .i64 vl, .slice aN nm.length cN, .bool fr, .slice aG ts.length cG, .slice aD ds.length cD, .int .i64 ok, .string op, .string ot, .int .i64 og, .int .i64 ox, .slice aR az.length cR, .bool ag] 61 (0, 0))) := by rw [hV]; exact at_old (at_old (at_new rfl))
  have YV : Hid (V.heap[w.heap.size + 1]? = some (.cells #[.slice none 0 0, .slice none 0 0, .slice none 0 0, .slice none 0 0, .slice none 0 0, .slice none 0 0, .int .i64 0, .int .i64 0, .slice none 0 0, .bool false, .slice none 0 0, .slice none 0 0, .int .i64 0, .string ⟨#[]⟩, .string ⟨#[]⟩, .int .i64 0, .int .i64 0, .slice none 0 0, .bool false] 79 (0, 0))) := by rw [hV]; exact at_old (at_new (by simp))
  have ZV : Hid (V.heap[w.heap.size + 1 + 1]? = some (.cells #[.slice none 0 0, .slice none 0 0, .slice none 0 0, .slice none 0 0, .slice none 0 0, .slice none 0 0, .int .i64 0, .int .i64 0, .slice none 0 0, .bool false, .slice none 0 0, .slice none 0 0, .int .i64 0, .string ⟨#[]⟩, .string ⟨#[]⟩, .int .i64 0, .int .i64 0, .slice none 0 0, .bool false] 79 (0, 0))) := by rw [hV]; exact at_new (by simp)
  have zV' : w.heap.size + 3 ≤ V.heap.size := by omega
  clear zV
  go_enter Tryz.func20, Tryz.ntmps20
  go_upto_region 2 with fail
  rw [← hV]
  clear hV
  have x0 : V.cell? ⟨w.heap.size, 0, none⟩ = some (.slice aW ws.length cW) := wd_cell XV.out 0 rfl
  have x1 : V.cell? ⟨w.heap.size, 1, none⟩ = some (.slice aP ps.length cP) := wd_cell XV.out 1 rfl
  have x2 : V.cell? ⟨w.heap.size, 2, none⟩ = some (.slice aS es.length cS) := wd_cell XV.out 2 rfl
  have x3 : V.cell? ⟨w.heap.size, 3, none⟩ = some (.slice aQ qs.length cQ) := wd_cell XV.out 3 rfl
  have x4 : V.cell? ⟨w.heap.size, 4, none⟩ = some (.slice aH hs.length cH) := wd_cell XV.out 4 rfl
  have x5 : V.cell? ⟨w.heap.size, 5, none⟩ = some (.slice aT td.length cT) := wd_cell XV.out 5 rfl
  have x6 : V.cell? ⟨w.heap.size, 6, none⟩ = some (.int .i64 cd) := wd_cell XV.out 6 rfl
  have x7 : V.cell? ⟨w.heap.size, 7, none⟩ = some (.int .i64 vl) := wd_cell XV.out 7 rfl
  have x8 : V.cell? ⟨w.heap.size, 8, none⟩ = some (.slice aN nm.length cN) := wd_cell XV.out 8 rfl
  have x9 : V.cell? ⟨w.heap.size, 9, none⟩ = some (.bool fr) := wd_cell XV.out 9 rfl
  go_wp2_with fail
  refine (LF.out V BV.out).mono ?_
  rintro e w1 ⟨v1, rfl, hr, hb⟩
  obtain ⟨eW, fW, eP, fP, eS, fS, eQ, fQ, eH, fH, eT, fT, eN, fN, rfl⟩ := hr.form
  clear x0 x1 x2 x3 x4 x5 x6 x7 x8 x9 LF
  have zw1 : V.heap.size ≤ w1.heap.size := hb.size
  have Bw1 := hideIt (below_trans BV.out hb BV.out.size)
  have Xw1 := hideIt (box_below XV.out hb (by omega))
  have Yw1 := hideIt (box_below YV.out hb (by omega))
  have Zw1 := hideIt (box_below ZV.out hb (by omega))
  clear BV XV YV ZV hb 
  obtain ⟨u1, hwu1⟩ : ∃ u1, u1 = ((((((((((w1.setCell ⟨w.heap.size + 1 + 1, 0, none⟩ (.slice eW ws.length fW)).setCell ⟨w.heap.size + 1 + 1, 1, none⟩ (.slice eP ps.length fP)).setCell ⟨w.heap.size + 1 + 1, 2, none⟩ (.slice eS es.length fS)).setCell ⟨w.heap.size + 1 + 1, 3, none⟩ (.slice eQ qs.length fQ)).setCell ⟨w.heap.size + 1 + 1, 4, none⟩ (.slice eH hs.length fH)).setCell ⟨w.heap.size + 1 + 1, 5, none⟩ (.slice eT td.length fT)).setCell ⟨w.heap.size + 1 + 1, 6, none⟩ (.int .i64 cd)).setCell ⟨w.heap.size + 1 + 1, 7, none⟩ (.int .i64 vl)).setCell ⟨w.heap.size + 1 + 1, 8, none⟩ (.slice eN nm.length fN)).setCell ⟨w.heap.size + 1 + 1, 9, none⟩ (.bool fr)) := ⟨_, rfl⟩
  have Ou1 : Outside (w.heap.size + 2) (w.heap.size + 3) w1 u1 := by rw [hwu1]; (repeat (refine Outside.setCell ?_ (by simp only; omega) (by simp only; omega) _)); exact Outside.refl _ _ _
  have su1 : w1.heap.size ≤ u1.heap.size ∧ u1.heap.size ≤ w1.heap.size := by rw [hwu1]; simp [World.setCell]
  have Bu1 := hideIt (Bw1.out.trans (Ou1.below (B := w.heap.size) (by omega) (by omega)))
  have Xu1 := hideIt ((Ou1.block (w.heap.size) (by omega) (by omega)).trans Xw1.out)
  have Yu1 := hideIt ((Ou1.block (w.heap.size + 1) (by omega) (by omega)).trans Yw1.out)
  have Zu1 : Hid (u1.heap[w.heap.size + 1 + 1]? = some (.cells #[.slice eW ws.length fW, .slice eP ps.length fP, .slice eS es.length fS, .slice eQ qs.length fQ, .slice eH hs.length fH, .slice eT td.length fT, .int .i64 cd, .int .i64 vl, .slice eN nm.length fN, .bool fr, .slice none 0 0, .slice none 0 0, .int .i64 0, .string ⟨#[]⟩, .string ⟨#[]⟩, .int .i64 0, .int .i64 0, .slice none 0 0, .bool false] 79 (0, 0))) := by rw [hwu1]; exact (wd_set (wd_set (wd_set (wd_set (wd_set (wd_set (wd_set (wd_set (wd_set (wd_set Zw1.out 0 _) 1 _) 2 _) 3 _) 4 _) 5 _) 6 _) 7 _) 8 _) 9 _)
  have RFu1 := hideIt ((RowF.wide hr (lo' := V.heap.size) (hi' := w1.heap.size) (by omega) (Nat.le_refl _)).outside Ou1 (by omega) (Nat.le_refl _))
  have y0 : w1.cell? ⟨w.heap.size + 1 + 1, 0, none⟩ = some (.slice none 0 0) := wd_cell Zw1.out 0 rfl
  have g0 := wd_frz Zw1.out 0
  have y1 : w1.cell? ⟨w.heap.size + 1 + 1, 1, none⟩ = some (.slice none 0 0) := wd_cell Zw1.out 1 rfl
  have g1 := wd_frz Zw1.out 1
  have y2 : w1.cell? ⟨w.heap.size + 1 + 1, 2, none⟩ = some (.slice none 0 0) := wd_cell Zw1.out 2 rfl
  have g2 := wd_frz Zw1.out 2
  have y3 : w1.cell? ⟨w.heap.size + 1 + 1, 3, none⟩ = some (.slice none 0 0) := wd_cell Zw1.out 3 rfl
  have g3 := wd_frz Zw1.out 3
  have y4 : w1.cell? ⟨w.heap.size + 1 + 1, 4, none⟩ = some (.slice none 0 0) := wd_cell Zw1.out 4 rfl
  have g4 := wd_frz Zw1.out 4
  have y5 : w1.cell? ⟨w.heap.size + 1 + 1, 5, none⟩ = some (.slice none 0 0) := wd_cell Zw1.out 5 rfl
  have g5 := wd_frz Zw1.out 5
  have y6 : w1.cell? ⟨w.heap.size + 1 + 1, 6, none⟩ = some (.int .i64 0) := wd_cell Zw1.out 6 rfl
  have g6 := wd_frz Zw1.out 6
  have y7 : w1.cell? ⟨w.heap.size + 1 + 1, 7, none⟩ = some (.int .i64 0) := wd_cell Zw1.out 7 rfl
  have g7 := wd_frz Zw1.out 7
  have y8 : w1.cell? ⟨w.heap.size + 1 + 1, 8, none⟩ = some (.slice none 0 0) := wd_cell Zw1.out 8 rfl
  have g8 := wd_frz Zw1.out 8
  have y9 : w1.cell? ⟨w.heap.size + 1 + 1, 9, none⟩ = some (.bool false) := wd_cell Zw1.out 9 rfl
  have g9 := wd_frz Zw1.out 9
  clear hr Ou1
  go_upto_region 3 with fail
  rw [← hwu1]
  clear hwu1 y0 g0 y1 g1 y2 g2 y3 g3 y4 g4 y5 g5 y6 g6 y7 g7 y8 g8 y9 g9 Bw1 Xw1 Yw1 Zw1 
  have x10 : u1.cell? ⟨w.heap.size, 10, none⟩ = some (.slice aG ts.length cG) := wd_cell Xu1.out 10 rfl
  have x11 : u1.cell? ⟨w.heap.size, 11, none⟩ = some (.slice aD ds.length cD) := wd_cell Xu1.out 11 rfl
  go_wp2_with fail
  refine (LM.out u1 Bu1.out).mono ?_
  rintro e w2 ⟨v2, rfl, hr, hb⟩
  obtain ⟨eG, fG, eD, fD, rfl⟩ := hr.rd.form
  clear x10 x11 LM
  have zw2 : u1.heap.size ≤ w2.heap.size := hb.size
  have Bw2 := hideIt (below_trans Bu1.out hb Bu1.out.size)
  have Xw2 := hideIt (box_below Xu1.out hb (by omega))
  have Yw2 := hideIt (box_below Yu1.out hb (by omega))
  have Zw2 := hideIt (box_below Zu1.out hb (by omega))
  have RFw2 := hideIt (RFu1.out.below hb (by omega))
  clear Bu1 Xu1 Yu1 Zu1 hb RFu1
  obtain ⟨u2, hwu2⟩ : ∃ u2, u2 = ((w2.setCell ⟨w.heap.size + 1 + 1, 10, none⟩ (.slice eG ts.length fG)).setCell ⟨w.heap.size + 1 + 1, 11, none⟩ (.slice eD ds.length fD)) := ⟨_, rfl⟩
  have Ou2 : Outside (w.heap.size + 2) (w.heap.size + 3) w2 u2 := by rw [hwu2]; (repeat (refine Outside.setCell ?_ (by simp only; omega) (by simp only; omega) _)); exact Outside.refl _ _ _
  have su2 : w2.heap.size ≤ u2.heap.size ∧ u2.heap.size ≤ w2.heap.size := by rw [hwu2]; simp [World.setCell]
  have Bu2 := hideIt (Bw2.out.trans (Ou2.below (B := w.heap.size) (by omega) (by omega)))
  have Xu2 := hideIt ((Ou2.block (w.heap.size) (by omega) (by omega)).trans Xw2.out)
  have Yu2 := hideIt ((Ou2.block (w.heap.size + 1) (by omega) (by omega)).trans Yw2.out)
  have Zu2 : Hid (u2.heap[w.heap.size + 1 + 1]? = some (.cells #[.slice eW ws.length fW, .slice eP ps.length fP, .slice eS es.length fS, .slice eQ qs.length fQ, .slice eH hs.length fH, .slice eT td.length fT, .int .i64 cd, .int .i64 vl, .slice eN nm.length fN, .bool fr, .slice eG ts.length fG, .slice eD ds.length fD, .int .i64 0, .string ⟨#[]⟩, .string ⟨#[]⟩, .int .i64 0, .int .i64 0, .slice none 0 0, .bool false] 79 (0, 0))) := by rw [hwu2]; exact (wd_set (wd_set Zw2.out 10 _) 11 _)
  have RFu2 := hideIt (RFw2.out.outside Ou2 (by omega) (by omega))
  have RMu2 := hideIt ((RowMd.wide hr (lo' := u1.heap.size) (hi' := w2.heap.size) (by omega) (Nat.le_refl _)).outside Ou2 (by omega) (Nat.le_refl _))
  have y10 : w2.cell? ⟨w.heap.size + 1 + 1, 10, none⟩ = some (.slice none 0 0) := wd_cell Zw2.out 10 rfl
  have g10 := wd_frz Zw2.out 10
  have y11 : w2.cell? ⟨w.heap.size + 1 + 1, 11, none⟩ = some (.slice none 0 0) := wd_cell Zw2.out 11 rfl
  have g11 := wd_frz Zw2.out 11
  clear hr Ou2
  go_upto_region 4 with fail
  rw [← hwu2]
  clear hwu2 y10 g10 y11 g11 Bw2 Xw2 Yw2 Zw2 RFw2
  have x12 : u2.cell? ⟨w.heap.size, 12, none⟩ = some (.int .i64 ok) := wd_cell Xu2.out 12 rfl
  have x13 : u2.cell? ⟨w.heap.size, 13, none⟩ = some (.string op) := wd_cell Xu2.out 13 rfl
  have x14 : u2.cell? ⟨w.heap.size, 14, none⟩ = some (.string ot) := wd_cell Xu2.out 14 rfl
  have x15 : u2.cell? ⟨w.heap.size, 15, none⟩ = some (.int .i64 og) := wd_cell Xu2.out 15 rfl
  have x16 : u2.cell? ⟨w.heap.size, 16, none⟩ = some (.int .i64 ox) := wd_cell Xu2.out 16 rfl
  go_wp2_with fail
  refine (LO.out u2).mono ?_
  rintro e w3 ⟨rfl, hb⟩
  clear x12 x13 x14 x15 x16 LO
  have zw3 : u2.heap.size ≤ w3.heap.size := hb.size
  have Bw3 := hideIt (below_trans Bu2.out hb Bu2.out.size)
  have Xw3 := hideIt (box_below Xu2.out hb (by omega))
  have Yw3 := hideIt (box_below Yu2.out hb (by omega))
  have Zw3 := hideIt (box_below Zu2.out hb (by omega))
  have RFw3 := hideIt (RFu2.out.below hb (by omega))
  have RMw3 := hideIt (RMu2.out.below hb (by omega))
  clear Bu2 Xu2 Yu2 Zu2 hb RFu2 RMu2
  obtain ⟨u3, hwu3⟩ : ∃ u3, u3 = (((((w3.setCell ⟨w.heap.size + 1 + 1, 12, none⟩ (.int .i64 ok)).setCell ⟨w.heap.size + 1 + 1, 13, none⟩ (.string op)).setCell ⟨w.heap.size + 1 + 1, 14, none⟩ (.string ot)).setCell ⟨w.heap.size + 1 + 1, 15, none⟩ (.int .i64 og)).setCell ⟨w.heap.size + 1 + 1, 16, none⟩ (.int .i64 ox)) := ⟨_, rfl⟩
  have Ou3 : Outside (w.heap.size + 2) (w.heap.size + 3) w3 u3 := by rw [hwu3]; (repeat (refine Outside.setCell ?_ (by simp only; omega) (by simp only; omega) _)); exact Outside.refl _ _ _
  have su3 : w3.heap.size ≤ u3.heap.size ∧ u3.heap.size ≤ w3.heap.size := by rw [hwu3]; simp [World.setCell]
  have Bu3 := hideIt (Bw3.out.trans (Ou3.below (B := w.heap.size) (by omega) (by omega)))
  have Xu3 := hideIt ((Ou3.block (w.heap.size) (by omega) (by omega)).trans Xw3.out)
  have Yu3 := hideIt ((Ou3.block (w.heap.size + 1) (by omega) (by omega)).trans Yw3.out)
  have Zu3 : Hid (u3.heap[w.heap.size + 1 + 1]? = some (.cells #[.slice eW ws.length fW, .slice eP ps.length fP, .slice eS es.length fS, .slice eQ qs.length fQ, .slice eH hs.length fH, .slice eT td.length fT, .int .i64 cd, .int .i64 vl, .slice eN nm.length fN, .bool fr, .slice eG ts.length fG, .slice eD ds.length fD, .int .i64 ok, .string op, .string ot, .int .i64 og, .int .i64 ox, .slice none 0 0, .bool false] 79 (0, 0))) := by rw [hwu3]; exact (wd_set (wd_set (wd_set (wd_set (wd_set Zw3.out 12 _) 13 _) 14 _) 15 _) 16 _)
  have RFu3 := hideIt (RFw3.out.outside Ou3 (by omega) (by omega))
  have RMu3 := hideIt (RMw3.out.outside Ou3 (by omega) (by omega))
  have y12 : w3.cell? ⟨w.heap.size + 1 + 1, 12, none⟩ = some (.int .i64 0) := wd_cell Zw3.out 12 rfl
  have g12 := wd_frz Zw3.out 12
  have y13 : w3.cell? ⟨w.heap.size + 1 + 1, 13, none⟩ = some (.string ⟨#[]⟩) := wd_cell Zw3.out 13 rfl
  have g13 := wd_frz Zw3.out 13
  have y14 : w3.cell? ⟨w.heap.size + 1 + 1, 14, none⟩ = some (.string ⟨#[]⟩) := wd_cell Zw3.out 14 rfl
  have g14 := wd_frz Zw3.out 14
  have y15 : w3.cell? ⟨w.heap.size + 1 + 1, 15, none⟩ = some (.int .i64 0) := wd_cell Zw3.out 15 rfl
  have g15 := wd_frz Zw3.out 15
  have y16 : w3.cell? ⟨w.heap.size + 1 + 1, 16, none⟩ = some (.int .i64 0) := wd_cell Zw3.out 16 rfl
  have g16 := wd_frz Zw3.out 16
  clear Ou3
  go_upto_region 5 with fail
  rw [← hwu3]
  clear hwu3 y12 g12 y13 g13 y14 g14 y15 g15 y16 g16 Bw3 Xw3 Yw3 Zw3 RFw3 RMw3
  have x17 : u3.cell? ⟨w.heap.size, 17, none⟩ = some (.slice aR az.length cR) := wd_cell Xu3.out 17 rfl
  go_wp2_with fail
  refine (LA.out u3 Bu3.out).mono ?_
  rintro e w4 ⟨v4, rfl, hr, hb⟩
  obtain ⟨eR, fR, rfl⟩ := hr.rd.form
  clear x17 LA
  have zw4 : u3.heap.size ≤ w4.heap.size := hb.size
  have Bw4 := hideIt (below_trans Bu3.out hb Bu3.out.size)
  have Xw4 := hideIt (box_below Xu3.out hb (by omega))
  have Yw4 := hideIt (box_below Yu3.out hb (by omega))
  have Zw4 := hideIt (box_below Zu3.out hb (by omega))
  have RFw4 := hideIt (RFu3.out.below hb (by omega))
  have RMw4 := hideIt (RMu3.out.below hb (by omega))
  clear Bu3 Xu3 Yu3 Zu3 hb RFu3 RMu3
  obtain ⟨u4, hwu4⟩ : ∃ u4, u4 = (w4.setCell ⟨w.heap.size + 1 + 1, 17, none⟩ (.slice eR az.length fR)) := ⟨_, rfl⟩
  have Ou4 : Outside (w.heap.size + 2) (w.heap.size + 3) w4 u4 := by rw [hwu4]; (repeat (refine Outside.setCell ?_ (by simp only; omega) (by simp only; omega) _)); exact Outside.refl _ _ _
  have su4 : w4.heap.size ≤ u4.heap.size ∧ u4.heap.size ≤ w4.heap.size := by rw [hwu4]; simp [World.setCell]
  have Bu4 := hideIt (Bw4.out.trans (Ou4.below (B := w.heap.size) (by omega) (by omega)))
  have Xu4 := hideIt ((Ou4.block (w.heap.size) (by omega) (by omega)).trans Xw4.out)
  have Yu4 := hideIt ((Ou4.block (w.heap.size + 1) (by omega) (by omega)).trans Yw4.out)
  have Zu4 : Hid (u4.heap[w.heap.size + 1 + 1]? = some (.cells #[.slice eW ws.length fW, .slice eP ps.length fP, .slice eS es.length fS, .slice eQ qs.length fQ, .slice eH hs.length fH, .slice eT td.length fT, .int .i64 cd, .int .i64 vl, .slice eN nm.length fN, .bool fr, .slice eG ts.length fG, .slice eD ds.length fD, .int .i64 ok, .string op, .string ot, .int .i64 og, .int .i64 ox, .slice eR az.length fR, .bool false] 79 (0, 0))) := by rw [hwu4]; exact (wd_set Zw4.out 17 _)
  have RFu4 := hideIt (RFw4.out.outside Ou4 (by omega) (by omega))
  have RMu4 := hideIt (RMw4.out.outside Ou4 (by omega) (by omega))
  have RRu4 := hideIt ((RowAs.wide hr (lo' := u3.heap.size) (hi' := w4.heap.size) (by omega) (Nat.le_refl _)).outside Ou4 (by omega) (Nat.le_refl _))
  have y17 : w4.cell? ⟨w.heap.size + 1 + 1, 17, none⟩ = some (.slice none 0 0) := wd_cell Zw4.out 17 rfl
  have g17 := wd_frz Zw4.out 17
  clear hr Ou4
  go_upto_region 6 with fail
  rw [← hwu4]
  clear hwu4 y17 g17 Bw4 Xw4 Yw4 Zw4 RFw4 RMw4
  have x18 : u4.cell? ⟨w.heap.size, 18, none⟩ = some (.bool ag) := wd_cell Xu4.out 18 rfl
  have y18 : u4.cell? ⟨w.heap.size + 1 + 1, 18, none⟩ = some (.bool false) := wd_cell Zu4.out 18 rfl
  have g18 := wd_frz Zu4.out 18
  obtain ⟨u5, hu5⟩ : ∃ u5, u5 = u4.setCell ⟨w.heap.size + 1 + 1, 18, none⟩ (.bool ag) := ⟨_, rfl⟩
  have Ou5 : Outside (w.heap.size + 2) (w.heap.size + 3) u4 u5 := by rw [hu5]; exact (Outside.refl _ _ _).setCell (by simp only; omega) (by simp only; omega) _
  have Yu5 := hideIt ((Ou5.block (w.heap.size + 1) (by omega) (by omega)).trans Yu4.out)
  have Zu5 : Hid (u5.heap[w.heap.size + 1 + 1]? = some (.cells #[.slice eW ws.length fW, .slice eP ps.length fP, .slice eS es.length fS, .slice eQ qs.length fQ, .slice eH hs.length fH, .slice eT td.length fT, .int .i64 cd, .int .i64 vl, .slice eN nm.length fN, .bool fr, .slice eG ts.length fG, .slice eD ds.length fD, .int .i64 ok, .string op, .string ot, .int .i64 og, .int .i64 ox, .slice eR az.length fR, .bool ag] 79 (0, 0))) := by rw [hu5]; exact wd_set Zu4.out 18 _
  have Bu5 := hideIt (Bu4.out.trans (Ou5.below (B := w.heap.size) (by omega) (by omega)))
  have RFu5 := hideIt (RFu4.out.outside Ou5 (by omega) (by omega))
  have RMu5 := hideIt (RMu4.out.outside Ou5 (by omega) (by omega))
  have RRu5 := hideIt (RRu4.out.outside Ou5 (by omega) (by omega))
  have zu5 := Ou5.size
  clear Ou5
  go_upto_region 7 with fail
  rw [← hu5]
  clear hu5 x18 y18 g18 Xu4 Yu4 Zu4 Bu4 RFu4 RMu4 RRu4
  obtain ⟨w5, hw5⟩ : ∃ w5, w5 = u5.setRow (w.heap.size + 1) #[.slice eW ws.length fW, .slice eP ps.length fP, .slice eS es.length fS, .slice eQ qs.length fQ, .slice eH hs.length fH, .slice eT td.length fT, .int .i64 cd, .int .i64 vl, .slice eN nm.length fN, .bool fr, .slice eG ts.length fG, .slice eD ds.length fD, .int .i64 ok, .string op, .string ot, .int .i64 og, .int .i64 ox, .slice eR az.length fR, .bool ag] := ⟨_, rfl⟩
  have Y5 : Hid (w5.heap[w.heap.size + 1]? = some (.cells #[.slice eW ws.length fW, .slice eP ps.length fP, .slice eS es.length fS, .slice eQ qs.length fQ, .slice eH hs.length fH, .slice eT td.length fT, .int .i64 cd, .int .i64 vl, .slice eN nm.length fN, .bool fr, .slice eG ts.length fG, .slice eD ds.length fD, .int .i64 ok, .string op, .string ot, .int .i64 og, .int .i64 ox, .slice eR az.length fR, .bool ag] 79 (0, 0))) := by rw [hw5]; exact setRow_heap u5 _ _ _ _ _ Yu5.out
  have O5 : Outside (w.heap.size + 1) (w.heap.size + 2) u5 w5 := by rw [hw5]; exact outside_setRow _ _ _
  have F5 : Hid (RdWd w5 (.agg #[.slice eW ws.length fW, .slice eP ps.length fP, .slice eS es.length fS, .slice eQ qs.length fQ, .slice eH hs.length fH, .slice eT td.length fT, .int .i64 cd, .int .i64 vl, .slice eN nm.length fN, .bool fr, .slice eG ts.length fG, .slice eD ds.length fD, .int .i64 ok, .string op, .string ot, .int .i64 og, .int .i64 ox, .slice eR az.length fR, .bool ag]) ws ps es qs hs td cd vl nm fr ts ds ok op ot og ox az ag) :=
    ⟨_, _, _, _, _, _, _, _, _, _, _, _, _, _, _, _, _, _, _, _, rfl, (RFu5.out.outside O5 (by omega) (by omega)).rd, (RMu5.out.outside O5 (by omega) (by omega)).rd, (RRu5.out.outside O5 (by omega) (by omega)).rd⟩
  have B5 := hideIt (Bu5.out.trans (O5.below (B := w.heap.size) (by omega) (by omega)))
  clear O5
  go_wp2_with (first
    | refine wpList_load_row rfl 79 (.tmp 3) rfl (w.heap.size + 1 + 1) rfl 79 _ (0, 0) _ Zu5.out Tryz.underlying79 rfl infoWd ?_
    | refine wpList_store_row rfl 79 (.tmp 2) (.tmp 23) rfl (w.heap.size + 1) _ rfl rfl 79 _ Yu5.out infoWd rfl (by simp [Value.oneCell']) ?_)
  rw [← hw5]
  clear hw5
  refine bodyPost_ret (v := .agg #[.slice eW ws.length fW, .slice eP ps.length fP, .slice eS es.length fS, .slice eQ qs.length fQ, .slice eH hs.length fH, .slice eT td.length fT, .int .i64 cd, .int .i64 vl, .slice eN nm.length fN, .bool fr, .slice eG ts.length fG, .slice eD ds.length fD, .int .i64 ok, .string op, .string ot, .int .i64 og, .int .i64 ox, .slice eR az.length fR, .bool ag]) (results_cell_row rfl _ _ _ _ _ _ _ rfl Y5.out Tryz.underlying79 rfl infoWd) rfl ?_
  exact ⟨_, rfl, F5.out, B5.out⟩
end Go.Proofs.YtmeiionabonhnaaGreatDoor
