/- Several texts laid together: FqH, JiA. -/
import Derived.Test.YtipklbnfobckaaaGreatDoorZBJ
import Derived.Test.YtipklbnfobckaaaGreatDoorZAG
import Derived.Test.YtipklbnfobckaaaGreatDoorZAL
namespace Go.Proofs.YtipklbnfobckaaaGreatDoor
open Go.RowKit

structure Fz where
  ws : List Int
  ps : List St
  es : List Int
  qs : List Se
  hs : List Int
  td : List Mi
  cd : Int
  vl : Int
  nm : List ByteArray
  fr : Bool
def zz : Fz := ⟨[], [], [], [], [], [], 0, 0, [], false⟩
/-- A file system and a code are told. -/
def FzOut (w w' : World) (e : Ending) (R : Fz × Int) : Prop := ∃ v', e = .returned (.tuple #[v', .int .i64 R.2]) ∧ RowF w' w.heap.size w'.heap.size v' R.1.ws R.1.ps R.1.es R.1.qs R.1.hs R.1.td R.1.cd R.1.vl R.1.nm R.1.fr ∧ Below w.heap.size w w'
def stpR (ws : List Int) (ps : List St) (es : List Int) (qs : List Se) (hs : List Int) (td : List Mi) (cd vl : Int) (nm : List ByteArray) (fr : Bool) : Fz × Int := if fsB ws ps es qs hs td cd vl nm fr = true then (match td with | [] => (⟨ws, ps, es, qs, hs, [], cd, vl, nm, fr⟩, 16) | m :: t => (⟨doW m ws ps, doP m ps, doE m es qs, doQ m qs, hs, t, cd, vl, nm, fr⟩, 0)) else (zz, 1)
def finR (ws : List Int) (ps : List St) (es : List Int) (qs : List Se) (hs : List Int) (td : List Mi) (cd vl : Int) (nm : List ByteArray) (fr : Bool) : Fz × Int := if fsB ws ps es qs hs td cd vl nm fr = true then (⟨(mr td ws ps es qs).W, (mr td ws ps es qs).P, (mr td ws ps es qs).E, (mr td ws ps es qs).Q, hs, [], cd, vl, nm, fr⟩, 0) else (zz, 1)
def dcyR (ws : List Int) (ps : List St) (es : List Int) (qs : List Se) (hs : List Int) (td : List Mi) (cd vl : Int) (nm : List ByteArray) (fr : Bool) : Fz × Int := if fsB ws ps es qs hs td cd vl nm fr = true then (⟨ws, ps, es, qs, decH hs 128, td, cd, vl, nm, fr⟩, 0) else (zz, 1)
structure FsYes (ws : List Int) (ps : List St) (es : List Int) (qs : List Se) (hs : List Int) (td : List Mi) (cd vl : Int) (nm : List ByteArray) (fr : Bool) : Prop where
  pm : pmB ws ps = true
  bl : blkB es qs = true
  he : heatB hs = true
  tl : td.length ≤ 200
  tm : ∀ m ∈ td, miB m = true
  pl : ps.length + td.length ≤ 400
  ql : qs.length + td.length ≤ 400
  an : fr = true ∨ (cd = 0 ∧ vl = 0 ∧ nm = [])
  re : td = [] → dvB ws ps es qs = true ∧ ps = [] ∧ qs = [] ∧ ldW ws ps 8 = 0
theorem fs_yes {ws : List Int} {ps : List St} {es : List Int} {qs : List Se} {hs : List Int} {td : List Mi} {cd vl : Int} {nm : List ByteArray} {fr : Bool} (h : fsB ws ps es qs hs td cd vl nm fr = true) : FsYes ws ps es qs hs td cd vl nm fr := by
  unfold fsB todB noA restB at h
  simp only [Bool.and_eq_true, Bool.or_eq_true, decide_eq_true_eq, List.all_eq_true] at h
  obtain ⟨⟨h1, h2⟩, h3, ⟨h4, h5, h6, h7⟩, h8, h9⟩ := h
  refine ⟨h1, h2, h3, h4, h5, h6, h7, ?_, fun e => ?_⟩
  · rcases h8 with h8 | ⟨a, b, c⟩
    · exact .inl h8
    · exact .inr ⟨a, b, List.length_eq_zero_iff.1 c⟩
  · rcases h9 with h9 | ⟨a, b, c, d⟩
    · rw [e] at h9; simp at h9
    · exact ⟨a, List.length_eq_zero_iff.1 b, List.length_eq_zero_iff.1 c, d⟩
theorem FsYes.len {ws : List Int} {ps : List St} {es : List Int} {qs : List Se} {hs : List Int} {td : List Mi} {cd vl : Int} {nm : List ByteArray} {fr : Bool} (h : FsYes ws ps es qs hs td cd vl nm fr) : ws.length = 336 ∧ es.length = 32 ∧ hs.length = 128 ∧ ps.length ≤ 400 ∧ qs.length ≤ 400 := by
  have a := pmB_len h.pm
  have b := blkB_len h.bl
  have c := (heat_parts h.he).1
  omega
/-- All steps have room. -/
theorem FsYes.run {ws : List Int} {ps : List St} {es : List Int} {qs : List Se} {hs : List Int} {td : List Mi} {cd vl : Int} {nm : List ByteArray} {fr : Bool} (h : FsYes ws ps es qs hs td cd vl nm fr) : mr td ws ps es qs = ⟨0, (mr td ws ps es qs).W, (mr td ws ps es qs).P, (mr td ws ps es qs).E, (mr td ws ps es qs).Q⟩ := by
  have := mr_all td ws ps es qs h.tm h.pl h.ql
  rw [this]
theorem FsYes.done {ws : List Int} {ps : List St} {es : List Int} {qs : List Se} {hs : List Int} {td : List Mi} {cd vl : Int} {nm : List ByteArray} {fr : Bool} (h : FsYes ws ps es qs hs td cd vl nm fr) : pmB (mr td ws ps es qs).W (mr td ws ps es qs).P = true ∧ blkB (mr td ws ps es qs).E (mr td ws ps es qs).Q = true := mr_ok td ws ps es qs h.pm h.bl h.tm
theorem FsYes.room {ws : List Int} {ps : List St} {es : List Int} {qs : List Se} {hs : List Int} {td : List Mi} {cd vl : Int} {nm : List ByteArray} {fr : Bool} (h : FsYes ws ps es qs hs td cd vl nm fr) {m : Mi} (hm : m ∈ td) : fullB m ps qs = false := by
  have p := h.pl
  have q := h.ql
  have : 0 < td.length := List.length_pos_of_mem hm
  unfold fullB
  exact decide_eq_false (by omega)
set_option maxRecDepth 100000 in
set_option maxHeartbeats 16000000 in
theorem l10Finish_gen (v : Value) (ws : List Int) (ps : List St) (es : List Int) (qs : List Se) (hs : List Int) (td : List Mi) (cd vl : Int) (nm : List ByteArray) (fr : Bool) (w : World) (h : RdF w v ws ps es qs hs td cd vl nm fr) (y : FsYes ws ps es qs hs td cd vl nm fr) :
    Calls Tryz.prog 80 #[v] w fun e w' => ∃ v', e = .returned v' ∧ RdF w' v' (mr td ws ps es qs).W (mr td ws ps es qs).P (mr td ws ps es qs).E (mr td ws ps es qs).Q hs [] cd vl nm fr ∧ Below w.heap.size w w' := by
  obtain ⟨aW, cW, aP, cP, aS, cS, aQ, cQ, aH, cH, aT, cT, aN, cN, rfl, d1, h1, t1, n1⟩ := h
  have EQ : Hid (RdE w (.slice aQ qs.length cQ) qs) := by
    obtain ⟨_, _, _, _, e, -, ⟨_, _, e2, -, d⟩⟩ := d1
    cases e
    cases e2
    exact d
  have LA : Hid (∀ w1, Below w.heap.size w w1 → Calls Tryz.prog 141 #[.agg #[.slice aW ws.length cW, .slice aP ps.length cP, .slice aS es.length cS, .slice aQ qs.length cQ], .slice aT td.length cT] w1 fun e w' => ∃ yW yP yS yQ, e = .returned (.agg #[yW, yP, yS, yQ]) ∧ RdDev w' (.agg #[yW, yP, yS, yQ]) (mr td ws ps es qs).W (mr td ws ps es qs).P (mr td ws ps es qs).E (mr td ws ps es qs).Q ∧ (yQ = .slice aQ qs.length cQ ∨ ∀ k, yQ.ownBlock = some k → w1.heap.size ≤ k) ∧ Below w1.heap.size w1 w') := fun w1 hb => l04All_far _ _ _ _ _ _ td ws ps es qs _ _ _ _ w1 (d1.below hb) rfl (Rd.below t1 hb) y.pm y.bl y.tm (by have := y.tl; omega) y.run
  have L3 : Hid (3 ≤ (mr td ws ps es qs).W.length ∧ 3 ≤ (mr td ws ps es qs).E.length) := by
    have a := pmB_len y.done.1
    have b := blkB_len y.done.2
    exact hideIt (by omega)
  have RH := hideIt h1
  have RN := hideIt n1
  generalize (mr td ws ps es qs).W = W2 at *
  generalize (mr td ws ps es qs).P = P2 at *
  generalize (mr td ws ps es qs).E = E2 at *
  generalize (mr td ws ps es qs).Q = Q2 at *
  clear d1 h1 t1 n1 y
  obtain ⟨V, hV⟩ : ∃ V, V = ((w.alloc (.cells #[.slice aW ws.length cW, .slice aP ps.length cP, .slice aS es.length cS, .slice aQ qs.length cQ, .slice aH hs.length cH, .slice aT td.length cT, .int .i64 cd, .int .i64 vl, .slice aN nm.length cN, .bool fr] 50)).alloc (.cells #[.slice none 0 0, .slice none 0 0, .slice none 0 0, .slice none 0 0, .slice none 0 0, .slice none 0 0, .int .i64 0, .int .i64 0, .slice none 0 0, .bool false] 50)) := ⟨_, rfl⟩
  have zV : w.heap.size + 2 ≤ V.heap.size := by rw [hV]; simp <;> omega
  have B_V : Hid (Below w.heap.size w V) := by rw [hV]; exact (((Below.refl _ _).alloc (by simp <;> omega) _).alloc (by simp <;> omega) _)
  have X0_V : Hid (V.heap[w.heap.size]? = some (.cells #[.slice aW ws.length cW, .slice aP ps.length cP, .slice aS es.length cS, .slice aQ qs.length cQ, .slice aH hs.length cH, .slice aT td.length cT, .int .i64 cd, .int .i64 vl, .slice aN nm.length cN, .bool fr] 50 (0, 0))) := by rw [hV]; exact (at_old (at_new rfl))
  have X1_V : Hid (V.heap[w.heap.size + 1]? = some (.cells #[.slice none 0 0, .slice none 0 0, .slice none 0 0, .slice none 0 0, .slice none 0 0, .slice none 0 0, .int .i64 0, .int .i64 0, .slice none 0 0, .bool false] 50 (0, 0))) := by rw [hV]; exact (at_new (by simp))
  go_enter Tryz.func80, Tryz.ntmps80
  go_upto_region 1 with fail
  rw [← hV]
  clear hV
  obtain ⟨c0_0, c0_1, c0_2, c0_3, -, c0_5, -, -, -, -, -⟩ := ten_cells X0_V.out
  go_wp2_with fail
  refine (LA.out V B_V.out).mono ?_
  rintro e w1 ⟨yW, yP, yS, yQ, rfl, hrf, hfar, hb⟩
  obtain ⟨iW, jW, iP, jP, iS, jS, iQ, jQ, ei, -, -⟩ := hrf.form
  cases ei
  have FQ : Hid (∀ b, w.heap.size ≤ b → b < V.heap.size → 0 < Q2.length → ¬ (Value.slice iQ Q2.length jQ).ownBlock = some b) := fun b hb1 hb2 => far_q EQ.out (by obtain ⟨_, _, _, _, e, -, ⟨_, _, e2, -, d⟩⟩ := hrf; cases e; cases e2; exact d) hfar b hb1 hb2
  clear LA EQ hfar
  clear c0_0 c0_1 c0_2 c0_3 c0_5
  have zw1 : V.heap.size ≤ w1.heap.size := hb.size
  have B_w1 := hideIt (below_trans B_V.out hb B_V.out.size)
  have X0_w1 := hideIt (box_below X0_V.out hb (lt_box X0_V.out))
  have X1_w1 := hideIt (box_below X1_V.out hb (lt_box X1_V.out))
  clear B_V hb X0_V X1_V
  have RD_w1 := hideIt (hrf)
  clear hrf
  obtain ⟨w2, hw2⟩ : ∃ w2, w2 = ((((w1.setCell ⟨w.heap.size, 0, none⟩ (.slice iW W2.length jW)).setCell ⟨w.heap.size, 1, none⟩ (.slice iP P2.length jP)).setCell ⟨w.heap.size, 2, none⟩ (.slice iS E2.length jS)).setCell ⟨w.heap.size, 3, none⟩ (.slice iQ Q2.length jQ)) := ⟨_, rfl⟩
  have Ow2 : Outside (w.heap.size) (w.heap.size + 1) w1 w2 := by
    rw [hw2]
    repeat (refine Outside.setCell ?_ (by simp only; omega) (by simp only; omega) _)
    exact Outside.refl _ _ _
  have zw2 : w1.heap.size ≤ w2.heap.size ∧ w2.heap.size ≤ w1.heap.size := by rw [hw2]; simp [World.setCell]
  have B_w2 := hideIt (B_w1.out.trans (Ow2.below (B := w.heap.size) (by omega) B_w1.out.size))
  have X1_w2 := hideIt ((Ow2.block (w.heap.size + 1) (lt_box X1_w1.out) (by omega)).trans X1_w1.out)
  have X0_w2 : Hid (w2.heap[w.heap.size]? = some (.cells #[.slice iW W2.length jW, .slice iP P2.length jP, .slice iS E2.length jS, .slice iQ Q2.length jQ, .slice aH hs.length cH, .slice aT td.length cT, .int .i64 cd, .int .i64 vl, .slice aN nm.length cN, .bool fr] 50 (0, 0))) := by rw [hw2]; exact (ten_set3 (ten_set2 (ten_set1 (ten_set0 X0_w1.out _) _) _) _)
  have RD_w2 := hideIt (dev_ten RD_w1.out L3.out.1 L3.out.2 (FQ.out (w.heap.size) (by omega) (by omega)) Ow2 X0_w1.out)
  clear Ow2
  obtain ⟨d0, d1, d2, d3, d4, d5, d6, d7, d8, d9, g0, g1, g2, g3, g4, g5, g6, g7, g8, g9⟩ := ten_cells X0_w1.out
  go_upto_region 2 with fail
  rw [← hw2]
  clear hw2
  clear d0 d1 d2 d3 d4 d5 d6 d7 d8 d9 g0 g1 g2 g3 g4 g5 g6 g7 g8 g9 B_w1 X0_w1 X1_w1 RD_w1
  obtain ⟨w3, hw3⟩ : ∃ w3, w3 = w2.alloc (.cells #[] 79) := ⟨_, rfl⟩
  have hb : Below w2.heap.size w2 w3 := by rw [hw3]; exact (Below.refl _ _).alloc (Nat.le_refl _) _
  obtain ⟨bE, hbE⟩ : ∃ bE : Nat, bE = w2.heap.size := ⟨_, rfl⟩
  have zw3 : w2.heap.size ≤ w3.heap.size := hb.size
  have B_w3 := hideIt (below_trans B_w2.out hb B_w2.out.size)
  have X0_w3 := hideIt (box_below X0_w2.out hb (lt_box X0_w2.out))
  have X1_w3 := hideIt (box_below X1_w2.out hb (lt_box X1_w2.out))
  have RD_w3 := hideIt (RD_w2.out.below hb)
  clear B_w2 hb X0_w2 X1_w2 RD_w2
  obtain ⟨w4, hw4⟩ : ∃ w4, w4 = (w3.setCell ⟨w.heap.size, 5, none⟩ (.slice (some ⟨bE, 0, none⟩) 0 0)) := ⟨_, rfl⟩
  have Ow4 : Outside (w.heap.size) (w.heap.size + 1) w3 w4 := by
    rw [hw4]
    repeat (refine Outside.setCell ?_ (by simp only; omega) (by simp only; omega) _)
    exact Outside.refl _ _ _
  have zw4 : w3.heap.size ≤ w4.heap.size ∧ w4.heap.size ≤ w3.heap.size := by rw [hw4]; simp [World.setCell]
  have B_w4 := hideIt (B_w3.out.trans (Ow4.below (B := w.heap.size) (by omega) B_w3.out.size))
  have X1_w4 := hideIt ((Ow4.block (w.heap.size + 1) (lt_box X1_w3.out) (by omega)).trans X1_w3.out)
  have X0_w4 : Hid (w4.heap[w.heap.size]? = some (.cells #[.slice iW W2.length jW, .slice iP P2.length jP, .slice iS E2.length jS, .slice iQ Q2.length jQ, .slice aH hs.length cH, .slice (some ⟨bE, 0, none⟩) 0 0, .int .i64 cd, .int .i64 vl, .slice aN nm.length cN, .bool fr] 50 (0, 0))) := by rw [hw4]; exact (ten_set5 X0_w3.out _)
  have RD_w4 := hideIt (dev_ten RD_w3.out L3.out.1 L3.out.2 (FQ.out (w.heap.size) (by omega) (by omega)) Ow4 X0_w3.out)
  clear Ow4
  rw [hw3, hbE] at hw4
  obtain ⟨d0, d1, d2, d3, d4, d5, d6, d7, d8, d9, g0, g1, g2, g3, g4, g5, g6, g7, g8, g9⟩ := ten_cells X0_w3.out
  have d5' := d5
  rw [hw3] at d0 d1 d2 d3 d4 d5 d6 d7 d8 d9 g0 g1 g2 g3 g4 g5 g6 g7 g8 g9
  go_upto_region 3 with fail
  rw [← hw4]
  clear hw4 hw3 hbE d5'
  clear d0 d1 d2 d3 d4 d5 d6 d7 d8 d9 g0 g1 g2 g3 g4 g5 g6 g7 g8 g9 B_w3 X0_w3 X1_w3 RD_w3
  obtain ⟨c0_0, c0_1, c0_2, c0_3, c0_4, c0_5, c0_6, c0_7, c0_8, c0_9, -⟩ := ten_cells X0_w4.out
  obtain ⟨w5, hw5⟩ : ∃ w5, w5 = ((((((((((w4.setCell ⟨w.heap.size + 1, 0, none⟩ (.slice iW W2.length jW)).setCell ⟨w.heap.size + 1, 1, none⟩ (.slice iP P2.length jP)).setCell ⟨w.heap.size + 1, 2, none⟩ (.slice iS E2.length jS)).setCell ⟨w.heap.size + 1, 3, none⟩ (.slice iQ Q2.length jQ)).setCell ⟨w.heap.size + 1, 4, none⟩ (.slice aH hs.length cH)).setCell ⟨w.heap.size + 1, 5, none⟩ (.slice (some ⟨bE, 0, none⟩) 0 0)).setCell ⟨w.heap.size + 1, 6, none⟩ (.int .i64 cd)).setCell ⟨w.heap.size + 1, 7, none⟩ (.int .i64 vl)).setCell ⟨w.heap.size + 1, 8, none⟩ (.slice aN nm.length cN)).setCell ⟨w.heap.size + 1, 9, none⟩ (.bool fr)) := ⟨_, rfl⟩
  have Ow5 : Outside (w.heap.size + 1) (w.heap.size + 1 + 1) w4 w5 := by
    rw [hw5]
    repeat (refine Outside.setCell ?_ (by simp only; omega) (by simp only; omega) _)
    exact Outside.refl _ _ _
  have zw5 : w4.heap.size ≤ w5.heap.size ∧ w5.heap.size ≤ w4.heap.size := by rw [hw5]; simp [World.setCell]
  have B_w5 := hideIt (B_w4.out.trans (Ow5.below (B := w.heap.size) (by omega) B_w4.out.size))
  have X0_w5 := hideIt ((Ow5.block (w.heap.size) (lt_box X0_w4.out) (by omega)).trans X0_w4.out)
  have X1_w5 : Hid (w5.heap[w.heap.size + 1]? = some (.cells #[.slice iW W2.length jW, .slice iP P2.length jP, .slice iS E2.length jS, .slice iQ Q2.length jQ, .slice aH hs.length cH, .slice (some ⟨bE, 0, none⟩) 0 0, .int .i64 cd, .int .i64 vl, .slice aN nm.length cN, .bool fr] 50 (0, 0))) := by rw [hw5]; exact (ten_set9 (ten_set8 (ten_set7 (ten_set6 (ten_set5 (ten_set4 (ten_set3 (ten_set2 (ten_set1 (ten_set0 X1_w4.out _) _) _) _) _) _) _) _) _) _)
  have RD_w5 := hideIt (dev_ten RD_w4.out L3.out.1 L3.out.2 (FQ.out (w.heap.size + 1) (by omega) (by omega)) Ow5 X1_w4.out)
  clear Ow5
  obtain ⟨d0, d1, d2, d3, d4, d5, d6, d7, d8, d9, g0, g1, g2, g3, g4, g5, g6, g7, g8, g9⟩ := ten_cells X1_w4.out
  go_wp2
  refine bodyPost_ret (v := .agg #[.slice iW W2.length jW, .slice iP P2.length jP, .slice iS E2.length jS, .slice iQ Q2.length jQ, .slice aH hs.length cH, .slice (some ⟨bE, 0, none⟩) 0 0, .int .i64 cd, .int .i64 vl, .slice aN nm.length cN, .bool fr]) (by simp [results, Tryz.results80, go_sem, d0, d1, d2, d3, d4, d5, d6, d7, d8, d9]) rfl ?_
  rw [← hw5]
  exact ⟨_, rfl, ⟨_, _, _, _, _, _, _, _, _, _, _, _, _, _, rfl, RD_w5.out, Rd.below RH.out B_w5.out, ⟨rfl, _, _, rfl, ⟨Nat.le_refl _, fun e => by cases e⟩, fun h => absurd h (Nat.lt_irrefl 0)⟩, Rd.below RN.out B_w5.out⟩, B_w5.out⟩
end Go.Proofs.YtipklbnfobckaaaGreatDoor

namespace Go.Proofs.YtipklbnfobckaaaGreatDoor
open Go.RowKit

/-- The table of bounds lies as the program's start has laid it. -/
def SB (w : World) : Prop := ∃ t fr, w.heap[0]? = some (.cells #[.int .i64 0, .int .i64 0, .int .i64 336, .int .i64 1099511627776, .int .i64 336, .int .i64 1, .int .i64 1, .int .i64 1, .int .i64 32, .int .i64 1099511627776, .int .i64 1, .int .i64 1] t fr)
theorem SB.lt {w : World} (h : SB w) : 0 < w.heap.size := by
  obtain ⟨t, fr, h⟩ := h
  exact (Array.getElem?_eq_some_iff.1 h).1
theorem SB.below {w w' : World} (h : SB w) (hb : Below w.heap.size w w') : SB w' := by
  have hl := h.lt
  obtain ⟨t, fr, h⟩ := h
  exact ⟨t, fr, (hb.block _ hl).trans h⟩
theorem SB.cells {w : World} (h : SB w) : w.cell? ⟨0, 0, none⟩ = some (.int .i64 0) ∧ w.cell? ⟨0, 1, none⟩ = some (.int .i64 0) ∧ w.cell? ⟨0, 2, none⟩ = some (.int .i64 336) ∧ w.cell? ⟨0, 3, none⟩ = some (.int .i64 1099511627776) ∧ w.cell? ⟨0, 4, none⟩ = some (.int .i64 336) ∧ w.cell? ⟨0, 5, none⟩ = some (.int .i64 1) ∧ w.cell? ⟨0, 6, none⟩ = some (.int .i64 1) ∧ w.cell? ⟨0, 7, none⟩ = some (.int .i64 1) ∧ w.cell? ⟨0, 8, none⟩ = some (.int .i64 32) ∧ w.cell? ⟨0, 9, none⟩ = some (.int .i64 1099511627776) ∧ w.cell? ⟨0, 10, none⟩ = some (.int .i64 1) ∧ w.cell? ⟨0, 11, none⟩ = some (.int .i64 1) := by
  obtain ⟨t, fr, h⟩ := h
  simp [World.cell?, h]
theorem miB_in {k a x : Int} (h : (k = 1 ∧ (0 ≤ a ∧ a < 336) ∧ 0 ≤ x ∧ x < 1099511627776) ∨ (k = 2 ∧ (0 ≤ a ∧ a < 336) ∧ x = 0) ∨ (k = 4 ∧ (0 ≤ a ∧ a < 32) ∧ 0 ≤ x ∧ x < 1099511627776) ∨ ((k = 3 ∨ k = 5) ∧ a = 0 ∧ x = 0)) : miB ⟨k, a, x⟩ = true := (miB_of k a x).2 h
theorem miB_out {k a x : Int} (h : ¬ ((k = 1 ∧ (0 ≤ a ∧ a < 336) ∧ 0 ≤ x ∧ x < 1099511627776) ∨ (k = 2 ∧ (0 ≤ a ∧ a < 336) ∧ x = 0) ∨ (k = 4 ∧ (0 ≤ a ∧ a < 32) ∧ 0 ≤ x ∧ x < 1099511627776) ∨ ((k = 3 ∨ k = 5) ∧ a = 0 ∧ x = 0))) : miB ⟨k, a, x⟩ = false := by
  cases e : miB ⟨k, a, x⟩ with
  | false => rfl
  | true => exact absurd ((miB_of k a x).1 e) h

set_option maxRecDepth 100000 in
set_option maxHeartbeats 8000000 in
theorem isStep_of (k a x : Int) (w : World) (hS : SB w) : Calls Tryz.prog 108 #[.agg #[.int .i64 k, .int .i64 a, .int .i64 x]] w fun e w' => e = .returned (.bool (miB ⟨k, a, x⟩)) ∧ Below w.heap.size w w' := by
  have hb0 : Below w.heap.size w (w.alloc (.cells #[.int .i64 k, .int .i64 a, .int .i64 x] 79)) := (Below.refl _ _).alloc (Nat.le_refl _) _
  obtain ⟨c0, c1, c2, c3, c4, c5, c6, c7, c8, c9, c10, c11⟩ := (hS.below hb0).cells
  clear hS
  by_cases hk : 0 ≤ k ∧ k < 6
  case neg =>
    have E := hideIt (miB_out (k := k) (a := a) (x := x) (by omega))
    have HK := hideIt hk
    clear hk c0 c1 c2 c3 c4 c5 c6 c7 c8 c9 c10 c11
    go_enter Tryz.func108, Tryz.ntmps108
    go_wp2_with (go_at_call 161; refine (isIndex_no _ _ _ HK.out).mono ?_; rintro e w' ⟨rfl, rfl⟩)
    go_ret
    exact ⟨ret_bool E.out.symm, hb0⟩
  rcases (show k = 0 ∨ k = 1 ∨ k = 2 ∨ k = 3 ∨ k = 4 ∨ k = 5 by omega) with rfl | rfl | rfl | rfl | rfl | rfl
  · have hb1 : Below w.heap.size w ((w.alloc (.cells #[.int .i64 0, .int .i64 a, .int .i64 x] 79)).alloc (.cells #[.int .i64 0, .int .i64 0] 184)) := hb0.alloc (by simp) _
    clear c2 c3 c4 c5 c6 c7 c8 c9 c10 c11
    have E := hideIt (miB_out (k := 0) (a := a) (x := x) (by omega))
    have HA : Hid (¬ (0 ≤ a ∧ a < 0)) := fun h => by omega
    go_enter Tryz.func108, Tryz.ntmps108
    go_wp2_with (first | (go_at_call 161; refine (isIndex_yes _ _ _ (by omega)).mono ?_; rintro e w' ⟨rfl, rfl⟩) | (go_at_call 161; refine (isIndex_no _ _ _ HA.out).mono ?_; rintro e w' ⟨rfl, rfl⟩))
    go_ret
    exact ⟨ret_bool E.out.symm, hb1⟩
  · have hb1 : Below w.heap.size w ((w.alloc (.cells #[.int .i64 1, .int .i64 a, .int .i64 x] 79)).alloc (.cells #[.int .i64 336, .int .i64 1099511627776] 184)) := hb0.alloc (by simp) _
    clear c0 c1 c4 c5 c6 c7 c8 c9 c10 c11
    by_cases ha : 0 ≤ a ∧ a < 336
    · by_cases hx : 0 ≤ x ∧ x < 1099511627776
      · have E := hideIt (miB_in (k := 1) (a := a) (x := x) (by omega))
        go_enter Tryz.func108, Tryz.ntmps108
        go_wp2_with (go_at_call 161; refine (isIndex_yes _ _ _ (by omega)).mono ?_; rintro e w' ⟨rfl, rfl⟩)
        go_ret
        exact ⟨ret_bool E.out.symm, hb1⟩
      · have E := hideIt (miB_out (k := 1) (a := a) (x := x) (by omega))
        have HX := hideIt hx
        clear hx
        go_enter Tryz.func108, Tryz.ntmps108
        go_wp2_with (first | (go_at_call 161; refine (isIndex_yes _ _ _ (by omega)).mono ?_; rintro e w' ⟨rfl, rfl⟩) | (go_at_call 161; refine (isIndex_no _ _ _ HX.out).mono ?_; rintro e w' ⟨rfl, rfl⟩))
        go_ret
        exact ⟨ret_bool E.out.symm, hb1⟩
    · have E := hideIt (miB_out (k := 1) (a := a) (x := x) (by omega))
      have HA := hideIt ha
      clear ha
      go_enter Tryz.func108, Tryz.ntmps108
      go_wp2_with (first | (go_at_call 161; refine (isIndex_yes _ _ _ (by omega)).mono ?_; rintro e w' ⟨rfl, rfl⟩) | (go_at_call 161; refine (isIndex_no _ _ _ HA.out).mono ?_; rintro e w' ⟨rfl, rfl⟩))
      go_ret
      exact ⟨ret_bool E.out.symm, hb1⟩
  · have hb1 : Below w.heap.size w ((w.alloc (.cells #[.int .i64 2, .int .i64 a, .int .i64 x] 79)).alloc (.cells #[.int .i64 336, .int .i64 1] 184)) := hb0.alloc (by simp) _
    clear c0 c1 c2 c3 c6 c7 c8 c9 c10 c11
    by_cases ha : 0 ≤ a ∧ a < 336
    · by_cases hx : 0 ≤ x ∧ x < 1
      · have E := hideIt (miB_in (k := 2) (a := a) (x := x) (by omega))
        go_enter Tryz.func108, Tryz.ntmps108
        go_wp2_with (go_at_call 161; refine (isIndex_yes _ _ _ (by omega)).mono ?_; rintro e w' ⟨rfl, rfl⟩)
        go_ret
        exact ⟨ret_bool E.out.symm, hb1⟩
      · have E := hideIt (miB_out (k := 2) (a := a) (x := x) (by omega))
        have HX := hideIt hx
        clear hx
        go_enter Tryz.func108, Tryz.ntmps108
        go_wp2_with (first | (go_at_call 161; refine (isIndex_yes _ _ _ (by omega)).mono ?_; rintro e w' ⟨rfl, rfl⟩) | (go_at_call 161; refine (isIndex_no _ _ _ HX.out).mono ?_; rintro e w' ⟨rfl, rfl⟩))
        go_ret
        exact ⟨ret_bool E.out.symm, hb1⟩
    · have E := hideIt (miB_out (k := 2) (a := a) (x := x) (by omega))
      have HA := hideIt ha
      clear ha
      go_enter Tryz.func108, Tryz.ntmps108
      go_wp2_with (first | (go_at_call 161; refine (isIndex_yes _ _ _ (by omega)).mono ?_; rintro e w' ⟨rfl, rfl⟩) | (go_at_call 161; refine (isIndex_no _ _ _ HA.out).mono ?_; rintro e w' ⟨rfl, rfl⟩))
      go_ret
      exact ⟨ret_bool E.out.symm, hb1⟩
  · have hb1 : Below w.heap.size w ((w.alloc (.cells #[.int .i64 3, .int .i64 a, .int .i64 x] 79)).alloc (.cells #[.int .i64 1, .int .i64 1] 184)) := hb0.alloc (by simp) _
    clear c0 c1 c2 c3 c4 c5 c8 c9 c10 c11
    by_cases ha : 0 ≤ a ∧ a < 1
    · by_cases hx : 0 ≤ x ∧ x < 1
      · have E := hideIt (miB_in (k := 3) (a := a) (x := x) (by omega))
        go_enter Tryz.func108, Tryz.ntmps108
        go_wp2_with (go_at_call 161; refine (isIndex_yes _ _ _ (by omega)).mono ?_; rintro e w' ⟨rfl, rfl⟩)
        go_ret
        exact ⟨ret_bool E.out.symm, hb1⟩
      · have E := hideIt (miB_out (k := 3) (a := a) (x := x) (by omega))
        have HX := hideIt hx
        clear hx
        go_enter Tryz.func108, Tryz.ntmps108
        go_wp2_with (first | (go_at_call 161; refine (isIndex_yes _ _ _ (by omega)).mono ?_; rintro e w' ⟨rfl, rfl⟩) | (go_at_call 161; refine (isIndex_no _ _ _ HX.out).mono ?_; rintro e w' ⟨rfl, rfl⟩))
        go_ret
        exact ⟨ret_bool E.out.symm, hb1⟩
    · have E := hideIt (miB_out (k := 3) (a := a) (x := x) (by omega))
      have HA := hideIt ha
      clear ha
      go_enter Tryz.func108, Tryz.ntmps108
      go_wp2_with (first | (go_at_call 161; refine (isIndex_yes _ _ _ (by omega)).mono ?_; rintro e w' ⟨rfl, rfl⟩) | (go_at_call 161; refine (isIndex_no _ _ _ HA.out).mono ?_; rintro e w' ⟨rfl, rfl⟩))
      go_ret
      exact ⟨ret_bool E.out.symm, hb1⟩
  · have hb1 : Below w.heap.size w ((w.alloc (.cells #[.int .i64 4, .int .i64 a, .int .i64 x] 79)).alloc (.cells #[.int .i64 32, .int .i64 1099511627776] 184)) := hb0.alloc (by simp) _
    clear c0 c1 c2 c3 c4 c5 c6 c7 c10 c11
    by_cases ha : 0 ≤ a ∧ a < 32
    · by_cases hx : 0 ≤ x ∧ x < 1099511627776
      · have E := hideIt (miB_in (k := 4) (a := a) (x := x) (by omega))
        go_enter Tryz.func108, Tryz.ntmps108
        go_wp2_with (go_at_call 161; refine (isIndex_yes _ _ _ (by omega)).mono ?_; rintro e w' ⟨rfl, rfl⟩)
        go_ret
        exact ⟨ret_bool E.out.symm, hb1⟩
      · have E := hideIt (miB_out (k := 4) (a := a) (x := x) (by omega))
        have HX := hideIt hx
        clear hx
        go_enter Tryz.func108, Tryz.ntmps108
        go_wp2_with (first | (go_at_call 161; refine (isIndex_yes _ _ _ (by omega)).mono ?_; rintro e w' ⟨rfl, rfl⟩) | (go_at_call 161; refine (isIndex_no _ _ _ HX.out).mono ?_; rintro e w' ⟨rfl, rfl⟩))
        go_ret
        exact ⟨ret_bool E.out.symm, hb1⟩
    · have E := hideIt (miB_out (k := 4) (a := a) (x := x) (by omega))
      have HA := hideIt ha
      clear ha
      go_enter Tryz.func108, Tryz.ntmps108
      go_wp2_with (first | (go_at_call 161; refine (isIndex_yes _ _ _ (by omega)).mono ?_; rintro e w' ⟨rfl, rfl⟩) | (go_at_call 161; refine (isIndex_no _ _ _ HA.out).mono ?_; rintro e w' ⟨rfl, rfl⟩))
      go_ret
      exact ⟨ret_bool E.out.symm, hb1⟩
  · have hb1 : Below w.heap.size w ((w.alloc (.cells #[.int .i64 5, .int .i64 a, .int .i64 x] 79)).alloc (.cells #[.int .i64 1, .int .i64 1] 184)) := hb0.alloc (by simp) _
    clear c0 c1 c2 c3 c4 c5 c6 c7 c8 c9
    by_cases ha : 0 ≤ a ∧ a < 1
    · by_cases hx : 0 ≤ x ∧ x < 1
      · have E := hideIt (miB_in (k := 5) (a := a) (x := x) (by omega))
        go_enter Tryz.func108, Tryz.ntmps108
        go_wp2_with (go_at_call 161; refine (isIndex_yes _ _ _ (by omega)).mono ?_; rintro e w' ⟨rfl, rfl⟩)
        go_ret
        exact ⟨ret_bool E.out.symm, hb1⟩
      · have E := hideIt (miB_out (k := 5) (a := a) (x := x) (by omega))
        have HX := hideIt hx
        clear hx
        go_enter Tryz.func108, Tryz.ntmps108
        go_wp2_with (first | (go_at_call 161; refine (isIndex_yes _ _ _ (by omega)).mono ?_; rintro e w' ⟨rfl, rfl⟩) | (go_at_call 161; refine (isIndex_no _ _ _ HX.out).mono ?_; rintro e w' ⟨rfl, rfl⟩))
        go_ret
        exact ⟨ret_bool E.out.symm, hb1⟩
    · have E := hideIt (miB_out (k := 5) (a := a) (x := x) (by omega))
      have HA := hideIt ha
      clear ha
      go_enter Tryz.func108, Tryz.ntmps108
      go_wp2_with (first | (go_at_call 161; refine (isIndex_yes _ _ _ (by omega)).mono ?_; rintro e w' ⟨rfl, rfl⟩) | (go_at_call 161; refine (isIndex_no _ _ _ HA.out).mono ?_; rintro e w' ⟨rfl, rfl⟩))
      go_ret
      exact ⟨ret_bool E.out.symm, hb1⟩
/-- All steps are right. -/
def misB (ps : List Mi) : Bool := decide (∀ k (h : k < ps.length), miB ps[k] = true)
theorem misB_true {ps : List Mi} (h : misB ps = true) : ∀ k (h : k < ps.length), miB ps[k] = true := of_decide_eq_true h
theorem misB_mk {ps : List Mi} (h : ∀ k (h : k < ps.length), miB ps[k] = true) : misB ps = true := decide_eq_true h
theorem misB_not {ps : List Mi} {k : Nat} (hk : k < ps.length) (h : miB ps[k] = false) : misB ps = false := decide_eq_false (fun x => by have := x k hk; rw [h] at this; cases this)
set_option maxHeartbeats 4000000 in
theorem everyStep_any (v : Value) (ps : List Mi) (w : World) (hS : SB w) (h : RdM w v ps) (hn : ps.length ≤ 1048576) :
    Calls Tryz.prog 107 #[v, .func (.func 108) #[] #[]] w fun e w' => e = .returned (.bool (misB ps)) ∧ Below w.heap.size w w' := by
  obtain ⟨aP, cP, rfl, _, hcP⟩ := h.shape
  have HS := hideIt hS
  clear h hS
  go_enter Tryz.func107, Tryz.ntmps107
  go_wp2
  go_loopw [6, 9] (fun _ i wr => ∃ k : Nat, k ≤ ps.length ∧ i = .int .i64 k ∧ Hid (∀ j (h : j < ps.length), j < k → miB ps[j] = true) ∧ Below w.heap.size w wr) (fun _ i _ => ps.length - (intOf i).toNat)
  case atStart => exact ⟨0, by omega, rfl, fun j h a => absurd a (by omega), Below.refl _ _⟩
  case round =>
    obtain ⟨m, hm, rfl, H, hbw⟩ := hrel
    have hz := hbw.size
    by_cases hlt2 : m < ps.length
    · obtain ⟨b2, o2, rfl, hbl2, hcell2⟩ := hcP (by omega)
      obtain ⟨d0, d1, d2⟩ := hcell2 m hlt2
      have e0 := (hbw.cell (p := ⟨b2, o2 + m * 3, none⟩) hbl2).trans d0
      have e1 := (hbw.cell (p := ⟨b2, o2 + m * 3 + 1, none⟩) hbl2).trans d1
      have e2 := (hbw.cell (p := ⟨b2, o2 + m * 3 + 2, none⟩) hbl2).trans d2
      have hb1 := hideIt (hbw.alloc hz (.cells #[.int .i64 ps[m].kind, .int .i64 ps[m].at_, .int .i64 ps[m].val] 79))
      clear d0 d1 d2 hcell2 hcP
      by_cases q : miB ps[m] = true
      · have Q := hideIt q
        clear q
        go_wp2_with (go_at_call 108; refine (isStep_of ps[m].kind ps[m].at_ ps[m].val _ (HS.out.below hb1.out)).mono ?_; rw [Q.out]; rintro e w' ⟨rfl, hw'⟩)
        have hw2 := hb1.out.trans (hw'.mono (by simp; omega))
        clear hb1 hw'
        go_roundw
        case rel =>
          refine ⟨m + 1, by omega, by go_num, fun j h a => ?_, hw2⟩
          by_cases e : j = m
          · subst e; exact Q.out
          · exact H.out j h (by omega)
        case measure => simp [intOf]; omega
      · have Q := hideIt (show miB ps[m] = false by simpa using q)
        have E := hideIt (misB_not hlt2 Q.out)
        clear q
        go_wp2_with (go_at_call 108; refine (isStep_of ps[m].kind ps[m].at_ ps[m].val _ (HS.out.below hb1.out)).mono ?_; rw [Q.out]; rintro e w' ⟨rfl, hw'⟩)
        have hw2 := hb1.out.trans (hw'.mono (by simp; omega))
        go_ret
        exact ⟨ret_bool E.out.symm, hw2⟩
    · have E := hideIt (misB_mk (fun j h => H.out j h (by omega)))
      go_wp2
      go_ret
      exact ⟨ret_bool E.out.symm, hbw⟩
end Go.Proofs.YtipklbnfobckaaaGreatDoor
