/- Several texts laid together: FqN. -/
import Derived.Test.YtipklbnfobckaaaGreatDoorZBO
import Derived.Test.YtipklbnfobckaaaGreatDoorZBS
import Derived.Test.YtipklbnfobckaaaGreatDoorZBX
import Derived.WalkKit
import Derived.WalkSpells
import Derived.WalkSmall
import Derived.Deep.OwnRows
import Derived.Deep.QuietTactic
import Derived.BigQuiet
import Derived.Deep.RegionWith
import Derived.Deep.RegionLaw
import Derived.Deep.DeepCutAuto
import Derived.Laws.IdiomStrings
import Derived.Laws.BytesArg
import Derived.Deep.RegionHeld3
import Derived.Laws.OwnMore
import Derived.Laws.CopyRow
import Derived.Laws.CopyOwn
import Derived.Lib.Strings
import Derived.BigRegion
import Derived.Laws.Cover3
import Derived.ProofKit
import Derived.OpenShut
import Derived.ShutString
import Derived.ChangeOld
import Derived.Lib.SmallJoins
import Derived.Deep.Slices
import Derived.Deep.Strs
import Derived.Maps.Views
import Derived.Deep.LoopGhost
import Derived.Lib.SplitLaws
import Derived.Lib.IndexBytes
import Derived.Sort.Walk0
import Derived.Laws.Cover1
import Derived.KernelRfl
import Derived.Deep.MidRow
import Derived.Deep.WholeRow
import Derived.Lib.LaidTab
import Derived.ChangeSame
import Derived.Deep.DeepHandedRow
namespace Go.Proofs.YtipklbnfobckaaaGreatDoor
open Go.RowKit

/-- A file system, an answer and a code are told. -/
structure Az where
  f : Fz
  cd : Int
  vl : Int
  nm : List ByteArray
  c : Int
def AzOut (w w' : World) (e : Ending) (R : Az) : Prop := ∃ v' vN, e = .returned (.tuple #[v', .agg #[.int .i64 R.cd, .int .i64 R.vl, vN], .int .i64 R.c]) ∧ RowF w' w.heap.size w'.heap.size v' R.f.ws R.f.ps R.f.es R.f.qs R.f.hs R.f.td R.f.cd R.f.vl R.f.nm R.f.fr ∧ (∃ lo hi, Row w' 9 1 lo hi vN R.nm.length (strs R.nm) ∧ w.heap.size ≤ lo ∧ hi ≤ w'.heap.size) ∧ Below w.heap.size w w'
def takI (ws : List Int) (ps : List St) (es : List Int) (qs : List Se) (hs : List Int) (td : List Mi) (cd vl : Int) (nm : List ByteArray) (fr : Bool) : Az := if 0 < td.length then ⟨⟨ws, ps, es, qs, hs, td, cd, vl, nm, fr⟩, 0, 0, [], 15⟩ else if fr = true then ⟨⟨ws, ps, es, qs, hs, td, 0, 0, [], false⟩, cd, vl, nm, 0⟩ else ⟨⟨ws, ps, es, qs, hs, td, cd, vl, nm, fr⟩, 0, 0, [], 5⟩
structure SmA (R : Az) : Prop where
  a : R.f.ws.length ≤ 1048576
  b : R.f.ps.length ≤ 1048576
  c : R.f.es.length ≤ 1048576
  d : R.f.qs.length ≤ 1048576
  e : R.f.hs.length ≤ 1048576
  t : R.f.td.length ≤ 1048576
  n : R.f.nm.length ≤ 1048576
  x : R.nm.length ≤ 1048576
theorem tak_sm (ws : List Int) (ps : List St) (es : List Int) (qs : List Se) (hs : List Int) (td : List Mi) (cd vl : Int) (nm : List ByteArray) (fr : Bool) (hws : ws.length ≤ 1048576) (hps : ps.length ≤ 1048576) (hes : es.length ≤ 1048576) (hqs : qs.length ≤ 1048576) (hhs : hs.length ≤ 1048576) (htd : td.length ≤ 1048576) (hnm : nm.length ≤ 1048576) : SmA (takI ws ps es qs hs td cd vl nm fr) := by
  unfold takI
  split
  · exact ⟨hws, hps, hes, hqs, hhs, htd, hnm, by simp⟩
  · split
    · exact ⟨hws, hps, hes, hqs, hhs, htd, by simp, hnm⟩
    · exact ⟨hws, hps, hes, hqs, hhs, htd, hnm, by simp⟩
def takR (ws : List Int) (ps : List St) (es : List Int) (qs : List Se) (hs : List Int) (td : List Mi) (cd vl : Int) (nm : List ByteArray) (fr : Bool) : Az := if fsB ws ps es qs hs td cd vl nm fr = true then takI ws ps es qs hs td cd vl nm fr else ⟨zz, 0, 0, [], 1⟩
theorem fs_names {w : World} {aW aP aS aQ aH aT aN : Option Addr} {cW cP cS cQ cH cT cN : Nat} {ws : List Int} {ps : List St} {es : List Int} {qs : List Se} {hs : List Int} {td : List Mi} {cd vl : Int} {nm : List ByteArray} {fr : Bool} (h : RdF w (.agg #[.slice aW ws.length cW, .slice aP ps.length cP, .slice aS es.length cS, .slice aQ qs.length cQ, .slice aH hs.length cH, .slice aT td.length cT, .int .i64 cd, .int .i64 vl, .slice aN nm.length cN, .bool fr]) ws ps es qs hs td cd vl nm fr) : RdT w (.slice aN nm.length cN) nm := by
  obtain ⟨bW, dW, bP, dP, bS, dS, bQ, dQ, bH, dH, bT, dT, bN, dN, e, -, -, -, r⟩ := h
  cases e
  exact r
theorem fs_named {w : World} {aW aP aS aQ aH aT aN : Option Addr} {cW cP cS cQ cH cT cN : Nat} {ws : List Int} {ps : List St} {es : List Int} {qs : List Se} {hs : List Int} {td : List Mi} {cd vl : Int} {nm : List ByteArray} {fr : Bool} {nm2 : List ByteArray} {a2 : Option Addr} {c2 : Nat} {cd2 vl2 : Int} {fr2 : Bool} (h : RdF w (.agg #[.slice aW ws.length cW, .slice aP ps.length cP, .slice aS es.length cS, .slice aQ qs.length cQ, .slice aH hs.length cH, .slice aT td.length cT, .int .i64 cd, .int .i64 vl, .slice aN nm.length cN, .bool fr]) ws ps es qs hs td cd vl nm fr) (r : RdT w (.slice a2 nm2.length c2) nm2) : RdF w (.agg #[.slice aW ws.length cW, .slice aP ps.length cP, .slice aS es.length cS, .slice aQ qs.length cQ, .slice aH hs.length cH, .slice aT td.length cT, .int .i64 cd2, .int .i64 vl2, .slice a2 nm2.length c2, .bool fr2]) ws ps es qs hs td cd2 vl2 nm2 fr2 := by
  obtain ⟨bW, dW, bP, dP, bS, dS, bQ, dQ, bH, dH, bT, dT, bN, dN, e, d, i, t, -⟩ := h
  cases e
  exact ⟨_, _, _, _, _, _, _, _, _, _, _, _, _, _, rfl, d, i, t, r⟩
theorem rdt_nil (w : World) (b : Nat) : RdT w (.slice (some ⟨b, 0, none⟩) 0 0) [] := ⟨rfl, _, _, rfl, ⟨Nat.le_refl _, fun e => by cases e⟩, fun h => absurd h (by simp)⟩
set_option maxRecDepth 100000 in
set_option maxHeartbeats 16000000 in
theorem l10Take_gen (v : Value) (ws : List Int) (ps : List St) (es : List Int) (qs : List Se) (hs : List Int) (td : List Mi) (cd vl : Int) (nm : List ByteArray) (fr : Bool) (w0 w : World) (h : RdF w0 v ws ps es qs hs td cd vl nm fr) :
    Calls Tryz.prog 81 #[v] w fun e w' => ∃ v' vN, e = .returned (.tuple #[v', .agg #[.int .i64 (takI ws ps es qs hs td cd vl nm fr).cd, .int .i64 (takI ws ps es qs hs td cd vl nm fr).vl, vN], .int .i64 (takI ws ps es qs hs td cd vl nm fr).c]) ∧ RdF w0 v' (takI ws ps es qs hs td cd vl nm fr).f.ws (takI ws ps es qs hs td cd vl nm fr).f.ps (takI ws ps es qs hs td cd vl nm fr).f.es (takI ws ps es qs hs td cd vl nm fr).f.qs (takI ws ps es qs hs td cd vl nm fr).f.hs (takI ws ps es qs hs td cd vl nm fr).f.td (takI ws ps es qs hs td cd vl nm fr).f.cd (takI ws ps es qs hs td cd vl nm fr).f.vl (takI ws ps es qs hs td cd vl nm fr).f.nm (takI ws ps es qs hs td cd vl nm fr).f.fr ∧ RdT w0 vN (takI ws ps es qs hs td cd vl nm fr).nm ∧ Below w.heap.size w w' := by
  have HR := hideIt h
  obtain ⟨aW, cW, aP, cP, aS, cS, aQ, cQ, aH, cH, aT, cT, aN, cN, rfl, -⟩ := id h
  clear h
  unfold takI
  by_cases c1 : 0 < td.length
  · simp only [if_pos c1]
    have c1' : (0 : Int) < (td.length : Int) := by omega
    obtain ⟨V, hV⟩ : ∃ V, V = (((((w.alloc (.cells #[.slice aW ws.length cW, .slice aP ps.length cP, .slice aS es.length cS, .slice aQ qs.length cQ, .slice aH hs.length cH, .slice aT td.length cT, .int .i64 cd, .int .i64 vl, .slice aN nm.length cN, .bool fr] 50)).alloc (.cells #[.slice none 0 0, .slice none 0 0, .slice none 0 0, .slice none 0 0, .slice none 0 0, .slice none 0 0, .int .i64 0, .int .i64 0, .slice none 0 0, .bool false] 50)).alloc (.cells #[.int .i64 0, .int .i64 0, .slice none 0 0] 48)).alloc (.cells #[] 9)).alloc (.cells #[.int .i64 0, .int .i64 0, .slice (some ⟨w.heap.size + 1 + 1 + 1, 0, none⟩) 0 0] 48)) := ⟨_, rfl⟩
    have zV : w.heap.size + 5 ≤ V.heap.size := by rw [hV]; simp <;> omega
    have B_V : Hid (Below w.heap.size w V) := by rw [hV]; exact ((((((Below.refl _ _).alloc (by simp <;> omega) _).alloc (by simp <;> omega) _).alloc (by simp <;> omega) _).alloc (by simp <;> omega) _).alloc (by simp <;> omega) _)
    have X0_V : Hid (V.heap[w.heap.size]? = some (.cells #[.slice aW ws.length cW, .slice aP ps.length cP, .slice aS es.length cS, .slice aQ qs.length cQ, .slice aH hs.length cH, .slice aT td.length cT, .int .i64 cd, .int .i64 vl, .slice aN nm.length cN, .bool fr] 50 (0, 0))) := by rw [hV]; exact (at_old (at_old (at_old (at_old (at_new rfl)))))
    have X1_V : Hid (V.heap[w.heap.size + 1]? = some (.cells #[.slice none 0 0, .slice none 0 0, .slice none 0 0, .slice none 0 0, .slice none 0 0, .slice none 0 0, .int .i64 0, .int .i64 0, .slice none 0 0, .bool false] 50 (0, 0))) := by rw [hV]; exact (at_old (at_old (at_old (at_new (by simp)))))
    have X2_V : Hid (V.heap[w.heap.size + 1 + 1]? = some (.cells #[.int .i64 0, .int .i64 0, .slice none 0 0] 48 (0, 0))) := by rw [hV]; exact (at_old (at_old (at_new (by simp))))
    have X3_V : Hid (V.heap[w.heap.size + 1 + 1 + 1]? = some (.cells #[] 9 (0, 0))) := by rw [hV]; exact (at_old (at_new (by simp)))
    have X4_V : Hid (V.heap[w.heap.size + 1 + 1 + 1 + 1]? = some (.cells #[.int .i64 0, .int .i64 0, .slice (some ⟨w.heap.size + 1 + 1 + 1, 0, none⟩) 0 0] 48 (0, 0))) := by rw [hV]; exact (at_new (by simp))
    go_enter Tryz.func81, Tryz.ntmps81
    go_upto_region 3 with fail
    rw [← hV]
    clear hV
    obtain ⟨c0_0, c0_1, c0_2, c0_3, c0_4, c0_5, c0_6, c0_7, c0_8, c0_9, -⟩ := ten_cells X0_V.out
    obtain ⟨c4_0, c4_1, c4_2, -⟩ := tri3 X4_V.out
    obtain ⟨dr0, dr1, dr2, dr3, dr4, dr5, dr6, dr7, dr8, dr9, gr0, gr1, gr2, gr3, gr4, gr5, gr6, gr7, gr8, gr9⟩ := ten_cells X1_V.out
    obtain ⟨ds0, ds1, ds2, gs0, gs1, gs2⟩ := tri3 X2_V.out
    obtain ⟨w1, hw1⟩ : ∃ w1, w1 = ((((((((((V.setCell ⟨w.heap.size + 1, 0, none⟩ (.slice aW ws.length cW)).setCell ⟨w.heap.size + 1, 1, none⟩ (.slice aP ps.length cP)).setCell ⟨w.heap.size + 1, 2, none⟩ (.slice aS es.length cS)).setCell ⟨w.heap.size + 1, 3, none⟩ (.slice aQ qs.length cQ)).setCell ⟨w.heap.size + 1, 4, none⟩ (.slice aH hs.length cH)).setCell ⟨w.heap.size + 1, 5, none⟩ (.slice aT td.length cT)).setCell ⟨w.heap.size + 1, 6, none⟩ (.int .i64 cd)).setCell ⟨w.heap.size + 1, 7, none⟩ (.int .i64 vl)).setCell ⟨w.heap.size + 1, 8, none⟩ (.slice aN nm.length cN)).setCell ⟨w.heap.size + 1, 9, none⟩ (.bool fr)) := ⟨_, rfl⟩
    have Ow1 : Outside (w.heap.size + 1) (w.heap.size + 1 + 1) V w1 := by
      rw [hw1]
      repeat (refine Outside.setCell ?_ (by simp only; omega) (by simp only; omega) _)
      exact Outside.refl _ _ _
    have zw1 : V.heap.size ≤ w1.heap.size ∧ w1.heap.size ≤ V.heap.size := by rw [hw1]; simp [World.setCell]
    have B_w1 := hideIt (B_V.out.trans (Ow1.below (B := w.heap.size) (by omega) B_V.out.size))
    have X0_w1 := hideIt ((Ow1.block (w.heap.size) (lt_box X0_V.out) (by omega)).trans X0_V.out)
    have X2_w1 := hideIt ((Ow1.block (w.heap.size + 1 + 1) (lt_box X2_V.out) (by omega)).trans X2_V.out)
    have X3_w1 := hideIt ((Ow1.block (w.heap.size + 1 + 1 + 1) (lt_box X3_V.out) (by omega)).trans X3_V.out)
    have X4_w1 := hideIt ((Ow1.block (w.heap.size + 1 + 1 + 1 + 1) (lt_box X4_V.out) (by omega)).trans X4_V.out)
    have X1_w1 : Hid (w1.heap[w.heap.size + 1]? = some (.cells #[.slice aW ws.length cW, .slice aP ps.length cP, .slice aS es.length cS, .slice aQ qs.length cQ, .slice aH hs.length cH, .slice aT td.length cT, .int .i64 cd, .int .i64 vl, .slice aN nm.length cN, .bool fr] 50 (0, 0))) := by rw [hw1]; exact (ten_set9 (ten_set8 (ten_set7 (ten_set6 (ten_set5 (ten_set4 (ten_set3 (ten_set2 (ten_set1 (ten_set0 X1_V.out _) _) _) _) _) _) _) _) _) _)
    clear Ow1
    obtain ⟨w2, hw2⟩ : ∃ w2, w2 = (((w1.setCell ⟨w.heap.size + 1 + 1, 0, none⟩ (.int .i64 0)).setCell ⟨w.heap.size + 1 + 1, 1, none⟩ (.int .i64 0)).setCell ⟨w.heap.size + 1 + 1, 2, none⟩ (.slice (some ⟨w.heap.size + 1 + 1 + 1, 0, none⟩) 0 0)) := ⟨_, rfl⟩
    have Ow2 : Outside (w.heap.size + 1 + 1) (w.heap.size + 1 + 1 + 1) w1 w2 := by
      rw [hw2]
      repeat (refine Outside.setCell ?_ (by simp only; omega) (by simp only; omega) _)
      exact Outside.refl _ _ _
    have zw2 : w1.heap.size ≤ w2.heap.size ∧ w2.heap.size ≤ w1.heap.size := by rw [hw2]; simp [World.setCell]
    have B_w2 := hideIt (B_w1.out.trans (Ow2.below (B := w.heap.size) (by omega) B_w1.out.size))
    have X0_w2 := hideIt ((Ow2.block (w.heap.size) (lt_box X0_w1.out) (by omega)).trans X0_w1.out)
    have X1_w2 := hideIt ((Ow2.block (w.heap.size + 1) (lt_box X1_w1.out) (by omega)).trans X1_w1.out)
    have X3_w2 := hideIt ((Ow2.block (w.heap.size + 1 + 1 + 1) (lt_box X3_w1.out) (by omega)).trans X3_w1.out)
    have X4_w2 := hideIt ((Ow2.block (w.heap.size + 1 + 1 + 1 + 1) (lt_box X4_w1.out) (by omega)).trans X4_w1.out)
    have X2_w2 : Hid (w2.heap[w.heap.size + 1 + 1]? = some (.cells #[.int .i64 0, .int .i64 0, .slice (some ⟨w.heap.size + 1 + 1 + 1, 0, none⟩) 0 0] 48 (0, 0))) := by rw [hw2]; exact (tr3_set2 (tr3_set1 (tr3_set0 X2_w1.out _) _) _)
    clear Ow2
    go_wp2_with fail
    go_region
    all_goals
      go_wp2_with fail
      rw [← hw1, ← hw2]
      refine bodyPost_ret (v := .tuple #[.agg #[.slice aW ws.length cW, .slice aP ps.length cP, .slice aS es.length cS, .slice aQ qs.length cQ, .slice aH hs.length cH, .slice aT td.length cT, .int .i64 cd, .int .i64 vl, .slice aN nm.length cN, .bool fr], .agg #[.int .i64 0, .int .i64 0, .slice (some ⟨w.heap.size + 1 + 1 + 1, 0, none⟩) 0 0], .int .i64 15]) (by simp [results, Tryz.results81, go_sem, hw2, hw1, dr0, dr1, dr2, dr3, dr4, dr5, dr6, dr7, dr8, dr9, ds0, ds1, ds2]) rfl ?_
      exact ⟨_, _, rfl, HR.out, rdt_nil _ _, B_w2.out.drew⟩
  have c1' : ¬ (0 : Int) < (td.length : Int) := by omega
  cases fr with
  | true =>
    simp only [if_neg c1, if_true]
    obtain ⟨V, hV⟩ : ∃ V, V = ((((((w.alloc (.cells #[.slice aW ws.length cW, .slice aP ps.length cP, .slice aS es.length cS, .slice aQ qs.length cQ, .slice aH hs.length cH, .slice aT td.length cT, .int .i64 cd, .int .i64 vl, .slice aN nm.length cN, .bool true] 50)).alloc (.cells #[.slice none 0 0, .slice none 0 0, .slice none 0 0, .slice none 0 0, .slice none 0 0, .slice none 0 0, .int .i64 0, .int .i64 0, .slice none 0 0, .bool false] 50)).alloc (.cells #[.int .i64 0, .int .i64 0, .slice none 0 0] 48)).alloc (.cells #[] 9)).alloc (.cells #[.int .i64 0, .int .i64 0, .slice (some ⟨w.heap.size + 1 + 1 + 1, 0, none⟩) 0 0] 48)).alloc (.cells #[.int .i64 cd, .int .i64 vl, .slice aN nm.length cN] 48)) := ⟨_, rfl⟩
    have zV : w.heap.size + 6 ≤ V.heap.size := by rw [hV]; simp <;> omega
    have B_V : Hid (Below w.heap.size w V) := by rw [hV]; exact (((((((Below.refl _ _).alloc (by simp <;> omega) _).alloc (by simp <;> omega) _).alloc (by simp <;> omega) _).alloc (by simp <;> omega) _).alloc (by simp <;> omega) _).alloc (by simp <;> omega) _)
    have X0_V : Hid (V.heap[w.heap.size]? = some (.cells #[.slice aW ws.length cW, .slice aP ps.length cP, .slice aS es.length cS, .slice aQ qs.length cQ, .slice aH hs.length cH, .slice aT td.length cT, .int .i64 cd, .int .i64 vl, .slice aN nm.length cN, .bool true] 50 (0, 0))) := by rw [hV]; exact (at_old (at_old (at_old (at_old (at_old (at_new rfl))))))
    have X1_V : Hid (V.heap[w.heap.size + 1]? = some (.cells #[.slice none 0 0, .slice none 0 0, .slice none 0 0, .slice none 0 0, .slice none 0 0, .slice none 0 0, .int .i64 0, .int .i64 0, .slice none 0 0, .bool false] 50 (0, 0))) := by rw [hV]; exact (at_old (at_old (at_old (at_old (at_new (by simp))))))
    have X2_V : Hid (V.heap[w.heap.size + 1 + 1]? = some (.cells #[.int .i64 0, .int .i64 0, .slice none 0 0] 48 (0, 0))) := by rw [hV]; exact (at_old (at_old (at_old (at_new (by simp)))))
    have X3_V : Hid (V.heap[w.heap.size + 1 + 1 + 1]? = some (.cells #[] 9 (0, 0))) := by rw [hV]; exact (at_old (at_old (at_new (by simp))))
    have X4_V : Hid (V.heap[w.heap.size + 1 + 1 + 1 + 1]? = some (.cells #[.int .i64 0, .int .i64 0, .slice (some ⟨w.heap.size + 1 + 1 + 1, 0, none⟩) 0 0] 48 (0, 0))) := by rw [hV]; exact (at_old (at_new (by simp)))
    have X5_V : Hid (V.heap[w.heap.size + 1 + 1 + 1 + 1 + 1]? = some (.cells #[.int .i64 cd, .int .i64 vl, .slice aN nm.length cN] 48 (0, 0))) := by rw [hV]; exact (at_new (by simp))
    go_enter Tryz.func81, Tryz.ntmps81
    go_upto_region 7 with fail
    rw [← hV]
    clear hV
    obtain ⟨c4_0, c4_1, c4_2, -⟩ := tri3 X4_V.out
    obtain ⟨w1, hw1⟩ : ∃ w1, w1 = ((((V.setCell ⟨w.heap.size, 6, none⟩ (.int .i64 0)).setCell ⟨w.heap.size, 7, none⟩ (.int .i64 0)).setCell ⟨w.heap.size, 8, none⟩ (.slice (some ⟨w.heap.size + 1 + 1 + 1, 0, none⟩) 0 0)).setCell ⟨w.heap.size, 9, none⟩ (.bool false)) := ⟨_, rfl⟩
    have Ow1 : Outside (w.heap.size) (w.heap.size + 1) V w1 := by
      rw [hw1]
      repeat (refine Outside.setCell ?_ (by simp only; omega) (by simp only; omega) _)
      exact Outside.refl _ _ _
    have zw1 : V.heap.size ≤ w1.heap.size ∧ w1.heap.size ≤ V.heap.size := by rw [hw1]; simp [World.setCell]
    have B_w1 := hideIt (B_V.out.trans (Ow1.below (B := w.heap.size) (by omega) B_V.out.size))
    have X1_w1 := hideIt ((Ow1.block (w.heap.size + 1) (lt_box X1_V.out) (by omega)).trans X1_V.out)
    have X2_w1 := hideIt ((Ow1.block (w.heap.size + 1 + 1) (lt_box X2_V.out) (by omega)).trans X2_V.out)
    have X3_w1 := hideIt ((Ow1.block (w.heap.size + 1 + 1 + 1) (lt_box X3_V.out) (by omega)).trans X3_V.out)
    have X4_w1 := hideIt ((Ow1.block (w.heap.size + 1 + 1 + 1 + 1) (lt_box X4_V.out) (by omega)).trans X4_V.out)
    have X5_w1 := hideIt ((Ow1.block (w.heap.size + 1 + 1 + 1 + 1 + 1) (lt_box X5_V.out) (by omega)).trans X5_V.out)
    have X0_w1 : Hid (w1.heap[w.heap.size]? = some (.cells #[.slice aW ws.length cW, .slice aP ps.length cP, .slice aS es.length cS, .slice aQ qs.length cQ, .slice aH hs.length cH, .slice aT td.length cT, .int .i64 0, .int .i64 0, .slice (some ⟨w.heap.size + 1 + 1 + 1, 0, none⟩) 0 0, .bool false] 50 (0, 0))) := by rw [hw1]; exact (ten_set9 (ten_set8 (ten_set7 (ten_set6 X0_V.out _) _) _) _)
    clear Ow1
    obtain ⟨d0, d1, d2, d3, d4, d5, d6, d7, d8, d9, g0, g1, g2, g3, g4, g5, g6, g7, g8, g9⟩ := ten_cells X0_V.out
    go_upto_region 9 with fail
    rw [← hw1]
    clear hw1
    clear d0 d1 d2 d3 d4 d5 d6 d7 d8 d9 g0 g1 g2 g3 g4 g5 g6 g7 g8 g9 B_V X0_V X1_V X2_V X3_V X4_V X5_V
    clear c4_0 c4_1 c4_2
    obtain ⟨c0_0, c0_1, c0_2, c0_3, c0_4, c0_5, c0_6, c0_7, c0_8, c0_9, -⟩ := ten_cells X0_w1.out
    obtain ⟨c5_0, c5_1, c5_2, -⟩ := tri3 X5_w1.out
    obtain ⟨dr0, dr1, dr2, dr3, dr4, dr5, dr6, dr7, dr8, dr9, gr0, gr1, gr2, gr3, gr4, gr5, gr6, gr7, gr8, gr9⟩ := ten_cells X1_w1.out
    obtain ⟨ds0, ds1, ds2, gs0, gs1, gs2⟩ := tri3 X2_w1.out
    obtain ⟨w2, hw2⟩ : ∃ w2, w2 = ((((((((((w1.setCell ⟨w.heap.size + 1, 0, none⟩ (.slice aW ws.length cW)).setCell ⟨w.heap.size + 1, 1, none⟩ (.slice aP ps.length cP)).setCell ⟨w.heap.size + 1, 2, none⟩ (.slice aS es.length cS)).setCell ⟨w.heap.size + 1, 3, none⟩ (.slice aQ qs.length cQ)).setCell ⟨w.heap.size + 1, 4, none⟩ (.slice aH hs.length cH)).setCell ⟨w.heap.size + 1, 5, none⟩ (.slice aT td.length cT)).setCell ⟨w.heap.size + 1, 6, none⟩ (.int .i64 0)).setCell ⟨w.heap.size + 1, 7, none⟩ (.int .i64 0)).setCell ⟨w.heap.size + 1, 8, none⟩ (.slice (some ⟨w.heap.size + 1 + 1 + 1, 0, none⟩) 0 0)).setCell ⟨w.heap.size + 1, 9, none⟩ (.bool false)) := ⟨_, rfl⟩
    have Ow2 : Outside (w.heap.size + 1) (w.heap.size + 1 + 1) w1 w2 := by
      rw [hw2]
      repeat (refine Outside.setCell ?_ (by simp only; omega) (by simp only; omega) _)
      exact Outside.refl _ _ _
    have zw2 : w1.heap.size ≤ w2.heap.size ∧ w2.heap.size ≤ w1.heap.size := by rw [hw2]; simp [World.setCell]
    have B_w2 := hideIt (B_w1.out.trans (Ow2.below (B := w.heap.size) (by omega) B_w1.out.size))
    have X0_w2 := hideIt ((Ow2.block (w.heap.size) (lt_box X0_w1.out) (by omega)).trans X0_w1.out)
    have X2_w2 := hideIt ((Ow2.block (w.heap.size + 1 + 1) (lt_box X2_w1.out) (by omega)).trans X2_w1.out)
    have X3_w2 := hideIt ((Ow2.block (w.heap.size + 1 + 1 + 1) (lt_box X3_w1.out) (by omega)).trans X3_w1.out)
    have X4_w2 := hideIt ((Ow2.block (w.heap.size + 1 + 1 + 1 + 1) (lt_box X4_w1.out) (by omega)).trans X4_w1.out)
    have X5_w2 := hideIt ((Ow2.block (w.heap.size + 1 + 1 + 1 + 1 + 1) (lt_box X5_w1.out) (by omega)).trans X5_w1.out)
    have X1_w2 : Hid (w2.heap[w.heap.size + 1]? = some (.cells #[.slice aW ws.length cW, .slice aP ps.length cP, .slice aS es.length cS, .slice aQ qs.length cQ, .slice aH hs.length cH, .slice aT td.length cT, .int .i64 0, .int .i64 0, .slice (some ⟨w.heap.size + 1 + 1 + 1, 0, none⟩) 0 0, .bool false] 50 (0, 0))) := by rw [hw2]; exact (ten_set9 (ten_set8 (ten_set7 (ten_set6 (ten_set5 (ten_set4 (ten_set3 (ten_set2 (ten_set1 (ten_set0 X1_w1.out _) _) _) _) _) _) _) _) _) _)
    clear Ow2
    obtain ⟨w3, hw3⟩ : ∃ w3, w3 = (((w2.setCell ⟨w.heap.size + 1 + 1, 0, none⟩ (.int .i64 cd)).setCell ⟨w.heap.size + 1 + 1, 1, none⟩ (.int .i64 vl)).setCell ⟨w.heap.size + 1 + 1, 2, none⟩ (.slice aN nm.length cN)) := ⟨_, rfl⟩
    have Ow3 : Outside (w.heap.size + 1 + 1) (w.heap.size + 1 + 1 + 1) w2 w3 := by
      rw [hw3]
      repeat (refine Outside.setCell ?_ (by simp only; omega) (by simp only; omega) _)
      exact Outside.refl _ _ _
    have zw3 : w2.heap.size ≤ w3.heap.size ∧ w3.heap.size ≤ w2.heap.size := by rw [hw3]; simp [World.setCell]
    have B_w3 := hideIt (B_w2.out.trans (Ow3.below (B := w.heap.size) (by omega) B_w2.out.size))
    have X0_w3 := hideIt ((Ow3.block (w.heap.size) (lt_box X0_w2.out) (by omega)).trans X0_w2.out)
    have X1_w3 := hideIt ((Ow3.block (w.heap.size + 1) (lt_box X1_w2.out) (by omega)).trans X1_w2.out)
    have X3_w3 := hideIt ((Ow3.block (w.heap.size + 1 + 1 + 1) (lt_box X3_w2.out) (by omega)).trans X3_w2.out)
    have X4_w3 := hideIt ((Ow3.block (w.heap.size + 1 + 1 + 1 + 1) (lt_box X4_w2.out) (by omega)).trans X4_w2.out)
    have X5_w3 := hideIt ((Ow3.block (w.heap.size + 1 + 1 + 1 + 1 + 1) (lt_box X5_w2.out) (by omega)).trans X5_w2.out)
    have X2_w3 : Hid (w3.heap[w.heap.size + 1 + 1]? = some (.cells #[.int .i64 cd, .int .i64 vl, .slice aN nm.length cN] 48 (0, 0))) := by rw [hw3]; exact (tr3_set2 (tr3_set1 (tr3_set0 X2_w2.out _) _) _)
    clear Ow3
    go_wp2_with fail
    go_region
    all_goals
      go_wp2_with fail
      rw [← hw2, ← hw3]
      refine bodyPost_ret (v := .tuple #[.agg #[.slice aW ws.length cW, .slice aP ps.length cP, .slice aS es.length cS, .slice aQ qs.length cQ, .slice aH hs.length cH, .slice aT td.length cT, .int .i64 0, .int .i64 0, .slice (some ⟨w.heap.size + 1 + 1 + 1, 0, none⟩) 0 0, .bool false], .agg #[.int .i64 cd, .int .i64 vl, .slice aN nm.length cN], .int .i64 0]) (by simp [results, Tryz.results81, go_sem, hw3, hw2, dr0, dr1, dr2, dr3, dr4, dr5, dr6, dr7, dr8, dr9, ds0, ds1, ds2]) rfl ?_
      exact ⟨_, _, rfl, fs_named HR.out (rdt_nil _ _), fs_names HR.out, B_w3.out.drew⟩
  | false =>
    simp only [if_neg c1, Bool.false_eq_true, if_false]
    obtain ⟨V, hV⟩ : ∃ V, V = (((((w.alloc (.cells #[.slice aW ws.length cW, .slice aP ps.length cP, .slice aS es.length cS, .slice aQ qs.length cQ, .slice aH hs.length cH, .slice aT td.length cT, .int .i64 cd, .int .i64 vl, .slice aN nm.length cN, .bool false] 50)).alloc (.cells #[.slice none 0 0, .slice none 0 0, .slice none 0 0, .slice none 0 0, .slice none 0 0, .slice none 0 0, .int .i64 0, .int .i64 0, .slice none 0 0, .bool false] 50)).alloc (.cells #[.int .i64 0, .int .i64 0, .slice none 0 0] 48)).alloc (.cells #[] 9)).alloc (.cells #[.int .i64 0, .int .i64 0, .slice (some ⟨w.heap.size + 1 + 1 + 1, 0, none⟩) 0 0] 48)) := ⟨_, rfl⟩
    have zV : w.heap.size + 5 ≤ V.heap.size := by rw [hV]; simp <;> omega
    have B_V : Hid (Below w.heap.size w V) := by rw [hV]; exact ((((((Below.refl _ _).alloc (by simp <;> omega) _).alloc (by simp <;> omega) _).alloc (by simp <;> omega) _).alloc (by simp <;> omega) _).alloc (by simp <;> omega) _)
    have X0_V : Hid (V.heap[w.heap.size]? = some (.cells #[.slice aW ws.length cW, .slice aP ps.length cP, .slice aS es.length cS, .slice aQ qs.length cQ, .slice aH hs.length cH, .slice aT td.length cT, .int .i64 cd, .int .i64 vl, .slice aN nm.length cN, .bool false] 50 (0, 0))) := by rw [hV]; exact (at_old (at_old (at_old (at_old (at_new rfl)))))
    have X1_V : Hid (V.heap[w.heap.size + 1]? = some (.cells #[.slice none 0 0, .slice none 0 0, .slice none 0 0, .slice none 0 0, .slice none 0 0, .slice none 0 0, .int .i64 0, .int .i64 0, .slice none 0 0, .bool false] 50 (0, 0))) := by rw [hV]; exact (at_old (at_old (at_old (at_new (by simp)))))
    have X2_V : Hid (V.heap[w.heap.size + 1 + 1]? = some (.cells #[.int .i64 0, .int .i64 0, .slice none 0 0] 48 (0, 0))) := by rw [hV]; exact (at_old (at_old (at_new (by simp))))
    have X3_V : Hid (V.heap[w.heap.size + 1 + 1 + 1]? = some (.cells #[] 9 (0, 0))) := by rw [hV]; exact (at_old (at_new (by simp)))
    have X4_V : Hid (V.heap[w.heap.size + 1 + 1 + 1 + 1]? = some (.cells #[.int .i64 0, .int .i64 0, .slice (some ⟨w.heap.size + 1 + 1 + 1, 0, none⟩) 0 0] 48 (0, 0))) := by rw [hV]; exact (at_new (by simp))
    go_enter Tryz.func81, Tryz.ntmps81
    go_upto_region 5 with fail
    rw [← hV]
    clear hV
    obtain ⟨c0_0, c0_1, c0_2, c0_3, c0_4, c0_5, c0_6, c0_7, c0_8, c0_9, -⟩ := ten_cells X0_V.out
    obtain ⟨c4_0, c4_1, c4_2, -⟩ := tri3 X4_V.out
    obtain ⟨dr0, dr1, dr2, dr3, dr4, dr5, dr6, dr7, dr8, dr9, gr0, gr1, gr2, gr3, gr4, gr5, gr6, gr7, gr8, gr9⟩ := ten_cells X1_V.out
    obtain ⟨ds0, ds1, ds2, gs0, gs1, gs2⟩ := tri3 X2_V.out
    obtain ⟨w1, hw1⟩ : ∃ w1, w1 = ((((((((((V.setCell ⟨w.heap.size + 1, 0, none⟩ (.slice aW ws.length cW)).setCell ⟨w.heap.size + 1, 1, none⟩ (.slice aP ps.length cP)).setCell ⟨w.heap.size + 1, 2, none⟩ (.slice aS es.length cS)).setCell ⟨w.heap.size + 1, 3, none⟩ (.slice aQ qs.length cQ)).setCell ⟨w.heap.size + 1, 4, none⟩ (.slice aH hs.length cH)).setCell ⟨w.heap.size + 1, 5, none⟩ (.slice aT td.length cT)).setCell ⟨w.heap.size + 1, 6, none⟩ (.int .i64 cd)).setCell ⟨w.heap.size + 1, 7, none⟩ (.int .i64 vl)).setCell ⟨w.heap.size + 1, 8, none⟩ (.slice aN nm.length cN)).setCell ⟨w.heap.size + 1, 9, none⟩ (.bool false)) := ⟨_, rfl⟩
    have Ow1 : Outside (w.heap.size + 1) (w.heap.size + 1 + 1) V w1 := by
      rw [hw1]
      repeat (refine Outside.setCell ?_ (by simp only; omega) (by simp only; omega) _)
      exact Outside.refl _ _ _
    have zw1 : V.heap.size ≤ w1.heap.size ∧ w1.heap.size ≤ V.heap.size := by rw [hw1]; simp [World.setCell]
    have B_w1 := hideIt (B_V.out.trans (Ow1.below (B := w.heap.size) (by omega) B_V.out.size))
    have X0_w1 := hideIt ((Ow1.block (w.heap.size) (lt_box X0_V.out) (by omega)).trans X0_V.out)
    have X2_w1 := hideIt ((Ow1.block (w.heap.size + 1 + 1) (lt_box X2_V.out) (by omega)).trans X2_V.out)
    have X3_w1 := hideIt ((Ow1.block (w.heap.size + 1 + 1 + 1) (lt_box X3_V.out) (by omega)).trans X3_V.out)
    have X4_w1 := hideIt ((Ow1.block (w.heap.size + 1 + 1 + 1 + 1) (lt_box X4_V.out) (by omega)).trans X4_V.out)
    have X1_w1 : Hid (w1.heap[w.heap.size + 1]? = some (.cells #[.slice aW ws.length cW, .slice aP ps.length cP, .slice aS es.length cS, .slice aQ qs.length cQ, .slice aH hs.length cH, .slice aT td.length cT, .int .i64 cd, .int .i64 vl, .slice aN nm.length cN, .bool false] 50 (0, 0))) := by rw [hw1]; exact (ten_set9 (ten_set8 (ten_set7 (ten_set6 (ten_set5 (ten_set4 (ten_set3 (ten_set2 (ten_set1 (ten_set0 X1_V.out _) _) _) _) _) _) _) _) _) _)
    clear Ow1
    obtain ⟨w2, hw2⟩ : ∃ w2, w2 = (((w1.setCell ⟨w.heap.size + 1 + 1, 0, none⟩ (.int .i64 0)).setCell ⟨w.heap.size + 1 + 1, 1, none⟩ (.int .i64 0)).setCell ⟨w.heap.size + 1 + 1, 2, none⟩ (.slice (some ⟨w.heap.size + 1 + 1 + 1, 0, none⟩) 0 0)) := ⟨_, rfl⟩
    have Ow2 : Outside (w.heap.size + 1 + 1) (w.heap.size + 1 + 1 + 1) w1 w2 := by
      rw [hw2]
      repeat (refine Outside.setCell ?_ (by simp only; omega) (by simp only; omega) _)
      exact Outside.refl _ _ _
    have zw2 : w1.heap.size ≤ w2.heap.size ∧ w2.heap.size ≤ w1.heap.size := by rw [hw2]; simp [World.setCell]
    have B_w2 := hideIt (B_w1.out.trans (Ow2.below (B := w.heap.size) (by omega) B_w1.out.size))
    have X0_w2 := hideIt ((Ow2.block (w.heap.size) (lt_box X0_w1.out) (by omega)).trans X0_w1.out)
    have X1_w2 := hideIt ((Ow2.block (w.heap.size + 1) (lt_box X1_w1.out) (by omega)).trans X1_w1.out)
    have X3_w2 := hideIt ((Ow2.block (w.heap.size + 1 + 1 + 1) (lt_box X3_w1.out) (by omega)).trans X3_w1.out)
    have X4_w2 := hideIt ((Ow2.block (w.heap.size + 1 + 1 + 1 + 1) (lt_box X4_w1.out) (by omega)).trans X4_w1.out)
    have X2_w2 : Hid (w2.heap[w.heap.size + 1 + 1]? = some (.cells #[.int .i64 0, .int .i64 0, .slice (some ⟨w.heap.size + 1 + 1 + 1, 0, none⟩) 0 0] 48 (0, 0))) := by rw [hw2]; exact (tr3_set2 (tr3_set1 (tr3_set0 X2_w1.out _) _) _)
    clear Ow2
    go_wp2_with fail
    go_region
    all_goals
      go_wp2_with fail
      rw [← hw1, ← hw2]
      refine bodyPost_ret (v := .tuple #[.agg #[.slice aW ws.length cW, .slice aP ps.length cP, .slice aS es.length cS, .slice aQ qs.length cQ, .slice aH hs.length cH, .slice aT td.length cT, .int .i64 cd, .int .i64 vl, .slice aN nm.length cN, .bool false], .agg #[.int .i64 0, .int .i64 0, .slice (some ⟨w.heap.size + 1 + 1 + 1, 0, none⟩) 0 0], .int .i64 5]) (by simp [results, Tryz.results81, go_sem, hw2, hw1, dr0, dr1, dr2, dr3, dr4, dr5, dr6, dr7, dr8, dr9, ds0, ds1, ds2]) rfl ?_
      exact ⟨_, _, rfl, HR.out, rdt_nil _ _, B_w2.out.drew⟩
set_option maxRecDepth 100000 in
set_option maxHeartbeats 16000000 in
theorem specTakeAnswer_any (v : Value) (ws : List Int) (ps : List St) (es : List Int) (qs : List Se) (hs : List Int) (td : List Mi) (cd vl : Int) (nm : List ByteArray) (fr : Bool) (w : World) (h : RdF w v ws ps es qs hs td cd vl nm fr) (hws : ws.length ≤ 1048576) (hps : ps.length ≤ 1048576) (hes : es.length ≤ 1048576) (hqs : qs.length ≤ 1048576) (hhs : hs.length ≤ 1048576) (htd : td.length ≤ 1048576) (hnm : nm.length ≤ 1048576) :
    Calls Tryz.prog 28 #[v] w fun e w' => AzOut w w' e (takR ws ps es qs hs td cd vl nm fr) := by
  have LF := hideIt (fun w1 (hb : Below w.heap.size w w1) => specFsOK_any v ws ps es qs hs td cd vl nm fr w1 (h.below hb) hws hps hes hqs hhs htd hnm)
  have IN := hideIt (fun w1 (_ : Below w.heap.size w w1) => l10Take_gen v ws ps es qs hs td cd vl nm fr w w1 h)
  have SM := hideIt (tak_sm ws ps es qs hs td cd vl nm fr hws hps hes hqs hhs htd hnm)
  obtain ⟨aW, cW, aP, cP, aS, cS, aQ, cQ, aH, cH, aT, cT, aN, cN, rfl, -⟩ := id h
  clear h
  by_cases y : fsB ws ps es qs hs td cd vl nm fr = true
  · simp only [y] at LF
    have eR : Hid (takR ws ps es qs hs td cd vl nm fr = takI ws ps es qs hs td cd vl nm fr) := if_pos y
    clear y
    generalize takI ws ps es qs hs td cd vl nm fr = R at *
    obtain ⟨⟨ws2, ps2, es2, qs2, hs2, td2, cd2, vl2, nm2, fr2⟩, cd3, vl3, nm3, c3⟩ := R
    obtain ⟨m1, m2, m3, m4, m5, m6, m7, m8⟩ := SM.out
    clear SM
    simp only at IN m1 m2 m3 m4 m5 m6 m7 m8
    have OW := hideIt (fun v1 w1 (hr : RdF w1 v1 ws2 ps2 es2 qs2 hs2 td2 cd2 vl2 nm2 fr2) => l10Own_gen v1 ws2 ps2 es2 qs2 hs2 td2 cd2 vl2 nm2 fr2 w1 hr m1 m2 m3 m4 m5 m6 m7)
    obtain ⟨V, hV⟩ : ∃ V, V = (((w.alloc (.cells #[.slice aW ws.length cW, .slice aP ps.length cP, .slice aS es.length cS, .slice aQ qs.length cQ, .slice aH hs.length cH, .slice aT td.length cT, .int .i64 cd, .int .i64 vl, .slice aN nm.length cN, .bool fr] 50)).alloc (.cells #[.slice none 0 0, .slice none 0 0, .slice none 0 0, .slice none 0 0, .slice none 0 0, .slice none 0 0, .int .i64 0, .int .i64 0, .slice none 0 0, .bool false] 50)).alloc (.cells #[.int .i64 0, .int .i64 0, .slice none 0 0] 48)) := ⟨_, rfl⟩
    have zV : w.heap.size + 3 ≤ V.heap.size := by rw [hV]; simp <;> omega
    have B_V : Hid (Below w.heap.size w V) := by rw [hV]; exact ((((Below.refl _ _).alloc (by simp <;> omega) _).alloc (by simp <;> omega) _).alloc (by simp <;> omega) _)
    have X0_V : Hid (V.heap[w.heap.size]? = some (.cells #[.slice aW ws.length cW, .slice aP ps.length cP, .slice aS es.length cS, .slice aQ qs.length cQ, .slice aH hs.length cH, .slice aT td.length cT, .int .i64 cd, .int .i64 vl, .slice aN nm.length cN, .bool fr] 50 (0, 0))) := by rw [hV]; exact (at_old (at_old (at_new rfl)))
    have X1_V : Hid (V.heap[w.heap.size + 1]? = some (.cells #[.slice none 0 0, .slice none 0 0, .slice none 0 0, .slice none 0 0, .slice none 0 0, .slice none 0 0, .int .i64 0, .int .i64 0, .slice none 0 0, .bool false] 50 (0, 0))) := by rw [hV]; exact (at_old (at_new (by simp)))
    have X2_V : Hid (V.heap[w.heap.size + 1 + 1]? = some (.cells #[.int .i64 0, .int .i64 0, .slice none 0 0] 48 (0, 0))) := by rw [hV]; exact (at_new (by simp))
    go_enter Tryz.func28, Tryz.ntmps28
    go_upto_region 1 with fail
    rw [← hV]
    clear hV
    obtain ⟨c0_0, c0_1, c0_2, c0_3, c0_4, c0_5, c0_6, c0_7, c0_8, c0_9, -⟩ := ten_cells X0_V.out
    go_wp2_with fail
    refine (LF.out V B_V.out).mono ?_
    rintro e w1 ⟨rfl, hb⟩
    clear c0_0 c0_1 c0_2 c0_3 c0_4 c0_5 c0_6 c0_7 c0_8 c0_9
    have zw1 : V.heap.size ≤ w1.heap.size := hb.size
    have B_w1 := hideIt (below_trans B_V.out hb B_V.out.size)
    have X0_w1 := hideIt (box_below X0_V.out hb (lt_box X0_V.out))
    have X1_w1 := hideIt (box_below X1_V.out hb (lt_box X1_V.out))
    have X2_w1 := hideIt (box_below X2_V.out hb (lt_box X2_V.out))
    clear B_V hb X0_V X1_V X2_V
    clear LF
    obtain ⟨c0_0, c0_1, c0_2, c0_3, c0_4, c0_5, c0_6, c0_7, c0_8, c0_9, -⟩ := ten_cells X0_w1.out
    go_wp2_with fail
    refine (IN.out w1 B_w1.out).mono ?_
    rintro e w2 ⟨v', vN, rfl, hr, hn, hb⟩
    obtain ⟨iW, jW, iP, jP, iS, jS, iQ, jQ, iH, jH, iT, jT, iN, jN, rfl, -⟩ := id hr
    obtain ⟨-, eN, gN, rfl, -⟩ := id hn
    clear IN
    clear c0_0 c0_1 c0_2 c0_3 c0_4 c0_5 c0_6 c0_7 c0_8 c0_9
    have zw2 : w1.heap.size ≤ w2.heap.size := hb.size
    have B_w2 := hideIt (below_trans B_w1.out hb B_w1.out.size)
    have X0_w2 := hideIt (box_below X0_w1.out hb (lt_box X0_w1.out))
    have X1_w2 := hideIt (box_below X1_w1.out hb (lt_box X1_w1.out))
    have X2_w2 := hideIt (box_below X2_w1.out hb (lt_box X2_w1.out))
    clear B_w1 hb X0_w1 X1_w1 X2_w1
    have RF := hideIt hr
    have RN := hideIt hn
    clear hr hn
    obtain ⟨w3, hw3⟩ : ∃ w3, w3 = ((w2.alloc (.cells #[.slice iW ws2.length jW, .slice iP ps2.length jP, .slice iS es2.length jS, .slice iQ qs2.length jQ, .slice iH hs2.length jH, .slice iT td2.length jT, .int .i64 cd2, .int .i64 vl2, .slice iN nm2.length jN, .bool fr2] 50)).alloc (.cells #[.int .i64 cd3, .int .i64 vl3, .slice eN nm3.length gN] 48)) := ⟨_, rfl⟩
    have hb : Below w2.heap.size w2 w3 := by rw [hw3]; exact (((Below.refl _ _).alloc (by simp <;> omega) _).alloc (by simp <;> omega) _)
    obtain ⟨bX, hbX⟩ : ∃ bX : Nat, bX = w2.heap.size := ⟨_, rfl⟩
    have X3_w3 : Hid (w3.heap[bX]? = some (.cells #[.slice iW ws2.length jW, .slice iP ps2.length jP, .slice iS es2.length jS, .slice iQ qs2.length jQ, .slice iH hs2.length jH, .slice iT td2.length jT, .int .i64 cd2, .int .i64 vl2, .slice iN nm2.length jN, .bool fr2] 50 (0, 0))) := by rw [hw3, hbX]; exact (at_old (at_new rfl))
    have pbX : w2.heap.size + 0 ≤ bX ∧ bX ≤ w2.heap.size + 0 ∧ bX < w3.heap.size := ⟨Nat.le_of_eq hbX.symm, Nat.le_of_eq hbX, lt_box X3_w3.out⟩
    obtain ⟨bA, hbA⟩ : ∃ bA : Nat, bA = w2.heap.size + 1 := ⟨_, rfl⟩
    have X4_w3 : Hid (w3.heap[bA]? = some (.cells #[.int .i64 cd3, .int .i64 vl3, .slice eN nm3.length gN] 48 (0, 0))) := by rw [hw3, hbA]; exact (at_new (by simp))
    have pbA : w2.heap.size + 1 ≤ bA ∧ bA ≤ w2.heap.size + 1 ∧ bA < w3.heap.size := ⟨Nat.le_of_eq hbA.symm, Nat.le_of_eq hbA, lt_box X4_w3.out⟩
    have zw3 : w2.heap.size ≤ w3.heap.size := hb.size
    have B_w3 := hideIt (below_trans B_w2.out hb B_w2.out.size)
    have X0_w3 := hideIt (box_below X0_w2.out hb (lt_box X0_w2.out))
    have X1_w3 := hideIt (box_below X1_w2.out hb (lt_box X1_w2.out))
    have X2_w3 := hideIt (box_below X2_w2.out hb (lt_box X2_w2.out))
    clear B_w2 hb X0_w2 X1_w2 X2_w2
    go_upto_region 4 with fail
    rw [← hw3]
    rw [← hbA]
    rw [← hbX]
    clear hw3 hbX hbA
    have HO : Hid ((w3.alloc (.cells #[] 9)).ownsRow w3.heap.size 9 1 (.slice (some ⟨w3.heap.size, 0, none⟩) 0 0) 0 []) := by
      unfold Hid; simpa using World.ownsRow_lit (base := w3.heap.size) (e := 9) (size := 1) w3 #[] 0 (by simp) (by simp) rfl
    have XA := hideIt (at_old (o := .cells #[] 9) X4_w3.out)
    obtain ⟨x0, x1, x2, -⟩ := tri3 XA.out
    have SR := hideIt (Rd.below (Rd.below RN.out B_w3.out) ((Below.refl _ _).alloc (Nat.le_refl _) (.cells #[] 9)))
    go_wp2_with (at_builtin; refine wpList_append_rd _ rfl (.tmp 19) (.tmp 21) 32 rfl w3.heap.size 9 (.string ⟨#[]⟩) 1 16 Tryz.underlying32 info9 rfl (by decide) _ 0 [] rfl HO.out _ (nm3.length) (strs nm3) rfl SR.out (strs_one nm3) (by first | omega | (simp [maxLen]; omega)) (by first | omega | (simp; omega)) (by simp) ?_)
    intro vv w4 hown0 hgr
    have hown : w4.ownsRow w3.heap.size 9 1 vv (nm3.length) (strs nm3) := by simpa using hown0
    have hr := own_block hown
    obtain ⟨-, kN, lN, hvv, -⟩ := hr.rd
    subst hvv
    have hb : Below w3.heap.size w3 w4 := ((Below.refl _ _).alloc (Nat.le_refl _) _).grown hgr (by simp) (fun k hk => by simp [Value.ownBlock] at hk; omega)
    clear hown hown0 hgr x0 x1 x2 XA HO SR
    have zw4 : w3.heap.size ≤ w4.heap.size := hb.size
    have B_w4 := hideIt (below_trans B_w3.out hb B_w3.out.size)
    have X0_w4 := hideIt (box_below X0_w3.out hb (lt_box X0_w3.out))
    have X1_w4 := hideIt (box_below X1_w3.out hb (lt_box X1_w3.out))
    have X2_w4 := hideIt (box_below X2_w3.out hb (lt_box X2_w3.out))
    have X3_w4 := hideIt (box_below X3_w3.out hb (lt_box X3_w3.out))
    have X4_w4 := hideIt (box_below X4_w3.out hb (lt_box X4_w3.out))
    clear B_w3 hb X0_w3 X1_w3 X2_w3 X3_w3 X4_w3
    have QN_w4 := hideIt (Row.wide hr (lo' := w3.heap.size) (hi' := w4.heap.size) (Nat.le_refl _) (Nat.le_refl _))
    clear hr
    clear RN
    obtain ⟨w5, hw5⟩ : ∃ w5, w5 = (w4.setCell ⟨bA, 2, none⟩ (.slice kN nm3.length lN)) := ⟨_, rfl⟩
    have Ow5 : Outside (bA) (bA + 1) w4 w5 := by
      rw [hw5]
      repeat (refine Outside.setCell ?_ (by simp only; omega) (by simp only; omega) _)
      exact Outside.refl _ _ _
    have zw5 : w4.heap.size ≤ w5.heap.size ∧ w5.heap.size ≤ w4.heap.size := by rw [hw5]; simp [World.setCell]
    have B_w5 := hideIt (B_w4.out.trans (Ow5.below (B := w.heap.size) (by omega) B_w4.out.size))
    have X0_w5 := hideIt ((Ow5.block (w.heap.size) (lt_box X0_w4.out) (by omega)).trans X0_w4.out)
    have X1_w5 := hideIt ((Ow5.block (w.heap.size + 1) (lt_box X1_w4.out) (by omega)).trans X1_w4.out)
    have X2_w5 := hideIt ((Ow5.block (w.heap.size + 1 + 1) (lt_box X2_w4.out) (by omega)).trans X2_w4.out)
    have X3_w5 := hideIt ((Ow5.block (bX) (lt_box X3_w4.out) (by omega)).trans X3_w4.out)
    have X4_w5 : Hid (w5.heap[bA]? = some (.cells #[.int .i64 cd3, .int .i64 vl3, .slice kN nm3.length lN] 48 (0, 0))) := by rw [hw5]; exact (tr3_set2 X4_w4.out _)
    have QN_w5 := hideIt (QN_w4.out.outside Ow5 (by omega) (by omega))
    clear Ow5
    obtain ⟨d0, d1, d2, g0, g1, g2⟩ := tri3 X4_w4.out
    go_upto_region 5 with fail
    rw [← hw5]
    clear hw5
    clear d0 d1 d2 g0 g1 g2 B_w4 X0_w4 X1_w4 X2_w4 X3_w4 X4_w4 QN_w4
    obtain ⟨c3_0, c3_1, c3_2, c3_3, c3_4, c3_5, c3_6, c3_7, c3_8, c3_9, -⟩ := ten_cells X3_w5.out
    obtain ⟨c4_0, c4_1, c4_2, -⟩ := tri3 X4_w5.out
    obtain ⟨dr0, dr1, dr2, dr3, dr4, dr5, dr6, dr7, dr8, dr9, gr0, gr1, gr2, gr3, gr4, gr5, gr6, gr7, gr8, gr9⟩ := ten_cells X1_w5.out
    obtain ⟨ds0, ds1, ds2, gs0, gs1, gs2⟩ := tri3 X2_w5.out
    go_region_law (go_simp; go_at_call 60; refine (OW.out _ _ (RF.out.below (below_trans B_w5.out (by repeat (first | with_reducible exact Below.refl _ _ | with_reducible refine Below.drew ?_)) B_w5.out.size))).mono ?_; rintro e wf ⟨vO, rfl, hr, hbf⟩; obtain ⟨oW, pW, oP, pP, oS, pS, oQ, pQ, oH, pH, oT, pT, oN, pN, eo⟩ := hr.form; subst eo; have hb : Below w5.heap.size w5 wf := belY (by repeat (first | with_reducible exact Below.refl _ _ | with_reducible refine Below.drew ?_)) hbf; have QF : Hid (RowF wf w5.heap.size wf.heap.size _ ws2 ps2 es2 qs2 hs2 td2 cd2 vl2 nm2 fr2) := hr; have HB2 := hideIt hb; have Y1 := hideIt (box_below X1_w5.out hb (lt_box X1_w5.out)); have Y2 := hideIt (box_below X2_w5.out hb (lt_box X2_w5.out)); have Y4 := hideIt (box_below X4_w5.out hb (lt_box X4_w5.out)); obtain ⟨y0, y1, y2, y3, y4, y5, y6, y7, y8, y9, k0, k1, k2, k3, k4, k5, k6, k7, k8, k9⟩ := ten_cells Y1.out; obtain ⟨u0, u1, u2, t0, t1, t2⟩ := tri3 Y2.out; obtain ⟨v0, v1, v2, -⟩ := tri3 Y4.out; clear hr hbf hb)
    all_goals
      have zwf : w5.heap.size ≤ wf.heap.size := HB2.out.size
      have B_wf := hideIt (below_trans B_w5.out HB2.out B_w5.out.size)
      have X0_wf := hideIt (box_below X0_w5.out HB2.out (lt_box X0_w5.out))
      have X1_wf := hideIt (box_below X1_w5.out HB2.out (lt_box X1_w5.out))
      have X2_wf := hideIt (box_below X2_w5.out HB2.out (lt_box X2_w5.out))
      have X3_wf := hideIt (box_below X3_w5.out HB2.out (lt_box X3_w5.out))
      have X4_wf := hideIt (box_below X4_w5.out HB2.out (lt_box X4_w5.out))
      have QN_wf := hideIt (QN_w5.out.below HB2.out (by omega))
      have QF_wf := QF
      clear X0_w5 X1_w5 X2_w5 X3_w5 X4_w5 QN_w5 QF B_w5 HB2 OW RF dr0 dr1 dr2 dr3 dr4 dr5 dr6 dr7 dr8 dr9 gr0 gr1 gr2 gr3 gr4 gr5 gr6 gr7 gr8 gr9 ds0 ds1 ds2 gs0 gs1 gs2 c3_0 c3_1 c3_2 c3_3 c3_4 c3_5 c3_6 c3_7 c3_8 c3_9 c4_0 c4_1 c4_2
      obtain ⟨w6, hw6⟩ : ∃ w6, w6 = ((((((((((wf.setCell ⟨w.heap.size + 1, 0, none⟩ (.slice oW ws2.length pW)).setCell ⟨w.heap.size + 1, 1, none⟩ (.slice oP ps2.length pP)).setCell ⟨w.heap.size + 1, 2, none⟩ (.slice oS es2.length pS)).setCell ⟨w.heap.size + 1, 3, none⟩ (.slice oQ qs2.length pQ)).setCell ⟨w.heap.size + 1, 4, none⟩ (.slice oH hs2.length pH)).setCell ⟨w.heap.size + 1, 5, none⟩ (.slice oT td2.length pT)).setCell ⟨w.heap.size + 1, 6, none⟩ (.int .i64 cd2)).setCell ⟨w.heap.size + 1, 7, none⟩ (.int .i64 vl2)).setCell ⟨w.heap.size + 1, 8, none⟩ (.slice oN nm2.length pN)).setCell ⟨w.heap.size + 1, 9, none⟩ (.bool fr2)) := ⟨_, rfl⟩
      have Ow6 : Outside (w.heap.size + 1) (w.heap.size + 1 + 1) wf w6 := by
        rw [hw6]
        repeat (refine Outside.setCell ?_ (by simp only; omega) (by simp only; omega) _)
        exact Outside.refl _ _ _
      have zw6 : wf.heap.size ≤ w6.heap.size ∧ w6.heap.size ≤ wf.heap.size := by rw [hw6]; simp [World.setCell]
      have B_w6 := hideIt (B_wf.out.trans (Ow6.below (B := w.heap.size) (by omega) B_wf.out.size))
      have X0_w6 := hideIt ((Ow6.block (w.heap.size) (lt_box X0_wf.out) (by omega)).trans X0_wf.out)
      have X2_w6 := hideIt ((Ow6.block (w.heap.size + 1 + 1) (lt_box X2_wf.out) (by omega)).trans X2_wf.out)
      have X3_w6 := hideIt ((Ow6.block (bX) (lt_box X3_wf.out) (by omega)).trans X3_wf.out)
      have X4_w6 := hideIt ((Ow6.block (bA) (lt_box X4_wf.out) (by omega)).trans X4_wf.out)
      have X1_w6 : Hid (w6.heap[w.heap.size + 1]? = some (.cells #[.slice oW ws2.length pW, .slice oP ps2.length pP, .slice oS es2.length pS, .slice oQ qs2.length pQ, .slice oH hs2.length pH, .slice oT td2.length pT, .int .i64 cd2, .int .i64 vl2, .slice oN nm2.length pN, .bool fr2] 50 (0, 0))) := by rw [hw6]; exact (ten_set9 (ten_set8 (ten_set7 (ten_set6 (ten_set5 (ten_set4 (ten_set3 (ten_set2 (ten_set1 (ten_set0 X1_wf.out _) _) _) _) _) _) _) _) _) _)
      have QN_w6 := hideIt (QN_wf.out.outside Ow6 (by omega) (by omega))
      have QF_w6 := hideIt (QF_wf.out.outside Ow6 (by omega) (by omega))
      clear Ow6
      obtain ⟨w7, hw7⟩ : ∃ w7, w7 = (((w6.setCell ⟨w.heap.size + 1 + 1, 0, none⟩ (.int .i64 cd3)).setCell ⟨w.heap.size + 1 + 1, 1, none⟩ (.int .i64 vl3)).setCell ⟨w.heap.size + 1 + 1, 2, none⟩ (.slice kN nm3.length lN)) := ⟨_, rfl⟩
      have Ow7 : Outside (w.heap.size + 1 + 1) (w.heap.size + 1 + 1 + 1) w6 w7 := by
        rw [hw7]
        repeat (refine Outside.setCell ?_ (by simp only; omega) (by simp only; omega) _)
        exact Outside.refl _ _ _
      have zw7 : w6.heap.size ≤ w7.heap.size ∧ w7.heap.size ≤ w6.heap.size := by rw [hw7]; simp [World.setCell]
      have B_w7 := hideIt (B_w6.out.trans (Ow7.below (B := w.heap.size) (by omega) B_w6.out.size))
      have X0_w7 := hideIt ((Ow7.block (w.heap.size) (lt_box X0_w6.out) (by omega)).trans X0_w6.out)
      have X1_w7 := hideIt ((Ow7.block (w.heap.size + 1) (lt_box X1_w6.out) (by omega)).trans X1_w6.out)
      have X3_w7 := hideIt ((Ow7.block (bX) (lt_box X3_w6.out) (by omega)).trans X3_w6.out)
      have X4_w7 := hideIt ((Ow7.block (bA) (lt_box X4_w6.out) (by omega)).trans X4_w6.out)
      have X2_w7 : Hid (w7.heap[w.heap.size + 1 + 1]? = some (.cells #[.int .i64 cd3, .int .i64 vl3, .slice kN nm3.length lN] 48 (0, 0))) := by rw [hw7]; exact (tr3_set2 (tr3_set1 (tr3_set0 X2_w6.out _) _) _)
      have QN_w7 := hideIt (QN_w6.out.outside Ow7 (by omega) (by omega))
      have QF_w7 := hideIt (QF_w6.out.outside Ow7 (by omega) (by omega))
      clear Ow7
      go_wp2
      refine bodyPost_ret (v := .tuple #[.agg #[.slice oW ws2.length pW, .slice oP ps2.length pP, .slice oS es2.length pS, .slice oQ qs2.length pQ, .slice oH hs2.length pH, .slice oT td2.length pT, .int .i64 cd2, .int .i64 vl2, .slice oN nm2.length pN, .bool fr2], .agg #[.int .i64 cd3, .int .i64 vl3, .slice kN nm3.length lN], .int .i64 c3]) (by simp [results, Tryz.results28, go_sem, y0, y1, y2, y3, y4, y5, y6, y7, y8, y9, u0, u1, u2]) rfl ?_
      rw [eR.out]
      first
        | rw [← hw6, ← hw7]; exact ⟨_, _, rfl, QF_w7.out.wide (by omega) (by omega), ⟨_, _, QN_w7.out, by omega, by omega⟩, B_w7.out⟩
        | rw [← hw6, ← hw7]; exact ⟨_, _, rfl, (QF_w7.out.wide (by omega) (by omega)).below (Below.refl _ _).drew (Nat.le_refl _), ⟨_, _, QN_w7.out.below (Below.refl _ _).drew (by omega), by omega, by omega⟩, B_w7.out.drew⟩
  · have y' : fsB ws ps es qs hs td cd vl nm fr = false := by simpa using y
    simp only [y'] at LF
    clear y' IN SM
    obtain ⟨V, hV⟩ : ∃ V, V = (((w.alloc (.cells #[.slice aW ws.length cW, .slice aP ps.length cP, .slice aS es.length cS, .slice aQ qs.length cQ, .slice aH hs.length cH, .slice aT td.length cT, .int .i64 cd, .int .i64 vl, .slice aN nm.length cN, .bool fr] 50)).alloc (.cells #[.slice none 0 0, .slice none 0 0, .slice none 0 0, .slice none 0 0, .slice none 0 0, .slice none 0 0, .int .i64 0, .int .i64 0, .slice none 0 0, .bool false] 50)).alloc (.cells #[.int .i64 0, .int .i64 0, .slice none 0 0] 48)) := ⟨_, rfl⟩
    have zV : w.heap.size + 3 ≤ V.heap.size := by rw [hV]; simp <;> omega
    have B_V : Hid (Below w.heap.size w V) := by rw [hV]; exact ((((Below.refl _ _).alloc (by simp <;> omega) _).alloc (by simp <;> omega) _).alloc (by simp <;> omega) _)
    have X0_V : Hid (V.heap[w.heap.size]? = some (.cells #[.slice aW ws.length cW, .slice aP ps.length cP, .slice aS es.length cS, .slice aQ qs.length cQ, .slice aH hs.length cH, .slice aT td.length cT, .int .i64 cd, .int .i64 vl, .slice aN nm.length cN, .bool fr] 50 (0, 0))) := by rw [hV]; exact (at_old (at_old (at_new rfl)))
    have X1_V : Hid (V.heap[w.heap.size + 1]? = some (.cells #[.slice none 0 0, .slice none 0 0, .slice none 0 0, .slice none 0 0, .slice none 0 0, .slice none 0 0, .int .i64 0, .int .i64 0, .slice none 0 0, .bool false] 50 (0, 0))) := by rw [hV]; exact (at_old (at_new (by simp)))
    have X2_V : Hid (V.heap[w.heap.size + 1 + 1]? = some (.cells #[.int .i64 0, .int .i64 0, .slice none 0 0] 48 (0, 0))) := by rw [hV]; exact (at_new (by simp))
    go_enter Tryz.func28, Tryz.ntmps28
    go_upto_region 1 with fail
    rw [← hV]
    clear hV
    obtain ⟨c0_0, c0_1, c0_2, c0_3, c0_4, c0_5, c0_6, c0_7, c0_8, c0_9, -⟩ := ten_cells X0_V.out
    go_wp2_with fail
    refine (LF.out V B_V.out).mono ?_
    rintro e w1 ⟨rfl, hb⟩
    clear c0_0 c0_1 c0_2 c0_3 c0_4 c0_5 c0_6 c0_7 c0_8 c0_9
    have zw1 : V.heap.size ≤ w1.heap.size := hb.size
    have B_w1 := hideIt (below_trans B_V.out hb B_V.out.size)
    have X0_w1 := hideIt (box_below X0_V.out hb (lt_box X0_V.out))
    have X1_w1 := hideIt (box_below X1_V.out hb (lt_box X1_V.out))
    have X2_w1 := hideIt (box_below X2_V.out hb (lt_box X2_V.out))
    clear B_V hb X0_V X1_V X2_V
    clear LF
    obtain ⟨dr0, dr1, dr2, dr3, dr4, dr5, dr6, dr7, dr8, dr9, gr0, gr1, gr2, gr3, gr4, gr5, gr6, gr7, gr8, gr9⟩ := ten_cells X1_w1.out
    obtain ⟨ds0, ds1, ds2, gs0, gs1, gs2⟩ := tri3 X2_w1.out
    obtain ⟨w2, hw2⟩ : ∃ w2, w2 = ((((((((((w1.setCell ⟨w.heap.size + 1, 0, none⟩ (.slice none 0 0)).setCell ⟨w.heap.size + 1, 1, none⟩ (.slice none 0 0)).setCell ⟨w.heap.size + 1, 2, none⟩ (.slice none 0 0)).setCell ⟨w.heap.size + 1, 3, none⟩ (.slice none 0 0)).setCell ⟨w.heap.size + 1, 4, none⟩ (.slice none 0 0)).setCell ⟨w.heap.size + 1, 5, none⟩ (.slice none 0 0)).setCell ⟨w.heap.size + 1, 6, none⟩ (.int .i64 0)).setCell ⟨w.heap.size + 1, 7, none⟩ (.int .i64 0)).setCell ⟨w.heap.size + 1, 8, none⟩ (.slice none 0 0)).setCell ⟨w.heap.size + 1, 9, none⟩ (.bool false)) := ⟨_, rfl⟩
    have Ow2 : Outside (w.heap.size + 1) (w.heap.size + 1 + 1) w1 w2 := by
      rw [hw2]
      repeat (refine Outside.setCell ?_ (by simp only; omega) (by simp only; omega) _)
      exact Outside.refl _ _ _
    have zw2 : w1.heap.size ≤ w2.heap.size ∧ w2.heap.size ≤ w1.heap.size := by rw [hw2]; simp [World.setCell]
    have B_w2 := hideIt (B_w1.out.trans (Ow2.below (B := w.heap.size) (by omega) B_w1.out.size))
    have X0_w2 := hideIt ((Ow2.block (w.heap.size) (lt_box X0_w1.out) (by omega)).trans X0_w1.out)
    have X2_w2 := hideIt ((Ow2.block (w.heap.size + 1 + 1) (lt_box X2_w1.out) (by omega)).trans X2_w1.out)
    have X1_w2 : Hid (w2.heap[w.heap.size + 1]? = some (.cells #[.slice none 0 0, .slice none 0 0, .slice none 0 0, .slice none 0 0, .slice none 0 0, .slice none 0 0, .int .i64 0, .int .i64 0, .slice none 0 0, .bool false] 50 (0, 0))) := by rw [hw2]; exact (ten_set9 (ten_set8 (ten_set7 (ten_set6 (ten_set5 (ten_set4 (ten_set3 (ten_set2 (ten_set1 (ten_set0 X1_w1.out _) _) _) _) _) _) _) _) _) _)
    clear Ow2
    obtain ⟨w3, hw3⟩ : ∃ w3, w3 = (((w2.setCell ⟨w.heap.size + 1 + 1, 0, none⟩ (.int .i64 0)).setCell ⟨w.heap.size + 1 + 1, 1, none⟩ (.int .i64 0)).setCell ⟨w.heap.size + 1 + 1, 2, none⟩ (.slice none 0 0)) := ⟨_, rfl⟩
    have Ow3 : Outside (w.heap.size + 1 + 1) (w.heap.size + 1 + 1 + 1) w2 w3 := by
      rw [hw3]
      repeat (refine Outside.setCell ?_ (by simp only; omega) (by simp only; omega) _)
      exact Outside.refl _ _ _
    have zw3 : w2.heap.size ≤ w3.heap.size ∧ w3.heap.size ≤ w2.heap.size := by rw [hw3]; simp [World.setCell]
    have B_w3 := hideIt (B_w2.out.trans (Ow3.below (B := w.heap.size) (by omega) B_w2.out.size))
    have X0_w3 := hideIt ((Ow3.block (w.heap.size) (lt_box X0_w2.out) (by omega)).trans X0_w2.out)
    have X1_w3 := hideIt ((Ow3.block (w.heap.size + 1) (lt_box X1_w2.out) (by omega)).trans X1_w2.out)
    have X2_w3 : Hid (w3.heap[w.heap.size + 1 + 1]? = some (.cells #[.int .i64 0, .int .i64 0, .slice none 0 0] 48 (0, 0))) := by rw [hw3]; exact (tr3_set2 (tr3_set1 (tr3_set0 X2_w2.out _) _) _)
    clear Ow3
    go_wp2
    refine bodyPost_ret (v := .tuple #[.agg #[.slice none 0 0, .slice none 0 0, .slice none 0 0, .slice none 0 0, .slice none 0 0, .slice none 0 0, .int .i64 0, .int .i64 0, .slice none 0 0, .bool false], .agg #[.int .i64 0, .int .i64 0, .slice none 0 0], .int .i64 1]) (by simp [results, Tryz.results28, go_sem, dr0, dr1, dr2, dr3, dr4, dr5, dr6, dr7, dr8, dr9, ds0, ds1, ds2]) rfl ?_
    rw [← hw2, ← hw3]
    rw [show takR ws ps es qs hs td cd vl nm fr = ⟨zz, 0, 0, [], 1⟩ from if_neg y]
    exact ⟨_, _, rfl, (RowF.zero _ _).wide (Nat.le_refl _) (by omega), ⟨w.heap.size, w.heap.size, Row.nil _ _ _ _ _, Nat.le_refl _, by omega⟩, B_w3.out⟩
end Go.Proofs.YtipklbnfobckaaaGreatDoor

