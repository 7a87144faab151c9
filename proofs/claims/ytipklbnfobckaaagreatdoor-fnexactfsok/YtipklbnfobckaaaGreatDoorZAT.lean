/- Several texts laid together: MiT, FqA, AnA. -/
import Derived.Test.YtipklbnfobckaaaGreatDoorZAK
import Derived.Deep.RegionWith
import Derived.Test.YtipklbnfobckaaaGreatDoorZAS
namespace Go.Proofs.YtipklbnfobckaaaGreatDoor
open Go.RowKit

set_option maxHeartbeats 2000000 in
/-- Two slices of steps that read alike are found alike. -/
theorem eqMicroS_same (va vb : Value) (ps : List Mi) (w : World) (ha : RdM w va ps) (hb : RdM w vb ps) (hn : ps.length ≤ 2147483648) :
    Calls Tryz.prog 57 #[va, vb] w fun e w' => e = .returned (.bool true) ∧ Below w.heap.size w w' := by
  obtain ⟨ao, cap, rfl, hcap, hc⟩ := ha.shape
  obtain ⟨ao2, cap2, rfl, hcap2, hc2⟩ := hb.shape
  clear ha hb
  go_enter Tryz.func57, Tryz.ntmps57
  go_wp2
  go_loopw [5] (fun i wr => ∃ k : Nat, k ≤ ps.length ∧ i = .int .i64 k ∧ Below w.heap.size w wr) (fun i _ => ps.length - (intOf i).toNat)
  case atStart => exact ⟨0, by omega, rfl, Below.refl _ _⟩
  case round =>
    obtain ⟨k, hk, rfl, hbw⟩ := hrel
    by_cases hlt : k < ps.length
    · obtain ⟨b, o, rfl, hbl, hcell⟩ := hc (by omega)
      obtain ⟨b2, o2, rfl, hbl2, hcell2⟩ := hc2 (by omega)
      obtain ⟨c0, c1, c2⟩ := hcell k hlt
      obtain ⟨c3, c4, c5⟩ := hcell2 k hlt
      have d0 := (hbw.cell (p := ⟨b, o + k * 3, none⟩) hbl).trans c0
      have d1 := (hbw.cell (p := ⟨b, o + k * 3 + 1, none⟩) hbl).trans c1
      have d2 := (hbw.cell (p := ⟨b, o + k * 3 + 2, none⟩) hbl).trans c2
      have d3 := (hbw.cell (p := ⟨b2, o2 + k * 3, none⟩) hbl2).trans c3
      have d4 := (hbw.cell (p := ⟨b2, o2 + k * 3 + 1, none⟩) hbl2).trans c4
      have d5 := (hbw.cell (p := ⟨b2, o2 + k * 3 + 2, none⟩) hbl2).trans c5
      have hlt' : (k : Int) < (ps.length : Int) := by omega
      have hge : (0 : Int) ≤ (k : Int) := by omega
      have hz := hbw.size
      clear hcell hcell2 hc hc2 c0 c1 c2 c3 c4 c5
      go_wp2_with fail
      go_region_with (go_at_call 115; refine (eqMic_same _ _ _ _).mono ?_; rintro e w1 ⟨rfl, hb1⟩)
      all_goals
        go_wp2
        go_roundw
        case rel => exact ⟨k + 1, by omega, by go_num, hbw.trans (Below.mono (Below.trans ((Below.refl _ _).drew) ‹_›) hz)⟩
        case measure => simp [intOf]; omega
    · go_wp2
      go_ret
      exact ⟨rfl, hbw⟩

/-- The i-th of the marks from k on. -/
def markM (k : Int) (i : Nat) : Mi := ⟨k + 3 * (i : Int), k + 3 * (i : Int) + 1, k + 3 * (i : Int) + 1 + 1⟩
def marksM (k : Int) (n : Nat) : List Mi := (List.range n).map (markM k)
end Go.Proofs.YtipklbnfobckaaaGreatDoor

namespace Go.Proofs.YtipklbnfobckaaaGreatDoor
open Go.RowKit

/-- Steps that may be written: they lie in a block of one's own, at whatever place. -/
def RowW (w : World) (lo hi : Nat) (v : Value) (td : List Mi) : Prop := RdM w v td ∧ (∀ b, v.ownBlock = some b → lo ≤ b ∧ b < hi ∧ b < w.heap.size ∧ ∀ j, w.frozen? ⟨b, j, none⟩ = false)
theorem RowW.rd {w : World} {lo hi : Nat} {v : Value} {td : List Mi} (h : RowW w lo hi v td) : RdM w v td := h.1
theorem RowW.same {w w' : World} {lo hi : Nat} {v : Value} {td : List Mi} (h : RowW w lo hi v td) (hz : w.heap.size ≤ w'.heap.size) (hs : ∀ b, lo ≤ b → b < hi → b < w.heap.size → w'.heap[b]? = w.heap[b]?) : RowW w' lo hi v td :=
  ⟨Rd.same h.1 hz (fun b hb e => hs b (h.2 b e).1 (h.2 b e).2.1 hb), fun b e => by
    obtain ⟨h1, h2, h3, h4⟩ := h.2 b e
    refine ⟨h1, h2, Nat.lt_of_lt_of_le h3 hz, fun j => ?_⟩
    have := h4 j
    unfold World.frozen? at this ⊢
    simp only [hs b h1 h2 h3]
    exact this⟩
theorem RowW.below {w w' : World} {lo hi : Nat} {v : Value} {td : List Mi} (h : RowW w lo hi v td) {B : Nat} (hb : Below B w w') (hB : hi ≤ B) : RowW w' lo hi v td := h.same hb.size (fun b _ h2 _ => hb.block b (by omega))
theorem RowW.outside {w w' : World} {lo hi : Nat} {v : Value} {td : List Mi} (h : RowW w lo hi v td) {lo' hi' : Nat} (ho : Outside lo' hi' w w') (hd : hi ≤ lo' ∨ hi' ≤ lo) : RowW w' lo hi v td := h.same ho.size (fun b h1 h2 h3 => ho.block b h3 (by omega))
theorem RowW.wide {w : World} {lo hi : Nat} {v : Value} {td : List Mi} (h : RowW w lo hi v td) {lo' hi' : Nat} (h1 : lo' ≤ lo) (h2 : hi ≤ hi') : RowW w lo' hi' v td := ⟨h.1, fun b e => by obtain ⟨a, b', c, d⟩ := h.2 b e; exact ⟨by omega, by omega, c, d⟩⟩
theorem RowW.nil (w : World) (lo hi : Nat) : RowW w lo hi (.slice none 0 0) [] := ⟨(Row.nil w 79 3 lo hi).rd, fun b e => by cases e⟩
theorem RowW.of_row {w : World} {lo hi : Nat} {v : Value} {td : List Mi} (h : Row w 79 3 lo hi v td.length (mis td)) : RowW w lo hi v td := by
  refine ⟨h.rd, fun b e => ?_⟩
  rcases h.shape with ⟨rfl, _⟩ | ⟨b', cap, rfl, _, _⟩
  · cases e
  · cases e
    obtain ⟨_, h1, h2, h3, h4, _⟩ := h.at
    exact ⟨h1, h2, (h.1.lt _ rfl).2, h4⟩

/-- A file system that can be read. -/
def RdF (w : World) (v : Value) (ws : List Int) (ps : List St) (es : List Int) (qs : List Se) (hs : List Int) (td : List Mi) (cd vl : Int) (nm : List ByteArray) (fr : Bool) : Prop :=
  ∃ aW cW aP cP aS cS aQ cQ aH cH aT cT aN cN, v = .agg #[.slice aW ws.length cW, .slice aP ps.length cP, .slice aS es.length cS, .slice aQ qs.length cQ, .slice aH hs.length cH, .slice aT td.length cT, .int .i64 cd, .int .i64 vl, .slice aN nm.length cN, .bool fr] ∧ RdDev w (.agg #[.slice aW ws.length cW, .slice aP ps.length cP, .slice aS es.length cS, .slice aQ qs.length cQ]) ws ps es qs ∧ RdI w (.slice aH hs.length cH) hs ∧ RdM w (.slice aT td.length cT) td ∧ RdT w (.slice aN nm.length cN) nm
theorem RdF.below {w w' : World} {v : Value} {ws : List Int} {ps : List St} {es : List Int} {qs : List Se} {hs : List Int} {td : List Mi} {cd vl : Int} {nm : List ByteArray} {fr : Bool} (h : RdF w v ws ps es qs hs td cd vl nm fr) (s : Below w.heap.size w w') : RdF w' v ws ps es qs hs td cd vl nm fr := by
  obtain ⟨aW, cW, aP, cP, aS, cS, aQ, cQ, aH, cH, aT, cT, aN, cN, rfl, a, b, c, d⟩ := h
  exact ⟨aW, cW, aP, cP, aS, cS, aQ, cQ, aH, cH, aT, cT, aN, cN, rfl, a.below s, Rd.below b s, Rd.below c s, Rd.below d s⟩
/-- Where the rows of a file system lie. -/
structure FarF (lo hi ld ud lh uh lt ut ln un : Nat) : Prop where
  d0 : lo ≤ ld
  d1 : ud ≤ hi
  h0 : lo ≤ lh
  h1 : uh ≤ hi
  t0 : lo ≤ lt
  t1 : ut ≤ hi
  n0 : lo ≤ ln
  n1 : un ≤ hi
  dh : ud ≤ lh ∨ uh ≤ ld
  dt : ud ≤ lt ∨ ut ≤ ld
  dn : ud ≤ ln ∨ un ≤ ld
  ht : uh ≤ lt ∨ ut ≤ lh
  hn : uh ≤ ln ∨ un ≤ lh
  tn : ut ≤ ln ∨ un ≤ lt
/-- A file system of a call's own. -/
def RowF (w : World) (lo hi : Nat) (v : Value) (ws : List Int) (ps : List St) (es : List Int) (qs : List Se) (hs : List Int) (td : List Mi) (cd vl : Int) (nm : List ByteArray) (fr : Bool) : Prop :=
  ∃ vW vP vS vQ vH vT vN ld ud lh uh lt ut ln un, v = .agg #[vW, vP, vS, vQ, vH, vT, .int .i64 cd, .int .i64 vl, vN, .bool fr] ∧ RowDev w ld ud (.agg #[vW, vP, vS, vQ]) ws ps es qs ∧ Row w 3 1 lh uh vH hs.length (ints hs) ∧ RowW w lt ut vT td ∧ Row w 9 1 ln un vN nm.length (strs nm) ∧ FarF lo hi ld ud lh uh lt ut ln un
theorem RowF.rd {w : World} {lo hi : Nat} {v : Value} {ws : List Int} {ps : List St} {es : List Int} {qs : List Se} {hs : List Int} {td : List Mi} {cd vl : Int} {nm : List ByteArray} {fr : Bool} (h : RowF w lo hi v ws ps es qs hs td cd vl nm fr) : RdF w v ws ps es qs hs td cd vl nm fr := by
  obtain ⟨vW, vP, vS, vQ, vH, vT, vN, ld, ud, lh, uh, lt, ut, ln, un, rfl, a, b, c, d, -⟩ := h
  obtain ⟨aW, cW, aP, cP, aS, cS, aQ, cQ, e, -, -⟩ := a.rd.form
  cases e
  obtain ⟨-, aH, cH, rfl, -⟩ := b.rd
  obtain ⟨-, aT, cT, rfl, -⟩ := c.1
  obtain ⟨-, aN, cN, rfl, -⟩ := d.rd
  exact ⟨aW, cW, aP, cP, aS, cS, aQ, cQ, aH, cH, aT, cT, aN, cN, rfl, a.rd, b.rd, c.1, d.rd⟩
theorem RowF.below {w w' : World} {lo hi : Nat} {v : Value} {ws : List Int} {ps : List St} {es : List Int} {qs : List Se} {hs : List Int} {td : List Mi} {cd vl : Int} {nm : List ByteArray} {fr : Bool} (h : RowF w lo hi v ws ps es qs hs td cd vl nm fr) {B : Nat} (hb : Below B w w') (hB : hi ≤ B) : RowF w' lo hi v ws ps es qs hs td cd vl nm fr := by
  obtain ⟨vW, vP, vS, vQ, vH, vT, vN, ld, ud, lh, uh, lt, ut, ln, un, rfl, a, b, c, d, f⟩ := h
  have := f.d1; have := f.h1; have := f.t1; have := f.n1
  exact ⟨vW, vP, vS, vQ, vH, vT, vN, ld, ud, lh, uh, lt, ut, ln, un, rfl, a.below hb (by omega), b.below hb (by omega), c.below hb (by omega), d.below hb (by omega), f⟩
theorem RowF.outside {w w' : World} {lo hi : Nat} {v : Value} {ws : List Int} {ps : List St} {es : List Int} {qs : List Se} {hs : List Int} {td : List Mi} {cd vl : Int} {nm : List ByteArray} {fr : Bool} (h : RowF w lo hi v ws ps es qs hs td cd vl nm fr) {lo' hi' : Nat} (ho : Outside lo' hi' w w') (hd : hi ≤ lo' ∨ hi' ≤ lo) (hz : hi ≤ w.heap.size) : RowF w' lo hi v ws ps es qs hs td cd vl nm fr := by
  obtain ⟨vW, vP, vS, vQ, vH, vT, vN, ld, ud, lh, uh, lt, ut, ln, un, rfl, a, b, c, d, f⟩ := h
  have := f.d0; have := f.h0; have := f.t0; have := f.n0
  have := f.d1; have := f.h1; have := f.t1; have := f.n1
  exact ⟨vW, vP, vS, vQ, vH, vT, vN, ld, ud, lh, uh, lt, ut, ln, un, rfl, a.outside ho (by omega) (by omega), b.outside ho (by omega) (by omega), c.outside ho (by omega), d.outside ho (by omega) (by omega), f⟩
theorem RowF.wide {w : World} {lo hi : Nat} {v : Value} {ws : List Int} {ps : List St} {es : List Int} {qs : List Se} {hs : List Int} {td : List Mi} {cd vl : Int} {nm : List ByteArray} {fr : Bool} (h : RowF w lo hi v ws ps es qs hs td cd vl nm fr) {lo' hi' : Nat} (p : lo' ≤ lo) (q : hi ≤ hi') : RowF w lo' hi' v ws ps es qs hs td cd vl nm fr := by
  obtain ⟨vW, vP, vS, vQ, vH, vT, vN, ld, ud, lh, uh, lt, ut, ln, un, rfl, a, b, c, d, f⟩ := h
  exact ⟨vW, vP, vS, vQ, vH, vT, vN, ld, ud, lh, uh, lt, ut, ln, un, rfl, a, b, c, d, ⟨Nat.le_trans p f.d0, Nat.le_trans f.d1 q, Nat.le_trans p f.h0, Nat.le_trans f.h1 q, Nat.le_trans p f.t0, Nat.le_trans f.t1 q, Nat.le_trans p f.n0, Nat.le_trans f.n1 q, f.dh, f.dt, f.dn, f.ht, f.hn, f.tn⟩⟩
theorem RowF.form {w : World} {lo hi : Nat} {v : Value} {ws : List Int} {ps : List St} {es : List Int} {qs : List Se} {hs : List Int} {td : List Mi} {cd vl : Int} {nm : List ByteArray} {fr : Bool} (h : RowF w lo hi v ws ps es qs hs td cd vl nm fr) : ∃ aW cW aP cP aS cS aQ cQ aH cH aT cT aN cN, v = .agg #[.slice aW ws.length cW, .slice aP ps.length cP, .slice aS es.length cS, .slice aQ qs.length cQ, .slice aH hs.length cH, .slice aT td.length cT, .int .i64 cd, .int .i64 vl, .slice aN nm.length cN, .bool fr] := by
  obtain ⟨aW, cW, aP, cP, aS, cS, aQ, cQ, aH, cH, aT, cT, aN, cN, rfl, -⟩ := h.rd
  exact ⟨aW, cW, aP, cP, aS, cS, aQ, cQ, aH, cH, aT, cT, aN, cN, rfl⟩
end Go.Proofs.YtipklbnfobckaaaGreatDoor

namespace Go.Proofs.YtipklbnfobckaaaGreatDoor
open Go.RowKit

set_option maxRecDepth 100000 in
set_option maxHeartbeats 4000000 in
theorem eqAnswer_same (c v : Int) (va vb : Value) (ss : List ByteArray) (w : World) (ha : RdT w va ss) (hb : RdT w vb ss) (hn : ss.length ≤ 2147483648) :
    Calls Tryz.prog 30 #[.agg #[.int .i64 c, .int .i64 v, va], .agg #[.int .i64 c, .int .i64 v, vb]] w fun e w' => e = .returned (.bool true) ∧ Below w.heap.size w w' := by
  have LE := hideIt (fun w1 (h : Below w.heap.size w w1) => eqStringS_same va vb ss w1 (Rd.below ha h) (Rd.below hb h) hn)
  obtain ⟨-, aa, ca, rfl, -⟩ := ha
  obtain ⟨-, ab, cb, rfl, -⟩ := hb
  have BW : Hid (Below w.heap.size w ((w.alloc (.cells #[.int .i64 c, .int .i64 v, .slice aa ss.length ca] 48)).alloc (.cells #[.int .i64 c, .int .i64 v, .slice ab ss.length cb] 48))) := ((Below.refl _ _).alloc (Nat.le_refl _) _).alloc (by simp) _
  go_enter Tryz.func30, Tryz.ntmps30
  go_wp2_with fail
  refine (LE.out _ BW.out).mono ?_
  rintro e w1 ⟨rfl, hb1⟩
  have B1 := hideIt (below_trans BW.out hb1 BW.out.size)
  clear hb1
  go_wp2
  go_ret
  exact ⟨rfl, B1.out⟩
end Go.Proofs.YtipklbnfobckaaaGreatDoor
