/- A file system's value: what can be read of it, and what is a call's own. -/
import Derived.Test.YtlkmnpanddchdaaZAU
import Derived.Test.YtlkmnpanddchdaaMiT
namespace Go.Proofs.Ytlkmnpanddchdaa
open Go.RowKit

/-- Steps that may be written: they lie in a block of one's own, at whatever place. -/
def RowW (w : World) (lo hi : Nat) (v : Value) (td : List Mi) : Prop := RdM w v td ∧ (∀ b, v.ownBlock = some b → lo ≤ b ∧ b < hi ∧ b < w.heap.size ∧ (∀ j, w.frozen? ⟨b, j, none⟩ = false) ∧ ∃ o n c, v = .slice (some ⟨b, o, none⟩) n c)
theorem RowW.rd {w : World} {lo hi : Nat} {v : Value} {td : List Mi} (h : RowW w lo hi v td) : RdM w v td := h.1
theorem RowW.same {w w' : World} {lo hi : Nat} {v : Value} {td : List Mi} (h : RowW w lo hi v td) (hz : w.heap.size ≤ w'.heap.size) (hs : ∀ b, lo ≤ b → b < hi → b < w.heap.size → w'.heap[b]? = w.heap[b]?) : RowW w' lo hi v td :=
  ⟨Rd.same h.1 hz (fun b hb e => hs b (h.2 b e).1 (h.2 b e).2.1 hb), fun b e => by
    obtain ⟨h1, h2, h3, h4, h5⟩ := h.2 b e
    refine ⟨h1, h2, Nat.lt_of_lt_of_le h3 hz, fun j => ?_, h5⟩
    have := h4 j
    unfold World.frozen? at this ⊢
    simp only [hs b h1 h2 h3]
    exact this⟩
theorem RowW.below {w w' : World} {lo hi : Nat} {v : Value} {td : List Mi} (h : RowW w lo hi v td) {B : Nat} (hb : Below B w w') (hB : hi ≤ B) : RowW w' lo hi v td := h.same hb.size (fun b _ h2 _ => hb.block b (by omega))
theorem RowW.outside {w w' : World} {lo hi : Nat} {v : Value} {td : List Mi} (h : RowW w lo hi v td) {lo' hi' : Nat} (ho : Outside lo' hi' w w') (hd : hi ≤ lo' ∨ hi' ≤ lo) : RowW w' lo hi v td := h.same ho.size (fun b h1 h2 h3 => ho.block b h3 (by omega))
theorem RowW.wide {w : World} {lo hi : Nat} {v : Value} {td : List Mi} (h : RowW w lo hi v td) {lo' hi' : Nat} (h1 : lo' ≤ lo) (h2 : hi ≤ hi') : RowW w lo' hi' v td := ⟨h.1, fun b e => by obtain ⟨a, b', c, d⟩ := h.2 b e; exact ⟨by omega, by omega, c, d⟩⟩
theorem RowW.nil (w : World) (lo hi : Nat) : RowW w lo hi (.slice none 0 0) [] := ⟨(Row.nil w 58 3 lo hi).rd, fun b e => by cases e⟩
/-- A file system that can be read. -/
def RdF (w : World) (v : Value) (ws : List Int) (ps : List St) (es : List Int) (qs : List Se) (hs : List Int) (td : List Mi) (cd vl : Int) (nm : List ByteArray) (fr : Bool) : Prop :=
  ∃ aW cW aP cP aS cS aQ cQ aH cH aT cT aN cN, v = .agg #[.slice aW ws.length cW, .slice aP ps.length cP, .slice aS es.length cS, .slice aQ qs.length cQ, .slice aH hs.length cH, .slice aT td.length cT, .int .i64 cd, .int .i64 vl, .slice aN nm.length cN, .bool fr] ∧ RdDev w (.agg #[.slice aW ws.length cW, .slice aP ps.length cP, .slice aS es.length cS, .slice aQ qs.length cQ]) ws ps es qs ∧ RdI w (.slice aH hs.length cH) hs ∧ RdM w (.slice aT td.length cT) td ∧ RdT w (.slice aN nm.length cN) nm
theorem RdF.below {w w' : World} {v : Value} {ws : List Int} {ps : List St} {es : List Int} {qs : List Se} {hs : List Int} {td : List Mi} {cd vl : Int} {nm : List ByteArray} {fr : Bool} (h : RdF w v ws ps es qs hs td cd vl nm fr) (s : Below w.heap.size w w') : RdF w' v ws ps es qs hs td cd vl nm fr := by
  obtain ⟨aW, cW, aP, cP, aS, cS, aQ, cQ, aH, cH, aT, cT, aN, cN, rfl, a, b, c, d⟩ := h
  exact ⟨aW, cW, aP, cP, aS, cS, aQ, cQ, aH, cH, aT, cT, aN, cN, rfl, a.below s, Rd.below b s, Rd.below c s, Rd.below d s⟩
/-- Where the rows of a file system lie. -/
structure FarF (lo hi ld ud lh uh lt ut ln un : Nat) : Prop where
  d0 : lo ≤ ld
  d1 : ud ≤ hi
  h0 : lo ≤ lh
  h1 : uh ≤ hi
  t0 : lo ≤ lt
  t1 : ut ≤ hi
  n0 : lo ≤ ln
  n1 : un ≤ hi
  dh : ud ≤ lh ∨ uh ≤ ld
  dt : ud ≤ lt ∨ ut ≤ ld
  dn : ud ≤ ln ∨ un ≤ ld
  ht : uh ≤ lt ∨ ut ≤ lh
  hn : uh ≤ ln ∨ un ≤ lh
  tn : ut ≤ ln ∨ un ≤ lt
/-- A file system of a call's own. -/
def RowF (w : World) (lo hi : Nat) (v : Value) (ws : List Int) (ps : List St) (es : List Int) (qs : List Se) (hs : List Int) (td : List Mi) (cd vl : Int) (nm : List ByteArray) (fr : Bool) : Prop :=
  ∃ vW vP vS vQ vH vT vN ld ud lh uh lt ut ln un, v = .agg #[vW, vP, vS, vQ, vH, vT, .int .i64 cd, .int .i64 vl, vN, .bool fr] ∧ RowDev w ld ud (.agg #[vW, vP, vS, vQ]) ws ps es qs ∧ Row w 3 1 lh uh vH hs.length (ints hs) ∧ RowW w lt ut vT td ∧ Row w 9 1 ln un vN nm.length (strs nm) ∧ FarF lo hi ld ud lh uh lt ut ln un
theorem RowF.rd {w : World} {lo hi : Nat} {v : Value} {ws : List Int} {ps : List St} {es : List Int} {qs : List Se} {hs : List Int} {td : List Mi} {cd vl : Int} {nm : List ByteArray} {fr : Bool} (h : RowF w lo hi v ws ps es qs hs td cd vl nm fr) : RdF w v ws ps es qs hs td cd vl nm fr := by
  obtain ⟨vW, vP, vS, vQ, vH, vT, vN, ld, ud, lh, uh, lt, ut, ln, un, rfl, a, b, c, d, -⟩ := h
  obtain ⟨aW, cW, aP, cP, aS, cS, aQ, cQ, e, -, -⟩ := a.rd.form
  cases e
  obtain ⟨-, aH, cH, rfl, -⟩ := b.rd
  obtain ⟨-, aT, cT, rfl, -⟩ := c.1
  obtain ⟨-, aN, cN, rfl, -⟩ := d.rd
  exact ⟨aW, cW, aP, cP, aS, cS, aQ, cQ, aH, cH, aT, cT, aN, cN, rfl, a.rd, b.rd, c.1, d.rd⟩
theorem RowF.below {w w' : World} {lo hi : Nat} {v : Value} {ws : List Int} {ps : List St} {es : List Int} {qs : List Se} {hs : List Int} {td : List Mi} {cd vl : Int} {nm : List ByteArray} {fr : Bool} (h : RowF w lo hi v ws ps es qs hs td cd vl nm fr) {B : Nat} (hb : Below B w w') (hB : hi ≤ B) : RowF w' lo hi v ws ps es qs hs td cd vl nm fr := by
  obtain ⟨vW, vP, vS, vQ, vH, vT, vN, ld, ud, lh, uh, lt, ut, ln, un, rfl, a, b, c, d, f⟩ := h
  have := f.d1; have := f.h1; have := f.t1; have := f.n1
  exact ⟨vW, vP, vS, vQ, vH, vT, vN, ld, ud, lh, uh, lt, ut, ln, un, rfl, a.below hb (by omega), b.below hb (by omega), c.below hb (by omega), d.below hb (by omega), f⟩
theorem RowF.outside {w w' : World} {lo hi : Nat} {v : Value} {ws : List Int} {ps : List St} {es : List Int} {qs : List Se} {hs : List Int} {td : List Mi} {cd vl : Int} {nm : List ByteArray} {fr : Bool} (h : RowF w lo hi v ws ps es qs hs td cd vl nm fr) {lo' hi' : Nat} (ho : Outside lo' hi' w w') (hd : hi ≤ lo' ∨ hi' ≤ lo) (hz : hi ≤ w.heap.size) : RowF w' lo hi v ws ps es qs hs td cd vl nm fr := by
  obtain ⟨vW, vP, vS, vQ, vH, vT, vN, ld, ud, lh, uh, lt, ut, ln, un, rfl, a, b, c, d, f⟩ := h
  have := f.d0; have := f.h0; have := f.t0; have := f.n0
  have := f.d1; have := f.h1; have := f.t1; have := f.n1
  exact ⟨vW, vP, vS, vQ, vH, vT, vN, ld, ud, lh, uh, lt, ut, ln, un, rfl, a.outside ho (by omega) (by omega), b.outside ho (by omega) (by omega), c.outside ho (by omega), d.outside ho (by omega) (by omega), f⟩
theorem RowF.wide {w : World} {lo hi : Nat} {v : Value} {ws : List Int} {ps : List St} {es : List Int} {qs : List Se} {hs : List Int} {td : List Mi} {cd vl : Int} {nm : List ByteArray} {fr : Bool} (h : RowF w lo hi v ws ps es qs hs td cd vl nm fr) {lo' hi' : Nat} (p : lo' ≤ lo) (q : hi ≤ hi') : RowF w lo' hi' v ws ps es qs hs td cd vl nm fr := by
  obtain ⟨vW, vP, vS, vQ, vH, vT, vN, ld, ud, lh, uh, lt, ut, ln, un, rfl, a, b, c, d, f⟩ := h
  exact ⟨vW, vP, vS, vQ, vH, vT, vN, ld, ud, lh, uh, lt, ut, ln, un, rfl, a, b, c, d, ⟨Nat.le_trans p f.d0, Nat.le_trans f.d1 q, Nat.le_trans p f.h0, Nat.le_trans f.h1 q, Nat.le_trans p f.t0, Nat.le_trans f.t1 q, Nat.le_trans p f.n0, Nat.le_trans f.n1 q, f.dh, f.dt, f.dn, f.ht, f.hn, f.tn⟩⟩
theorem RowF.form {w : World} {lo hi : Nat} {v : Value} {ws : List Int} {ps : List St} {es : List Int} {qs : List Se} {hs : List Int} {td : List Mi} {cd vl : Int} {nm : List ByteArray} {fr : Bool} (h : RowF w lo hi v ws ps es qs hs td cd vl nm fr) : ∃ aW cW aP cP aS cS aQ cQ aH cH aT cT aN cN, v = .agg #[.slice aW ws.length cW, .slice aP ps.length cP, .slice aS es.length cS, .slice aQ qs.length cQ, .slice aH hs.length cH, .slice aT td.length cT, .int .i64 cd, .int .i64 vl, .slice aN nm.length cN, .bool fr] := by
  obtain ⟨aW, cW, aP, cP, aS, cS, aQ, cQ, aH, cH, aT, cT, aN, cN, rfl, -⟩ := h.rd
  exact ⟨aW, cW, aP, cP, aS, cS, aQ, cQ, aH, cH, aT, cT, aN, cN, rfl⟩
end Go.Proofs.Ytlkmnpanddchdaa
