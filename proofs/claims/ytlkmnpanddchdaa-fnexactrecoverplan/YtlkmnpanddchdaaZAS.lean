/- Several texts laid together: BlkSm, BlkBar, MiL, MkT, ImA. -/
import Derived.Test.YtlkmnpanddchdaaBlkOKI
import Derived.Deep.RegionLaw
import Derived.Test.YtlkmnpanddchdaaStoreS
import Derived.Test.YtlkmnpanddchdaaZAO
import Derived.Test.YtlkmnpanddchdaaMem
import Derived.Laws.IdiomStrings
import Derived.Laws.BytesArg
import Derived.Deep.OwnRows
import Derived.WalkKit
import Derived.Test.YtlkmnpanddchdaaIntS
import Derived.BigQuiet
import Derived.Deep.QuietTactic
namespace Go.Proofs.Ytlkmnpanddchdaa
open Go.RowKit

theorem RowBlk.alloc {w : World} {lo hi : Nat} {v : Value} {ws : List Int} {ps : List Se} (h : RowBlk w lo hi v ws ps) (hi1 : hi ≤ w.heap.size) (o : Obj) : RowBlk (w.alloc o) lo hi v ws ps :=
  h.below ((Below.refl _ _).alloc (Nat.le_refl _) o) hi1
/-- The shape of a slice, its length as it is wanted. -/
theorem RdE.form {w : World} {v : Value} {ps : List Se} (h : RdE w v ps) {n : Nat} (hn : ps.length = n) : ∃ ao cap, v = .slice ao n cap := by
  obtain ⟨ao, cap, e, _⟩ := h.shape
  exact ⟨ao, cap, by rw [← hn]; exact e⟩
end Go.Proofs.Ytlkmnpanddchdaa

namespace Go.Proofs.Ytlkmnpanddchdaa
open Go.RowKit

/-- The sectors with the writes laid one after the other. -/
def layE (ws : List Int) (ps : List Se) : List Int := ps.foldl (fun acc p => acc.set p.at_.toNat p.val) ws
/-- In the midst of a barrier: the sectors so far, and the writes. -/
structure BarInv (w wr : World) (eZ : TypeId) (ws : List Int) (ps : List Se) (lo hi : Nat) (vW vP : Value) (m : Nat) : Prop where
  words : Row wr eZ 1 lo hi vW ws.length (ints (layE ws (ps.take m)))
  pend : Row wr 96 2 lo hi vP ps.length (ses ps)
  box : wr.heap[w.heap.size]? = some (.cells #[vW, vP] 40 (0, 0))
  res : wr.heap[w.heap.size + 1]? = some (.cells #[.slice none 0 0, .slice none 0 0] 40 (0, 0))
  below : Below w.heap.size w wr
  size : hi ≤ wr.heap.size
theorem BarInv.drew {w wr : World} {eZ : TypeId} {ws : List Int} {ps : List Se} {lo hi : Nat} {vW vP : Value} {m : Nat} (h : BarInv w wr eZ ws ps lo hi vW vP m) : BarInv w wr.drew eZ ws ps lo hi vW vP m := by
  obtain ⟨h1, h2, h4, h5, h6, h7⟩ := h
  exact ⟨h1.same (fun _ _ _ => rfl), h2.same (fun _ _ _ => rfl), h4, h5, h6.drew, h7⟩

end Go.Proofs.Ytlkmnpanddchdaa

namespace Go.Proofs.Ytlkmnpanddchdaa
open Go.RowKit

def Mi.cells (s : Mi) : List Value := [.int .i64 s.kind, .int .i64 s.at_, .int .i64 s.val]
def mis (ps : List Mi) : List Value := ps.flatMap Mi.cells

theorem Mi.cells_len (s : Mi) : s.cells.length = 3 := rfl
theorem mis_len (ps : List Mi) : (mis ps).length = ps.length * 3 := flatMap_len _ 3 Mi.cells_len ps
theorem mis_at0 (ps : List Mi) (k : Nat) (h : k < ps.length) : (mis ps)[k * 3]? = some (.int .i64 ps[k].kind) := flatMap_at _ 3 Mi.cells_len ps k 0 h (by omega)
theorem mis_at1 (ps : List Mi) (k : Nat) (h : k < ps.length) : (mis ps)[k * 3 + 1]? = some (.int .i64 ps[k].at_) := flatMap_at _ 3 Mi.cells_len ps k 1 h (by omega)
theorem mis_at2 (ps : List Mi) (k : Nat) (h : k < ps.length) : (mis ps)[k * 3 + 2]? = some (.int .i64 ps[k].val) := flatMap_at _ 3 Mi.cells_len ps k 2 h (by omega)

/-- A slice of steps that can be read. -/
def RdM (w : World) (v : Value) (ps : List Mi) : Prop := Rd w 3 v ps.length (mis ps)
theorem RdM.shape {w : World} {v : Value} {ps : List Mi} (h : RdM w v ps) : ∃ ao cap, v = .slice ao ps.length cap ∧ ps.length ≤ cap ∧ (0 < ps.length → ∃ b o, ao = some ⟨b, o, none⟩ ∧ b < w.heap.size ∧
    ∀ k (h : k < ps.length), w.cell? ⟨b, o + k * 3, none⟩ = some (.int .i64 ps[k].kind) ∧ w.cell? ⟨b, o + k * 3 + 1, none⟩ = some (.int .i64 ps[k].at_) ∧ w.cell? ⟨b, o + k * 3 + 2, none⟩ = some (.int .i64 ps[k].val)) := by
  obtain ⟨_, ao, cap, rfl, h2, h3⟩ := h
  refine ⟨ao, cap, rfl, h2.1, fun hn => ?_⟩
  obtain ⟨b, o, rfl, hb, hc⟩ := h3 hn
  exact ⟨b, o, rfl, hb, fun k hk => ⟨(hc (k * 3) (by omega)).trans (mis_at0 ps k hk), (hc (k * 3 + 1) (by omega)).trans (mis_at1 ps k hk), (hc (k * 3 + 2) (by omega)).trans (mis_at2 ps k hk)⟩⟩

theorem infoMic : (Try.prog.info? 58).map (fun i => (i.zero, i.size, i.bytes)) = some (some (.agg #[.int .i64 0, .int .i64 0, .int .i64 0]), 3, 24) := by kernel_rfl

theorem put3M_step {ys : List Value} {ps : List Mi} {k : Nat} (hk : k < ps.length) (hl : ys.length = ps.length * 3) (h : ∀ j, j < k * 3 → ys[j]? = (mis ps)[j]?) :
    ∀ j, j < (k + 1) * 3 → (put3 ys k (.int .i64 ps[k].kind) (.int .i64 ps[k].at_) (.int .i64 ps[k].val))[j]? = (mis ps)[j]? := by
  intro j hj
  rw [put3_at (by omega)]
  split
  · rename_i e; rw [e, mis_at2 ps k hk]
  · split
    · rename_i e; rw [e, mis_at1 ps k hk]
    · split
      · rename_i e; rw [e, mis_at0 ps k hk]
      · exact h j (by omega)
theorem mis_all {ys : List Value} {ps : List Mi} (hl : ys.length = ps.length * 3) (h : ∀ j, j < ps.length * 3 → ys[j]? = (mis ps)[j]?) : ys = mis ps := by
  apply List.ext_getElem?
  intro j
  by_cases hj : j < ps.length * 3
  · exact h j hj
  · rw [List.getElem?_eq_none (by omega), List.getElem?_eq_none (by rw [mis_len]; omega)]

set_option maxHeartbeats 1000000 in
theorem eqMic_same (a v : Int) (f : Int) (w : World) : Calls Try.prog 22 #[.agg #[.int .i64 a, .int .i64 v, .int .i64 f], .agg #[.int .i64 a, .int .i64 v, .int .i64 f]] w fun e w' => e = .returned (.bool true) ∧ Below w.heap.size w w' := by
  go_enter Try.func22, Try.ntmps22
  go_wp2
  go_ret
  refine ⟨rfl, ?_⟩
  repeat (refine Below.alloc ?_ (by simp <;> omega) _)
  exact Below.refl _ _
end Go.Proofs.Ytlkmnpanddchdaa

namespace Go.Proofs.Ytlkmnpanddchdaa
open Go.RowKit

/-- A number's digits ahead of a text. -/
def mkS : Nat → Nat → ByteArray → ByteArray
  | 0, _, acc => acc
  | f + 1, k, acc => if k = 0 then acc else mkS f (k / 10) (⟨#[UInt8.ofNat (48 + k % 10)]⟩ ++ acc)
/-- The text of a mark. -/
def mtx (k : Nat) : ByteArray := if k = 0 then ⟨#[109, 48]⟩ else ⟨#[109]⟩ ++ mkS 40 k ⟨#[]⟩

end Go.Proofs.Ytlkmnpanddchdaa

namespace Go.Proofs.Ytlkmnpanddchdaa
open Go.RowKit

theorem eight_at {w : World} {b : Nat} {t : TypeId} {xs : List Value} (h : w.heap[b]? = some (.cells xs.toArray t (0, 0))) (j : Nat) : w.cell? ⟨b, j, none⟩ = xs[j]? ∧ w.frozen? ⟨b, j, none⟩ = false := by
  simp [World.cell?, World.frozen?, h]
/-- An inode. -/
structure Ino where
  kind : Int
  size : Int
  links : Int
  m0 : Int
  m1 : Int
  m2 : Int
  m3 : Int
  m4 : Int
  m5 : Int
  m6 : Int
  m7 : Int
/-- The map of an inode, as a list. -/
def Ino.map (x : Ino) : List Int := [x.m0, x.m1, x.m2, x.m3, x.m4, x.m5, x.m6, x.m7]
/-- An inode as a value. -/
def Ino.v (x : Ino) : Value := .agg #[.int .i64 x.kind, .int .i64 x.size, .int .i64 x.links, .int .i64 x.m0, .int .i64 x.m1, .int .i64 x.m2, .int .i64 x.m3, .int .i64 x.m4, .int .i64 x.m5, .int .i64 x.m6, .int .i64 x.m7]
/-- An inode's cells. -/
def Ino.cs (x : Ino) : List Value := [.int .i64 x.kind, .int .i64 x.size, .int .i64 x.links, .int .i64 x.m0, .int .i64 x.m1, .int .i64 x.m2, .int .i64 x.m3, .int .i64 x.m4, .int .i64 x.m5, .int .i64 x.m6, .int .i64 x.m7]

end Go.Proofs.Ytlkmnpanddchdaa
