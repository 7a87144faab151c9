/- Several texts laid together: FsE, AnA. -/
import Derived.Test.YtkchiplcjlgflaaDoorMem
import Derived.Test.YtkchiplcjlgflaaDoorZAC
import Derived.Test.YtkchiplcjlgflaaDoorZAI
import Derived.Test.YtkchiplcjlgflaaDoorNm
import Derived.Test.YtkchiplcjlgflaaDoorZAG
import Derived.Deep.DeepCutAuto
import Derived.Deep.RegionHeld3
import Derived.Deep.RegionLaw
import Derived.Deep.RegionWith
import Derived.Deep.OwnRows
import Derived.Deep.QuietTactic
import Derived.BigQuiet
import Derived.Laws.OwnMore
namespace Go.Proofs.YtkchiplcjlgflaaDoor
open Go.RowKit
theorem tri3 {w : World} {b : Nat} {t : TypeId} {x y z : Value} (h : w.heap[b]? = some (.cells #[x, y, z] t (0, 0))) : w.cell? ⟨b, 0, none⟩ = some x ∧ w.cell? ⟨b, 1, none⟩ = some y ∧ w.cell? ⟨b, 2, none⟩ = some z ∧ w.frozen? ⟨b, 0, none⟩ = false ∧ w.frozen? ⟨b, 1, none⟩ = false ∧ w.frozen? ⟨b, 2, none⟩ = false := by simp [World.cell?, World.frozen?, h]
end Go.Proofs.YtkchiplcjlgflaaDoor

namespace Go.Proofs.YtkchiplcjlgflaaDoor
open Go.RowKit
set_option maxRecDepth 100000 in
set_option maxHeartbeats 4000000 in
theorem eqAnswer_same (c v : Int) (va vb : Value) (ss : List ByteArray) (w : World) (ha : RdT w va ss) (hb : RdT w vb ss) (hn : ss.length ≤ 2147483648) :
    Calls Tryd.prog 10 #[.agg #[.int .i64 c, .int .i64 v, va], .agg #[.int .i64 c, .int .i64 v, vb]] w fun e w' => e = .returned (.bool true) ∧ Below w.heap.size w w' := by
  have LE := hideIt (fun w1 (h : Below w.heap.size w w1) => eqStringS_same va vb ss w1 (Rd.below ha h) (Rd.below hb h) hn)
  obtain ⟨-, aa, ca, rfl, -⟩ := ha
  obtain ⟨-, ab, cb, rfl, -⟩ := hb
  have BW : Hid (Below w.heap.size w ((w.alloc (.cells #[.int .i64 c, .int .i64 v, .slice aa ss.length ca] 33)).alloc (.cells #[.int .i64 c, .int .i64 v, .slice ab ss.length cb] 33))) := ((Below.refl _ _).alloc (Nat.le_refl _) _).alloc (by simp) _
  go_enter Tryd.func10, Tryd.ntmps10
  go_wp2_with fail
  refine (LE.out _ BW.out).mono ?_
  rintro e w1 ⟨rfl, hb1⟩
  have B1 := hideIt (below_trans BW.out hb1 BW.out.size)
  clear hb1
  go_wp2
  go_ret
  exact ⟨rfl, B1.out⟩
end Go.Proofs.YtkchiplcjlgflaaDoor
