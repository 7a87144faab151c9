/-
  DERIVED. GIVEN WITH THE SEED: THE PROGRAM's TIES (one call each: nine closed facts by the kernel) AND EACH ROW's TIE, after the 31st guide's Derived/Test/Toyas{Tie, Card}.lean. No idea stands in it: it is a product of the set-up. Laid BY PROGRAM, IN A SANDBOX (cutbox-door.mjs). By AI agents, Wed Nov 11 2026. No macro, syntax, notation, axiom, sorry.
-/
import Derived.Test.YtahiphgmhndgaaaGreatDoorRows
import Derived.LaidByTextLater
import Derived.SevenTiedAt
import Derived.LaidSub
import Derived.LaidOnce
namespace Go.Proofs.YtahiphgmhndgaaaGreatDoor
open Go
set_option maxRecDepth 100000
theorem seatTie1 : Tryz.prog.laidByTextLater [("loop.example/g00410/impl.noWrite", Rows.laid_loop_example_g00410_impl_noWrite), ("loop.example/g00410/impl.tierSizes", Rows.laid_loop_example_g00410_impl_tierSizes), ("loop.example/g00410/impl.stepBounds", Rows.laid_loop_example_g00410_impl_stepBounds), ("loop.example/g00410/impl.emptyDir", Rows.laid_loop_example_g00410_impl_emptyDir), ("loop.example/g00410/impl.freeDirent", Rows.laid_loop_example_g00410_impl_freeDirent)] [.data, .data, .data, .data, .data] true :=
  Program.laidByTextLater_by_one 39 8 13 (by kernel_rfl) (by kernel_rfl) (by kernel_rfl) (by kernel_rfl) (by kernel_rfl) (by kernel_rfl) (fun _ _ => by kernel_rfl)
theorem noOwnUnsafe : Tryz.pinned.checked.prog.headLifts.contains "ownunsafe" = false := by kernel_rfl
theorem tie : Tryz.prog.laidByTextLater [("loop.example/g00410/impl.noWrite", Rows.laid_loop_example_g00410_impl_noWrite), ("loop.example/g00410/impl.tierSizes", Rows.laid_loop_example_g00410_impl_tierSizes), ("loop.example/g00410/impl.stepBounds", Rows.laid_loop_example_g00410_impl_stepBounds), ("loop.example/g00410/impl.emptyDir", Rows.laid_loop_example_g00410_impl_emptyDir), ("loop.example/g00410/impl.freeDirent", Rows.laid_loop_example_g00410_impl_freeDirent)] [.data, .data, .data, .data, .data] true :=
  Program.laidByTextLater.sub seatTie1 ["loop.example/g00410/impl.noWrite", "loop.example/g00410/impl.tierSizes", "loop.example/g00410/impl.stepBounds", "loop.example/g00410/impl.emptyDir", "loop.example/g00410/impl.freeDirent"] (by kernel_rfl) (by kernel_rfl)
theorem fnExactCrashFs_row_tie : Rows.fnExactCrashFsRow.laidByTextAt .later Tryz.pinned [.data, .data, .data, .data, .data] true :=
  OpenClaim.laidByTextAt_later rfl rfl tie noOwnUnsafe
theorem fnExactCrashTwice_row_tie : Rows.fnExactCrashTwiceRow.laidByTextAt .later Tryz.pinned [.data, .data, .data, .data, .data] true :=
  OpenClaim.laidByTextAt_later rfl rfl tie noOwnUnsafe
theorem fnExactCrashFsUpto_row_tie : Rows.fnExactCrashFsUptoRow.laidByTextAt .later Tryz.pinned [.data, .data, .data, .data, .data] true :=
  OpenClaim.laidByTextAt_later rfl rfl tie noOwnUnsafe
theorem fnExactCrashTwiceUpto_row_tie : Rows.fnExactCrashTwiceUptoRow.laidByTextAt .later Tryz.pinned [.data, .data, .data, .data, .data] true :=
  OpenClaim.laidByTextAt_later rfl rfl tie noOwnUnsafe
end Go.Proofs.YtahiphgmhndgaaaGreatDoor
