/-
  DERIVED. GIVEN WITH THE SEED: THE PROGRAM's TIES (one call each: nine closed facts by the kernel) AND EACH ROW's TIE, after the 31st guide's Derived/Test/Toyas{Tie, Card}.lean. No idea stands in it: it is a product of the set-up. Laid BY PROGRAM, IN A SANDBOX (cutbox-door.mjs). By AI agents, Wed Nov 11 2026. No macro, syntax, notation, axiom, sorry.
-/
import Derived.Test.YtenadnlgjobmdajDoorRows
import Derived.LaidByTextLater
import Derived.SevenTiedAt
import Derived.LaidSub
import Derived.LaidOnce
namespace Go.Proofs.YtenadnlgjobmdajDoor
open Go
set_option maxRecDepth 100000
theorem seatTie1 : Tryd.prog.laidByTextLater [("loop.example/g00410/impl.noWrite", Rows.laid_loop_example_g00410_impl_noWrite), ("loop.example/g00410/impl.tierSizes", Rows.laid_loop_example_g00410_impl_tierSizes)] [.data, .data] true :=
  Program.laidByTextLater_by_one 19 8 4 (by kernel_rfl) (by kernel_rfl) (by kernel_rfl) (by kernel_rfl) (by kernel_rfl) (by kernel_rfl) (fun _ _ => by kernel_rfl)
theorem noOwnUnsafe : Tryd.pinned.checked.prog.headLifts.contains "ownunsafe" = false := by kernel_rfl
theorem tie : Tryd.prog.laidByTextLater [("loop.example/g00410/impl.noWrite", Rows.laid_loop_example_g00410_impl_noWrite)] [.data] true :=
  Program.laidByTextLater.sub seatTie1 ["loop.example/g00410/impl.noWrite"] (by kernel_rfl) (by kernel_rfl)
theorem fnExactBlkCrash_row_tie : Rows.fnExactBlkCrashRow.laidByTextAt .later Tryd.pinned [.data] true :=
  OpenClaim.laidByTextAt_later rfl rfl tie noOwnUnsafe
theorem fnExactBlkUnsure_row_tie : Rows.fnExactBlkUnsureRow.laidByTextAt .later Tryd.pinned [.data] true :=
  OpenClaim.laidByTextAt_later rfl rfl tie noOwnUnsafe
theorem tie2 : Tryd.prog.laidByTextLater [("loop.example/g00410/impl.tierSizes", Rows.laid_loop_example_g00410_impl_tierSizes)] [.data] true :=
  Program.laidByTextLater.sub seatTie1 ["loop.example/g00410/impl.tierSizes"] (by kernel_rfl) (by kernel_rfl)
theorem fnExactPackEntry_row_tie : Rows.fnExactPackEntryRow.laidByTextAt .later Tryd.pinned [.data] true :=
  OpenClaim.laidByTextAt_later rfl rfl tie2 noOwnUnsafe
theorem fnExactTierOf_row_tie : Rows.fnExactTierOfRow.laidByTextAt .later Tryd.pinned [.data] true :=
  OpenClaim.laidByTextAt_later rfl rfl tie2 noOwnUnsafe
theorem fnExactBlkCrashUpto_row_tie : Rows.fnExactBlkCrashUptoRow.laidByTextAt .later Tryd.pinned [.data] true :=
  OpenClaim.laidByTextAt_later rfl rfl tie noOwnUnsafe
theorem fnExactBlkUnsureUpto_row_tie : Rows.fnExactBlkUnsureUptoRow.laidByTextAt .later Tryd.pinned [.data] true :=
  OpenClaim.laidByTextAt_later rfl rfl tie noOwnUnsafe
theorem fnExactPackEntryUpto_row_tie : Rows.fnExactPackEntryUptoRow.laidByTextAt .later Tryd.pinned [.data] true :=
  OpenClaim.laidByTextAt_later rfl rfl tie2 noOwnUnsafe
theorem fnExactTierOfUpto_row_tie : Rows.fnExactTierOfUptoRow.laidByTextAt .later Tryd.pinned [.data] true :=
  OpenClaim.laidByTextAt_later rfl rfl tie2 noOwnUnsafe
end Go.Proofs.YtenadnlgjobmdajDoor
