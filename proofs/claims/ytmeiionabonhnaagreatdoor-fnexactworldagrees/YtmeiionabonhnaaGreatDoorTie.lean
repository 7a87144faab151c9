/-
  DERIVED. GIVEN WITH THE SEED: THE PROGRAM's TIES (one call each: nine closed facts by the kernel) AND EACH ROW's TIE, after the 31st guide's Derived/Test/Toyas{Tie, Card}.lean. No idea stands in it: it is a product of the set-up. Laid BY PROGRAM, IN A SANDBOX (cutbox-door.mjs). By AI agents, Wed Nov 11 2026. No macro, syntax, notation, axiom, sorry.
-/
import Derived.Test.YtmeiionabonhnaaGreatDoorRows
import Derived.LaidByTextLater
import Derived.SevenTiedAt
import Derived.LaidSub
import Derived.LaidOnce
namespace Go.Proofs.YtmeiionabonhnaaGreatDoor
open Go
set_option maxRecDepth 100000
theorem seatTie1 : Tryz.prog.laidByTextLater [("math/bits.deBruijn32tab", Rows.laid_math_bits_deBruijn32tab), ("math/bits.deBruijn64tab", Rows.laid_math_bits_deBruijn64tab), ("internal/strconv.uint64pow10", Rows.laid_internal_strconv_uint64pow10), ("loop.example/g00410/impl.noWrite", Rows.laid_loop_example_g00410_impl_noWrite), ("loop.example/g00410/impl.tierSizes", Rows.laid_loop_example_g00410_impl_tierSizes), ("loop.example/g00410/impl.stepBounds", Rows.laid_loop_example_g00410_impl_stepBounds), ("loop.example/g00410/impl.emptyDir", Rows.laid_loop_example_g00410_impl_emptyDir), ("loop.example/g00410/impl.freeDirent", Rows.laid_loop_example_g00410_impl_freeDirent)] [.data, .data, .data, .data, .data, .data, .data, .data] true :=
  Program.laidByTextLater_by_one 54 8 65 (by kernel_rfl) (by kernel_rfl) (by kernel_rfl) (by kernel_rfl) (by kernel_rfl) (by kernel_rfl) (fun _ _ => by kernel_rfl)
theorem noOwnUnsafe : Tryz.pinned.checked.prog.headLifts.contains "ownunsafe" = false := by kernel_rfl
theorem tie : Tryz.prog.laidByTextLater [("math/bits.deBruijn32tab", Rows.laid_math_bits_deBruijn32tab), ("math/bits.deBruijn64tab", Rows.laid_math_bits_deBruijn64tab), ("internal/strconv.uint64pow10", Rows.laid_internal_strconv_uint64pow10), ("loop.example/g00410/impl.tierSizes", Rows.laid_loop_example_g00410_impl_tierSizes), ("loop.example/g00410/impl.emptyDir", Rows.laid_loop_example_g00410_impl_emptyDir), ("loop.example/g00410/impl.freeDirent", Rows.laid_loop_example_g00410_impl_freeDirent)] [.data, .data, .data, .data, .data, .data] true :=
  Program.laidByTextLater.sub seatTie1 ["math/bits.deBruijn32tab", "math/bits.deBruijn64tab", "internal/strconv.uint64pow10", "loop.example/g00410/impl.tierSizes", "loop.example/g00410/impl.emptyDir", "loop.example/g00410/impl.freeDirent"] (by kernel_rfl) (by kernel_rfl)
theorem fnExactModelText_row_tie : Rows.fnExactModelTextRow.laidByTextAt .later Tryz.pinned [.data, .data, .data, .data, .data, .data] true :=
  OpenClaim.laidByTextAt_later rfl rfl tie noOwnUnsafe
theorem fnExactSameModel_row_tie : Rows.fnExactSameModelRow.laidByTextAt .later Tryz.pinned [.data, .data, .data, .data, .data, .data] true :=
  OpenClaim.laidByTextAt_later rfl rfl tie noOwnUnsafe
theorem tie2 : Tryz.prog.laidByTextLater [("math/bits.deBruijn32tab", Rows.laid_math_bits_deBruijn32tab), ("math/bits.deBruijn64tab", Rows.laid_math_bits_deBruijn64tab), ("internal/strconv.uint64pow10", Rows.laid_internal_strconv_uint64pow10), ("loop.example/g00410/impl.noWrite", Rows.laid_loop_example_g00410_impl_noWrite), ("loop.example/g00410/impl.tierSizes", Rows.laid_loop_example_g00410_impl_tierSizes), ("loop.example/g00410/impl.stepBounds", Rows.laid_loop_example_g00410_impl_stepBounds), ("loop.example/g00410/impl.emptyDir", Rows.laid_loop_example_g00410_impl_emptyDir), ("loop.example/g00410/impl.freeDirent", Rows.laid_loop_example_g00410_impl_freeDirent)] [.data, .data, .data, .data, .data, .data, .data, .data] true :=
  Program.laidByTextLater.sub seatTie1 ["math/bits.deBruijn32tab", "math/bits.deBruijn64tab", "internal/strconv.uint64pow10", "loop.example/g00410/impl.noWrite", "loop.example/g00410/impl.tierSizes", "loop.example/g00410/impl.stepBounds", "loop.example/g00410/impl.emptyDir", "loop.example/g00410/impl.freeDirent"] (by kernel_rfl) (by kernel_rfl)
theorem fnExactWorldAgrees_row_tie : Rows.fnExactWorldAgreesRow.laidByTextAt .later Tryz.pinned [.data, .data, .data, .data, .data, .data, .data, .data] true :=
  OpenClaim.laidByTextAt_later rfl rfl tie2 noOwnUnsafe
theorem tie3 : Tryz.prog.laidByTextLater [("math/bits.deBruijn32tab", Rows.laid_math_bits_deBruijn32tab), ("math/bits.deBruijn64tab", Rows.laid_math_bits_deBruijn64tab), ("internal/strconv.uint64pow10", Rows.laid_internal_strconv_uint64pow10), ("loop.example/g00410/impl.noWrite", Rows.laid_loop_example_g00410_impl_noWrite), ("loop.example/g00410/impl.tierSizes", Rows.laid_loop_example_g00410_impl_tierSizes), ("loop.example/g00410/impl.emptyDir", Rows.laid_loop_example_g00410_impl_emptyDir), ("loop.example/g00410/impl.freeDirent", Rows.laid_loop_example_g00410_impl_freeDirent)] [.data, .data, .data, .data, .data, .data, .data] true :=
  Program.laidByTextLater.sub seatTie1 ["math/bits.deBruijn32tab", "math/bits.deBruijn64tab", "internal/strconv.uint64pow10", "loop.example/g00410/impl.noWrite", "loop.example/g00410/impl.tierSizes", "loop.example/g00410/impl.emptyDir", "loop.example/g00410/impl.freeDirent"] (by kernel_rfl) (by kernel_rfl)
theorem fnSame_row_tie : Rows.fnSameRow.laidByTextAt .later Tryz.pinned [.data, .data, .data, .data, .data, .data, .data] true :=
  OpenClaim.laidByTextAt_later rfl rfl tie3 noOwnUnsafe
theorem fnExactModelTextUpto_row_tie : Rows.fnExactModelTextUptoRow.laidByTextAt .later Tryz.pinned [.data, .data, .data, .data, .data, .data] true :=
  OpenClaim.laidByTextAt_later rfl rfl tie noOwnUnsafe
theorem fnExactSameModelUpto_row_tie : Rows.fnExactSameModelUptoRow.laidByTextAt .later Tryz.pinned [.data, .data, .data, .data, .data, .data] true :=
  OpenClaim.laidByTextAt_later rfl rfl tie noOwnUnsafe
theorem fnExactWorldAgreesUpto_row_tie : Rows.fnExactWorldAgreesUptoRow.laidByTextAt .later Tryz.pinned [.data, .data, .data, .data, .data, .data, .data, .data] true :=
  OpenClaim.laidByTextAt_later rfl rfl tie2 noOwnUnsafe
theorem fnSameUpto_row_tie : Rows.fnSameUptoRow.laidByTextAt .later Tryz.pinned [.data, .data, .data, .data, .data, .data, .data] true :=
  OpenClaim.laidByTextAt_later rfl rfl tie3 noOwnUnsafe
end Go.Proofs.YtmeiionabonhnaaGreatDoor
