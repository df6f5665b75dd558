/-
  DERIVED. GIVEN WITH THE SEED: THE PROGRAM's TIES (one call each: nine closed facts by the kernel) AND EACH ROW's TIE, after the 31st guide's Derived/Test/Toyas{Tie, Card}.lean. No idea stands in it: it is a product of the set-up. Laid BY PROGRAM, IN A SANDBOX (cutbox-door.mjs). By AI agents, Wed Nov 11 2026. No macro, syntax, notation, axiom, sorry.
-/
import Derived.Test.YtjhndhjlknakkaaDoorRows
import Derived.LaidByTextLater
import Derived.SevenTiedAt
import Derived.LaidSub
import Derived.LaidOnce
namespace Go.Proofs.YtjhndhjlknakkaaDoor
open Go
set_option maxRecDepth 100000
theorem seatTie1 : Tryd.prog.laidByTextLater [("math/bits.deBruijn32tab", Rows.laid_math_bits_deBruijn32tab), ("math/bits.deBruijn64tab", Rows.laid_math_bits_deBruijn64tab), ("internal/strconv.uint64pow10", Rows.laid_internal_strconv_uint64pow10), ("loop.example/g00460/impl.hexDigits", Rows.laid_loop_example_g00460_impl_hexDigits), ("loop.example/g00460/impl.regNames", Rows.laid_loop_example_g00460_impl_regNames), ("loop.example/g00460/impl.pairNames", Rows.laid_loop_example_g00460_impl_pairNames), ("loop.example/g00460/impl.stackNames", Rows.laid_loop_example_g00460_impl_stackNames), ("loop.example/g00460/impl.placeNames", Rows.laid_loop_example_g00460_impl_placeNames), ("loop.example/g00460/impl.condNames", Rows.laid_loop_example_g00460_impl_condNames), ("loop.example/g00460/impl.aluNames", Rows.laid_loop_example_g00460_impl_aluNames), ("loop.example/g00460/impl.turnNames", Rows.laid_loop_example_g00460_impl_turnNames), ("loop.example/g00460/impl.bitNames", Rows.laid_loop_example_g00460_impl_bitNames)] [.data, .data, .data, .data, .data, .data, .data, .data, .data, .data, .data, .data] true :=
  Program.laidByTextLater_by_one 69 8 65 (by kernel_rfl) (by kernel_rfl) (by kernel_rfl) (by kernel_rfl) (by kernel_rfl) (by kernel_rfl) (fun _ _ => by kernel_rfl)
theorem noOwnUnsafe : Tryd.pinned.checked.prog.headLifts.contains "ownunsafe" = false := by kernel_rfl
theorem tie : Tryd.prog.laidByTextLater [("math/bits.deBruijn32tab", Rows.laid_math_bits_deBruijn32tab), ("math/bits.deBruijn64tab", Rows.laid_math_bits_deBruijn64tab), ("internal/strconv.uint64pow10", Rows.laid_internal_strconv_uint64pow10), ("loop.example/g00460/impl.hexDigits", Rows.laid_loop_example_g00460_impl_hexDigits), ("loop.example/g00460/impl.regNames", Rows.laid_loop_example_g00460_impl_regNames), ("loop.example/g00460/impl.pairNames", Rows.laid_loop_example_g00460_impl_pairNames), ("loop.example/g00460/impl.stackNames", Rows.laid_loop_example_g00460_impl_stackNames), ("loop.example/g00460/impl.placeNames", Rows.laid_loop_example_g00460_impl_placeNames), ("loop.example/g00460/impl.condNames", Rows.laid_loop_example_g00460_impl_condNames), ("loop.example/g00460/impl.aluNames", Rows.laid_loop_example_g00460_impl_aluNames), ("loop.example/g00460/impl.turnNames", Rows.laid_loop_example_g00460_impl_turnNames), ("loop.example/g00460/impl.bitNames", Rows.laid_loop_example_g00460_impl_bitNames)] [.data, .data, .data, .data, .data, .data, .data, .data, .data, .data, .data, .data] true :=
  Program.laidByTextLater.sub seatTie1 ["math/bits.deBruijn32tab", "math/bits.deBruijn64tab", "internal/strconv.uint64pow10", "loop.example/g00460/impl.hexDigits", "loop.example/g00460/impl.regNames", "loop.example/g00460/impl.pairNames", "loop.example/g00460/impl.stackNames", "loop.example/g00460/impl.placeNames", "loop.example/g00460/impl.condNames", "loop.example/g00460/impl.aluNames", "loop.example/g00460/impl.turnNames", "loop.example/g00460/impl.bitNames"] (by kernel_rfl) (by kernel_rfl)
theorem fnTemplates_row_tie : Rows.fnTemplatesRow.laidByTextAt .later Tryd.pinned [.data, .data, .data, .data, .data, .data, .data, .data, .data, .data, .data, .data] true :=
  OpenClaim.laidByTextAt_later rfl rfl tie noOwnUnsafe
theorem fnTemplatesUpto_row_tie : Rows.fnTemplatesUptoRow.laidByTextAt .later Tryd.pinned [.data, .data, .data, .data, .data, .data, .data, .data, .data, .data, .data, .data] true :=
  OpenClaim.laidByTextAt_later rfl rfl tie noOwnUnsafe
end Go.Proofs.YtjhndhjlknakkaaDoor
