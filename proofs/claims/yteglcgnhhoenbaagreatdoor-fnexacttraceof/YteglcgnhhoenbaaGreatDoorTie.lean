/-
  DERIVED. GIVEN WITH THE SEED: THE PROGRAM's TIES (one call each: nine closed facts by the kernel) AND EACH ROW's TIE, after the 31st guide's Derived/Test/Toyas{Tie, Card}.lean. No idea stands in it: it is a product of the set-up. Laid BY PROGRAM, IN A SANDBOX (cutbox-door.mjs). By AI agents, Wed Nov 11 2026. No macro, syntax, notation, axiom, sorry.
-/
import Derived.Test.YteglcgnhhoenbaaGreatDoorRows
import Derived.LaidByTextLater
import Derived.SevenTiedAt
import Derived.LaidSub
import Derived.LaidOnce
namespace Go.Proofs.YteglcgnhhoenbaaGreatDoor
open Go
set_option maxRecDepth 100000
theorem seatTie1 : Tryz.prog.laidByTextLater [("math/bits.deBruijn32tab", Rows.laid_math_bits_deBruijn32tab), ("math/bits.deBruijn64tab", Rows.laid_math_bits_deBruijn64tab), ("internal/strconv.uint64pow10", Rows.laid_internal_strconv_uint64pow10), ("unicode/utf8.acceptRanges", Rows.laid_unicode_utf8_acceptRanges), ("loop.example/g00460/impl.hexDigits", Rows.laid_loop_example_g00460_impl_hexDigits), ("loop.example/g00460/impl.regNames", Rows.laid_loop_example_g00460_impl_regNames), ("loop.example/g00460/impl.pairNames", Rows.laid_loop_example_g00460_impl_pairNames), ("loop.example/g00460/impl.stackNames", Rows.laid_loop_example_g00460_impl_stackNames), ("loop.example/g00460/impl.placeNames", Rows.laid_loop_example_g00460_impl_placeNames), ("loop.example/g00460/impl.condNames", Rows.laid_loop_example_g00460_impl_condNames), ("loop.example/g00460/impl.aluNames", Rows.laid_loop_example_g00460_impl_aluNames), ("loop.example/g00460/impl.turnNames", Rows.laid_loop_example_g00460_impl_turnNames), ("loop.example/g00460/impl.bitNames", Rows.laid_loop_example_g00460_impl_bitNames)] [.data, .data, .data, .data, .data, .data, .data, .data, .data, .data, .data, .data, .data] true :=
  Program.laidByTextLater_by_one 79 8 65 (by kernel_rfl) (by kernel_rfl) (by kernel_rfl) (by kernel_rfl) (by kernel_rfl) (by kernel_rfl) (fun _ _ => by kernel_rfl)
theorem pin_laid_unicode_utf8_first : Tryz.pinned.checked.prog.pinnedFits "unicode/utf8.first" = true := by kernel_rfl
theorem noOwnUnsafe : Tryz.pinned.checked.prog.headLifts.contains "ownunsafe" = false := by kernel_rfl
theorem tie : Tryz.prog.laidByTextLater [("loop.example/g00460/impl.stackNames", Rows.laid_loop_example_g00460_impl_stackNames), ("loop.example/g00460/impl.bitNames", Rows.laid_loop_example_g00460_impl_bitNames)] [.data, .data] true :=
  Program.laidByTextLater.sub seatTie1 ["loop.example/g00460/impl.stackNames", "loop.example/g00460/impl.bitNames"] (by kernel_rfl) (by kernel_rfl)
theorem fnRunTo_row_tie : Rows.fnRunToRow.laidByTextAt .later Tryz.pinned [.data, .data] true :=
  OpenClaim.laidByTextAt_later rfl rfl tie noOwnUnsafe
theorem fnExactRunTo_row_tie : Rows.fnExactRunToRow.laidByTextAt .later Tryz.pinned [.data, .data] true :=
  OpenClaim.laidByTextAt_later rfl rfl tie noOwnUnsafe
theorem fits2 : Tryz.pinned.checked.prog.listedFits [("math/bits.deBruijn32tab", Rows.laid_math_bits_deBruijn32tab), ("math/bits.deBruijn64tab", Rows.laid_math_bits_deBruijn64tab), ("internal/strconv.uint64pow10", Rows.laid_internal_strconv_uint64pow10), ("unicode/utf8.acceptRanges", Rows.laid_unicode_utf8_acceptRanges), ("loop.example/g00460/impl.hexDigits", Rows.laid_loop_example_g00460_impl_hexDigits), ("loop.example/g00460/impl.regNames", Rows.laid_loop_example_g00460_impl_regNames), ("loop.example/g00460/impl.pairNames", Rows.laid_loop_example_g00460_impl_pairNames), ("loop.example/g00460/impl.stackNames", Rows.laid_loop_example_g00460_impl_stackNames), ("loop.example/g00460/impl.placeNames", Rows.laid_loop_example_g00460_impl_placeNames), ("loop.example/g00460/impl.condNames", Rows.laid_loop_example_g00460_impl_condNames), ("loop.example/g00460/impl.aluNames", Rows.laid_loop_example_g00460_impl_aluNames), ("loop.example/g00460/impl.turnNames", Rows.laid_loop_example_g00460_impl_turnNames), ("loop.example/g00460/impl.bitNames", Rows.laid_loop_example_g00460_impl_bitNames), ("unicode/utf8.first", Rows.laid_unicode_utf8_first)] = true := by
  unfold Program.listedFits
  rw [noOwnUnsafe]
  kernel_rfl
theorem tie2 : Tryz.prog.laidByTextLater [("math/bits.deBruijn32tab", Rows.laid_math_bits_deBruijn32tab), ("math/bits.deBruijn64tab", Rows.laid_math_bits_deBruijn64tab), ("internal/strconv.uint64pow10", Rows.laid_internal_strconv_uint64pow10), ("unicode/utf8.acceptRanges", Rows.laid_unicode_utf8_acceptRanges), ("loop.example/g00460/impl.hexDigits", Rows.laid_loop_example_g00460_impl_hexDigits), ("loop.example/g00460/impl.regNames", Rows.laid_loop_example_g00460_impl_regNames), ("loop.example/g00460/impl.pairNames", Rows.laid_loop_example_g00460_impl_pairNames), ("loop.example/g00460/impl.stackNames", Rows.laid_loop_example_g00460_impl_stackNames), ("loop.example/g00460/impl.placeNames", Rows.laid_loop_example_g00460_impl_placeNames), ("loop.example/g00460/impl.condNames", Rows.laid_loop_example_g00460_impl_condNames), ("loop.example/g00460/impl.aluNames", Rows.laid_loop_example_g00460_impl_aluNames), ("loop.example/g00460/impl.turnNames", Rows.laid_loop_example_g00460_impl_turnNames), ("loop.example/g00460/impl.bitNames", Rows.laid_loop_example_g00460_impl_bitNames)] [.data, .data, .data, .data, .data, .data, .data, .data, .data, .data, .data, .data, .data] true :=
  Program.laidByTextLater.sub seatTie1 ["math/bits.deBruijn32tab", "math/bits.deBruijn64tab", "internal/strconv.uint64pow10", "unicode/utf8.acceptRanges", "loop.example/g00460/impl.hexDigits", "loop.example/g00460/impl.regNames", "loop.example/g00460/impl.pairNames", "loop.example/g00460/impl.stackNames", "loop.example/g00460/impl.placeNames", "loop.example/g00460/impl.condNames", "loop.example/g00460/impl.aluNames", "loop.example/g00460/impl.turnNames", "loop.example/g00460/impl.bitNames"] (by kernel_rfl) (by kernel_rfl)
theorem fnTrace_row_tie : Rows.fnTraceRow.laidByTextAt .later Tryz.pinned [.data, .data, .data, .data, .data, .data, .data, .data, .data, .data, .data, .data, .data, .pinned] true :=
  OpenClaim.laidByTextAt_pinned rfl rfl tie2 rfl rfl rfl rfl (fun y hy _e => by
    simp only [Rows.fnTraceRow, List.zip_cons_cons, List.zip_nil_right, List.mem_cons, List.mem_nil_iff, or_false] at hy
    rcases hy with rfl | rfl | rfl | rfl | rfl | rfl | rfl | rfl | rfl | rfl | rfl | rfl | rfl | rfl
    · cases _e
    · cases _e
    · cases _e
    · cases _e
    · cases _e
    · cases _e
    · cases _e
    · cases _e
    · cases _e
    · cases _e
    · cases _e
    · cases _e
    · cases _e
    · exact ⟨pin_laid_unicode_utf8_first, by kernel_rfl⟩) fits2
theorem fnExactTraceOf_row_tie : Rows.fnExactTraceOfRow.laidByTextAt .later Tryz.pinned [.data, .data, .data, .data, .data, .data, .data, .data, .data, .data, .data, .data, .data, .pinned] true :=
  OpenClaim.laidByTextAt_pinned rfl rfl tie2 rfl rfl rfl rfl (fun y hy _e => by
    simp only [Rows.fnExactTraceOfRow, List.zip_cons_cons, List.zip_nil_right, List.mem_cons, List.mem_nil_iff, or_false] at hy
    rcases hy with rfl | rfl | rfl | rfl | rfl | rfl | rfl | rfl | rfl | rfl | rfl | rfl | rfl | rfl
    · cases _e
    · cases _e
    · cases _e
    · cases _e
    · cases _e
    · cases _e
    · cases _e
    · cases _e
    · cases _e
    · cases _e
    · cases _e
    · cases _e
    · cases _e
    · exact ⟨pin_laid_unicode_utf8_first, by kernel_rfl⟩) fits2
theorem fnRunToUpto_row_tie : Rows.fnRunToUptoRow.laidByTextAt .later Tryz.pinned [.data, .data] true :=
  OpenClaim.laidByTextAt_later rfl rfl tie noOwnUnsafe
theorem fnTraceUpto_row_tie : Rows.fnTraceUptoRow.laidByTextAt .later Tryz.pinned [.data, .data, .data, .data, .data, .data, .data, .data, .data, .data, .data, .data, .data, .pinned] true :=
  OpenClaim.laidByTextAt_pinned rfl rfl tie2 rfl rfl rfl rfl (fun y hy _e => by
    simp only [Rows.fnTraceUptoRow, List.zip_cons_cons, List.zip_nil_right, List.mem_cons, List.mem_nil_iff, or_false] at hy
    rcases hy with rfl | rfl | rfl | rfl | rfl | rfl | rfl | rfl | rfl | rfl | rfl | rfl | rfl | rfl
    · cases _e
    · cases _e
    · cases _e
    · cases _e
    · cases _e
    · cases _e
    · cases _e
    · cases _e
    · cases _e
    · cases _e
    · cases _e
    · cases _e
    · cases _e
    · exact ⟨pin_laid_unicode_utf8_first, by kernel_rfl⟩) fits2
theorem fnExactRunToUpto_row_tie : Rows.fnExactRunToUptoRow.laidByTextAt .later Tryz.pinned [.data, .data] true :=
  OpenClaim.laidByTextAt_later rfl rfl tie noOwnUnsafe
theorem fnExactTraceOfUpto_row_tie : Rows.fnExactTraceOfUptoRow.laidByTextAt .later Tryz.pinned [.data, .data, .data, .data, .data, .data, .data, .data, .data, .data, .data, .data, .data, .pinned] true :=
  OpenClaim.laidByTextAt_pinned rfl rfl tie2 rfl rfl rfl rfl (fun y hy _e => by
    simp only [Rows.fnExactTraceOfUptoRow, List.zip_cons_cons, List.zip_nil_right, List.mem_cons, List.mem_nil_iff, or_false] at hy
    rcases hy with rfl | rfl | rfl | rfl | rfl | rfl | rfl | rfl | rfl | rfl | rfl | rfl | rfl | rfl
    · cases _e
    · cases _e
    · cases _e
    · cases _e
    · cases _e
    · cases _e
    · cases _e
    · cases _e
    · cases _e
    · cases _e
    · cases _e
    · cases _e
    · cases _e
    · exact ⟨pin_laid_unicode_utf8_first, by kernel_rfl⟩) fits2
end Go.Proofs.YteglcgnhhoenbaaGreatDoor
