/-
  NARROWER THAN 'FOR EVERY INPUT', by the rows' own cells (each row's printed sentence says how): FnRunTo: laid · FnTrace: laid · FnExactRunTo: laid · FnExactTraceOf: laid.
  DERIVED. THE GIVEN ROWS OF THIS SEAT. 4 by the template 'for every input the law returns true; each argument reads behind the call as it read before'; 0 by the template 'total and deterministic' (their statements: YteglcgnhhoenbaaGreatDoorTotals.lean).
  GIVEN WITH THE SEED: the statements are not yours to turn. If you find one false, say at which input.
  Laid BY PROGRAM, IN A SANDBOX (cutbox-rows.mjs): the forced cells as the released guide's own fill.sh prints them over the translation b341e3fd6808755a… (all of the seat's roots in one cut). By AI agents, Wed Nov 11 2026. No macro, syntax, notation, axiom, sorry.
-/
import Derived.Test.YteglcgnhhoenbaaGreatDoorChecked
import GoSem.PinnedTables
import GoSem.Claim
import GoSem.ClaimJoined
import GoSem.ClaimMapViews
import Derived.JoinedTies
import Derived.KernelRfl
namespace Go.Proofs.YteglcgnhhoenbaaGreatDoor
/- THE CELL 'sum', in the pinned program and in every row, IS THE sha256 OF THE DUMP (.gsa) THAT YteglcgnhhoenbaaGreatDoorProg.lean LOADS. Nothing in Lean hashes anything: it is a label: what it is worth is what the hold of that sum in a sandbox is worth. -/
noncomputable def Tryz.pinned : Pinned := { name := "yteglcgnhhoenbaagreatdoor", sum := "b341e3fd6808755a76177af73d87df1a1123179376352a025d3ef0d9ff14b2c4", checked := Tryz.checked }
namespace Rows
def none {H : Type} : Left H := { results := [], args := [] }

/- WHAT THE LISTED PACKAGE-LEVEL VARIABLES READ AS WHEN THE CALL BEGINS. Each datum BY PROGRAM (the guide's laid-datum.mjs) off the statement by which the dump's own 'gosem.cut.vars' lays the variable. In a bare row this is a premise. The card (YteglcgnhhoenbaaGreatDoorCards.lean) ties it to the program's text. -/
def laid_loop_example_g00460_impl_stackNames {H : Type} : DataW H := .agg [.lit (.string [98, 99]), .lit (.string [100, 101]), .lit (.string [104, 108]), .lit (.string [97, 102])]
def laid_loop_example_g00460_impl_bitNames {H : Type} : DataW H := .agg [.lit (.string []), .lit (.string [98, 105, 116]), .lit (.string [114, 101, 115]), .lit (.string [115, 101, 116])]
def laid_math_bits_deBruijn32tab {H : Type} : DataW H := .agg [.lit (.int .u8 0), .lit (.int .u8 1), .lit (.int .u8 28), .lit (.int .u8 2), .lit (.int .u8 29), .lit (.int .u8 14), .lit (.int .u8 24), .lit (.int .u8 3), .lit (.int .u8 30), .lit (.int .u8 22), .lit (.int .u8 20), .lit (.int .u8 15), .lit (.int .u8 25), .lit (.int .u8 17), .lit (.int .u8 4), .lit (.int .u8 8), .lit (.int .u8 31), .lit (.int .u8 27), .lit (.int .u8 13), .lit (.int .u8 23), .lit (.int .u8 21), .lit (.int .u8 19), .lit (.int .u8 16), .lit (.int .u8 7), .lit (.int .u8 26), .lit (.int .u8 12), .lit (.int .u8 18), .lit (.int .u8 6), .lit (.int .u8 11), .lit (.int .u8 5), .lit (.int .u8 10), .lit (.int .u8 9)]
def laid_math_bits_deBruijn64tab {H : Type} : DataW H := .agg [.lit (.int .u8 0), .lit (.int .u8 1), .lit (.int .u8 56), .lit (.int .u8 2), .lit (.int .u8 57), .lit (.int .u8 49), .lit (.int .u8 28), .lit (.int .u8 3), .lit (.int .u8 61), .lit (.int .u8 58), .lit (.int .u8 42), .lit (.int .u8 50), .lit (.int .u8 38), .lit (.int .u8 29), .lit (.int .u8 17), .lit (.int .u8 4), .lit (.int .u8 62), .lit (.int .u8 47), .lit (.int .u8 59), .lit (.int .u8 36), .lit (.int .u8 45), .lit (.int .u8 43), .lit (.int .u8 51), .lit (.int .u8 22), .lit (.int .u8 53), .lit (.int .u8 39), .lit (.int .u8 33), .lit (.int .u8 30), .lit (.int .u8 24), .lit (.int .u8 18), .lit (.int .u8 12), .lit (.int .u8 5), .lit (.int .u8 63), .lit (.int .u8 55), .lit (.int .u8 48), .lit (.int .u8 27), .lit (.int .u8 60), .lit (.int .u8 41), .lit (.int .u8 37), .lit (.int .u8 16), .lit (.int .u8 46), .lit (.int .u8 35), .lit (.int .u8 44), .lit (.int .u8 21), .lit (.int .u8 52), .lit (.int .u8 32), .lit (.int .u8 23), .lit (.int .u8 11), .lit (.int .u8 54), .lit (.int .u8 26), .lit (.int .u8 40), .lit (.int .u8 15), .lit (.int .u8 34), .lit (.int .u8 20), .lit (.int .u8 31), .lit (.int .u8 10), .lit (.int .u8 25), .lit (.int .u8 14), .lit (.int .u8 19), .lit (.int .u8 9), .lit (.int .u8 13), .lit (.int .u8 8), .lit (.int .u8 7), .lit (.int .u8 6)]
def laid_internal_strconv_uint64pow10 {H : Type} : DataW H := .agg [.lit (.int .u64 1), .lit (.int .u64 10), .lit (.int .u64 100), .lit (.int .u64 1000), .lit (.int .u64 10000), .lit (.int .u64 100000), .lit (.int .u64 1000000), .lit (.int .u64 10000000), .lit (.int .u64 100000000), .lit (.int .u64 1000000000), .lit (.int .u64 10000000000), .lit (.int .u64 100000000000), .lit (.int .u64 1000000000000), .lit (.int .u64 10000000000000), .lit (.int .u64 100000000000000), .lit (.int .u64 1000000000000000), .lit (.int .u64 10000000000000000), .lit (.int .u64 100000000000000000), .lit (.int .u64 1000000000000000000), .lit (.int .u64 10000000000000000000)]
def laid_unicode_utf8_acceptRanges {H : Type} : DataW H := .agg [.agg [.lit (.int .u8 128), .lit (.int .u8 191)], .agg [.lit (.int .u8 160), .lit (.int .u8 191)], .agg [.lit (.int .u8 128), .lit (.int .u8 159)], .agg [.lit (.int .u8 144), .lit (.int .u8 191)], .agg [.lit (.int .u8 128), .lit (.int .u8 143)], .agg [.lit (.int .u8 0), .lit (.int .u8 0)], .agg [.lit (.int .u8 0), .lit (.int .u8 0)], .agg [.lit (.int .u8 0), .lit (.int .u8 0)], .agg [.lit (.int .u8 0), .lit (.int .u8 0)], .agg [.lit (.int .u8 0), .lit (.int .u8 0)], .agg [.lit (.int .u8 0), .lit (.int .u8 0)], .agg [.lit (.int .u8 0), .lit (.int .u8 0)], .agg [.lit (.int .u8 0), .lit (.int .u8 0)], .agg [.lit (.int .u8 0), .lit (.int .u8 0)], .agg [.lit (.int .u8 0), .lit (.int .u8 0)], .agg [.lit (.int .u8 0), .lit (.int .u8 0)]]
def laid_loop_example_g00460_impl_hexDigits {H : Type} : DataW H := .agg [.lit (.int .u8 48), .lit (.int .u8 49), .lit (.int .u8 50), .lit (.int .u8 51), .lit (.int .u8 52), .lit (.int .u8 53), .lit (.int .u8 54), .lit (.int .u8 55), .lit (.int .u8 56), .lit (.int .u8 57), .lit (.int .u8 65), .lit (.int .u8 66), .lit (.int .u8 67), .lit (.int .u8 68), .lit (.int .u8 69), .lit (.int .u8 70)]
def laid_loop_example_g00460_impl_regNames {H : Type} : DataW H := .agg [.lit (.string [98]), .lit (.string [99]), .lit (.string [100]), .lit (.string [101]), .lit (.string [104]), .lit (.string [108]), .lit (.string [91, 104, 108, 93]), .lit (.string [97])]
def laid_loop_example_g00460_impl_pairNames {H : Type} : DataW H := .agg [.lit (.string [98, 99]), .lit (.string [100, 101]), .lit (.string [104, 108]), .lit (.string [115, 112])]
def laid_loop_example_g00460_impl_placeNames {H : Type} : DataW H := .agg [.lit (.string [91, 98, 99, 93]), .lit (.string [91, 100, 101, 93]), .lit (.string [91, 104, 108, 43, 93]), .lit (.string [91, 104, 108, 45, 93])]
def laid_loop_example_g00460_impl_condNames {H : Type} : DataW H := .agg [.lit (.string [110, 122]), .lit (.string [122]), .lit (.string [110, 99]), .lit (.string [99])]
def laid_loop_example_g00460_impl_aluNames {H : Type} : DataW H := .agg [.lit (.string [97, 100, 100]), .lit (.string [97, 100, 99]), .lit (.string [115, 117, 98]), .lit (.string [115, 98, 99]), .lit (.string [97, 110, 100]), .lit (.string [120, 111, 114]), .lit (.string [111, 114]), .lit (.string [99, 112])]
def laid_loop_example_g00460_impl_turnNames {H : Type} : DataW H := .agg [.lit (.string [114, 108, 99]), .lit (.string [114, 114, 99]), .lit (.string [114, 108]), .lit (.string [114, 114]), .lit (.string [115, 108, 97]), .lit (.string [115, 114, 97]), .lit (.string [115, 119, 97, 112]), .lit (.string [115, 114, 108])]
/-- One of Go's own tables, pinned by name: the form's constant. -/
def laid_unicode_utf8_first : DataW Unit := Go.Pinned.utf8First

/-- 'laws.FnRunTo': WHATEVER THE INPUT: true; the input reads as it did. -/
def fnRunToSpec : ChangeSpec := { name := "fnRunTo", vars := ["loop.example/g00460/impl.stackNames", "loop.example/g00460/impl.bitNames"], fn := fun _ => fun
  | [d, g1, g2] => { results := [.lit (.bool true)], args := [d], vars := [g1, g2] }
  | _ => none }
def fnRunToRow : OpenClaim := { program := "yteglcgnhhoenbaagreatdoor", sum := "b341e3fd6808755a76177af73d87df1a1123179376352a025d3ef0d9ff14b2c4", func := "loop.example/g00460/laws.FnRunTo", spec := "fnRunTo", inPlace := ["internal/bytealg.IndexByteString", "internal/bytealg.IndexString"], unfollowed := true, recurses := true, named := ["internal/bytealg.MaxLen", "loop.example/g00460/impl.stackNames", "loop.example/g00460/impl.bitNames"], apart := false, laid := [("loop.example/g00460/impl.stackNames", laid_loop_example_g00460_impl_stackNames), ("loop.example/g00460/impl.bitNames", laid_loop_example_g00460_impl_bitNames)] }
def FnRunToSaid : Prop := fnRunToRow.holds Tryz.pinned (OpenSpec.ofChange fnRunToSpec)

/-- ITS FALSE NEIGHBOUR: 'it returns false'. Refute it at one input. -/
def fnRunToWrong : ChangeSpec := { name := "fnRunTo", vars := ["loop.example/g00460/impl.stackNames", "loop.example/g00460/impl.bitNames"], fn := fun _ => fun
  | [d, g1, g2] => { results := [.lit (.bool false)], args := [d], vars := [g1, g2] }
  | _ => none }
def FnRunToWrongFalsely : Prop := fnRunToRow.holds Tryz.pinned (OpenSpec.ofChange fnRunToWrong)

/-- 'laws.FnTrace': WHATEVER THE INPUT: true; the input reads as it did. -/
def fnTraceSpec : ChangeSpec := { name := "fnTrace", vars := ["loop.example/g00460/impl.stackNames", "loop.example/g00460/impl.bitNames", "loop.example/g00460/impl.hexDigits", "loop.example/g00460/impl.aluNames", "loop.example/g00460/impl.condNames", "loop.example/g00460/impl.placeNames", "loop.example/g00460/impl.pairNames", "loop.example/g00460/impl.regNames", "loop.example/g00460/impl.turnNames"], fn := fun _ => fun
  | [d, g1, g2, g3, g4, g5, g6, g7, g8, g9] => { results := [.lit (.bool true)], args := [d], vars := [g1, g2, g3, g4, g5, g6, g7, g8, g9] }
  | _ => none }
def fnTraceRow : OpenClaim := { program := "yteglcgnhhoenbaagreatdoor", sum := "b341e3fd6808755a76177af73d87df1a1123179376352a025d3ef0d9ff14b2c4", func := "loop.example/g00460/laws.FnTrace", spec := "fnTrace", inPlace := ["internal/bytealg.IndexByteString", "internal/bytealg.IndexString", "internal/abi.NoEscape", "internal/bytealg.CountString", "internal/bytealg.MakeNoZero"], unfollowed := true, recurses := true, named := ["internal/bytealg.MaxLen", "loop.example/g00460/impl.stackNames", "loop.example/g00460/impl.bitNames", "loop.example/g00460/impl.hexDigits", "loop.example/g00460/impl.aluNames", "loop.example/g00460/impl.condNames", "loop.example/g00460/impl.placeNames", "loop.example/g00460/impl.pairNames", "loop.example/g00460/impl.regNames", "loop.example/g00460/impl.turnNames", "internal/strconv.uint64pow10", "math/bits.deBruijn32tab", "math/bits.deBruijn64tab", "unicode/utf8.first", "unicode/utf8.acceptRanges"], apart := false, laid := [("math/bits.deBruijn32tab", laid_math_bits_deBruijn32tab), ("math/bits.deBruijn64tab", laid_math_bits_deBruijn64tab), ("internal/strconv.uint64pow10", laid_internal_strconv_uint64pow10), ("unicode/utf8.acceptRanges", laid_unicode_utf8_acceptRanges), ("loop.example/g00460/impl.hexDigits", laid_loop_example_g00460_impl_hexDigits), ("loop.example/g00460/impl.regNames", laid_loop_example_g00460_impl_regNames), ("loop.example/g00460/impl.pairNames", laid_loop_example_g00460_impl_pairNames), ("loop.example/g00460/impl.stackNames", laid_loop_example_g00460_impl_stackNames), ("loop.example/g00460/impl.placeNames", laid_loop_example_g00460_impl_placeNames), ("loop.example/g00460/impl.condNames", laid_loop_example_g00460_impl_condNames), ("loop.example/g00460/impl.aluNames", laid_loop_example_g00460_impl_aluNames), ("loop.example/g00460/impl.turnNames", laid_loop_example_g00460_impl_turnNames), ("loop.example/g00460/impl.bitNames", laid_loop_example_g00460_impl_bitNames), ("unicode/utf8.first", laid_unicode_utf8_first)] }
def FnTraceSaid : Prop := fnTraceRow.holds Tryz.pinned (OpenSpec.ofChange fnTraceSpec)

/-- ITS FALSE NEIGHBOUR: 'it returns false'. Refute it at one input. -/
def fnTraceWrong : ChangeSpec := { name := "fnTrace", vars := ["loop.example/g00460/impl.stackNames", "loop.example/g00460/impl.bitNames", "loop.example/g00460/impl.hexDigits", "loop.example/g00460/impl.aluNames", "loop.example/g00460/impl.condNames", "loop.example/g00460/impl.placeNames", "loop.example/g00460/impl.pairNames", "loop.example/g00460/impl.regNames", "loop.example/g00460/impl.turnNames"], fn := fun _ => fun
  | [d, g1, g2, g3, g4, g5, g6, g7, g8, g9] => { results := [.lit (.bool false)], args := [d], vars := [g1, g2, g3, g4, g5, g6, g7, g8, g9] }
  | _ => none }
def FnTraceWrongFalsely : Prop := fnTraceRow.holds Tryz.pinned (OpenSpec.ofChange fnTraceWrong)

/-- 'laws.FnExactRunTo': WHATEVER THE INPUT: true; the input reads as it did. -/
def fnExactRunToSpec : ChangeSpec := { name := "fnExactRunTo", vars := ["loop.example/g00460/impl.stackNames", "loop.example/g00460/impl.bitNames"], fn := fun _ => fun
  | [d1, d2, d3, g1, g2] => { results := [.lit (.bool true)], args := [d1, d2, d3], vars := [g1, g2] }
  | _ => none }
def fnExactRunToRow : OpenClaim := { program := "yteglcgnhhoenbaagreatdoor", sum := "b341e3fd6808755a76177af73d87df1a1123179376352a025d3ef0d9ff14b2c4", func := "loop.example/g00460/laws.FnExactRunTo", spec := "fnExactRunTo", inPlace := ["internal/bytealg.IndexByteString", "internal/bytealg.IndexString"], unfollowed := true, recurses := true, named := ["internal/bytealg.MaxLen", "loop.example/g00460/impl.stackNames", "loop.example/g00460/impl.bitNames"], apart := false, laid := [("loop.example/g00460/impl.stackNames", laid_loop_example_g00460_impl_stackNames), ("loop.example/g00460/impl.bitNames", laid_loop_example_g00460_impl_bitNames)] }
def FnExactRunToSaid : Prop := fnExactRunToRow.holds Tryz.pinned (OpenSpec.ofChange fnExactRunToSpec)

/-- ITS FALSE NEIGHBOUR: 'it returns false'. Refute it at one input. -/
def fnExactRunToWrong : ChangeSpec := { name := "fnExactRunTo", vars := ["loop.example/g00460/impl.stackNames", "loop.example/g00460/impl.bitNames"], fn := fun _ => fun
  | [d1, d2, d3, g1, g2] => { results := [.lit (.bool false)], args := [d1, d2, d3], vars := [g1, g2] }
  | _ => none }
def FnExactRunToWrongFalsely : Prop := fnExactRunToRow.holds Tryz.pinned (OpenSpec.ofChange fnExactRunToWrong)

/-- 'laws.FnExactTraceOf': WHATEVER THE INPUT: true; the input reads as it did. -/
def fnExactTraceOfSpec : ChangeSpec := { name := "fnExactTraceOf", vars := ["loop.example/g00460/impl.stackNames", "loop.example/g00460/impl.bitNames", "loop.example/g00460/impl.hexDigits", "loop.example/g00460/impl.aluNames", "loop.example/g00460/impl.condNames", "loop.example/g00460/impl.placeNames", "loop.example/g00460/impl.pairNames", "loop.example/g00460/impl.regNames", "loop.example/g00460/impl.turnNames"], fn := fun _ => fun
  | [d1, d2, g1, g2, g3, g4, g5, g6, g7, g8, g9] => { results := [.lit (.bool true)], args := [d1, d2], vars := [g1, g2, g3, g4, g5, g6, g7, g8, g9] }
  | _ => none }
def fnExactTraceOfRow : OpenClaim := { program := "yteglcgnhhoenbaagreatdoor", sum := "b341e3fd6808755a76177af73d87df1a1123179376352a025d3ef0d9ff14b2c4", func := "loop.example/g00460/laws.FnExactTraceOf", spec := "fnExactTraceOf", inPlace := ["internal/bytealg.IndexByteString", "internal/bytealg.IndexString", "internal/abi.NoEscape", "internal/bytealg.CountString", "internal/bytealg.MakeNoZero"], unfollowed := true, recurses := true, named := ["internal/bytealg.MaxLen", "loop.example/g00460/impl.stackNames", "loop.example/g00460/impl.bitNames", "loop.example/g00460/impl.hexDigits", "loop.example/g00460/impl.aluNames", "loop.example/g00460/impl.condNames", "loop.example/g00460/impl.placeNames", "loop.example/g00460/impl.pairNames", "loop.example/g00460/impl.regNames", "loop.example/g00460/impl.turnNames", "internal/strconv.uint64pow10", "math/bits.deBruijn32tab", "math/bits.deBruijn64tab", "unicode/utf8.first", "unicode/utf8.acceptRanges"], apart := false, laid := [("math/bits.deBruijn32tab", laid_math_bits_deBruijn32tab), ("math/bits.deBruijn64tab", laid_math_bits_deBruijn64tab), ("internal/strconv.uint64pow10", laid_internal_strconv_uint64pow10), ("unicode/utf8.acceptRanges", laid_unicode_utf8_acceptRanges), ("loop.example/g00460/impl.hexDigits", laid_loop_example_g00460_impl_hexDigits), ("loop.example/g00460/impl.regNames", laid_loop_example_g00460_impl_regNames), ("loop.example/g00460/impl.pairNames", laid_loop_example_g00460_impl_pairNames), ("loop.example/g00460/impl.stackNames", laid_loop_example_g00460_impl_stackNames), ("loop.example/g00460/impl.placeNames", laid_loop_example_g00460_impl_placeNames), ("loop.example/g00460/impl.condNames", laid_loop_example_g00460_impl_condNames), ("loop.example/g00460/impl.aluNames", laid_loop_example_g00460_impl_aluNames), ("loop.example/g00460/impl.turnNames", laid_loop_example_g00460_impl_turnNames), ("loop.example/g00460/impl.bitNames", laid_loop_example_g00460_impl_bitNames), ("unicode/utf8.first", laid_unicode_utf8_first)] }
def FnExactTraceOfSaid : Prop := fnExactTraceOfRow.holds Tryz.pinned (OpenSpec.ofChange fnExactTraceOfSpec)

/-- ITS FALSE NEIGHBOUR: 'it returns false'. Refute it at one input. -/
def fnExactTraceOfWrong : ChangeSpec := { name := "fnExactTraceOf", vars := ["loop.example/g00460/impl.stackNames", "loop.example/g00460/impl.bitNames", "loop.example/g00460/impl.hexDigits", "loop.example/g00460/impl.aluNames", "loop.example/g00460/impl.condNames", "loop.example/g00460/impl.placeNames", "loop.example/g00460/impl.pairNames", "loop.example/g00460/impl.regNames", "loop.example/g00460/impl.turnNames"], fn := fun _ => fun
  | [d1, d2, g1, g2, g3, g4, g5, g6, g7, g8, g9] => { results := [.lit (.bool false)], args := [d1, d2], vars := [g1, g2, g3, g4, g5, g6, g7, g8, g9] }
  | _ => none }
def FnExactTraceOfWrongFalsely : Prop := fnExactTraceOfRow.holds Tryz.pinned (OpenSpec.ofChange fnExactTraceOfWrong)

/- THE SECOND FORM. 'bulk': how many values and letters a reading holds, each counted each time it is reached (what is shared counts as often as it is met; a slice's spare places count too). A statement '..UptoSaid' is the law's where the arguments, and the package variables that the reading takes, are together of bulk at most 1048576: NARROWER than '..Said'. Prove '..Said' where nothing that the law and all that it calls make is longer than what came in: it says more and counts as full. Else prove '..UptoSaid'. A law counts once. -/
mutual
def uptoBulk {H : Type} : DataW H → Nat
  | .lit (.string bytes) => bytes.length + 1
  | .lit _ => 1
  | .nil => 1
  | .ptr d => uptoBulk d + 1
  | .slice elems spare => uptoBulkAll elems + uptoBulkAll spare + 1
  | .agg parts => uptoBulkAll parts + 1
  | .iface _ d => uptoBulk d + 1
  | .map entries => uptoBulkEntries entries + 1
  | .held _ => 1
def uptoBulkAll {H : Type} : List (DataW H) → Nat
  | [] => 0
  | d :: r => uptoBulk d + uptoBulkAll r
def uptoBulkEntries {H : Type} : List (Lit × DataW H) → Nat
  | [] => 0
  | x :: r => uptoBulkEntry x + uptoBulkEntries r
def uptoBulkEntry {H : Type} : Lit × DataW H → Nat
  | (.string bytes, d) => bytes.length + uptoBulk d + 1
  | (_, d) => uptoBulk d + 1
 end
def uptoSmall : (H : Type) → List (DataW H) → Bool := fun _ ds => decide (uptoBulkAll ds ≤ 1048576)
def OpenSpec.upto (s : _root_.Go.ChangeSpec) : _root_.Go.OpenSpec := { _root_.Go.OpenSpec.ofChange s with cond := some uptoSmall }

/-- 'laws.FnRunTo', WHERE WHAT IT READS IS OF BULK AT MOST 1048576: true; the input reads as it did. -/
def fnRunToUptoRow : OpenClaim := { program := "yteglcgnhhoenbaagreatdoor", sum := "b341e3fd6808755a76177af73d87df1a1123179376352a025d3ef0d9ff14b2c4", func := "loop.example/g00460/laws.FnRunTo", spec := "fnRunTo", inPlace := ["internal/bytealg.IndexByteString", "internal/bytealg.IndexString"], unfollowed := true, recurses := true, named := ["internal/bytealg.MaxLen", "loop.example/g00460/impl.stackNames", "loop.example/g00460/impl.bitNames"], apart := false, laid := [("loop.example/g00460/impl.stackNames", laid_loop_example_g00460_impl_stackNames), ("loop.example/g00460/impl.bitNames", laid_loop_example_g00460_impl_bitNames)], narrowed := true }
def FnRunToUptoSaid : Prop := fnRunToUptoRow.holds Tryz.pinned (OpenSpec.upto fnRunToSpec)

/-- 'laws.FnTrace', WHERE WHAT IT READS IS OF BULK AT MOST 1048576: true; the input reads as it did. -/
def fnTraceUptoRow : OpenClaim := { program := "yteglcgnhhoenbaagreatdoor", sum := "b341e3fd6808755a76177af73d87df1a1123179376352a025d3ef0d9ff14b2c4", func := "loop.example/g00460/laws.FnTrace", spec := "fnTrace", inPlace := ["internal/bytealg.IndexByteString", "internal/bytealg.IndexString", "internal/abi.NoEscape", "internal/bytealg.CountString", "internal/bytealg.MakeNoZero"], unfollowed := true, recurses := true, named := ["internal/bytealg.MaxLen", "loop.example/g00460/impl.stackNames", "loop.example/g00460/impl.bitNames", "loop.example/g00460/impl.hexDigits", "loop.example/g00460/impl.aluNames", "loop.example/g00460/impl.condNames", "loop.example/g00460/impl.placeNames", "loop.example/g00460/impl.pairNames", "loop.example/g00460/impl.regNames", "loop.example/g00460/impl.turnNames", "internal/strconv.uint64pow10", "math/bits.deBruijn32tab", "math/bits.deBruijn64tab", "unicode/utf8.first", "unicode/utf8.acceptRanges"], apart := false, laid := [("math/bits.deBruijn32tab", laid_math_bits_deBruijn32tab), ("math/bits.deBruijn64tab", laid_math_bits_deBruijn64tab), ("internal/strconv.uint64pow10", laid_internal_strconv_uint64pow10), ("unicode/utf8.acceptRanges", laid_unicode_utf8_acceptRanges), ("loop.example/g00460/impl.hexDigits", laid_loop_example_g00460_impl_hexDigits), ("loop.example/g00460/impl.regNames", laid_loop_example_g00460_impl_regNames), ("loop.example/g00460/impl.pairNames", laid_loop_example_g00460_impl_pairNames), ("loop.example/g00460/impl.stackNames", laid_loop_example_g00460_impl_stackNames), ("loop.example/g00460/impl.placeNames", laid_loop_example_g00460_impl_placeNames), ("loop.example/g00460/impl.condNames", laid_loop_example_g00460_impl_condNames), ("loop.example/g00460/impl.aluNames", laid_loop_example_g00460_impl_aluNames), ("loop.example/g00460/impl.turnNames", laid_loop_example_g00460_impl_turnNames), ("loop.example/g00460/impl.bitNames", laid_loop_example_g00460_impl_bitNames), ("unicode/utf8.first", laid_unicode_utf8_first)], narrowed := true }
def FnTraceUptoSaid : Prop := fnTraceUptoRow.holds Tryz.pinned (OpenSpec.upto fnTraceSpec)

/-- 'laws.FnExactRunTo', WHERE WHAT IT READS IS OF BULK AT MOST 1048576: true; the input reads as it did. -/
def fnExactRunToUptoRow : OpenClaim := { program := "yteglcgnhhoenbaagreatdoor", sum := "b341e3fd6808755a76177af73d87df1a1123179376352a025d3ef0d9ff14b2c4", func := "loop.example/g00460/laws.FnExactRunTo", spec := "fnExactRunTo", inPlace := ["internal/bytealg.IndexByteString", "internal/bytealg.IndexString"], unfollowed := true, recurses := true, named := ["internal/bytealg.MaxLen", "loop.example/g00460/impl.stackNames", "loop.example/g00460/impl.bitNames"], apart := false, laid := [("loop.example/g00460/impl.stackNames", laid_loop_example_g00460_impl_stackNames), ("loop.example/g00460/impl.bitNames", laid_loop_example_g00460_impl_bitNames)], narrowed := true }
def FnExactRunToUptoSaid : Prop := fnExactRunToUptoRow.holds Tryz.pinned (OpenSpec.upto fnExactRunToSpec)

/-- 'laws.FnExactTraceOf', WHERE WHAT IT READS IS OF BULK AT MOST 1048576: true; the input reads as it did. -/
def fnExactTraceOfUptoRow : OpenClaim := { program := "yteglcgnhhoenbaagreatdoor", sum := "b341e3fd6808755a76177af73d87df1a1123179376352a025d3ef0d9ff14b2c4", func := "loop.example/g00460/laws.FnExactTraceOf", spec := "fnExactTraceOf", inPlace := ["internal/bytealg.IndexByteString", "internal/bytealg.IndexString", "internal/abi.NoEscape", "internal/bytealg.CountString", "internal/bytealg.MakeNoZero"], unfollowed := true, recurses := true, named := ["internal/bytealg.MaxLen", "loop.example/g00460/impl.stackNames", "loop.example/g00460/impl.bitNames", "loop.example/g00460/impl.hexDigits", "loop.example/g00460/impl.aluNames", "loop.example/g00460/impl.condNames", "loop.example/g00460/impl.placeNames", "loop.example/g00460/impl.pairNames", "loop.example/g00460/impl.regNames", "loop.example/g00460/impl.turnNames", "internal/strconv.uint64pow10", "math/bits.deBruijn32tab", "math/bits.deBruijn64tab", "unicode/utf8.first", "unicode/utf8.acceptRanges"], apart := false, laid := [("math/bits.deBruijn32tab", laid_math_bits_deBruijn32tab), ("math/bits.deBruijn64tab", laid_math_bits_deBruijn64tab), ("internal/strconv.uint64pow10", laid_internal_strconv_uint64pow10), ("unicode/utf8.acceptRanges", laid_unicode_utf8_acceptRanges), ("loop.example/g00460/impl.hexDigits", laid_loop_example_g00460_impl_hexDigits), ("loop.example/g00460/impl.regNames", laid_loop_example_g00460_impl_regNames), ("loop.example/g00460/impl.pairNames", laid_loop_example_g00460_impl_pairNames), ("loop.example/g00460/impl.stackNames", laid_loop_example_g00460_impl_stackNames), ("loop.example/g00460/impl.placeNames", laid_loop_example_g00460_impl_placeNames), ("loop.example/g00460/impl.condNames", laid_loop_example_g00460_impl_condNames), ("loop.example/g00460/impl.aluNames", laid_loop_example_g00460_impl_aluNames), ("loop.example/g00460/impl.turnNames", laid_loop_example_g00460_impl_turnNames), ("loop.example/g00460/impl.bitNames", laid_loop_example_g00460_impl_bitNames), ("unicode/utf8.first", laid_unicode_utf8_first)], narrowed := true }
def FnExactTraceOfUptoSaid : Prop := fnExactTraceOfUptoRow.holds Tryz.pinned (OpenSpec.upto fnExactTraceOfSpec)

end Rows
end Go.Proofs.YteglcgnhhoenbaaGreatDoor
