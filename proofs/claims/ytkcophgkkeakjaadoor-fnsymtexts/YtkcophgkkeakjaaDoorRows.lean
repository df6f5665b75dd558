/-
  NARROWER THAN 'FOR EVERY INPUT', by the rows' own cells (each row's printed sentence says how): FnExactSymText: laid · FnExactReadSyms: laid · FnSymTexts: laid.
  DERIVED. THE GIVEN ROWS OF THIS SEAT. 3 by the template 'for every input the law returns true; each argument reads behind the call as it read before'; 0 by the template 'total and deterministic' (their statements: YtkcophgkkeakjaaDoorTotals.lean).
  GIVEN WITH THE SEED: the statements are not yours to turn. If you find one false, say at which input.
  Laid BY PROGRAM, IN A SANDBOX (cutbox-rows.mjs): the forced cells as the released guide's own fill.sh prints them over the translation d2ce4a406368c2ab… (all of the seat's roots in one cut). By AI agents, Wed Nov 11 2026. No macro, syntax, notation, axiom, sorry.
-/
import Derived.Test.YtkcophgkkeakjaaDoorChecked
import GoSem.Claim
import GoSem.ClaimJoined
import GoSem.ClaimMapViews
import Derived.JoinedTies
import Derived.KernelRfl
namespace Go.Proofs.YtkcophgkkeakjaaDoor
/- THE CELL 'sum', in the pinned program and in every row, IS THE sha256 OF THE DUMP (.gsa) THAT YtkcophgkkeakjaaDoorProg.lean LOADS. Nothing in Lean hashes anything: it is a label: what it is worth is what the hold of that sum in a sandbox is worth. -/
noncomputable def Tryd.pinned : Pinned := { name := "ytkcophgkkeakjaadoor", sum := "d2ce4a406368c2ab78ce6dce16fa48c23cca199f415ae70e674939abf8768f5f", checked := Tryd.checked }
namespace Rows
def none {H : Type} : Left H := { results := [], args := [] }

/- WHAT THE LISTED PACKAGE-LEVEL VARIABLES READ AS WHEN THE CALL BEGINS. Each datum BY PROGRAM (the guide's laid-datum.mjs) off the statement by which the dump's own 'gosem.cut.vars' lays the variable. In a bare row this is a premise. The card (YtkcophgkkeakjaaDoorCards.lean) ties it to the program's text. -/
def laid_loop_example_g00460_impl_hexDigits {H : Type} : DataW H := .agg [.lit (.int .u8 48), .lit (.int .u8 49), .lit (.int .u8 50), .lit (.int .u8 51), .lit (.int .u8 52), .lit (.int .u8 53), .lit (.int .u8 54), .lit (.int .u8 55), .lit (.int .u8 56), .lit (.int .u8 57), .lit (.int .u8 65), .lit (.int .u8 66), .lit (.int .u8 67), .lit (.int .u8 68), .lit (.int .u8 69), .lit (.int .u8 70)]

/-- 'laws.FnExactSymText': WHATEVER THE INPUT: true; the input reads as it did. -/
def fnExactSymTextSpec : ChangeSpec := { name := "fnExactSymText", vars := ["loop.example/g00460/impl.hexDigits"], fn := fun _ => fun
  | [d, g1] => { results := [.lit (.bool true)], args := [d], vars := [g1] }
  | _ => none }
def fnExactSymTextRow : OpenClaim := { program := "ytkcophgkkeakjaadoor", sum := "d2ce4a406368c2ab78ce6dce16fa48c23cca199f415ae70e674939abf8768f5f", func := "loop.example/g00460/laws.FnExactSymText", spec := "fnExactSymText", inPlace := ["internal/abi.NoEscape"], named := ["loop.example/g00460/impl.hexDigits"], apart := false, laid := [("loop.example/g00460/impl.hexDigits", laid_loop_example_g00460_impl_hexDigits)] }
def FnExactSymTextSaid : Prop := fnExactSymTextRow.holds Tryd.pinned (OpenSpec.ofChange fnExactSymTextSpec)

/-- ITS FALSE NEIGHBOUR: 'it returns false'. Refute it at one input. -/
def fnExactSymTextWrong : ChangeSpec := { name := "fnExactSymText", vars := ["loop.example/g00460/impl.hexDigits"], fn := fun _ => fun
  | [d, g1] => { results := [.lit (.bool false)], args := [d], vars := [g1] }
  | _ => none }
def FnExactSymTextWrongFalsely : Prop := fnExactSymTextRow.holds Tryd.pinned (OpenSpec.ofChange fnExactSymTextWrong)

/-- 'laws.FnExactReadSyms': WHATEVER THE INPUT: true; the input reads as it did. -/
def fnExactReadSymsSpec : ChangeSpec := { name := "fnExactReadSyms", vars := ["loop.example/g00460/impl.hexDigits"], fn := fun _ => fun
  | [d, g1] => { results := [.lit (.bool true)], args := [d], vars := [g1] }
  | _ => none }
def fnExactReadSymsRow : OpenClaim := { program := "ytkcophgkkeakjaadoor", sum := "d2ce4a406368c2ab78ce6dce16fa48c23cca199f415ae70e674939abf8768f5f", func := "loop.example/g00460/laws.FnExactReadSyms", spec := "fnExactReadSyms", inPlace := ["internal/bytealg.IndexByteString", "internal/bytealg.IndexString", "internal/abi.NoEscape"], named := ["internal/bytealg.MaxLen", "loop.example/g00460/impl.hexDigits"], apart := false, laid := [("loop.example/g00460/impl.hexDigits", laid_loop_example_g00460_impl_hexDigits)] }
def FnExactReadSymsSaid : Prop := fnExactReadSymsRow.holds Tryd.pinned (OpenSpec.ofChange fnExactReadSymsSpec)

/-- ITS FALSE NEIGHBOUR: 'it returns false'. Refute it at one input. -/
def fnExactReadSymsWrong : ChangeSpec := { name := "fnExactReadSyms", vars := ["loop.example/g00460/impl.hexDigits"], fn := fun _ => fun
  | [d, g1] => { results := [.lit (.bool false)], args := [d], vars := [g1] }
  | _ => none }
def FnExactReadSymsWrongFalsely : Prop := fnExactReadSymsRow.holds Tryd.pinned (OpenSpec.ofChange fnExactReadSymsWrong)

/-- 'laws.FnSymTexts': WHATEVER THE INPUT: true; the input reads as it did. -/
def fnSymTextsSpec : ChangeSpec := { name := "fnSymTexts", vars := ["loop.example/g00460/impl.hexDigits"], fn := fun _ => fun
  | [d, g1] => { results := [.lit (.bool true)], args := [d], vars := [g1] }
  | _ => none }
def fnSymTextsRow : OpenClaim := { program := "ytkcophgkkeakjaadoor", sum := "d2ce4a406368c2ab78ce6dce16fa48c23cca199f415ae70e674939abf8768f5f", func := "loop.example/g00460/laws.FnSymTexts", spec := "fnSymTexts", inPlace := ["internal/abi.NoEscape", "internal/bytealg.IndexByteString", "internal/bytealg.IndexString"], named := ["loop.example/g00460/impl.hexDigits", "internal/bytealg.MaxLen"], apart := false, laid := [("loop.example/g00460/impl.hexDigits", laid_loop_example_g00460_impl_hexDigits)] }
def FnSymTextsSaid : Prop := fnSymTextsRow.holds Tryd.pinned (OpenSpec.ofChange fnSymTextsSpec)

/-- ITS FALSE NEIGHBOUR: 'it returns false'. Refute it at one input. -/
def fnSymTextsWrong : ChangeSpec := { name := "fnSymTexts", vars := ["loop.example/g00460/impl.hexDigits"], fn := fun _ => fun
  | [d, g1] => { results := [.lit (.bool false)], args := [d], vars := [g1] }
  | _ => none }
def FnSymTextsWrongFalsely : Prop := fnSymTextsRow.holds Tryd.pinned (OpenSpec.ofChange fnSymTextsWrong)

/- THE SECOND FORM. 'bulk': how many values and letters a reading holds, each counted each time it is reached (what is shared counts as often as it is met; a slice's spare places count too). A statement '..UptoSaid' is the law's where the arguments, and the package variables that the reading takes, are together of bulk at most 1048576: NARROWER than '..Said'. Prove '..Said' where nothing that the law and all that it calls make is longer than what came in: it says more and counts as full. Else prove '..UptoSaid'. A law counts once. -/
mutual
def uptoBulk {H : Type} : DataW H → Nat
  | .lit (.string bytes) => bytes.length + 1
  | .lit _ => 1
  | .nil => 1
  | .ptr d => uptoBulk d + 1
  | .slice elems spare => uptoBulkAll elems + uptoBulkAll spare + 1
  | .agg parts => uptoBulkAll parts + 1
  | .iface _ d => uptoBulk d + 1
  | .map entries => uptoBulkEntries entries + 1
  | .held _ => 1
def uptoBulkAll {H : Type} : List (DataW H) → Nat
  | [] => 0
  | d :: r => uptoBulk d + uptoBulkAll r
def uptoBulkEntries {H : Type} : List (Lit × DataW H) → Nat
  | [] => 0
  | x :: r => uptoBulkEntry x + uptoBulkEntries r
def uptoBulkEntry {H : Type} : Lit × DataW H → Nat
  | (.string bytes, d) => bytes.length + uptoBulk d + 1
  | (_, d) => uptoBulk d + 1
 end
def uptoSmall : (H : Type) → List (DataW H) → Bool := fun _ ds => decide (uptoBulkAll ds ≤ 1048576)
def OpenSpec.upto (s : _root_.Go.ChangeSpec) : _root_.Go.OpenSpec := { _root_.Go.OpenSpec.ofChange s with cond := some uptoSmall }

/-- 'laws.FnExactSymText', WHERE WHAT IT READS IS OF BULK AT MOST 1048576: true; the input reads as it did. -/
def fnExactSymTextUptoRow : OpenClaim := { program := "ytkcophgkkeakjaadoor", sum := "d2ce4a406368c2ab78ce6dce16fa48c23cca199f415ae70e674939abf8768f5f", func := "loop.example/g00460/laws.FnExactSymText", spec := "fnExactSymText", inPlace := ["internal/abi.NoEscape"], named := ["loop.example/g00460/impl.hexDigits"], apart := false, laid := [("loop.example/g00460/impl.hexDigits", laid_loop_example_g00460_impl_hexDigits)], narrowed := true }
def FnExactSymTextUptoSaid : Prop := fnExactSymTextUptoRow.holds Tryd.pinned (OpenSpec.upto fnExactSymTextSpec)

/-- 'laws.FnExactReadSyms', WHERE WHAT IT READS IS OF BULK AT MOST 1048576: true; the input reads as it did. -/
def fnExactReadSymsUptoRow : OpenClaim := { program := "ytkcophgkkeakjaadoor", sum := "d2ce4a406368c2ab78ce6dce16fa48c23cca199f415ae70e674939abf8768f5f", func := "loop.example/g00460/laws.FnExactReadSyms", spec := "fnExactReadSyms", inPlace := ["internal/bytealg.IndexByteString", "internal/bytealg.IndexString", "internal/abi.NoEscape"], named := ["internal/bytealg.MaxLen", "loop.example/g00460/impl.hexDigits"], apart := false, laid := [("loop.example/g00460/impl.hexDigits", laid_loop_example_g00460_impl_hexDigits)], narrowed := true }
def FnExactReadSymsUptoSaid : Prop := fnExactReadSymsUptoRow.holds Tryd.pinned (OpenSpec.upto fnExactReadSymsSpec)

/-- 'laws.FnSymTexts', WHERE WHAT IT READS IS OF BULK AT MOST 1048576: true; the input reads as it did. -/
def fnSymTextsUptoRow : OpenClaim := { program := "ytkcophgkkeakjaadoor", sum := "d2ce4a406368c2ab78ce6dce16fa48c23cca199f415ae70e674939abf8768f5f", func := "loop.example/g00460/laws.FnSymTexts", spec := "fnSymTexts", inPlace := ["internal/abi.NoEscape", "internal/bytealg.IndexByteString", "internal/bytealg.IndexString"], named := ["loop.example/g00460/impl.hexDigits", "internal/bytealg.MaxLen"], apart := false, laid := [("loop.example/g00460/impl.hexDigits", laid_loop_example_g00460_impl_hexDigits)], narrowed := true }
def FnSymTextsUptoSaid : Prop := fnSymTextsUptoRow.holds Tryd.pinned (OpenSpec.upto fnSymTextsSpec)

end Rows
end Go.Proofs.YtkcophgkkeakjaaDoor
