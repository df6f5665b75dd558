/-
  NARROWER THAN 'FOR EVERY INPUT', by the rows' own cells (each row's printed sentence says how): FnExactRunFor: laid · FnExactRunTo: laid · FnSum: laid · FnCalls: laid · FnPushed: laid · FnStepOk: laid · FnHere: laid · FnRunPieces: laid · FnRunTo: laid.
  DERIVED. THE GIVEN ROWS OF THIS SEAT. 9 by the template 'for every input the law returns true; each argument reads behind the call as it read before'; 0 by the template 'total and deterministic' (their statements: YtnjolmbdbgbmbaaGreatDoorTotals.lean).
  GIVEN WITH THE SEED: the statements are not yours to turn. If you find one false, say at which input.
  Laid BY PROGRAM, IN A SANDBOX (cutbox-rows.mjs): the forced cells as the released guide's own fill.sh prints them over the translation 59c05afb07564597… (all of the seat's roots in one cut). By AI agents, Wed Nov 11 2026. No macro, syntax, notation, axiom, sorry.
-/
import Derived.Test.YtnjolmbdbgbmbaaGreatDoorChecked
import GoSem.Claim
import GoSem.ClaimJoined
import GoSem.ClaimMapViews
import Derived.JoinedTies
import Derived.KernelRfl
namespace Go.Proofs.YtnjolmbdbgbmbaaGreatDoor
/- THE CELL 'sum', in the pinned program and in every row, IS THE sha256 OF THE DUMP (.gsa) THAT YtnjolmbdbgbmbaaGreatDoorProg.lean LOADS. Nothing in Lean hashes anything: it is a label: what it is worth is what the hold of that sum in a sandbox is worth. -/
noncomputable def Tryz.pinned : Pinned := { name := "ytnjolmbdbgbmbaagreatdoor", sum := "59c05afb075645971e8818b17985f09ca37d43f205e94a6a2974cf8cad230143", checked := Tryz.checked }
namespace Rows
def none {H : Type} : Left H := { results := [], args := [] }

/- WHAT THE LISTED PACKAGE-LEVEL VARIABLES READ AS WHEN THE CALL BEGINS. Each datum BY PROGRAM (the guide's laid-datum.mjs) off the statement by which the dump's own 'gosem.cut.vars' lays the variable. In a bare row this is a premise. The card (YtnjolmbdbgbmbaaGreatDoorCards.lean) ties it to the program's text. -/
def laid_loop_example_g00460_impl_stackNames {H : Type} : DataW H := .agg [.lit (.string [98, 99]), .lit (.string [100, 101]), .lit (.string [104, 108]), .lit (.string [97, 102])]
def laid_loop_example_g00460_impl_bitNames {H : Type} : DataW H := .agg [.lit (.string []), .lit (.string [98, 105, 116]), .lit (.string [114, 101, 115]), .lit (.string [115, 101, 116])]

/-- 'laws.FnExactRunFor': WHATEVER THE INPUT: true; the input reads as it did. -/
def fnExactRunForSpec : ChangeSpec := { name := "fnExactRunFor", vars := ["loop.example/g00460/impl.stackNames", "loop.example/g00460/impl.bitNames"], fn := fun _ => fun
  | [d1, d2, g1, g2] => { results := [.lit (.bool true)], args := [d1, d2], vars := [g1, g2] }
  | _ => none }
def fnExactRunForRow : OpenClaim := { program := "ytnjolmbdbgbmbaagreatdoor", sum := "59c05afb075645971e8818b17985f09ca37d43f205e94a6a2974cf8cad230143", func := "loop.example/g00460/laws.FnExactRunFor", spec := "fnExactRunFor", inPlace := ["internal/bytealg.IndexByteString", "internal/bytealg.IndexString"], unfollowed := true, recurses := true, named := ["internal/bytealg.MaxLen", "loop.example/g00460/impl.stackNames", "loop.example/g00460/impl.bitNames"], apart := false, laid := [("loop.example/g00460/impl.stackNames", laid_loop_example_g00460_impl_stackNames), ("loop.example/g00460/impl.bitNames", laid_loop_example_g00460_impl_bitNames)] }
def FnExactRunForSaid : Prop := fnExactRunForRow.holds Tryz.pinned (OpenSpec.ofChange fnExactRunForSpec)

/-- ITS FALSE NEIGHBOUR: 'it returns false'. Refute it at one input. -/
def fnExactRunForWrong : ChangeSpec := { name := "fnExactRunFor", vars := ["loop.example/g00460/impl.stackNames", "loop.example/g00460/impl.bitNames"], fn := fun _ => fun
  | [d1, d2, g1, g2] => { results := [.lit (.bool false)], args := [d1, d2], vars := [g1, g2] }
  | _ => none }
def FnExactRunForWrongFalsely : Prop := fnExactRunForRow.holds Tryz.pinned (OpenSpec.ofChange fnExactRunForWrong)

/-- 'laws.FnExactRunTo': WHATEVER THE INPUT: true; the input reads as it did. -/
def fnExactRunToSpec : ChangeSpec := { name := "fnExactRunTo", vars := ["loop.example/g00460/impl.stackNames", "loop.example/g00460/impl.bitNames"], fn := fun _ => fun
  | [d1, d2, d3, g1, g2] => { results := [.lit (.bool true)], args := [d1, d2, d3], vars := [g1, g2] }
  | _ => none }
def fnExactRunToRow : OpenClaim := { program := "ytnjolmbdbgbmbaagreatdoor", sum := "59c05afb075645971e8818b17985f09ca37d43f205e94a6a2974cf8cad230143", func := "loop.example/g00460/laws.FnExactRunTo", spec := "fnExactRunTo", inPlace := ["internal/bytealg.IndexByteString", "internal/bytealg.IndexString"], unfollowed := true, recurses := true, named := ["internal/bytealg.MaxLen", "loop.example/g00460/impl.stackNames", "loop.example/g00460/impl.bitNames"], apart := false, laid := [("loop.example/g00460/impl.stackNames", laid_loop_example_g00460_impl_stackNames), ("loop.example/g00460/impl.bitNames", laid_loop_example_g00460_impl_bitNames)] }
def FnExactRunToSaid : Prop := fnExactRunToRow.holds Tryz.pinned (OpenSpec.ofChange fnExactRunToSpec)

/-- ITS FALSE NEIGHBOUR: 'it returns false'. Refute it at one input. -/
def fnExactRunToWrong : ChangeSpec := { name := "fnExactRunTo", vars := ["loop.example/g00460/impl.stackNames", "loop.example/g00460/impl.bitNames"], fn := fun _ => fun
  | [d1, d2, d3, g1, g2] => { results := [.lit (.bool false)], args := [d1, d2, d3], vars := [g1, g2] }
  | _ => none }
def FnExactRunToWrongFalsely : Prop := fnExactRunToRow.holds Tryz.pinned (OpenSpec.ofChange fnExactRunToWrong)

/-- 'laws.FnSum': WHATEVER THE INPUT: true; the input reads as it did. -/
def fnSumSpec : ChangeSpec := { name := "fnSum", vars := ["loop.example/g00460/impl.stackNames", "loop.example/g00460/impl.bitNames"], fn := fun _ => fun
  | [d, g1, g2] => { results := [.lit (.bool true)], args := [d], vars := [g1, g2] }
  | _ => none }
def fnSumRow : OpenClaim := { program := "ytnjolmbdbgbmbaagreatdoor", sum := "59c05afb075645971e8818b17985f09ca37d43f205e94a6a2974cf8cad230143", func := "loop.example/g00460/laws.FnSum", spec := "fnSum", inPlace := ["internal/bytealg.IndexByteString", "internal/bytealg.IndexString"], unfollowed := true, recurses := true, named := ["internal/bytealg.MaxLen", "loop.example/g00460/impl.stackNames", "loop.example/g00460/impl.bitNames"], apart := false, laid := [("loop.example/g00460/impl.stackNames", laid_loop_example_g00460_impl_stackNames), ("loop.example/g00460/impl.bitNames", laid_loop_example_g00460_impl_bitNames)] }
def FnSumSaid : Prop := fnSumRow.holds Tryz.pinned (OpenSpec.ofChange fnSumSpec)

/-- ITS FALSE NEIGHBOUR: 'it returns false'. Refute it at one input. -/
def fnSumWrong : ChangeSpec := { name := "fnSum", vars := ["loop.example/g00460/impl.stackNames", "loop.example/g00460/impl.bitNames"], fn := fun _ => fun
  | [d, g1, g2] => { results := [.lit (.bool false)], args := [d], vars := [g1, g2] }
  | _ => none }
def FnSumWrongFalsely : Prop := fnSumRow.holds Tryz.pinned (OpenSpec.ofChange fnSumWrong)

/-- 'laws.FnCalls': WHATEVER THE INPUT: true; the input reads as it did. -/
def fnCallsSpec : ChangeSpec := { name := "fnCalls", vars := ["loop.example/g00460/impl.stackNames", "loop.example/g00460/impl.bitNames"], fn := fun _ => fun
  | [d, g1, g2] => { results := [.lit (.bool true)], args := [d], vars := [g1, g2] }
  | _ => none }
def fnCallsRow : OpenClaim := { program := "ytnjolmbdbgbmbaagreatdoor", sum := "59c05afb075645971e8818b17985f09ca37d43f205e94a6a2974cf8cad230143", func := "loop.example/g00460/laws.FnCalls", spec := "fnCalls", inPlace := ["internal/bytealg.IndexByteString", "internal/bytealg.IndexString"], unfollowed := true, recurses := true, named := ["internal/bytealg.MaxLen", "loop.example/g00460/impl.stackNames", "loop.example/g00460/impl.bitNames"], apart := false, laid := [("loop.example/g00460/impl.stackNames", laid_loop_example_g00460_impl_stackNames), ("loop.example/g00460/impl.bitNames", laid_loop_example_g00460_impl_bitNames)] }
def FnCallsSaid : Prop := fnCallsRow.holds Tryz.pinned (OpenSpec.ofChange fnCallsSpec)

/-- ITS FALSE NEIGHBOUR: 'it returns false'. Refute it at one input. -/
def fnCallsWrong : ChangeSpec := { name := "fnCalls", vars := ["loop.example/g00460/impl.stackNames", "loop.example/g00460/impl.bitNames"], fn := fun _ => fun
  | [d, g1, g2] => { results := [.lit (.bool false)], args := [d], vars := [g1, g2] }
  | _ => none }
def FnCallsWrongFalsely : Prop := fnCallsRow.holds Tryz.pinned (OpenSpec.ofChange fnCallsWrong)

/-- 'laws.FnPushed': WHATEVER THE INPUT: true; the input reads as it did. -/
def fnPushedSpec : ChangeSpec := { name := "fnPushed", vars := ["loop.example/g00460/impl.stackNames", "loop.example/g00460/impl.bitNames"], fn := fun _ => fun
  | [d, g1, g2] => { results := [.lit (.bool true)], args := [d], vars := [g1, g2] }
  | _ => none }
def fnPushedRow : OpenClaim := { program := "ytnjolmbdbgbmbaagreatdoor", sum := "59c05afb075645971e8818b17985f09ca37d43f205e94a6a2974cf8cad230143", func := "loop.example/g00460/laws.FnPushed", spec := "fnPushed", inPlace := ["internal/bytealg.IndexByteString", "internal/bytealg.IndexString"], unfollowed := true, recurses := true, named := ["internal/bytealg.MaxLen", "loop.example/g00460/impl.stackNames", "loop.example/g00460/impl.bitNames"], apart := false, laid := [("loop.example/g00460/impl.stackNames", laid_loop_example_g00460_impl_stackNames), ("loop.example/g00460/impl.bitNames", laid_loop_example_g00460_impl_bitNames)] }
def FnPushedSaid : Prop := fnPushedRow.holds Tryz.pinned (OpenSpec.ofChange fnPushedSpec)

/-- ITS FALSE NEIGHBOUR: 'it returns false'. Refute it at one input. -/
def fnPushedWrong : ChangeSpec := { name := "fnPushed", vars := ["loop.example/g00460/impl.stackNames", "loop.example/g00460/impl.bitNames"], fn := fun _ => fun
  | [d, g1, g2] => { results := [.lit (.bool false)], args := [d], vars := [g1, g2] }
  | _ => none }
def FnPushedWrongFalsely : Prop := fnPushedRow.holds Tryz.pinned (OpenSpec.ofChange fnPushedWrong)

/-- 'laws.FnStepOk': WHATEVER THE INPUT: true; the input reads as it did. -/
def fnStepOkSpec : ChangeSpec := { name := "fnStepOk", vars := ["loop.example/g00460/impl.stackNames", "loop.example/g00460/impl.bitNames"], fn := fun _ => fun
  | [d, g1, g2] => { results := [.lit (.bool true)], args := [d], vars := [g1, g2] }
  | _ => none }
def fnStepOkRow : OpenClaim := { program := "ytnjolmbdbgbmbaagreatdoor", sum := "59c05afb075645971e8818b17985f09ca37d43f205e94a6a2974cf8cad230143", func := "loop.example/g00460/laws.FnStepOk", spec := "fnStepOk", inPlace := ["internal/bytealg.IndexByteString", "internal/bytealg.IndexString"], unfollowed := true, recurses := true, named := ["internal/bytealg.MaxLen", "loop.example/g00460/impl.stackNames", "loop.example/g00460/impl.bitNames"], apart := false, laid := [("loop.example/g00460/impl.stackNames", laid_loop_example_g00460_impl_stackNames), ("loop.example/g00460/impl.bitNames", laid_loop_example_g00460_impl_bitNames)] }
def FnStepOkSaid : Prop := fnStepOkRow.holds Tryz.pinned (OpenSpec.ofChange fnStepOkSpec)

/-- ITS FALSE NEIGHBOUR: 'it returns false'. Refute it at one input. -/
def fnStepOkWrong : ChangeSpec := { name := "fnStepOk", vars := ["loop.example/g00460/impl.stackNames", "loop.example/g00460/impl.bitNames"], fn := fun _ => fun
  | [d, g1, g2] => { results := [.lit (.bool false)], args := [d], vars := [g1, g2] }
  | _ => none }
def FnStepOkWrongFalsely : Prop := fnStepOkRow.holds Tryz.pinned (OpenSpec.ofChange fnStepOkWrong)

/-- 'laws.FnHere': WHATEVER THE INPUT: true; the input reads as it did. -/
def fnHereSpec : ChangeSpec := { name := "fnHere", vars := ["loop.example/g00460/impl.stackNames", "loop.example/g00460/impl.bitNames"], fn := fun _ => fun
  | [d, g1, g2] => { results := [.lit (.bool true)], args := [d], vars := [g1, g2] }
  | _ => none }
def fnHereRow : OpenClaim := { program := "ytnjolmbdbgbmbaagreatdoor", sum := "59c05afb075645971e8818b17985f09ca37d43f205e94a6a2974cf8cad230143", func := "loop.example/g00460/laws.FnHere", spec := "fnHere", inPlace := ["internal/bytealg.IndexByteString", "internal/bytealg.IndexString"], unfollowed := true, recurses := true, named := ["internal/bytealg.MaxLen", "loop.example/g00460/impl.stackNames", "loop.example/g00460/impl.bitNames"], apart := false, laid := [("loop.example/g00460/impl.stackNames", laid_loop_example_g00460_impl_stackNames), ("loop.example/g00460/impl.bitNames", laid_loop_example_g00460_impl_bitNames)] }
def FnHereSaid : Prop := fnHereRow.holds Tryz.pinned (OpenSpec.ofChange fnHereSpec)

/-- ITS FALSE NEIGHBOUR: 'it returns false'. Refute it at one input. -/
def fnHereWrong : ChangeSpec := { name := "fnHere", vars := ["loop.example/g00460/impl.stackNames", "loop.example/g00460/impl.bitNames"], fn := fun _ => fun
  | [d, g1, g2] => { results := [.lit (.bool false)], args := [d], vars := [g1, g2] }
  | _ => none }
def FnHereWrongFalsely : Prop := fnHereRow.holds Tryz.pinned (OpenSpec.ofChange fnHereWrong)

/-- 'laws.FnRunPieces': WHATEVER THE INPUT: true; the input reads as it did. -/
def fnRunPiecesSpec : ChangeSpec := { name := "fnRunPieces", vars := ["loop.example/g00460/impl.stackNames", "loop.example/g00460/impl.bitNames"], fn := fun _ => fun
  | [d, g1, g2] => { results := [.lit (.bool true)], args := [d], vars := [g1, g2] }
  | _ => none }
def fnRunPiecesRow : OpenClaim := { program := "ytnjolmbdbgbmbaagreatdoor", sum := "59c05afb075645971e8818b17985f09ca37d43f205e94a6a2974cf8cad230143", func := "loop.example/g00460/laws.FnRunPieces", spec := "fnRunPieces", inPlace := ["internal/bytealg.IndexByteString", "internal/bytealg.IndexString"], unfollowed := true, recurses := true, named := ["internal/bytealg.MaxLen", "loop.example/g00460/impl.stackNames", "loop.example/g00460/impl.bitNames"], apart := false, laid := [("loop.example/g00460/impl.stackNames", laid_loop_example_g00460_impl_stackNames), ("loop.example/g00460/impl.bitNames", laid_loop_example_g00460_impl_bitNames)] }
def FnRunPiecesSaid : Prop := fnRunPiecesRow.holds Tryz.pinned (OpenSpec.ofChange fnRunPiecesSpec)

/-- ITS FALSE NEIGHBOUR: 'it returns false'. Refute it at one input. -/
def fnRunPiecesWrong : ChangeSpec := { name := "fnRunPieces", vars := ["loop.example/g00460/impl.stackNames", "loop.example/g00460/impl.bitNames"], fn := fun _ => fun
  | [d, g1, g2] => { results := [.lit (.bool false)], args := [d], vars := [g1, g2] }
  | _ => none }
def FnRunPiecesWrongFalsely : Prop := fnRunPiecesRow.holds Tryz.pinned (OpenSpec.ofChange fnRunPiecesWrong)

/-- 'laws.FnRunTo': WHATEVER THE INPUT: true; the input reads as it did. -/
def fnRunToSpec : ChangeSpec := { name := "fnRunTo", vars := ["loop.example/g00460/impl.stackNames", "loop.example/g00460/impl.bitNames"], fn := fun _ => fun
  | [d, g1, g2] => { results := [.lit (.bool true)], args := [d], vars := [g1, g2] }
  | _ => none }
def fnRunToRow : OpenClaim := { program := "ytnjolmbdbgbmbaagreatdoor", sum := "59c05afb075645971e8818b17985f09ca37d43f205e94a6a2974cf8cad230143", func := "loop.example/g00460/laws.FnRunTo", spec := "fnRunTo", inPlace := ["internal/bytealg.IndexByteString", "internal/bytealg.IndexString"], unfollowed := true, recurses := true, named := ["internal/bytealg.MaxLen", "loop.example/g00460/impl.stackNames", "loop.example/g00460/impl.bitNames"], apart := false, laid := [("loop.example/g00460/impl.stackNames", laid_loop_example_g00460_impl_stackNames), ("loop.example/g00460/impl.bitNames", laid_loop_example_g00460_impl_bitNames)] }
def FnRunToSaid : Prop := fnRunToRow.holds Tryz.pinned (OpenSpec.ofChange fnRunToSpec)

/-- ITS FALSE NEIGHBOUR: 'it returns false'. Refute it at one input. -/
def fnRunToWrong : ChangeSpec := { name := "fnRunTo", vars := ["loop.example/g00460/impl.stackNames", "loop.example/g00460/impl.bitNames"], fn := fun _ => fun
  | [d, g1, g2] => { results := [.lit (.bool false)], args := [d], vars := [g1, g2] }
  | _ => none }
def FnRunToWrongFalsely : Prop := fnRunToRow.holds Tryz.pinned (OpenSpec.ofChange fnRunToWrong)

/- THE SECOND FORM. 'bulk': how many values and letters a reading holds, each counted each time it is reached (what is shared counts as often as it is met; a slice's spare places count too). A statement '..UptoSaid' is the law's where the arguments, and the package variables that the reading takes, are together of bulk at most 1048576: NARROWER than '..Said'. Prove '..Said' where nothing that the law and all that it calls make is longer than what came in: it says more and counts as full. Else prove '..UptoSaid'. A law counts once. -/
mutual
def uptoBulk {H : Type} : DataW H → Nat
  | .lit (.string bytes) => bytes.length + 1
  | .lit _ => 1
  | .nil => 1
  | .ptr d => uptoBulk d + 1
  | .slice elems spare => uptoBulkAll elems + uptoBulkAll spare + 1
  | .agg parts => uptoBulkAll parts + 1
  | .iface _ d => uptoBulk d + 1
  | .map entries => uptoBulkEntries entries + 1
  | .held _ => 1
def uptoBulkAll {H : Type} : List (DataW H) → Nat
  | [] => 0
  | d :: r => uptoBulk d + uptoBulkAll r
def uptoBulkEntries {H : Type} : List (Lit × DataW H) → Nat
  | [] => 0
  | x :: r => uptoBulkEntry x + uptoBulkEntries r
def uptoBulkEntry {H : Type} : Lit × DataW H → Nat
  | (.string bytes, d) => bytes.length + uptoBulk d + 1
  | (_, d) => uptoBulk d + 1
 end
def uptoSmall : (H : Type) → List (DataW H) → Bool := fun _ ds => decide (uptoBulkAll ds ≤ 1048576)
def OpenSpec.upto (s : _root_.Go.ChangeSpec) : _root_.Go.OpenSpec := { _root_.Go.OpenSpec.ofChange s with cond := some uptoSmall }

/-- 'laws.FnExactRunFor', WHERE WHAT IT READS IS OF BULK AT MOST 1048576: true; the input reads as it did. -/
def fnExactRunForUptoRow : OpenClaim := { program := "ytnjolmbdbgbmbaagreatdoor", sum := "59c05afb075645971e8818b17985f09ca37d43f205e94a6a2974cf8cad230143", func := "loop.example/g00460/laws.FnExactRunFor", spec := "fnExactRunFor", inPlace := ["internal/bytealg.IndexByteString", "internal/bytealg.IndexString"], unfollowed := true, recurses := true, named := ["internal/bytealg.MaxLen", "loop.example/g00460/impl.stackNames", "loop.example/g00460/impl.bitNames"], apart := false, laid := [("loop.example/g00460/impl.stackNames", laid_loop_example_g00460_impl_stackNames), ("loop.example/g00460/impl.bitNames", laid_loop_example_g00460_impl_bitNames)], narrowed := true }
def FnExactRunForUptoSaid : Prop := fnExactRunForUptoRow.holds Tryz.pinned (OpenSpec.upto fnExactRunForSpec)

/-- 'laws.FnExactRunTo', WHERE WHAT IT READS IS OF BULK AT MOST 1048576: true; the input reads as it did. -/
def fnExactRunToUptoRow : OpenClaim := { program := "ytnjolmbdbgbmbaagreatdoor", sum := "59c05afb075645971e8818b17985f09ca37d43f205e94a6a2974cf8cad230143", func := "loop.example/g00460/laws.FnExactRunTo", spec := "fnExactRunTo", inPlace := ["internal/bytealg.IndexByteString", "internal/bytealg.IndexString"], unfollowed := true, recurses := true, named := ["internal/bytealg.MaxLen", "loop.example/g00460/impl.stackNames", "loop.example/g00460/impl.bitNames"], apart := false, laid := [("loop.example/g00460/impl.stackNames", laid_loop_example_g00460_impl_stackNames), ("loop.example/g00460/impl.bitNames", laid_loop_example_g00460_impl_bitNames)], narrowed := true }
def FnExactRunToUptoSaid : Prop := fnExactRunToUptoRow.holds Tryz.pinned (OpenSpec.upto fnExactRunToSpec)

/-- 'laws.FnSum', WHERE WHAT IT READS IS OF BULK AT MOST 1048576: true; the input reads as it did. -/
def fnSumUptoRow : OpenClaim := { program := "ytnjolmbdbgbmbaagreatdoor", sum := "59c05afb075645971e8818b17985f09ca37d43f205e94a6a2974cf8cad230143", func := "loop.example/g00460/laws.FnSum", spec := "fnSum", inPlace := ["internal/bytealg.IndexByteString", "internal/bytealg.IndexString"], unfollowed := true, recurses := true, named := ["internal/bytealg.MaxLen", "loop.example/g00460/impl.stackNames", "loop.example/g00460/impl.bitNames"], apart := false, laid := [("loop.example/g00460/impl.stackNames", laid_loop_example_g00460_impl_stackNames), ("loop.example/g00460/impl.bitNames", laid_loop_example_g00460_impl_bitNames)], narrowed := true }
def FnSumUptoSaid : Prop := fnSumUptoRow.holds Tryz.pinned (OpenSpec.upto fnSumSpec)

/-- 'laws.FnCalls', WHERE WHAT IT READS IS OF BULK AT MOST 1048576: true; the input reads as it did. -/
def fnCallsUptoRow : OpenClaim := { program := "ytnjolmbdbgbmbaagreatdoor", sum := "59c05afb075645971e8818b17985f09ca37d43f205e94a6a2974cf8cad230143", func := "loop.example/g00460/laws.FnCalls", spec := "fnCalls", inPlace := ["internal/bytealg.IndexByteString", "internal/bytealg.IndexString"], unfollowed := true, recurses := true, named := ["internal/bytealg.MaxLen", "loop.example/g00460/impl.stackNames", "loop.example/g00460/impl.bitNames"], apart := false, laid := [("loop.example/g00460/impl.stackNames", laid_loop_example_g00460_impl_stackNames), ("loop.example/g00460/impl.bitNames", laid_loop_example_g00460_impl_bitNames)], narrowed := true }
def FnCallsUptoSaid : Prop := fnCallsUptoRow.holds Tryz.pinned (OpenSpec.upto fnCallsSpec)

/-- 'laws.FnPushed', WHERE WHAT IT READS IS OF BULK AT MOST 1048576: true; the input reads as it did. -/
def fnPushedUptoRow : OpenClaim := { program := "ytnjolmbdbgbmbaagreatdoor", sum := "59c05afb075645971e8818b17985f09ca37d43f205e94a6a2974cf8cad230143", func := "loop.example/g00460/laws.FnPushed", spec := "fnPushed", inPlace := ["internal/bytealg.IndexByteString", "internal/bytealg.IndexString"], unfollowed := true, recurses := true, named := ["internal/bytealg.MaxLen", "loop.example/g00460/impl.stackNames", "loop.example/g00460/impl.bitNames"], apart := false, laid := [("loop.example/g00460/impl.stackNames", laid_loop_example_g00460_impl_stackNames), ("loop.example/g00460/impl.bitNames", laid_loop_example_g00460_impl_bitNames)], narrowed := true }
def FnPushedUptoSaid : Prop := fnPushedUptoRow.holds Tryz.pinned (OpenSpec.upto fnPushedSpec)

/-- 'laws.FnStepOk', WHERE WHAT IT READS IS OF BULK AT MOST 1048576: true; the input reads as it did. -/
def fnStepOkUptoRow : OpenClaim := { program := "ytnjolmbdbgbmbaagreatdoor", sum := "59c05afb075645971e8818b17985f09ca37d43f205e94a6a2974cf8cad230143", func := "loop.example/g00460/laws.FnStepOk", spec := "fnStepOk", inPlace := ["internal/bytealg.IndexByteString", "internal/bytealg.IndexString"], unfollowed := true, recurses := true, named := ["internal/bytealg.MaxLen", "loop.example/g00460/impl.stackNames", "loop.example/g00460/impl.bitNames"], apart := false, laid := [("loop.example/g00460/impl.stackNames", laid_loop_example_g00460_impl_stackNames), ("loop.example/g00460/impl.bitNames", laid_loop_example_g00460_impl_bitNames)], narrowed := true }
def FnStepOkUptoSaid : Prop := fnStepOkUptoRow.holds Tryz.pinned (OpenSpec.upto fnStepOkSpec)

/-- 'laws.FnHere', WHERE WHAT IT READS IS OF BULK AT MOST 1048576: true; the input reads as it did. -/
def fnHereUptoRow : OpenClaim := { program := "ytnjolmbdbgbmbaagreatdoor", sum := "59c05afb075645971e8818b17985f09ca37d43f205e94a6a2974cf8cad230143", func := "loop.example/g00460/laws.FnHere", spec := "fnHere", inPlace := ["internal/bytealg.IndexByteString", "internal/bytealg.IndexString"], unfollowed := true, recurses := true, named := ["internal/bytealg.MaxLen", "loop.example/g00460/impl.stackNames", "loop.example/g00460/impl.bitNames"], apart := false, laid := [("loop.example/g00460/impl.stackNames", laid_loop_example_g00460_impl_stackNames), ("loop.example/g00460/impl.bitNames", laid_loop_example_g00460_impl_bitNames)], narrowed := true }
def FnHereUptoSaid : Prop := fnHereUptoRow.holds Tryz.pinned (OpenSpec.upto fnHereSpec)

/-- 'laws.FnRunPieces', WHERE WHAT IT READS IS OF BULK AT MOST 1048576: true; the input reads as it did. -/
def fnRunPiecesUptoRow : OpenClaim := { program := "ytnjolmbdbgbmbaagreatdoor", sum := "59c05afb075645971e8818b17985f09ca37d43f205e94a6a2974cf8cad230143", func := "loop.example/g00460/laws.FnRunPieces", spec := "fnRunPieces", inPlace := ["internal/bytealg.IndexByteString", "internal/bytealg.IndexString"], unfollowed := true, recurses := true, named := ["internal/bytealg.MaxLen", "loop.example/g00460/impl.stackNames", "loop.example/g00460/impl.bitNames"], apart := false, laid := [("loop.example/g00460/impl.stackNames", laid_loop_example_g00460_impl_stackNames), ("loop.example/g00460/impl.bitNames", laid_loop_example_g00460_impl_bitNames)], narrowed := true }
def FnRunPiecesUptoSaid : Prop := fnRunPiecesUptoRow.holds Tryz.pinned (OpenSpec.upto fnRunPiecesSpec)

/-- 'laws.FnRunTo', WHERE WHAT IT READS IS OF BULK AT MOST 1048576: true; the input reads as it did. -/
def fnRunToUptoRow : OpenClaim := { program := "ytnjolmbdbgbmbaagreatdoor", sum := "59c05afb075645971e8818b17985f09ca37d43f205e94a6a2974cf8cad230143", func := "loop.example/g00460/laws.FnRunTo", spec := "fnRunTo", inPlace := ["internal/bytealg.IndexByteString", "internal/bytealg.IndexString"], unfollowed := true, recurses := true, named := ["internal/bytealg.MaxLen", "loop.example/g00460/impl.stackNames", "loop.example/g00460/impl.bitNames"], apart := false, laid := [("loop.example/g00460/impl.stackNames", laid_loop_example_g00460_impl_stackNames), ("loop.example/g00460/impl.bitNames", laid_loop_example_g00460_impl_bitNames)], narrowed := true }
def FnRunToUptoSaid : Prop := fnRunToUptoRow.holds Tryz.pinned (OpenSpec.upto fnRunToSpec)

end Rows
end Go.Proofs.YtnjolmbdbgbmbaaGreatDoor
