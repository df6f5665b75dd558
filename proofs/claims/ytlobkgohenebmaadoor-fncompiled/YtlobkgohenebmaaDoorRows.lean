/-
  NARROWER THAN 'FOR EVERY INPUT', by the rows' own cells (each row's printed sentence says how): FnPrecedence: laid · FnCompiled: laid.
  DERIVED. THE GIVEN ROWS OF THIS SEAT. 2 by the template 'for every input the law returns true; each argument reads behind the call as it read before'; 0 by the template 'total and deterministic' (their statements: YtlobkgohenebmaaDoorTotals.lean).
  GIVEN WITH THE SEED: the statements are not yours to turn. If you find one false, say at which input.
  Laid BY PROGRAM, IN A SANDBOX (cutbox-rows.mjs): the forced cells as the released guide's own fill.sh prints them over the translation 4f07b4b286d2f0fb… (all of the seat's roots in one cut). By AI agents, Wed Nov 11 2026. No macro, syntax, notation, axiom, sorry.
-/
import Derived.Test.YtlobkgohenebmaaDoorChecked
import GoSem.Claim
import GoSem.ClaimJoined
import GoSem.ClaimMapViews
import Derived.JoinedTies
import Derived.KernelRfl
namespace Go.Proofs.YtlobkgohenebmaaDoor
/- THE CELL 'sum', in the pinned program and in every row, IS THE sha256 OF THE DUMP (.gsa) THAT YtlobkgohenebmaaDoorProg.lean LOADS. Nothing in Lean hashes anything: it is a label: what it is worth is what the hold of that sum in a sandbox is worth. -/
noncomputable def Tryd.pinned : Pinned := { name := "ytlobkgohenebmaadoor", sum := "4f07b4b286d2f0fb5e8ba258474aa66c863aa39dd739a5e1842f832e4e0d0a05", checked := Tryd.checked }
namespace Rows
def none {H : Type} : Left H := { results := [], args := [] }

/- WHAT THE LISTED PACKAGE-LEVEL VARIABLES READ AS WHEN THE CALL BEGINS. Each datum BY PROGRAM (the guide's laid-datum.mjs) off the statement by which the dump's own 'gosem.cut.vars' lays the variable. In a bare row this is a premise. The card (YtlobkgohenebmaaDoorCards.lean) ties it to the program's text. -/
def laid_loop_example_g00460_impl_hexDigits {H : Type} : DataW H := .agg [.lit (.int .u8 48), .lit (.int .u8 49), .lit (.int .u8 50), .lit (.int .u8 51), .lit (.int .u8 52), .lit (.int .u8 53), .lit (.int .u8 54), .lit (.int .u8 55), .lit (.int .u8 56), .lit (.int .u8 57), .lit (.int .u8 65), .lit (.int .u8 66), .lit (.int .u8 67), .lit (.int .u8 68), .lit (.int .u8 69), .lit (.int .u8 70)]

/-- 'laws.FnPrecedence': WHATEVER THE INPUT: true; the input reads as it did. -/
def fnPrecedenceSpec : ChangeSpec := { name := "fnPrecedence", vars := ["loop.example/g00460/impl.hexDigits"], fn := fun _ => fun
  | [d, g1] => { results := [.lit (.bool true)], args := [d], vars := [g1] }
  | _ => none }
def fnPrecedenceRow : OpenClaim := { program := "ytlobkgohenebmaadoor", sum := "4f07b4b286d2f0fb5e8ba258474aa66c863aa39dd739a5e1842f832e4e0d0a05", func := "loop.example/g00460/laws.FnPrecedence", spec := "fnPrecedence", unfollowed := true, recurses := true, named := ["loop.example/g00460/impl.hexDigits"], apart := false, laid := [("loop.example/g00460/impl.hexDigits", laid_loop_example_g00460_impl_hexDigits)] }
def FnPrecedenceSaid : Prop := fnPrecedenceRow.holds Tryd.pinned (OpenSpec.ofChange fnPrecedenceSpec)

/-- ITS FALSE NEIGHBOUR: 'it returns false'. Refute it at one input. -/
def fnPrecedenceWrong : ChangeSpec := { name := "fnPrecedence", vars := ["loop.example/g00460/impl.hexDigits"], fn := fun _ => fun
  | [d, g1] => { results := [.lit (.bool false)], args := [d], vars := [g1] }
  | _ => none }
def FnPrecedenceWrongFalsely : Prop := fnPrecedenceRow.holds Tryd.pinned (OpenSpec.ofChange fnPrecedenceWrong)

/-- 'laws.FnCompiled': WHATEVER THE INPUT: true; the input reads as it did. -/
def fnCompiledSpec : ChangeSpec := { name := "fnCompiled", vars := ["loop.example/g00460/impl.hexDigits"], fn := fun _ => fun
  | [d, g1] => { results := [.lit (.bool true)], args := [d], vars := [g1] }
  | _ => none }
def fnCompiledRow : OpenClaim := { program := "ytlobkgohenebmaadoor", sum := "4f07b4b286d2f0fb5e8ba258474aa66c863aa39dd739a5e1842f832e4e0d0a05", func := "loop.example/g00460/laws.FnCompiled", spec := "fnCompiled", unfollowed := true, recurses := true, named := ["loop.example/g00460/impl.hexDigits"], apart := false, laid := [("loop.example/g00460/impl.hexDigits", laid_loop_example_g00460_impl_hexDigits)] }
def FnCompiledSaid : Prop := fnCompiledRow.holds Tryd.pinned (OpenSpec.ofChange fnCompiledSpec)

/-- ITS FALSE NEIGHBOUR: 'it returns false'. Refute it at one input. -/
def fnCompiledWrong : ChangeSpec := { name := "fnCompiled", vars := ["loop.example/g00460/impl.hexDigits"], fn := fun _ => fun
  | [d, g1] => { results := [.lit (.bool false)], args := [d], vars := [g1] }
  | _ => none }
def FnCompiledWrongFalsely : Prop := fnCompiledRow.holds Tryd.pinned (OpenSpec.ofChange fnCompiledWrong)

/- THE SECOND FORM. 'bulk': how many values and letters a reading holds, each counted each time it is reached (what is shared counts as often as it is met; a slice's spare places count too). A statement '..UptoSaid' is the law's where the arguments, and the package variables that the reading takes, are together of bulk at most 1048576: NARROWER than '..Said'. Prove '..Said' where nothing that the law and all that it calls make is longer than what came in: it says more and counts as full. Else prove '..UptoSaid'. A law counts once. -/
mutual
def uptoBulk {H : Type} : DataW H → Nat
  | .lit (.string bytes) => bytes.length + 1
  | .lit _ => 1
  | .nil => 1
  | .ptr d => uptoBulk d + 1
  | .slice elems spare => uptoBulkAll elems + uptoBulkAll spare + 1
  | .agg parts => uptoBulkAll parts + 1
  | .iface _ d => uptoBulk d + 1
  | .map entries => uptoBulkEntries entries + 1
  | .held _ => 1
def uptoBulkAll {H : Type} : List (DataW H) → Nat
  | [] => 0
  | d :: r => uptoBulk d + uptoBulkAll r
def uptoBulkEntries {H : Type} : List (Lit × DataW H) → Nat
  | [] => 0
  | x :: r => uptoBulkEntry x + uptoBulkEntries r
def uptoBulkEntry {H : Type} : Lit × DataW H → Nat
  | (.string bytes, d) => bytes.length + uptoBulk d + 1
  | (_, d) => uptoBulk d + 1
 end
def uptoSmall : (H : Type) → List (DataW H) → Bool := fun _ ds => decide (uptoBulkAll ds ≤ 1048576)
def OpenSpec.upto (s : _root_.Go.ChangeSpec) : _root_.Go.OpenSpec := { _root_.Go.OpenSpec.ofChange s with cond := some uptoSmall }

/-- 'laws.FnPrecedence', WHERE WHAT IT READS IS OF BULK AT MOST 1048576: true; the input reads as it did. -/
def fnPrecedenceUptoRow : OpenClaim := { program := "ytlobkgohenebmaadoor", sum := "4f07b4b286d2f0fb5e8ba258474aa66c863aa39dd739a5e1842f832e4e0d0a05", func := "loop.example/g00460/laws.FnPrecedence", spec := "fnPrecedence", unfollowed := true, recurses := true, named := ["loop.example/g00460/impl.hexDigits"], apart := false, laid := [("loop.example/g00460/impl.hexDigits", laid_loop_example_g00460_impl_hexDigits)], narrowed := true }
def FnPrecedenceUptoSaid : Prop := fnPrecedenceUptoRow.holds Tryd.pinned (OpenSpec.upto fnPrecedenceSpec)

/-- 'laws.FnCompiled', WHERE WHAT IT READS IS OF BULK AT MOST 1048576: true; the input reads as it did. -/
def fnCompiledUptoRow : OpenClaim := { program := "ytlobkgohenebmaadoor", sum := "4f07b4b286d2f0fb5e8ba258474aa66c863aa39dd739a5e1842f832e4e0d0a05", func := "loop.example/g00460/laws.FnCompiled", spec := "fnCompiled", unfollowed := true, recurses := true, named := ["loop.example/g00460/impl.hexDigits"], apart := false, laid := [("loop.example/g00460/impl.hexDigits", laid_loop_example_g00460_impl_hexDigits)], narrowed := true }
def FnCompiledUptoSaid : Prop := fnCompiledUptoRow.holds Tryd.pinned (OpenSpec.upto fnCompiledSpec)

end Rows
end Go.Proofs.YtlobkgohenebmaaDoor
