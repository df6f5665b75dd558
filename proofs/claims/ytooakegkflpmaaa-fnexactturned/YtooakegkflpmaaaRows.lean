/-
  No cell of these rows narrows 'for every input' (looked for: loops, veiled, ifaces, maps, wideKeys, modest, calm, conditions, laid).
  DERIVED. THE GIVEN ROWS OF THIS SEAT. 6 by the template 'for every input the law returns true; each argument reads behind the call as it read before'; 0 by the template 'total and deterministic' (their statements: YtooakegkflpmaaaTotals.lean).
  GIVEN WITH THE SEED: the statements are not yours to turn. If you find one false, say at which input.
  Laid BY PROGRAM, IN A SANDBOX (cutbox-rows.mjs): the forced cells as the released guide's own fill.sh prints them over the translation 771e0cb772f5ab5a… (all of the seat's roots in one cut). By AI agents, Wed Nov 11 2026. No macro, syntax, notation, axiom, sorry.
-/
import Derived.Test.YtooakegkflpmaaaChecked
import GoSem.Claim
import GoSem.ClaimJoined
import GoSem.ClaimMapViews
import Derived.JoinedTies
import Derived.KernelRfl
namespace Go.Proofs.Ytooakegkflpmaaa
/- THE CELL 'sum', in the pinned program and in every row, IS THE sha256 OF THE DUMP (.gsa) THAT YtooakegkflpmaaaProg.lean LOADS. Nothing in Lean hashes anything: it is a label: what it is worth is what the hold of that sum in a sandbox is worth. -/
noncomputable def Try.pinned : Pinned := { name := "ytooakegkflpmaaa", sum := "771e0cb772f5ab5aa886e61ab967196c2b439344d7368d8da482f2b53f53cb67", checked := Try.checked }
namespace Rows
def none {H : Type} : Left H := { results := [], args := [] }

/-- 'laws.FnExactAlu': WHATEVER THE INPUT: true; the input reads as it did. -/
def fnExactAluSpec : ChangeSpec := { name := "fnExactAlu", fn := fun _ => fun
  | [d1, d2, d3, d4] => { results := [.lit (.bool true)], args := [d1, d2, d3, d4] }
  | _ => none }
def fnExactAluRow : OpenClaim := { program := "ytooakegkflpmaaa", sum := "771e0cb772f5ab5aa886e61ab967196c2b439344d7368d8da482f2b53f53cb67", func := "loop.example/g00460/laws.FnExactAlu", spec := "fnExactAlu", unfollowed := true, recurses := true, apart := false }
def FnExactAluSaid : Prop := fnExactAluRow.holds Try.pinned (OpenSpec.ofChange fnExactAluSpec)

/-- ITS FALSE NEIGHBOUR: 'it returns false'. Refute it at one input. -/
def fnExactAluWrong : ChangeSpec := { name := "fnExactAlu", fn := fun _ => fun
  | [d1, d2, d3, d4] => { results := [.lit (.bool false)], args := [d1, d2, d3, d4] }
  | _ => none }
def FnExactAluWrongFalsely : Prop := fnExactAluRow.holds Try.pinned (OpenSpec.ofChange fnExactAluWrong)

/-- 'laws.FnExactStepped8': WHATEVER THE INPUT: true; the input reads as it did. -/
def fnExactStepped8Spec : ChangeSpec := { name := "fnExactStepped8", fn := fun _ => fun
  | [d1, d2, d3] => { results := [.lit (.bool true)], args := [d1, d2, d3] }
  | _ => none }
def fnExactStepped8Row : OpenClaim := { program := "ytooakegkflpmaaa", sum := "771e0cb772f5ab5aa886e61ab967196c2b439344d7368d8da482f2b53f53cb67", func := "loop.example/g00460/laws.FnExactStepped8", spec := "fnExactStepped8", apart := false }
def FnExactStepped8Said : Prop := fnExactStepped8Row.holds Try.pinned (OpenSpec.ofChange fnExactStepped8Spec)

/-- ITS FALSE NEIGHBOUR: 'it returns false'. Refute it at one input. -/
def fnExactStepped8Wrong : ChangeSpec := { name := "fnExactStepped8", fn := fun _ => fun
  | [d1, d2, d3] => { results := [.lit (.bool false)], args := [d1, d2, d3] }
  | _ => none }
def FnExactStepped8WrongFalsely : Prop := fnExactStepped8Row.holds Try.pinned (OpenSpec.ofChange fnExactStepped8Wrong)

/-- 'laws.FnExactTurned': WHATEVER THE INPUT: true; the input reads as it did. -/
def fnExactTurnedSpec : ChangeSpec := { name := "fnExactTurned", fn := fun _ => fun
  | [d1, d2, d3] => { results := [.lit (.bool true)], args := [d1, d2, d3] }
  | _ => none }
def fnExactTurnedRow : OpenClaim := { program := "ytooakegkflpmaaa", sum := "771e0cb772f5ab5aa886e61ab967196c2b439344d7368d8da482f2b53f53cb67", func := "loop.example/g00460/laws.FnExactTurned", spec := "fnExactTurned", unfollowed := true, recurses := true, apart := false }
def FnExactTurnedSaid : Prop := fnExactTurnedRow.holds Try.pinned (OpenSpec.ofChange fnExactTurnedSpec)

/-- ITS FALSE NEIGHBOUR: 'it returns false'. Refute it at one input. -/
def fnExactTurnedWrong : ChangeSpec := { name := "fnExactTurned", fn := fun _ => fun
  | [d1, d2, d3] => { results := [.lit (.bool false)], args := [d1, d2, d3] }
  | _ => none }
def FnExactTurnedWrongFalsely : Prop := fnExactTurnedRow.holds Try.pinned (OpenSpec.ofChange fnExactTurnedWrong)

/-- 'laws.FnExactDaa': WHATEVER THE INPUT: true; the input reads as it did. -/
def fnExactDaaSpec : ChangeSpec := { name := "fnExactDaa", fn := fun _ => fun
  | [d1, d2] => { results := [.lit (.bool true)], args := [d1, d2] }
  | _ => none }
def fnExactDaaRow : OpenClaim := { program := "ytooakegkflpmaaa", sum := "771e0cb772f5ab5aa886e61ab967196c2b439344d7368d8da482f2b53f53cb67", func := "loop.example/g00460/laws.FnExactDaa", spec := "fnExactDaa", apart := false }
def FnExactDaaSaid : Prop := fnExactDaaRow.holds Try.pinned (OpenSpec.ofChange fnExactDaaSpec)

/-- ITS FALSE NEIGHBOUR: 'it returns false'. Refute it at one input. -/
def fnExactDaaWrong : ChangeSpec := { name := "fnExactDaa", fn := fun _ => fun
  | [d1, d2] => { results := [.lit (.bool false)], args := [d1, d2] }
  | _ => none }
def FnExactDaaWrongFalsely : Prop := fnExactDaaRow.holds Try.pinned (OpenSpec.ofChange fnExactDaaWrong)

/-- 'laws.FnExactAddWords': WHATEVER THE INPUT: true; the input reads as it did. -/
def fnExactAddWordsSpec : ChangeSpec := { name := "fnExactAddWords", fn := fun _ => fun
  | [d1, d2, d3] => { results := [.lit (.bool true)], args := [d1, d2, d3] }
  | _ => none }
def fnExactAddWordsRow : OpenClaim := { program := "ytooakegkflpmaaa", sum := "771e0cb772f5ab5aa886e61ab967196c2b439344d7368d8da482f2b53f53cb67", func := "loop.example/g00460/laws.FnExactAddWords", spec := "fnExactAddWords", apart := false }
def FnExactAddWordsSaid : Prop := fnExactAddWordsRow.holds Try.pinned (OpenSpec.ofChange fnExactAddWordsSpec)

/-- ITS FALSE NEIGHBOUR: 'it returns false'. Refute it at one input. -/
def fnExactAddWordsWrong : ChangeSpec := { name := "fnExactAddWords", fn := fun _ => fun
  | [d1, d2, d3] => { results := [.lit (.bool false)], args := [d1, d2, d3] }
  | _ => none }
def FnExactAddWordsWrongFalsely : Prop := fnExactAddWordsRow.holds Try.pinned (OpenSpec.ofChange fnExactAddWordsWrong)

/-- 'laws.FnExactAddSigned': WHATEVER THE INPUT: true; the input reads as it did. -/
def fnExactAddSignedSpec : ChangeSpec := { name := "fnExactAddSigned", fn := fun _ => fun
  | [d1, d2] => { results := [.lit (.bool true)], args := [d1, d2] }
  | _ => none }
def fnExactAddSignedRow : OpenClaim := { program := "ytooakegkflpmaaa", sum := "771e0cb772f5ab5aa886e61ab967196c2b439344d7368d8da482f2b53f53cb67", func := "loop.example/g00460/laws.FnExactAddSigned", spec := "fnExactAddSigned", apart := false }
def FnExactAddSignedSaid : Prop := fnExactAddSignedRow.holds Try.pinned (OpenSpec.ofChange fnExactAddSignedSpec)

/-- ITS FALSE NEIGHBOUR: 'it returns false'. Refute it at one input. -/
def fnExactAddSignedWrong : ChangeSpec := { name := "fnExactAddSigned", fn := fun _ => fun
  | [d1, d2] => { results := [.lit (.bool false)], args := [d1, d2] }
  | _ => none }
def FnExactAddSignedWrongFalsely : Prop := fnExactAddSignedRow.holds Try.pinned (OpenSpec.ofChange fnExactAddSignedWrong)

/- THE SECOND FORM. 'bulk': how many values and letters a reading holds, each counted each time it is reached (what is shared counts as often as it is met; a slice's spare places count too). A statement '..UptoSaid' is the law's where the arguments, and the package variables that the reading takes, are together of bulk at most 1048576: NARROWER than '..Said'. Prove '..Said' where nothing that the law and all that it calls make is longer than what came in: it says more and counts as full. Else prove '..UptoSaid'. A law counts once. -/
mutual
def uptoBulk {H : Type} : DataW H → Nat
  | .lit (.string bytes) => bytes.length + 1
  | .lit _ => 1
  | .nil => 1
  | .ptr d => uptoBulk d + 1
  | .slice elems spare => uptoBulkAll elems + uptoBulkAll spare + 1
  | .agg parts => uptoBulkAll parts + 1
  | .iface _ d => uptoBulk d + 1
  | .map entries => uptoBulkEntries entries + 1
  | .held _ => 1
def uptoBulkAll {H : Type} : List (DataW H) → Nat
  | [] => 0
  | d :: r => uptoBulk d + uptoBulkAll r
def uptoBulkEntries {H : Type} : List (Lit × DataW H) → Nat
  | [] => 0
  | x :: r => uptoBulkEntry x + uptoBulkEntries r
def uptoBulkEntry {H : Type} : Lit × DataW H → Nat
  | (.string bytes, d) => bytes.length + uptoBulk d + 1
  | (_, d) => uptoBulk d + 1
 end
def uptoSmall : (H : Type) → List (DataW H) → Bool := fun _ ds => decide (uptoBulkAll ds ≤ 1048576)
def OpenSpec.upto (s : _root_.Go.ChangeSpec) : _root_.Go.OpenSpec := { _root_.Go.OpenSpec.ofChange s with cond := some uptoSmall }

/-- 'laws.FnExactAlu', WHERE WHAT IT READS IS OF BULK AT MOST 1048576: true; the input reads as it did. -/
def fnExactAluUptoRow : OpenClaim := { program := "ytooakegkflpmaaa", sum := "771e0cb772f5ab5aa886e61ab967196c2b439344d7368d8da482f2b53f53cb67", func := "loop.example/g00460/laws.FnExactAlu", spec := "fnExactAlu", unfollowed := true, recurses := true, apart := false, narrowed := true }
def FnExactAluUptoSaid : Prop := fnExactAluUptoRow.holds Try.pinned (OpenSpec.upto fnExactAluSpec)

/-- 'laws.FnExactStepped8', WHERE WHAT IT READS IS OF BULK AT MOST 1048576: true; the input reads as it did. -/
def fnExactStepped8UptoRow : OpenClaim := { program := "ytooakegkflpmaaa", sum := "771e0cb772f5ab5aa886e61ab967196c2b439344d7368d8da482f2b53f53cb67", func := "loop.example/g00460/laws.FnExactStepped8", spec := "fnExactStepped8", apart := false, narrowed := true }
def FnExactStepped8UptoSaid : Prop := fnExactStepped8UptoRow.holds Try.pinned (OpenSpec.upto fnExactStepped8Spec)

/-- 'laws.FnExactTurned', WHERE WHAT IT READS IS OF BULK AT MOST 1048576: true; the input reads as it did. -/
def fnExactTurnedUptoRow : OpenClaim := { program := "ytooakegkflpmaaa", sum := "771e0cb772f5ab5aa886e61ab967196c2b439344d7368d8da482f2b53f53cb67", func := "loop.example/g00460/laws.FnExactTurned", spec := "fnExactTurned", unfollowed := true, recurses := true, apart := false, narrowed := true }
def FnExactTurnedUptoSaid : Prop := fnExactTurnedUptoRow.holds Try.pinned (OpenSpec.upto fnExactTurnedSpec)

/-- 'laws.FnExactDaa', WHERE WHAT IT READS IS OF BULK AT MOST 1048576: true; the input reads as it did. -/
def fnExactDaaUptoRow : OpenClaim := { program := "ytooakegkflpmaaa", sum := "771e0cb772f5ab5aa886e61ab967196c2b439344d7368d8da482f2b53f53cb67", func := "loop.example/g00460/laws.FnExactDaa", spec := "fnExactDaa", apart := false, narrowed := true }
def FnExactDaaUptoSaid : Prop := fnExactDaaUptoRow.holds Try.pinned (OpenSpec.upto fnExactDaaSpec)

/-- 'laws.FnExactAddWords', WHERE WHAT IT READS IS OF BULK AT MOST 1048576: true; the input reads as it did. -/
def fnExactAddWordsUptoRow : OpenClaim := { program := "ytooakegkflpmaaa", sum := "771e0cb772f5ab5aa886e61ab967196c2b439344d7368d8da482f2b53f53cb67", func := "loop.example/g00460/laws.FnExactAddWords", spec := "fnExactAddWords", apart := false, narrowed := true }
def FnExactAddWordsUptoSaid : Prop := fnExactAddWordsUptoRow.holds Try.pinned (OpenSpec.upto fnExactAddWordsSpec)

/-- 'laws.FnExactAddSigned', WHERE WHAT IT READS IS OF BULK AT MOST 1048576: true; the input reads as it did. -/
def fnExactAddSignedUptoRow : OpenClaim := { program := "ytooakegkflpmaaa", sum := "771e0cb772f5ab5aa886e61ab967196c2b439344d7368d8da482f2b53f53cb67", func := "loop.example/g00460/laws.FnExactAddSigned", spec := "fnExactAddSigned", apart := false, narrowed := true }
def FnExactAddSignedUptoSaid : Prop := fnExactAddSignedUptoRow.holds Try.pinned (OpenSpec.upto fnExactAddSignedSpec)

end Rows
end Go.Proofs.Ytooakegkflpmaaa
