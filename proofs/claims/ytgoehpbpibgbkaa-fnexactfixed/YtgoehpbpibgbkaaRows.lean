/-
  No cell of these rows narrows 'for every input' (looked for: loops, veiled, ifaces, maps, wideKeys, modest, calm, conditions, laid).
  DERIVED. THE GIVEN ROWS OF THIS SEAT. 3 by the template 'for every input the law returns true; each argument reads behind the call as it read before'; 0 by the template 'total and deterministic' (their statements: YtgoehpbpibgbkaaTotals.lean).
  GIVEN WITH THE SEED: the statements are not yours to turn. If you find one false, say at which input.
  Laid BY PROGRAM, IN A SANDBOX (cutbox-rows.mjs): the forced cells as the released guide's own fill.sh prints them over the translation 5d0dea442cbdcb08… (all of the seat's roots in one cut). By AI agents, Wed Nov 11 2026. No macro, syntax, notation, axiom, sorry.
-/
import Derived.Test.YtgoehpbpibgbkaaChecked
import GoSem.Claim
import GoSem.ClaimJoined
import GoSem.ClaimMapViews
import Derived.JoinedTies
import Derived.KernelRfl
namespace Go.Proofs.Ytgoehpbpibgbkaa
/- THE CELL 'sum', in the pinned program and in every row, IS THE sha256 OF THE DUMP (.gsa) THAT YtgoehpbpibgbkaaProg.lean LOADS. Nothing in Lean hashes anything: it is a label: what it is worth is what the hold of that sum in a sandbox is worth. -/
noncomputable def Try.pinned : Pinned := { name := "ytgoehpbpibgbkaa", sum := "5d0dea442cbdcb08f4d5000bddda4e7160c83d37e8f9e1df94d18d1afa7ae866", checked := Try.checked }
namespace Rows
def none {H : Type} : Left H := { results := [], args := [] }

/-- 'laws.FnExactHeaderSum': WHATEVER THE INPUT: true; the input reads as it did. -/
def fnExactHeaderSumSpec : ChangeSpec := { name := "fnExactHeaderSum", fn := fun _ => fun
  | [d] => { results := [.lit (.bool true)], args := [d] }
  | _ => none }
def fnExactHeaderSumRow : OpenClaim := { program := "ytgoehpbpibgbkaa", sum := "5d0dea442cbdcb08f4d5000bddda4e7160c83d37e8f9e1df94d18d1afa7ae866", func := "loop.example/g00460/laws.FnExactHeaderSum", spec := "fnExactHeaderSum", unfollowed := true, recurses := true, apart := false }
def FnExactHeaderSumSaid : Prop := fnExactHeaderSumRow.holds Try.pinned (OpenSpec.ofChange fnExactHeaderSumSpec)

/-- ITS FALSE NEIGHBOUR: 'it returns false'. Refute it at one input. -/
def fnExactHeaderSumWrong : ChangeSpec := { name := "fnExactHeaderSum", fn := fun _ => fun
  | [d] => { results := [.lit (.bool false)], args := [d] }
  | _ => none }
def FnExactHeaderSumWrongFalsely : Prop := fnExactHeaderSumRow.holds Try.pinned (OpenSpec.ofChange fnExactHeaderSumWrong)

/-- 'laws.FnExactWholeSum': WHATEVER THE INPUT: true; the input reads as it did. -/
def fnExactWholeSumSpec : ChangeSpec := { name := "fnExactWholeSum", fn := fun _ => fun
  | [d] => { results := [.lit (.bool true)], args := [d] }
  | _ => none }
def fnExactWholeSumRow : OpenClaim := { program := "ytgoehpbpibgbkaa", sum := "5d0dea442cbdcb08f4d5000bddda4e7160c83d37e8f9e1df94d18d1afa7ae866", func := "loop.example/g00460/laws.FnExactWholeSum", spec := "fnExactWholeSum", unfollowed := true, recurses := true, apart := false }
def FnExactWholeSumSaid : Prop := fnExactWholeSumRow.holds Try.pinned (OpenSpec.ofChange fnExactWholeSumSpec)

/-- ITS FALSE NEIGHBOUR: 'it returns false'. Refute it at one input. -/
def fnExactWholeSumWrong : ChangeSpec := { name := "fnExactWholeSum", fn := fun _ => fun
  | [d] => { results := [.lit (.bool false)], args := [d] }
  | _ => none }
def FnExactWholeSumWrongFalsely : Prop := fnExactWholeSumRow.holds Try.pinned (OpenSpec.ofChange fnExactWholeSumWrong)

/-- 'laws.FnExactFixed': WHATEVER THE INPUT: true; the input reads as it did. -/
def fnExactFixedSpec : ChangeSpec := { name := "fnExactFixed", fn := fun _ => fun
  | [d1, d2, d3] => { results := [.lit (.bool true)], args := [d1, d2, d3] }
  | _ => none }
def fnExactFixedRow : OpenClaim := { program := "ytgoehpbpibgbkaa", sum := "5d0dea442cbdcb08f4d5000bddda4e7160c83d37e8f9e1df94d18d1afa7ae866", func := "loop.example/g00460/laws.FnExactFixed", spec := "fnExactFixed", unfollowed := true, recurses := true, apart := false }
def FnExactFixedSaid : Prop := fnExactFixedRow.holds Try.pinned (OpenSpec.ofChange fnExactFixedSpec)

/-- ITS FALSE NEIGHBOUR: 'it returns false'. Refute it at one input. -/
def fnExactFixedWrong : ChangeSpec := { name := "fnExactFixed", fn := fun _ => fun
  | [d1, d2, d3] => { results := [.lit (.bool false)], args := [d1, d2, d3] }
  | _ => none }
def FnExactFixedWrongFalsely : Prop := fnExactFixedRow.holds Try.pinned (OpenSpec.ofChange fnExactFixedWrong)

/- THE SECOND FORM. 'bulk': how many values and letters a reading holds, each counted each time it is reached (what is shared counts as often as it is met; a slice's spare places count too). A statement '..UptoSaid' is the law's where the arguments, and the package variables that the reading takes, are together of bulk at most 1048576: NARROWER than '..Said'. Prove '..Said' where nothing that the law and all that it calls make is longer than what came in: it says more and counts as full. Else prove '..UptoSaid'. A law counts once. -/
mutual
def uptoBulk {H : Type} : DataW H → Nat
  | .lit (.string bytes) => bytes.length + 1
  | .lit _ => 1
  | .nil => 1
  | .ptr d => uptoBulk d + 1
  | .slice elems spare => uptoBulkAll elems + uptoBulkAll spare + 1
  | .agg parts => uptoBulkAll parts + 1
  | .iface _ d => uptoBulk d + 1
  | .map entries => uptoBulkEntries entries + 1
  | .held _ => 1
def uptoBulkAll {H : Type} : List (DataW H) → Nat
  | [] => 0
  | d :: r => uptoBulk d + uptoBulkAll r
def uptoBulkEntries {H : Type} : List (Lit × DataW H) → Nat
  | [] => 0
  | x :: r => uptoBulkEntry x + uptoBulkEntries r
def uptoBulkEntry {H : Type} : Lit × DataW H → Nat
  | (.string bytes, d) => bytes.length + uptoBulk d + 1
  | (_, d) => uptoBulk d + 1
 end
def uptoSmall : (H : Type) → List (DataW H) → Bool := fun _ ds => decide (uptoBulkAll ds ≤ 1048576)
def OpenSpec.upto (s : _root_.Go.ChangeSpec) : _root_.Go.OpenSpec := { _root_.Go.OpenSpec.ofChange s with cond := some uptoSmall }

/-- 'laws.FnExactHeaderSum', WHERE WHAT IT READS IS OF BULK AT MOST 1048576: true; the input reads as it did. -/
def fnExactHeaderSumUptoRow : OpenClaim := { program := "ytgoehpbpibgbkaa", sum := "5d0dea442cbdcb08f4d5000bddda4e7160c83d37e8f9e1df94d18d1afa7ae866", func := "loop.example/g00460/laws.FnExactHeaderSum", spec := "fnExactHeaderSum", unfollowed := true, recurses := true, apart := false, narrowed := true }
def FnExactHeaderSumUptoSaid : Prop := fnExactHeaderSumUptoRow.holds Try.pinned (OpenSpec.upto fnExactHeaderSumSpec)

/-- 'laws.FnExactWholeSum', WHERE WHAT IT READS IS OF BULK AT MOST 1048576: true; the input reads as it did. -/
def fnExactWholeSumUptoRow : OpenClaim := { program := "ytgoehpbpibgbkaa", sum := "5d0dea442cbdcb08f4d5000bddda4e7160c83d37e8f9e1df94d18d1afa7ae866", func := "loop.example/g00460/laws.FnExactWholeSum", spec := "fnExactWholeSum", unfollowed := true, recurses := true, apart := false, narrowed := true }
def FnExactWholeSumUptoSaid : Prop := fnExactWholeSumUptoRow.holds Try.pinned (OpenSpec.upto fnExactWholeSumSpec)

/-- 'laws.FnExactFixed', WHERE WHAT IT READS IS OF BULK AT MOST 1048576: true; the input reads as it did. -/
def fnExactFixedUptoRow : OpenClaim := { program := "ytgoehpbpibgbkaa", sum := "5d0dea442cbdcb08f4d5000bddda4e7160c83d37e8f9e1df94d18d1afa7ae866", func := "loop.example/g00460/laws.FnExactFixed", spec := "fnExactFixed", unfollowed := true, recurses := true, apart := false, narrowed := true }
def FnExactFixedUptoSaid : Prop := fnExactFixedUptoRow.holds Try.pinned (OpenSpec.upto fnExactFixedSpec)

end Rows
end Go.Proofs.Ytgoehpbpibgbkaa
