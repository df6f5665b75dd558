/-
  No cell of these rows narrows 'for every input' (looked for: loops, veiled, ifaces, maps, wideKeys, modest, calm, conditions, laid).
  DERIVED. THE GIVEN ROWS OF THIS SEAT. 4 by the template 'for every input the law returns true; each argument reads behind the call as it read before'; 0 by the template 'total and deterministic' (their statements: YtllpkidfldmbnaaTotals.lean).
  GIVEN WITH THE SEED: the statements are not yours to turn. If you find one false, say at which input.
  Laid BY PROGRAM, IN A SANDBOX (cutbox-rows.mjs): the forced cells as the released guide's own fill.sh prints them over the translation aed978dffd386ff3… (all of the seat's roots in one cut). By AI agents, Wed Nov 11 2026. No macro, syntax, notation, axiom, sorry.
-/
import Derived.Test.YtllpkidfldmbnaaChecked
import GoSem.Claim
import GoSem.ClaimJoined
import GoSem.ClaimMapViews
import Derived.JoinedTies
import Derived.KernelRfl
namespace Go.Proofs.Ytllpkidfldmbnaa
/- THE CELL 'sum', in the pinned program and in every row, IS THE sha256 OF THE DUMP (.gsa) THAT YtllpkidfldmbnaaProg.lean LOADS. Nothing in Lean hashes anything: it is a label: what it is worth is what the hold of that sum in a sandbox is worth. -/
noncomputable def Try.pinned : Pinned := { name := "ytllpkidfldmbnaa", sum := "aed978dffd386ff308e02a9972d3511c2f96a9ef5b2fb2753bb876baa126460f", checked := Try.checked }
namespace Rows
def none {H : Type} : Left H := { results := [], args := [] }

/-- 'laws.FnCartNew': WHATEVER THE INPUT: true; the input reads as it did. -/
def fnCartNewSpec : ChangeSpec := { name := "fnCartNew", fn := fun _ => fun
  | [d] => { results := [.lit (.bool true)], args := [d] }
  | _ => none }
def fnCartNewRow : OpenClaim := { program := "ytllpkidfldmbnaa", sum := "aed978dffd386ff308e02a9972d3511c2f96a9ef5b2fb2753bb876baa126460f", func := "loop.example/g00460/laws.FnCartNew", spec := "fnCartNew", unfollowed := true, recurses := true, apart := false }
def FnCartNewSaid : Prop := fnCartNewRow.holds Try.pinned (OpenSpec.ofChange fnCartNewSpec)

/-- ITS FALSE NEIGHBOUR: 'it returns false'. Refute it at one input. -/
def fnCartNewWrong : ChangeSpec := { name := "fnCartNew", fn := fun _ => fun
  | [d] => { results := [.lit (.bool false)], args := [d] }
  | _ => none }
def FnCartNewWrongFalsely : Prop := fnCartNewRow.holds Try.pinned (OpenSpec.ofChange fnCartNewWrong)

/-- 'laws.FnCartReads': WHATEVER THE INPUT: true; the input reads as it did. -/
def fnCartReadsSpec : ChangeSpec := { name := "fnCartReads", fn := fun _ => fun
  | [d] => { results := [.lit (.bool true)], args := [d] }
  | _ => none }
def fnCartReadsRow : OpenClaim := { program := "ytllpkidfldmbnaa", sum := "aed978dffd386ff308e02a9972d3511c2f96a9ef5b2fb2753bb876baa126460f", func := "loop.example/g00460/laws.FnCartReads", spec := "fnCartReads", unfollowed := true, recurses := true, apart := false }
def FnCartReadsSaid : Prop := fnCartReadsRow.holds Try.pinned (OpenSpec.ofChange fnCartReadsSpec)

/-- ITS FALSE NEIGHBOUR: 'it returns false'. Refute it at one input. -/
def fnCartReadsWrong : ChangeSpec := { name := "fnCartReads", fn := fun _ => fun
  | [d] => { results := [.lit (.bool false)], args := [d] }
  | _ => none }
def FnCartReadsWrongFalsely : Prop := fnCartReadsRow.holds Try.pinned (OpenSpec.ofChange fnCartReadsWrong)

/-- 'laws.FnCartWrites': WHATEVER THE INPUT: true; the input reads as it did. -/
def fnCartWritesSpec : ChangeSpec := { name := "fnCartWrites", fn := fun _ => fun
  | [d] => { results := [.lit (.bool true)], args := [d] }
  | _ => none }
def fnCartWritesRow : OpenClaim := { program := "ytllpkidfldmbnaa", sum := "aed978dffd386ff308e02a9972d3511c2f96a9ef5b2fb2753bb876baa126460f", func := "loop.example/g00460/laws.FnCartWrites", spec := "fnCartWrites", unfollowed := true, recurses := true, apart := false }
def FnCartWritesSaid : Prop := fnCartWritesRow.holds Try.pinned (OpenSpec.ofChange fnCartWritesSpec)

/-- ITS FALSE NEIGHBOUR: 'it returns false'. Refute it at one input. -/
def fnCartWritesWrong : ChangeSpec := { name := "fnCartWrites", fn := fun _ => fun
  | [d] => { results := [.lit (.bool false)], args := [d] }
  | _ => none }
def FnCartWritesWrongFalsely : Prop := fnCartWritesRow.holds Try.pinned (OpenSpec.ofChange fnCartWritesWrong)

/-- 'laws.FnBanks': WHATEVER THE INPUT: true; the input reads as it did. -/
def fnBanksSpec : ChangeSpec := { name := "fnBanks", fn := fun _ => fun
  | [d] => { results := [.lit (.bool true)], args := [d] }
  | _ => none }
def fnBanksRow : OpenClaim := { program := "ytllpkidfldmbnaa", sum := "aed978dffd386ff308e02a9972d3511c2f96a9ef5b2fb2753bb876baa126460f", func := "loop.example/g00460/laws.FnBanks", spec := "fnBanks", unfollowed := true, recurses := true, apart := false }
def FnBanksSaid : Prop := fnBanksRow.holds Try.pinned (OpenSpec.ofChange fnBanksSpec)

/-- ITS FALSE NEIGHBOUR: 'it returns false'. Refute it at one input. -/
def fnBanksWrong : ChangeSpec := { name := "fnBanks", fn := fun _ => fun
  | [d] => { results := [.lit (.bool false)], args := [d] }
  | _ => none }
def FnBanksWrongFalsely : Prop := fnBanksRow.holds Try.pinned (OpenSpec.ofChange fnBanksWrong)

/- THE SECOND FORM. 'bulk': how many values and letters a reading holds, each counted each time it is reached (what is shared counts as often as it is met; a slice's spare places count too). A statement '..UptoSaid' is the law's where the arguments, and the package variables that the reading takes, are together of bulk at most 1048576: NARROWER than '..Said'. Prove '..Said' where nothing that the law and all that it calls make is longer than what came in: it says more and counts as full. Else prove '..UptoSaid'. A law counts once. -/
mutual
def uptoBulk {H : Type} : DataW H → Nat
  | .lit (.string bytes) => bytes.length + 1
  | .lit _ => 1
  | .nil => 1
  | .ptr d => uptoBulk d + 1
  | .slice elems spare => uptoBulkAll elems + uptoBulkAll spare + 1
  | .agg parts => uptoBulkAll parts + 1
  | .iface _ d => uptoBulk d + 1
  | .map entries => uptoBulkEntries entries + 1
  | .held _ => 1
def uptoBulkAll {H : Type} : List (DataW H) → Nat
  | [] => 0
  | d :: r => uptoBulk d + uptoBulkAll r
def uptoBulkEntries {H : Type} : List (Lit × DataW H) → Nat
  | [] => 0
  | x :: r => uptoBulkEntry x + uptoBulkEntries r
def uptoBulkEntry {H : Type} : Lit × DataW H → Nat
  | (.string bytes, d) => bytes.length + uptoBulk d + 1
  | (_, d) => uptoBulk d + 1
 end
def uptoSmall : (H : Type) → List (DataW H) → Bool := fun _ ds => decide (uptoBulkAll ds ≤ 1048576)
def OpenSpec.upto (s : _root_.Go.ChangeSpec) : _root_.Go.OpenSpec := { _root_.Go.OpenSpec.ofChange s with cond := some uptoSmall }

/-- 'laws.FnCartNew', WHERE WHAT IT READS IS OF BULK AT MOST 1048576: true; the input reads as it did. -/
def fnCartNewUptoRow : OpenClaim := { program := "ytllpkidfldmbnaa", sum := "aed978dffd386ff308e02a9972d3511c2f96a9ef5b2fb2753bb876baa126460f", func := "loop.example/g00460/laws.FnCartNew", spec := "fnCartNew", unfollowed := true, recurses := true, apart := false, narrowed := true }
def FnCartNewUptoSaid : Prop := fnCartNewUptoRow.holds Try.pinned (OpenSpec.upto fnCartNewSpec)

/-- 'laws.FnCartReads', WHERE WHAT IT READS IS OF BULK AT MOST 1048576: true; the input reads as it did. -/
def fnCartReadsUptoRow : OpenClaim := { program := "ytllpkidfldmbnaa", sum := "aed978dffd386ff308e02a9972d3511c2f96a9ef5b2fb2753bb876baa126460f", func := "loop.example/g00460/laws.FnCartReads", spec := "fnCartReads", unfollowed := true, recurses := true, apart := false, narrowed := true }
def FnCartReadsUptoSaid : Prop := fnCartReadsUptoRow.holds Try.pinned (OpenSpec.upto fnCartReadsSpec)

/-- 'laws.FnCartWrites', WHERE WHAT IT READS IS OF BULK AT MOST 1048576: true; the input reads as it did. -/
def fnCartWritesUptoRow : OpenClaim := { program := "ytllpkidfldmbnaa", sum := "aed978dffd386ff308e02a9972d3511c2f96a9ef5b2fb2753bb876baa126460f", func := "loop.example/g00460/laws.FnCartWrites", spec := "fnCartWrites", unfollowed := true, recurses := true, apart := false, narrowed := true }
def FnCartWritesUptoSaid : Prop := fnCartWritesUptoRow.holds Try.pinned (OpenSpec.upto fnCartWritesSpec)

/-- 'laws.FnBanks', WHERE WHAT IT READS IS OF BULK AT MOST 1048576: true; the input reads as it did. -/
def fnBanksUptoRow : OpenClaim := { program := "ytllpkidfldmbnaa", sum := "aed978dffd386ff308e02a9972d3511c2f96a9ef5b2fb2753bb876baa126460f", func := "loop.example/g00460/laws.FnBanks", spec := "fnBanks", unfollowed := true, recurses := true, apart := false, narrowed := true }
def FnBanksUptoSaid : Prop := fnBanksUptoRow.holds Try.pinned (OpenSpec.upto fnBanksSpec)

end Rows
end Go.Proofs.Ytllpkidfldmbnaa
