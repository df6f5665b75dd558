/-
  No cell of these rows narrows 'for every input' (looked for: loops, veiled, ifaces, maps, wideKeys, modest, calm, conditions, laid).
  DERIVED. THE GIVEN ROWS OF THIS SEAT. 10 by the template 'for every input the law returns true; each argument reads behind the call as it read before'; 0 by the template 'total and deterministic' (their statements: YtjipfhioobebiaaTotals.lean).
  GIVEN WITH THE SEED: the statements are not yours to turn. If you find one false, say at which input.
  Laid BY PROGRAM, IN A SANDBOX (cutbox-rows.mjs): the forced cells as the released guide's own fill.sh prints them over the translation e92bb4b1d8b607ff… (all of the seat's roots in one cut). By AI agents, Wed Nov 11 2026. No macro, syntax, notation, axiom, sorry.
-/
import Derived.Test.YtjipfhioobebiaaChecked
import GoSem.Claim
import GoSem.ClaimJoined
import GoSem.ClaimMapViews
import Derived.JoinedTies
import Derived.KernelRfl
namespace Go.Proofs.Ytjipfhioobebiaa
/- THE CELL 'sum', in the pinned program and in every row, IS THE sha256 OF THE DUMP (.gsa) THAT YtjipfhioobebiaaProg.lean LOADS. Nothing in Lean hashes anything: it is a label: what it is worth is what the hold of that sum in a sandbox is worth. -/
noncomputable def Try.pinned : Pinned := { name := "ytjipfhioobebiaa", sum := "e92bb4b1d8b607ff27591b5badac5a3a08b6339637ca79f99e6c97c2f43d8bed", checked := Try.checked }
namespace Rows
def none {H : Type} : Left H := { results := [], args := [] }

/-- 'laws.FnExactCartOk': WHATEVER THE INPUT: true; the input reads as it did. -/
def fnExactCartOkSpec : ChangeSpec := { name := "fnExactCartOk", fn := fun _ => fun
  | [d] => { results := [.lit (.bool true)], args := [d] }
  | _ => none }
def fnExactCartOkRow : OpenClaim := { program := "ytjipfhioobebiaa", sum := "e92bb4b1d8b607ff27591b5badac5a3a08b6339637ca79f99e6c97c2f43d8bed", func := "loop.example/g00460/laws.FnExactCartOk", spec := "fnExactCartOk", unfollowed := true, recurses := true, apart := false }
def FnExactCartOkSaid : Prop := fnExactCartOkRow.holds Try.pinned (OpenSpec.ofChange fnExactCartOkSpec)

/-- ITS FALSE NEIGHBOUR: 'it returns false'. Refute it at one input. -/
def fnExactCartOkWrong : ChangeSpec := { name := "fnExactCartOk", fn := fun _ => fun
  | [d] => { results := [.lit (.bool false)], args := [d] }
  | _ => none }
def FnExactCartOkWrongFalsely : Prop := fnExactCartOkRow.holds Try.pinned (OpenSpec.ofChange fnExactCartOkWrong)

/-- 'laws.FnExactCartNew': WHATEVER THE INPUT: true; the input reads as it did. -/
def fnExactCartNewSpec : ChangeSpec := { name := "fnExactCartNew", fn := fun _ => fun
  | [d1, d2] => { results := [.lit (.bool true)], args := [d1, d2] }
  | _ => none }
def fnExactCartNewRow : OpenClaim := { program := "ytjipfhioobebiaa", sum := "e92bb4b1d8b607ff27591b5badac5a3a08b6339637ca79f99e6c97c2f43d8bed", func := "loop.example/g00460/laws.FnExactCartNew", spec := "fnExactCartNew", unfollowed := true, recurses := true, apart := false }
def FnExactCartNewSaid : Prop := fnExactCartNewRow.holds Try.pinned (OpenSpec.ofChange fnExactCartNewSpec)

/-- ITS FALSE NEIGHBOUR: 'it returns false'. Refute it at one input. -/
def fnExactCartNewWrong : ChangeSpec := { name := "fnExactCartNew", fn := fun _ => fun
  | [d1, d2] => { results := [.lit (.bool false)], args := [d1, d2] }
  | _ => none }
def FnExactCartNewWrongFalsely : Prop := fnExactCartNewRow.holds Try.pinned (OpenSpec.ofChange fnExactCartNewWrong)

/-- 'laws.FnExactMappedBank': WHATEVER THE INPUT: true; the input reads as it did. -/
def fnExactMappedBankSpec : ChangeSpec := { name := "fnExactMappedBank", fn := fun _ => fun
  | [d] => { results := [.lit (.bool true)], args := [d] }
  | _ => none }
def fnExactMappedBankRow : OpenClaim := { program := "ytjipfhioobebiaa", sum := "e92bb4b1d8b607ff27591b5badac5a3a08b6339637ca79f99e6c97c2f43d8bed", func := "loop.example/g00460/laws.FnExactMappedBank", spec := "fnExactMappedBank", unfollowed := true, recurses := true, apart := false }
def FnExactMappedBankSaid : Prop := fnExactMappedBankRow.holds Try.pinned (OpenSpec.ofChange fnExactMappedBankSpec)

/-- ITS FALSE NEIGHBOUR: 'it returns false'. Refute it at one input. -/
def fnExactMappedBankWrong : ChangeSpec := { name := "fnExactMappedBank", fn := fun _ => fun
  | [d] => { results := [.lit (.bool false)], args := [d] }
  | _ => none }
def FnExactMappedBankWrongFalsely : Prop := fnExactMappedBankRow.holds Try.pinned (OpenSpec.ofChange fnExactMappedBankWrong)

/-- 'laws.FnExactCartRead': WHATEVER THE INPUT: true; the input reads as it did. -/
def fnExactCartReadSpec : ChangeSpec := { name := "fnExactCartRead", fn := fun _ => fun
  | [d1, d2] => { results := [.lit (.bool true)], args := [d1, d2] }
  | _ => none }
def fnExactCartReadRow : OpenClaim := { program := "ytjipfhioobebiaa", sum := "e92bb4b1d8b607ff27591b5badac5a3a08b6339637ca79f99e6c97c2f43d8bed", func := "loop.example/g00460/laws.FnExactCartRead", spec := "fnExactCartRead", unfollowed := true, recurses := true, apart := false }
def FnExactCartReadSaid : Prop := fnExactCartReadRow.holds Try.pinned (OpenSpec.ofChange fnExactCartReadSpec)

/-- ITS FALSE NEIGHBOUR: 'it returns false'. Refute it at one input. -/
def fnExactCartReadWrong : ChangeSpec := { name := "fnExactCartRead", fn := fun _ => fun
  | [d1, d2] => { results := [.lit (.bool false)], args := [d1, d2] }
  | _ => none }
def FnExactCartReadWrongFalsely : Prop := fnExactCartReadRow.holds Try.pinned (OpenSpec.ofChange fnExactCartReadWrong)

/-- 'laws.FnExactCartWrite': WHATEVER THE INPUT: true; the input reads as it did. -/
def fnExactCartWriteSpec : ChangeSpec := { name := "fnExactCartWrite", fn := fun _ => fun
  | [d1, d2, d3] => { results := [.lit (.bool true)], args := [d1, d2, d3] }
  | _ => none }
def fnExactCartWriteRow : OpenClaim := { program := "ytjipfhioobebiaa", sum := "e92bb4b1d8b607ff27591b5badac5a3a08b6339637ca79f99e6c97c2f43d8bed", func := "loop.example/g00460/laws.FnExactCartWrite", spec := "fnExactCartWrite", unfollowed := true, recurses := true, apart := false }
def FnExactCartWriteSaid : Prop := fnExactCartWriteRow.holds Try.pinned (OpenSpec.ofChange fnExactCartWriteSpec)

/-- ITS FALSE NEIGHBOUR: 'it returns false'. Refute it at one input. -/
def fnExactCartWriteWrong : ChangeSpec := { name := "fnExactCartWrite", fn := fun _ => fun
  | [d1, d2, d3] => { results := [.lit (.bool false)], args := [d1, d2, d3] }
  | _ => none }
def FnExactCartWriteWrongFalsely : Prop := fnExactCartWriteRow.holds Try.pinned (OpenSpec.ofChange fnExactCartWriteWrong)

/-- 'laws.FnExactMachineOk': WHATEVER THE INPUT: true; the input reads as it did. -/
def fnExactMachineOkSpec : ChangeSpec := { name := "fnExactMachineOk", fn := fun _ => fun
  | [d] => { results := [.lit (.bool true)], args := [d] }
  | _ => none }
def fnExactMachineOkRow : OpenClaim := { program := "ytjipfhioobebiaa", sum := "e92bb4b1d8b607ff27591b5badac5a3a08b6339637ca79f99e6c97c2f43d8bed", func := "loop.example/g00460/laws.FnExactMachineOk", spec := "fnExactMachineOk", unfollowed := true, recurses := true, apart := false }
def FnExactMachineOkSaid : Prop := fnExactMachineOkRow.holds Try.pinned (OpenSpec.ofChange fnExactMachineOkSpec)

/-- ITS FALSE NEIGHBOUR: 'it returns false'. Refute it at one input. -/
def fnExactMachineOkWrong : ChangeSpec := { name := "fnExactMachineOk", fn := fun _ => fun
  | [d] => { results := [.lit (.bool false)], args := [d] }
  | _ => none }
def FnExactMachineOkWrongFalsely : Prop := fnExactMachineOkRow.holds Try.pinned (OpenSpec.ofChange fnExactMachineOkWrong)

/-- 'laws.FnExactMachineNew': WHATEVER THE INPUT: true; the input reads as it did. -/
def fnExactMachineNewSpec : ChangeSpec := { name := "fnExactMachineNew", fn := fun _ => fun
  | [d1, d2] => { results := [.lit (.bool true)], args := [d1, d2] }
  | _ => none }
def fnExactMachineNewRow : OpenClaim := { program := "ytjipfhioobebiaa", sum := "e92bb4b1d8b607ff27591b5badac5a3a08b6339637ca79f99e6c97c2f43d8bed", func := "loop.example/g00460/laws.FnExactMachineNew", spec := "fnExactMachineNew", unfollowed := true, recurses := true, apart := false }
def FnExactMachineNewSaid : Prop := fnExactMachineNewRow.holds Try.pinned (OpenSpec.ofChange fnExactMachineNewSpec)

/-- ITS FALSE NEIGHBOUR: 'it returns false'. Refute it at one input. -/
def fnExactMachineNewWrong : ChangeSpec := { name := "fnExactMachineNew", fn := fun _ => fun
  | [d1, d2] => { results := [.lit (.bool false)], args := [d1, d2] }
  | _ => none }
def FnExactMachineNewWrongFalsely : Prop := fnExactMachineNewRow.holds Try.pinned (OpenSpec.ofChange fnExactMachineNewWrong)

/-- 'laws.FnExactBusRead': WHATEVER THE INPUT: true; the input reads as it did. -/
def fnExactBusReadSpec : ChangeSpec := { name := "fnExactBusRead", fn := fun _ => fun
  | [d1, d2] => { results := [.lit (.bool true)], args := [d1, d2] }
  | _ => none }
def fnExactBusReadRow : OpenClaim := { program := "ytjipfhioobebiaa", sum := "e92bb4b1d8b607ff27591b5badac5a3a08b6339637ca79f99e6c97c2f43d8bed", func := "loop.example/g00460/laws.FnExactBusRead", spec := "fnExactBusRead", unfollowed := true, recurses := true, apart := false }
def FnExactBusReadSaid : Prop := fnExactBusReadRow.holds Try.pinned (OpenSpec.ofChange fnExactBusReadSpec)

/-- ITS FALSE NEIGHBOUR: 'it returns false'. Refute it at one input. -/
def fnExactBusReadWrong : ChangeSpec := { name := "fnExactBusRead", fn := fun _ => fun
  | [d1, d2] => { results := [.lit (.bool false)], args := [d1, d2] }
  | _ => none }
def FnExactBusReadWrongFalsely : Prop := fnExactBusReadRow.holds Try.pinned (OpenSpec.ofChange fnExactBusReadWrong)

/-- 'laws.FnExactBusWrite': WHATEVER THE INPUT: true; the input reads as it did. -/
def fnExactBusWriteSpec : ChangeSpec := { name := "fnExactBusWrite", fn := fun _ => fun
  | [d1, d2, d3] => { results := [.lit (.bool true)], args := [d1, d2, d3] }
  | _ => none }
def fnExactBusWriteRow : OpenClaim := { program := "ytjipfhioobebiaa", sum := "e92bb4b1d8b607ff27591b5badac5a3a08b6339637ca79f99e6c97c2f43d8bed", func := "loop.example/g00460/laws.FnExactBusWrite", spec := "fnExactBusWrite", unfollowed := true, recurses := true, apart := false }
def FnExactBusWriteSaid : Prop := fnExactBusWriteRow.holds Try.pinned (OpenSpec.ofChange fnExactBusWriteSpec)

/-- ITS FALSE NEIGHBOUR: 'it returns false'. Refute it at one input. -/
def fnExactBusWriteWrong : ChangeSpec := { name := "fnExactBusWrite", fn := fun _ => fun
  | [d1, d2, d3] => { results := [.lit (.bool false)], args := [d1, d2, d3] }
  | _ => none }
def FnExactBusWriteWrongFalsely : Prop := fnExactBusWriteRow.holds Try.pinned (OpenSpec.ofChange fnExactBusWriteWrong)

/-- 'laws.FnExactAt': WHATEVER THE INPUT: true; the input reads as it did. -/
def fnExactAtSpec : ChangeSpec := { name := "fnExactAt", fn := fun _ => fun
  | [d] => { results := [.lit (.bool true)], args := [d] }
  | _ => none }
def fnExactAtRow : OpenClaim := { program := "ytjipfhioobebiaa", sum := "e92bb4b1d8b607ff27591b5badac5a3a08b6339637ca79f99e6c97c2f43d8bed", func := "loop.example/g00460/laws.FnExactAt", spec := "fnExactAt", unfollowed := true, recurses := true, apart := false }
def FnExactAtSaid : Prop := fnExactAtRow.holds Try.pinned (OpenSpec.ofChange fnExactAtSpec)

/-- ITS FALSE NEIGHBOUR: 'it returns false'. Refute it at one input. -/
def fnExactAtWrong : ChangeSpec := { name := "fnExactAt", fn := fun _ => fun
  | [d] => { results := [.lit (.bool false)], args := [d] }
  | _ => none }
def FnExactAtWrongFalsely : Prop := fnExactAtRow.holds Try.pinned (OpenSpec.ofChange fnExactAtWrong)

/- THE SECOND FORM. 'bulk': how many values and letters a reading holds, each counted each time it is reached (what is shared counts as often as it is met; a slice's spare places count too). A statement '..UptoSaid' is the law's where the arguments, and the package variables that the reading takes, are together of bulk at most 1048576: NARROWER than '..Said'. Prove '..Said' where nothing that the law and all that it calls make is longer than what came in: it says more and counts as full. Else prove '..UptoSaid'. A law counts once. -/
mutual
def uptoBulk {H : Type} : DataW H → Nat
  | .lit (.string bytes) => bytes.length + 1
  | .lit _ => 1
  | .nil => 1
  | .ptr d => uptoBulk d + 1
  | .slice elems spare => uptoBulkAll elems + uptoBulkAll spare + 1
  | .agg parts => uptoBulkAll parts + 1
  | .iface _ d => uptoBulk d + 1
  | .map entries => uptoBulkEntries entries + 1
  | .held _ => 1
def uptoBulkAll {H : Type} : List (DataW H) → Nat
  | [] => 0
  | d :: r => uptoBulk d + uptoBulkAll r
def uptoBulkEntries {H : Type} : List (Lit × DataW H) → Nat
  | [] => 0
  | x :: r => uptoBulkEntry x + uptoBulkEntries r
def uptoBulkEntry {H : Type} : Lit × DataW H → Nat
  | (.string bytes, d) => bytes.length + uptoBulk d + 1
  | (_, d) => uptoBulk d + 1
 end
def uptoSmall : (H : Type) → List (DataW H) → Bool := fun _ ds => decide (uptoBulkAll ds ≤ 1048576)
def OpenSpec.upto (s : _root_.Go.ChangeSpec) : _root_.Go.OpenSpec := { _root_.Go.OpenSpec.ofChange s with cond := some uptoSmall }

/-- 'laws.FnExactCartOk', WHERE WHAT IT READS IS OF BULK AT MOST 1048576: true; the input reads as it did. -/
def fnExactCartOkUptoRow : OpenClaim := { program := "ytjipfhioobebiaa", sum := "e92bb4b1d8b607ff27591b5badac5a3a08b6339637ca79f99e6c97c2f43d8bed", func := "loop.example/g00460/laws.FnExactCartOk", spec := "fnExactCartOk", unfollowed := true, recurses := true, apart := false, narrowed := true }
def FnExactCartOkUptoSaid : Prop := fnExactCartOkUptoRow.holds Try.pinned (OpenSpec.upto fnExactCartOkSpec)

/-- 'laws.FnExactCartNew', WHERE WHAT IT READS IS OF BULK AT MOST 1048576: true; the input reads as it did. -/
def fnExactCartNewUptoRow : OpenClaim := { program := "ytjipfhioobebiaa", sum := "e92bb4b1d8b607ff27591b5badac5a3a08b6339637ca79f99e6c97c2f43d8bed", func := "loop.example/g00460/laws.FnExactCartNew", spec := "fnExactCartNew", unfollowed := true, recurses := true, apart := false, narrowed := true }
def FnExactCartNewUptoSaid : Prop := fnExactCartNewUptoRow.holds Try.pinned (OpenSpec.upto fnExactCartNewSpec)

/-- 'laws.FnExactMappedBank', WHERE WHAT IT READS IS OF BULK AT MOST 1048576: true; the input reads as it did. -/
def fnExactMappedBankUptoRow : OpenClaim := { program := "ytjipfhioobebiaa", sum := "e92bb4b1d8b607ff27591b5badac5a3a08b6339637ca79f99e6c97c2f43d8bed", func := "loop.example/g00460/laws.FnExactMappedBank", spec := "fnExactMappedBank", unfollowed := true, recurses := true, apart := false, narrowed := true }
def FnExactMappedBankUptoSaid : Prop := fnExactMappedBankUptoRow.holds Try.pinned (OpenSpec.upto fnExactMappedBankSpec)

/-- 'laws.FnExactCartRead', WHERE WHAT IT READS IS OF BULK AT MOST 1048576: true; the input reads as it did. -/
def fnExactCartReadUptoRow : OpenClaim := { program := "ytjipfhioobebiaa", sum := "e92bb4b1d8b607ff27591b5badac5a3a08b6339637ca79f99e6c97c2f43d8bed", func := "loop.example/g00460/laws.FnExactCartRead", spec := "fnExactCartRead", unfollowed := true, recurses := true, apart := false, narrowed := true }
def FnExactCartReadUptoSaid : Prop := fnExactCartReadUptoRow.holds Try.pinned (OpenSpec.upto fnExactCartReadSpec)

/-- 'laws.FnExactCartWrite', WHERE WHAT IT READS IS OF BULK AT MOST 1048576: true; the input reads as it did. -/
def fnExactCartWriteUptoRow : OpenClaim := { program := "ytjipfhioobebiaa", sum := "e92bb4b1d8b607ff27591b5badac5a3a08b6339637ca79f99e6c97c2f43d8bed", func := "loop.example/g00460/laws.FnExactCartWrite", spec := "fnExactCartWrite", unfollowed := true, recurses := true, apart := false, narrowed := true }
def FnExactCartWriteUptoSaid : Prop := fnExactCartWriteUptoRow.holds Try.pinned (OpenSpec.upto fnExactCartWriteSpec)

/-- 'laws.FnExactMachineOk', WHERE WHAT IT READS IS OF BULK AT MOST 1048576: true; the input reads as it did. -/
def fnExactMachineOkUptoRow : OpenClaim := { program := "ytjipfhioobebiaa", sum := "e92bb4b1d8b607ff27591b5badac5a3a08b6339637ca79f99e6c97c2f43d8bed", func := "loop.example/g00460/laws.FnExactMachineOk", spec := "fnExactMachineOk", unfollowed := true, recurses := true, apart := false, narrowed := true }
def FnExactMachineOkUptoSaid : Prop := fnExactMachineOkUptoRow.holds Try.pinned (OpenSpec.upto fnExactMachineOkSpec)

/-- 'laws.FnExactMachineNew', WHERE WHAT IT READS IS OF BULK AT MOST 1048576: true; the input reads as it did. -/
def fnExactMachineNewUptoRow : OpenClaim := { program := "ytjipfhioobebiaa", sum := "e92bb4b1d8b607ff27591b5badac5a3a08b6339637ca79f99e6c97c2f43d8bed", func := "loop.example/g00460/laws.FnExactMachineNew", spec := "fnExactMachineNew", unfollowed := true, recurses := true, apart := false, narrowed := true }
def FnExactMachineNewUptoSaid : Prop := fnExactMachineNewUptoRow.holds Try.pinned (OpenSpec.upto fnExactMachineNewSpec)

/-- 'laws.FnExactBusRead', WHERE WHAT IT READS IS OF BULK AT MOST 1048576: true; the input reads as it did. -/
def fnExactBusReadUptoRow : OpenClaim := { program := "ytjipfhioobebiaa", sum := "e92bb4b1d8b607ff27591b5badac5a3a08b6339637ca79f99e6c97c2f43d8bed", func := "loop.example/g00460/laws.FnExactBusRead", spec := "fnExactBusRead", unfollowed := true, recurses := true, apart := false, narrowed := true }
def FnExactBusReadUptoSaid : Prop := fnExactBusReadUptoRow.holds Try.pinned (OpenSpec.upto fnExactBusReadSpec)

/-- 'laws.FnExactBusWrite', WHERE WHAT IT READS IS OF BULK AT MOST 1048576: true; the input reads as it did. -/
def fnExactBusWriteUptoRow : OpenClaim := { program := "ytjipfhioobebiaa", sum := "e92bb4b1d8b607ff27591b5badac5a3a08b6339637ca79f99e6c97c2f43d8bed", func := "loop.example/g00460/laws.FnExactBusWrite", spec := "fnExactBusWrite", unfollowed := true, recurses := true, apart := false, narrowed := true }
def FnExactBusWriteUptoSaid : Prop := fnExactBusWriteUptoRow.holds Try.pinned (OpenSpec.upto fnExactBusWriteSpec)

/-- 'laws.FnExactAt', WHERE WHAT IT READS IS OF BULK AT MOST 1048576: true; the input reads as it did. -/
def fnExactAtUptoRow : OpenClaim := { program := "ytjipfhioobebiaa", sum := "e92bb4b1d8b607ff27591b5badac5a3a08b6339637ca79f99e6c97c2f43d8bed", func := "loop.example/g00460/laws.FnExactAt", spec := "fnExactAt", unfollowed := true, recurses := true, apart := false, narrowed := true }
def FnExactAtUptoSaid : Prop := fnExactAtUptoRow.holds Try.pinned (OpenSpec.upto fnExactAtSpec)

end Rows
end Go.Proofs.Ytjipfhioobebiaa
