/-
  No cell of these rows narrows 'for every input' (looked for: loops, veiled, ifaces, maps, wideKeys, modest, calm, conditions, laid).
  DERIVED. THE GIVEN ROWS OF THIS SEAT. 4 by the template 'for every input the law returns true; each argument reads behind the call as it read before'; 0 by the template 'total and deterministic' (their statements: YtbffchfadockmaaTotals.lean).
  GIVEN WITH THE SEED: the statements are not yours to turn. If you find one false, say at which input.
  Laid BY PROGRAM, IN A SANDBOX (cutbox-rows.mjs): the forced cells as the released guide's own fill.sh prints them over the translation 492b8539d9faff31… (all of the seat's roots in one cut). By AI agents, Wed Nov 11 2026. No macro, syntax, notation, axiom, sorry.
-/
import Derived.Test.YtbffchfadockmaaChecked
import GoSem.Claim
import GoSem.ClaimJoined
import GoSem.ClaimMapViews
import Derived.JoinedTies
import Derived.KernelRfl
namespace Go.Proofs.Ytbffchfadockmaa
/- THE CELL 'sum', in the pinned program and in every row, IS THE sha256 OF THE DUMP (.gsa) THAT YtbffchfadockmaaProg.lean LOADS. Nothing in Lean hashes anything: it is a label: what it is worth is what the hold of that sum in a sandbox is worth. -/
noncomputable def Try.pinned : Pinned := { name := "ytbffchfadockmaa", sum := "492b8539d9faff319f9e8a38fbd8e84bbb35d03311c9a25d4b88f02ad72152aa", checked := Try.checked }
namespace Rows
def none {H : Type} : Left H := { results := [], args := [] }

/-- 'laws.FnExactPackedOf': WHATEVER THE INPUT: true; the input reads as it did. -/
def fnExactPackedOfSpec : ChangeSpec := { name := "fnExactPackedOf", fn := fun _ => fun
  | [d] => { results := [.lit (.bool true)], args := [d] }
  | _ => none }
def fnExactPackedOfRow : OpenClaim := { program := "ytbffchfadockmaa", sum := "492b8539d9faff319f9e8a38fbd8e84bbb35d03311c9a25d4b88f02ad72152aa", func := "loop.example/g00460/laws.FnExactPackedOf", spec := "fnExactPackedOf", unfollowed := true, recurses := true, apart := false }
def FnExactPackedOfSaid : Prop := fnExactPackedOfRow.holds Try.pinned (OpenSpec.ofChange fnExactPackedOfSpec)

/-- ITS FALSE NEIGHBOUR: 'it returns false'. Refute it at one input. -/
def fnExactPackedOfWrong : ChangeSpec := { name := "fnExactPackedOf", fn := fun _ => fun
  | [d] => { results := [.lit (.bool false)], args := [d] }
  | _ => none }
def FnExactPackedOfWrongFalsely : Prop := fnExactPackedOfRow.holds Try.pinned (OpenSpec.ofChange fnExactPackedOfWrong)

/-- 'laws.FnExactUnpacked': WHATEVER THE INPUT: true; the input reads as it did. -/
def fnExactUnpackedSpec : ChangeSpec := { name := "fnExactUnpacked", fn := fun _ => fun
  | [d] => { results := [.lit (.bool true)], args := [d] }
  | _ => none }
def fnExactUnpackedRow : OpenClaim := { program := "ytbffchfadockmaa", sum := "492b8539d9faff319f9e8a38fbd8e84bbb35d03311c9a25d4b88f02ad72152aa", func := "loop.example/g00460/laws.FnExactUnpacked", spec := "fnExactUnpacked", inPlace := ["internal/abi.NoEscape", "internal/bytealg.MakeNoZero"], unfollowed := true, recurses := true, apart := false }
def FnExactUnpackedSaid : Prop := fnExactUnpackedRow.holds Try.pinned (OpenSpec.ofChange fnExactUnpackedSpec)

/-- ITS FALSE NEIGHBOUR: 'it returns false'. Refute it at one input. -/
def fnExactUnpackedWrong : ChangeSpec := { name := "fnExactUnpacked", fn := fun _ => fun
  | [d] => { results := [.lit (.bool false)], args := [d] }
  | _ => none }
def FnExactUnpackedWrongFalsely : Prop := fnExactUnpackedRow.holds Try.pinned (OpenSpec.ofChange fnExactUnpackedWrong)

/-- 'laws.FnPacked': WHATEVER THE INPUT: true; the input reads as it did. -/
def fnPackedSpec : ChangeSpec := { name := "fnPacked", fn := fun _ => fun
  | [d] => { results := [.lit (.bool true)], args := [d] }
  | _ => none }
def fnPackedRow : OpenClaim := { program := "ytbffchfadockmaa", sum := "492b8539d9faff319f9e8a38fbd8e84bbb35d03311c9a25d4b88f02ad72152aa", func := "loop.example/g00460/laws.FnPacked", spec := "fnPacked", inPlace := ["internal/abi.NoEscape", "internal/bytealg.MakeNoZero"], unfollowed := true, recurses := true, apart := false }
def FnPackedSaid : Prop := fnPackedRow.holds Try.pinned (OpenSpec.ofChange fnPackedSpec)

/-- ITS FALSE NEIGHBOUR: 'it returns false'. Refute it at one input. -/
def fnPackedWrong : ChangeSpec := { name := "fnPacked", fn := fun _ => fun
  | [d] => { results := [.lit (.bool false)], args := [d] }
  | _ => none }
def FnPackedWrongFalsely : Prop := fnPackedRow.holds Try.pinned (OpenSpec.ofChange fnPackedWrong)

/-- 'laws.FnUnpacked': WHATEVER THE INPUT: true; the input reads as it did. -/
def fnUnpackedSpec : ChangeSpec := { name := "fnUnpacked", fn := fun _ => fun
  | [d] => { results := [.lit (.bool true)], args := [d] }
  | _ => none }
def fnUnpackedRow : OpenClaim := { program := "ytbffchfadockmaa", sum := "492b8539d9faff319f9e8a38fbd8e84bbb35d03311c9a25d4b88f02ad72152aa", func := "loop.example/g00460/laws.FnUnpacked", spec := "fnUnpacked", inPlace := ["internal/abi.NoEscape", "internal/bytealg.MakeNoZero"], unfollowed := true, recurses := true, apart := false }
def FnUnpackedSaid : Prop := fnUnpackedRow.holds Try.pinned (OpenSpec.ofChange fnUnpackedSpec)

/-- ITS FALSE NEIGHBOUR: 'it returns false'. Refute it at one input. -/
def fnUnpackedWrong : ChangeSpec := { name := "fnUnpacked", fn := fun _ => fun
  | [d] => { results := [.lit (.bool false)], args := [d] }
  | _ => none }
def FnUnpackedWrongFalsely : Prop := fnUnpackedRow.holds Try.pinned (OpenSpec.ofChange fnUnpackedWrong)

/- THE SECOND FORM. 'bulk': how many values and letters a reading holds, each counted each time it is reached (what is shared counts as often as it is met; a slice's spare places count too). A statement '..UptoSaid' is the law's where the arguments, and the package variables that the reading takes, are together of bulk at most 1048576: NARROWER than '..Said'. Prove '..Said' where nothing that the law and all that it calls make is longer than what came in: it says more and counts as full. Else prove '..UptoSaid'. A law counts once. -/
mutual
def uptoBulk {H : Type} : DataW H → Nat
  | .lit (.string bytes) => bytes.length + 1
  | .lit _ => 1
  | .nil => 1
  | .ptr d => uptoBulk d + 1
  | .slice elems spare => uptoBulkAll elems + uptoBulkAll spare + 1
  | .agg parts => uptoBulkAll parts + 1
  | .iface _ d => uptoBulk d + 1
  | .map entries => uptoBulkEntries entries + 1
  | .held _ => 1
def uptoBulkAll {H : Type} : List (DataW H) → Nat
  | [] => 0
  | d :: r => uptoBulk d + uptoBulkAll r
def uptoBulkEntries {H : Type} : List (Lit × DataW H) → Nat
  | [] => 0
  | x :: r => uptoBulkEntry x + uptoBulkEntries r
def uptoBulkEntry {H : Type} : Lit × DataW H → Nat
  | (.string bytes, d) => bytes.length + uptoBulk d + 1
  | (_, d) => uptoBulk d + 1
 end
def uptoSmall : (H : Type) → List (DataW H) → Bool := fun _ ds => decide (uptoBulkAll ds ≤ 1048576)
def OpenSpec.upto (s : _root_.Go.ChangeSpec) : _root_.Go.OpenSpec := { _root_.Go.OpenSpec.ofChange s with cond := some uptoSmall }

/-- 'laws.FnExactPackedOf', WHERE WHAT IT READS IS OF BULK AT MOST 1048576: true; the input reads as it did. -/
def fnExactPackedOfUptoRow : OpenClaim := { program := "ytbffchfadockmaa", sum := "492b8539d9faff319f9e8a38fbd8e84bbb35d03311c9a25d4b88f02ad72152aa", func := "loop.example/g00460/laws.FnExactPackedOf", spec := "fnExactPackedOf", unfollowed := true, recurses := true, apart := false, narrowed := true }
def FnExactPackedOfUptoSaid : Prop := fnExactPackedOfUptoRow.holds Try.pinned (OpenSpec.upto fnExactPackedOfSpec)

/-- 'laws.FnExactUnpacked', WHERE WHAT IT READS IS OF BULK AT MOST 1048576: true; the input reads as it did. -/
def fnExactUnpackedUptoRow : OpenClaim := { program := "ytbffchfadockmaa", sum := "492b8539d9faff319f9e8a38fbd8e84bbb35d03311c9a25d4b88f02ad72152aa", func := "loop.example/g00460/laws.FnExactUnpacked", spec := "fnExactUnpacked", inPlace := ["internal/abi.NoEscape", "internal/bytealg.MakeNoZero"], unfollowed := true, recurses := true, apart := false, narrowed := true }
def FnExactUnpackedUptoSaid : Prop := fnExactUnpackedUptoRow.holds Try.pinned (OpenSpec.upto fnExactUnpackedSpec)

/-- 'laws.FnPacked', WHERE WHAT IT READS IS OF BULK AT MOST 1048576: true; the input reads as it did. -/
def fnPackedUptoRow : OpenClaim := { program := "ytbffchfadockmaa", sum := "492b8539d9faff319f9e8a38fbd8e84bbb35d03311c9a25d4b88f02ad72152aa", func := "loop.example/g00460/laws.FnPacked", spec := "fnPacked", inPlace := ["internal/abi.NoEscape", "internal/bytealg.MakeNoZero"], unfollowed := true, recurses := true, apart := false, narrowed := true }
def FnPackedUptoSaid : Prop := fnPackedUptoRow.holds Try.pinned (OpenSpec.upto fnPackedSpec)

/-- 'laws.FnUnpacked', WHERE WHAT IT READS IS OF BULK AT MOST 1048576: true; the input reads as it did. -/
def fnUnpackedUptoRow : OpenClaim := { program := "ytbffchfadockmaa", sum := "492b8539d9faff319f9e8a38fbd8e84bbb35d03311c9a25d4b88f02ad72152aa", func := "loop.example/g00460/laws.FnUnpacked", spec := "fnUnpacked", inPlace := ["internal/abi.NoEscape", "internal/bytealg.MakeNoZero"], unfollowed := true, recurses := true, apart := false, narrowed := true }
def FnUnpackedUptoSaid : Prop := fnUnpackedUptoRow.holds Try.pinned (OpenSpec.upto fnUnpackedSpec)

end Rows
end Go.Proofs.Ytbffchfadockmaa
