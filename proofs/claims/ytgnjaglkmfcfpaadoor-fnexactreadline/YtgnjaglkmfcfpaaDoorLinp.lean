/-
  Contracts of ours for the laws' own helpers over lines: a line that came in, opened; szLine, toLine, eqLine.
-/
import Derived.Test.YtgnjaglkmfcfpaaDoorTxts
namespace Go.Proofs.YtgnjaglkmfcfpaaDoor.Linp
open Go.ChangeShapes Go.WideShapes Go.ChangeAt Go.RowKit Go.Deep
set_option linter.unusedVariables false

theorem eqLine_any (l o a : ByteArray) (w : World) :
    Calls Tryd.prog 6 #[.agg #[.string l, .string o, .string a], .agg #[.string l, .string o, .string a]] w fun e w' => e = .returned (.bool true) ∧ w' = (w.alloc (.cells #[.string l, .string o, .string a] 23)).alloc (.cells #[.string l, .string o, .string a] 23) := by
  go_enter Tryd.func6, Tryd.ntmps6
  go_wp2
  go_ret
  exact ⟨rfl, rfl⟩
end Go.Proofs.YtgnjaglkmfcfpaaDoor.Linp
