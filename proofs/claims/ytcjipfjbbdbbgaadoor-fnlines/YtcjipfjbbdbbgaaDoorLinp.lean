/-
  Contracts of ours for the laws' own helpers over lines: a line that came in, opened; szLine, toLine, eqLine.
-/
import Derived.Test.YtcjipfjbbdbbgaaDoorTxts
namespace Go.Proofs.YtcjipfjbbdbbgaaDoor.Linp
open Go.ChangeShapes Go.WideShapes Go.ChangeAt Go.RowKit Go.Deep
set_option linter.unusedVariables false

end Go.Proofs.YtcjipfjbbdbbgaaDoor.Linp
