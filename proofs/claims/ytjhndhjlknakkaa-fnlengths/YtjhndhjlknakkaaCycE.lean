/-
  Contracts of ours for the cycles of codes by the specification: spec.l3One.
-/
import Derived.Test.YtjhndhjlknakkaaCycD
namespace Go.Proofs.Ytjhndhjlknakkaa.CycE
open Go.ChangeShapes Go.WideShapes Go.ChangeAt Go.RowKit
open Tabs (cases8)
open CycD
set_option linter.unusedVariables false
set_option maxRecDepth 20000

theorem one_any (b : Bool) (w : World) : Calls Try.prog 31 #[.bool b] w fun e w' => e = .returned (.int .i64 (ob b)) ∧ w' = w := by
  cases b
  all_goals
    go_enter Try.func31, Try.ntmps31
    go_wp2
    go_ret
    exact ⟨rfl, rfl⟩
end Go.Proofs.Ytjhndhjlknakkaa.CycE
