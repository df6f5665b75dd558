/-
  Contracts of ours for the cycles of codes by the specification: spec.l3One.
-/
import Derived.Test.YtkfehdkjeodbmaaGreatDoorCycD
namespace Go.Proofs.YtkfehdkjeodbmaaGreatDoor.CycE
open Go.ChangeShapes Go.WideShapes Go.ChangeAt Go.RowKit
open Tabs (cases8)
open CycD
set_option linter.unusedVariables false
set_option maxRecDepth 20000

theorem one_any (b : Bool) (w : World) : Calls Tryz.prog 89 #[.bool b] w fun e w' => e = .returned (.int .i64 (ob b)) ∧ w' = w := by
  cases b
  all_goals
    go_enter Tryz.func89, Tryz.ntmps89
    go_wp2
    go_ret
    exact ⟨rfl, rfl⟩
end Go.Proofs.YtkfehdkjeodbmaaGreatDoor.CycE
