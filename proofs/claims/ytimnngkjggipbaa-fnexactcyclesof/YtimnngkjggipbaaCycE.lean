/-
  Contracts of ours for the cycles of codes by the specification: spec.l3One.
-/
import Derived.Test.YtimnngkjggipbaaCycD
namespace Go.Proofs.Ytimnngkjggipbaa.CycE
open Go.ChangeShapes Go.WideShapes Go.ChangeAt Go.RowKit
open Tabs (cases8)
open CycD
set_option linter.unusedVariables false
set_option maxRecDepth 20000

theorem one_any (b : Bool) (w : World) : Calls Try.prog 24 #[.bool b] w fun e w' => e = .returned (.int .i64 (ob b)) ∧ w' = w := by
  cases b
  all_goals
    go_enter Try.func24, Try.ntmps24
    go_wp2
    go_ret
    exact ⟨rfl, rfl⟩
end Go.Proofs.Ytimnngkjggipbaa.CycE
