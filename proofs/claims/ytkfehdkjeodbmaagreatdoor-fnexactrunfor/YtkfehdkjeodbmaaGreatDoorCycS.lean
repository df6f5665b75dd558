/-
  Contracts of ours for the cycles of codes by the specification: spec.l3One, spec.l3Cycles, at every code's parts.
-/
import Derived.Test.YtkfehdkjeodbmaaGreatDoorCycE
namespace Go.Proofs.YtkfehdkjeodbmaaGreatDoor.CycS
open Go.ChangeShapes Go.WideShapes Go.ChangeAt Go.RowKit
open Tabs (cases8)
open CycD CycE
set_option linter.unusedVariables false
set_option maxRecDepth 20000

set_option maxHeartbeats 4000000 in
theorem cycles_any (y z : Int) (t : Bool) (w : World) (y0 : 0 ≤ y) (y1 : y ≤ 7) (z0 : 0 ≤ z) (z1 : z ≤ 7) :
    Calls Tryz.prog 90 #[.int .i64 y, .int .i64 z, .bool t] w fun e w' => e = .returned (.int .i64 (topC y z t)) ∧ Below w.heap.size w w' := by
  have c := fun w => one_any t w
  rcases cases8 z0 z1 with rfl | rfl | rfl | rfl | rfl | rfl | rfl | rfl <;> rcases cases8 y0 y1 with rfl | rfl | rfl | rfl | rfl | rfl | rfl | rfl <;> cases t
  all_goals
    rw [show ob _ = _ from rfl] at c
    go_enter Tryz.func90, Tryz.ntmps90
    go_wp2_with (go_at_call 89; refine (c _).mono ?_; rintro e w' ⟨rfl, hw'⟩; have hw' := hw'.symm; subst hw')
    go_ret
    refine ⟨Signed.ret_int (by decide +kernel), ?_⟩
    repeat' with_reducible first | exact Below.refl _ _ | refine below_of_drew ?_ | refine grow ?_ rfl _
end Go.Proofs.YtkfehdkjeodbmaaGreatDoor.CycS
