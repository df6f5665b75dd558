/-
  Contracts of ours for both CartWrite, at every argument.
-/
import Derived.Test.YtkfehdkjeodbmaaGreatDoorCartV
namespace Go.Proofs.YtkfehdkjeodbmaaGreatDoor.CartX
set_option maxRecDepth 20000
open Go.ChangeShapes Go.WideShapes Go.ChangeAt Go.RowKit Go.Deep
set_option linter.unusedVariables false
open Signed (inB ret_int ret_bool isByte_any l1In_any)
open Carts CartK CartL CartM CartN CartP CartR CartW CartV


theorem l4Byte_any (n : Int) (w : World) :
    Calls Tryz.prog 44 #[.int .i64 n] w fun e w' => e = .returned (.bool (inB n 0 255)) ∧ w' = w := by
  go_enter Tryz.func44, Tryz.ntmps44
  go_wp2_with (go_at_call 36; refine (l1In_any _ _ _ _).mono ?_; rintro e w' ⟨rfl, rfl⟩)
  go_ret
  exact ⟨rfl, rfl⟩

end Go.Proofs.YtkfehdkjeodbmaaGreatDoor.CartX
