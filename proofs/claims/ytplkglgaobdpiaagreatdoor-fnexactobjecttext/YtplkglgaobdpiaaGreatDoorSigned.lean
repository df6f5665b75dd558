/-
  Contracts of ours for spec.SignedOf and impl.SignedOf, at every argument.
-/
import Derived.Test.YtplkglgaobdpiaaGreatDoorRows
import Derived.WalkKit
import Derived.ProofKit
import Derived.OpenShut
namespace Go.Proofs.YtplkglgaobdpiaaGreatDoor.Signed
open Go.ChangeShapes Go.WideShapes Go.ChangeAt Go.RowKit

def inB (n low high : Int) : Bool := decide (low ≤ n ∧ n ≤ high)
def sgn (b : Int) : Int := if b < 0 ∨ 255 < b then 0 else if 127 < b then b - 256 else b
theorem ret_int {k : IntKind} {a b : Int} (h : a = b) : Ending.returned (.int k a) = .returned (.int k b) := by rw [h]
theorem ret_bool {a b : Bool} (h : a = b) : Ending.returned (.bool a) = .returned (.bool b) := by rw [h]


theorem l1In_any (n low high : Int) (w : World) :
    Calls Tryz.prog 58 #[.int .i64 n, .int .i64 low, .int .i64 high] w fun e w' => e = .returned (.bool (inB n low high)) ∧ w' = w := by
  go_enter Tryz.func58, Tryz.ntmps58
  go_wp2
  all_goals go_ret
  all_goals exact ⟨ret_bool (by rw [Bool.eq_iff_iff]; simp [inB]; try omega), rfl⟩


end Go.Proofs.YtplkglgaobdpiaaGreatDoor.Signed
