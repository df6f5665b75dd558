/-
  Contracts of ours for spec.SignedOf and impl.SignedOf, at every argument.
-/
import Derived.Test.YtnfonccimaikgaaGreatDoorRows
import Derived.WalkKit
import Derived.ProofKit
import Derived.OpenShut
namespace Go.Proofs.YtnfonccimaikgaaGreatDoor.Signed
open Go.ChangeShapes Go.WideShapes Go.ChangeAt Go.RowKit

def inB (n low high : Int) : Bool := decide (low ≤ n ∧ n ≤ high)
def sgn (b : Int) : Int := if b < 0 ∨ 255 < b then 0 else if 127 < b then b - 256 else b
theorem ret_int {k : IntKind} {a b : Int} (h : a = b) : Ending.returned (.int k a) = .returned (.int k b) := by rw [h]
theorem ret_bool {a b : Bool} (h : a = b) : Ending.returned (.bool a) = .returned (.bool b) := by rw [h]

theorem isByte_any (n : Int) (w : World) :
    Calls Tryz.prog 90 #[.int .i64 n] w fun e w' => e = .returned (.bool (inB n 0 255)) ∧ w' = w := by
  go_enter Tryz.func90, Tryz.ntmps90
  go_wp2
  all_goals go_ret
  all_goals exact ⟨ret_bool (by rw [Bool.eq_iff_iff]; simp [inB]; try omega), rfl⟩

theorem l1In_any (n low high : Int) (w : World) :
    Calls Tryz.prog 12 #[.int .i64 n, .int .i64 low, .int .i64 high] w fun e w' => e = .returned (.bool (inB n low high)) ∧ w' = w := by
  go_enter Tryz.func12, Tryz.ntmps12
  go_wp2
  all_goals go_ret
  all_goals exact ⟨ret_bool (by rw [Bool.eq_iff_iff]; simp [inB]; try omega), rfl⟩

theorem implSigned_any (b : Int) (w : World) :
    Calls Tryz.prog 76 #[.int .i64 b] w fun e w' => e = .returned (.int .i64 (sgn b)) ∧ w' = w := by
  have hb : (b < 0 ∨ 255 < b) ∨ (0 ≤ b ∧ b ≤ 127) ∨ (127 < b ∧ b ≤ 255) := by omega
  rcases hb with h | ⟨h, h'⟩ | ⟨h, h'⟩
  · have hi : inB b 0 255 = false := decide_eq_false (by omega)
    have hs : sgn b = 0 := by unfold sgn; rw [if_pos h]
    go_enter Tryz.func76, Tryz.ntmps76
    go_wp2_with (go_at_call 90; refine (isByte_any _ _).mono ?_; rintro e w' ⟨rfl, rfl⟩)
    go_ret
    first | exact ⟨rfl, rfl⟩ | exact ⟨ret_int hs.symm, rfl⟩
  · have hi : inB b 0 255 = true := decide_eq_true (by omega)
    have hs : sgn b = b := by unfold sgn; rw [if_neg (by omega), if_neg (by omega)]
    go_enter Tryz.func76, Tryz.ntmps76
    go_wp2_with (go_at_call 90; refine (isByte_any _ _).mono ?_; rintro e w' ⟨rfl, rfl⟩)
    go_ret
    first | exact ⟨rfl, rfl⟩ | exact ⟨ret_int hs.symm, rfl⟩
  · have hi : inB b 0 255 = true := decide_eq_true (by omega)
    have hs : sgn b = b - 256 := by unfold sgn; rw [if_neg (by omega), if_pos h]
    go_enter Tryz.func76, Tryz.ntmps76
    go_wp2_with (go_at_call 90; refine (isByte_any _ _).mono ?_; rintro e w' ⟨rfl, rfl⟩)
    go_ret
    first | exact ⟨rfl, rfl⟩ | exact ⟨ret_int hs.symm, rfl⟩
theorem specSigned_any (b : Int) (w : World) :
    Calls Tryz.prog 36 #[.int .i64 b] w fun e w' => e = .returned (.int .i64 (sgn b)) ∧ w' = w := by
  have hb : (b < 0 ∨ 255 < b) ∨ (0 ≤ b ∧ b ≤ 127) ∨ (127 < b ∧ b ≤ 255) := by omega
  rcases hb with h | ⟨h, h'⟩ | ⟨h, h'⟩
  · have hi : inB b 0 255 = false := decide_eq_false (by omega)
    have hs : sgn b = 0 := by unfold sgn; rw [if_pos h]
    go_enter Tryz.func36, Tryz.ntmps36
    go_wp2_with (go_at_call 12; refine (l1In_any _ _ _ _).mono ?_; rintro e w' ⟨rfl, rfl⟩)
    go_ret
    first | exact ⟨rfl, rfl⟩ | exact ⟨ret_int hs.symm, rfl⟩
  · have hi : inB b 0 255 = true := decide_eq_true (by omega)
    have hs : sgn b = b := by unfold sgn; rw [if_neg (by omega), if_neg (by omega)]
    go_enter Tryz.func36, Tryz.ntmps36
    go_wp2_with (go_at_call 12; refine (l1In_any _ _ _ _).mono ?_; rintro e w' ⟨rfl, rfl⟩)
    go_ret
    first | exact ⟨rfl, rfl⟩ | exact ⟨ret_int hs.symm, rfl⟩
  · have hi : inB b 0 255 = true := decide_eq_true (by omega)
    have hs : sgn b = b - 256 := by unfold sgn; rw [if_neg (by omega), if_pos h]
    go_enter Tryz.func36, Tryz.ntmps36
    go_wp2_with (go_at_call 12; refine (l1In_any _ _ _ _).mono ?_; rintro e w' ⟨rfl, rfl⟩)
    go_ret
    first | exact ⟨rfl, rfl⟩ | exact ⟨ret_int hs.symm, rfl⟩

end Go.Proofs.YtnfonccimaikgaaGreatDoor.Signed
