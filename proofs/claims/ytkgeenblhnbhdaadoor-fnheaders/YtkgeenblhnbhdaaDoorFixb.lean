/-
  Contracts of ours for the small helpers of chapter 12, both sides: titles, kinds, how often two banks are doubled, noughts.
-/
import Derived.Test.YtkgeenblhnbhdaaDoorFixa
import Derived.Test.YtkgeenblhnbhdaaDoorTitl
namespace Go.Proofs.YtkgeenblhnbhdaaDoor.Fixb
open Go.ChangeShapes Go.WideShapes Go.ChangeAt Go.RowKit
open Signed (inB ret_int ret_bool l1In_any)
open Sums Fixa Titl
set_option linter.unusedVariables false

theorem dbl0 (w : World) : Calls Tryd.prog 23 #[.int .i64 0] w fun e w' => e = .returned (.int .i64 2) ∧ w' = w := by
  go_enter Tryd.func23, Tryd.ntmps23
  go_wp2
  go_ret
  exact ⟨rfl, rfl⟩
theorem dbl1 (w : World) : Calls Tryd.prog 23 #[.int .i64 1] w fun e w' => e = .returned (.int .i64 4) ∧ w' = w := by
  go_enter Tryd.func23, Tryd.ntmps23
  go_wp2
  go_ret
  exact ⟨rfl, rfl⟩
theorem dbl2 (w : World) : Calls Tryd.prog 23 #[.int .i64 2] w fun e w' => e = .returned (.int .i64 8) ∧ w' = w := by
  go_enter Tryd.func23, Tryd.ntmps23
  go_wp2
  go_ret
  exact ⟨rfl, rfl⟩
theorem dbl3 (w : World) : Calls Tryd.prog 23 #[.int .i64 3] w fun e w' => e = .returned (.int .i64 16) ∧ w' = w := by
  go_enter Tryd.func23, Tryd.ntmps23
  go_wp2
  go_ret
  exact ⟨rfl, rfl⟩
/-- How often two banks are doubled until there is room for n. -/
def timesV (n : Int) : Int := if n ≤ 2 then 0 else if n ≤ 4 then 1 else if n ≤ 8 then 2 else 3
def roomV (n : Int) : Int := if n ≤ 2 then 2 else if n ≤ 4 then 4 else if n ≤ 8 then 8 else 16
theorem times_cases (n : Int) : (timesV n = 0 ∧ roomV n = 2) ∨ (timesV n = 1 ∧ roomV n = 4) ∨ (timesV n = 2 ∧ roomV n = 8) ∨ (timesV n = 3 ∧ roomV n = 16) := by
  unfold timesV roomV
  split
  · exact .inl ⟨rfl, rfl⟩
  split
  · exact .inr (.inl ⟨rfl, rfl⟩)
  split
  · exact .inr (.inr (.inl ⟨rfl, rfl⟩))
  · exact .inr (.inr (.inr ⟨rfl, rfl⟩))
theorem room_any (n : Int) (w : World) : Calls Tryd.prog 23 #[.int .i64 (timesV n)] w fun e w' => e = .returned (.int .i64 (roomV n)) ∧ w' = w := by
  rcases times_cases n with ⟨h1, h2⟩ | ⟨h1, h2⟩ | ⟨h1, h2⟩ | ⟨h1, h2⟩ <;> rw [h1, h2]
  · exact dbl0 w
  · exact dbl1 w
  · exact dbl2 w
  · exact dbl3 w
end Go.Proofs.YtkgeenblhnbhdaaDoor.Fixb
