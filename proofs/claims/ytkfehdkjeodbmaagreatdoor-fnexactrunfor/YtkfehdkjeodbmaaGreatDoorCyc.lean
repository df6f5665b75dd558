/-
  Contracts of ours for the cycles of codes by impl: impl.prefixCycles, lowCycles, highCycles, at every code's parts.
-/
import Derived.Test.YtkfehdkjeodbmaaGreatDoorShape
import Derived.Laws.EntriesVeiled
namespace Go.Proofs.YtkfehdkjeodbmaaGreatDoor.Cyc
open Go.ChangeShapes Go.WideShapes Go.ChangeAt Go.RowKit
open Shape
set_option linter.unusedVariables false

theorem chosen_any (b : Bool) (y n : Int) (w : World) :
    Calls Tryz.prog 117 #[.bool b, .int .i64 y, .int .i64 n] w fun e w' => e = .returned (.int .i64 (if b = true then y else n)) ∧ w' = w := by
  cases b
  all_goals
    go_enter Tryz.func117, Tryz.ntmps117
    go_wp2
    go_ret
    exact ⟨rfl, rfl⟩
def prefC (x z : Int) : Int := if z = 6 then (if x = 1 then 3 else 4) else 2
theorem prefixCycles_any (x y z p q : Int) (w : World) :
    Calls Tryz.prog 98 #[.agg #[.int .i64 x, .int .i64 y, .int .i64 z, .int .i64 p, .int .i64 q]] w fun e w' => e = .returned (.int .i64 (prefC x z)) ∧ Below w.heap.size w w' := by
  by_cases hz : z = 6
  · subst hz
    by_cases hx : x = 1
    · subst hx
      go_enter Tryz.func98, Tryz.ntmps98
      go_wp2
      go_ret
      exact ⟨rfl, (Below.refl _ _).alloc (Nat.le_refl _) _⟩
    · have hx' : (x == 1) = false := by simpa using hx
      have e : prefC x 6 = 4 := by unfold prefC; rw [if_pos rfl, if_neg hx]
      rw [e]
      go_enter Tryz.func98, Tryz.ntmps98
      go_wp2
      go_ret
      exact ⟨rfl, (Below.refl _ _).alloc (Nat.le_refl _) _⟩
  · have hz' : (z == 6) = false := by simpa using hz
    have hz'' : (z != 6) = true := by simpa using hz
    have e : prefC x z = 2 := by unfold prefC; rw [if_neg hz]
    rw [e]
    go_enter Tryz.func98, Tryz.ntmps98
    go_wp2
    go_ret
    exact ⟨rfl, (Below.refl _ _).alloc (Nat.le_refl _) _⟩

end Go.Proofs.YtkfehdkjeodbmaaGreatDoor.Cyc
