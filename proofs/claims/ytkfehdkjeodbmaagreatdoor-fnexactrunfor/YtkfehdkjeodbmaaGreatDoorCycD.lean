/-
  What the cycles of codes are, at every code's parts.
-/
import Derived.Test.YtkfehdkjeodbmaaGreatDoorCyc
import Derived.Test.YtkfehdkjeodbmaaGreatDoorTabs
namespace Go.Proofs.YtkfehdkjeodbmaaGreatDoor.CycD
open Go.ChangeShapes Go.WideShapes Go.ChangeAt Go.RowKit
set_option linter.unusedVariables false

theorem grow {B : Nat} {a b : World} (h : Below B a b) (hB : B = a.heap.size) (o : Obj) : Below B a (b.alloc o) := h.alloc (by subst hB; exact h.size) o
theorem below_of_drew {B : Nat} {w w' : World} (h : Below B w w') : Below B w w'.drew := ⟨h.os, h.tape, h.output, h.size, h.block⟩
def ob (b : Bool) : Int := if b = true then 1 else 0
theorem ob_le (b : Bool) : 0 ≤ ob b ∧ ob b ≤ 1 := by cases b <;> decide
def lowC (y z : Int) (t : Bool) : Int := if z = 0 then (if y = 0 then 1 else if y = 1 then 5 else if y = 2 then 1 else if y = 3 then 3 else 2 + ob t) else if z = 1 then 3 - y % 2 else if z = 2 then 2 else if z = 3 then 2 else if z = 7 then 1 else if y = 6 then 3 else if z = 6 then 2 else 1
def topC (y z : Int) (t : Bool) : Int := if z = 0 then (if y < 4 then 2 + 3 * ob t else if y = 5 then 4 else 3) else if z = 1 then (if y % 2 = 0 then 3 else if y = 5 then 1 else if y = 7 then 2 else 4) else if z = 2 then (if y < 4 then 3 + ob t else if y % 2 = 0 then 2 else 4) else if z = 3 then (if y = 0 then 4 else 1) else if z = 4 then 3 + 3 * ob t else if z = 5 then (if y = 1 then 6 else 4) else if z = 6 then 2 else 4
def goneB (y z : Int) : Bool := (z == 3 && (1 ≤ y && y ≤ 5)) || (z == 4 && 4 ≤ y) || (z == 5 && (y == 3 || y == 5 || y == 7))
end Go.Proofs.YtkfehdkjeodbmaaGreatDoor.CycD
