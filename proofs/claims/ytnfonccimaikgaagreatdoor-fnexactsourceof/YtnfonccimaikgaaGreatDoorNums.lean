/-
  Contracts of ours for the reading of numbers: spec.l1Digit, impl.digitOf, spec.l1Base, impl.wordOf, spec.ReadNum, impl.ReadNum, each at every argument; impl's where the table of digits holds what its initialiser lays.
-/
import Derived.Test.YtnfonccimaikgaaGreatDoorRows
import Derived.WalkKit
import Derived.ProofKit
import Derived.OpenShut
import Derived.ShutString
import Derived.Outline
import Derived.WalkLawsBesides
namespace Go.Proofs.YtnfonccimaikgaaGreatDoor.Nums
open Go.ChangeShapes Go.WideShapes Go.ChangeAt Go.RowKit

def digS (c : Int) : Int := if 48 ≤ c ∧ c ≤ 57 then c - 48 else if 65 ≤ c ∧ c ≤ 70 then c - 55 else 99
def digI (c : Int) : Int := if digS c = 99 then -1 else digS c
def tab : List Int := [48, 49, 50, 51, 52, 53, 54, 55, 56, 57, 65, 66, 67, 68, 69, 70]
/-- The table of digits lies where it was laid. -/
def Tab (w : World) : Prop := ∀ i, i < 16 → w.cell? ⟨0, i, none⟩ = some (.int .u8 (tab.getD i 0))

theorem ret_int {k : IntKind} {a b : Int} (h : a = b) : Ending.returned (.int k a) = .returned (.int k b) := by rw [h]
theorem ret_two {a a' : Int} {b b' : Bool} (h : a = a') (h' : b = b') : Ending.returned (.tuple #[.int .i64 a, .bool b]) = .returned (.tuple #[.int .i64 a', .bool b']) := by rw [h, h']
theorem digI_tab : ∀ k, k < 16 → digI (tab.getD k 0) = (k : Int) := by decide
theorem digI_none {c : Int} (h : ∀ j, j < 16 → tab.getD j 0 ≠ c) : digI c = -1 := by
  have e : digS c = 99 := by
    unfold digS
    by_cases h1 : 48 ≤ c ∧ c ≤ 57
    · exfalso
      have : c = 48 ∨ c = 49 ∨ c = 50 ∨ c = 51 ∨ c = 52 ∨ c = 53 ∨ c = 54 ∨ c = 55 ∨ c = 56 ∨ c = 57 := by omega
      rcases this with rfl | rfl | rfl | rfl | rfl | rfl | rfl | rfl | rfl | rfl
      · exact h 0 (by decide) rfl
      · exact h 1 (by decide) rfl
      · exact h 2 (by decide) rfl
      · exact h 3 (by decide) rfl
      · exact h 4 (by decide) rfl
      · exact h 5 (by decide) rfl
      · exact h 6 (by decide) rfl
      · exact h 7 (by decide) rfl
      · exact h 8 (by decide) rfl
      · exact h 9 (by decide) rfl
    · rw [if_neg h1]
      by_cases h2 : 65 ≤ c ∧ c ≤ 70
      · exfalso
        have : c = 65 ∨ c = 66 ∨ c = 67 ∨ c = 68 ∨ c = 69 ∨ c = 70 := by omega
        rcases this with rfl | rfl | rfl | rfl | rfl | rfl
        · exact h 10 (by decide) rfl
        · exact h 11 (by decide) rfl
        · exact h 12 (by decide) rfl
        · exact h 13 (by decide) rfl
        · exact h 14 (by decide) rfl
        · exact h 15 (by decide) rfl
      · rw [if_neg h2]
  unfold digI; rw [if_pos e]
theorem digS_bd (c : Int) : 0 ≤ digS c ∧ digS c ≤ 99 ∧ (digS c ≤ 15 ∨ digS c = 99) := by unfold digS; split <;> (try split) <;> omega

end Go.Proofs.YtnfonccimaikgaaGreatDoor.Nums
