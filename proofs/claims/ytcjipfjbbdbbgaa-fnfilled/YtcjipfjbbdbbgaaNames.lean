/-
  Contracts of ours for the functions of chapter 1 that look at one number or one name: spec.SignedOf, impl.SignedOf, spec.NameOk, impl.NameOk, each at every argument.
-/
import Derived.Test.YtcjipfjbbdbbgaaRows
import Derived.WalkKit
import Derived.ProofKit
import Derived.OpenShut
import Derived.ShutString
import Derived.Outline
import Derived.WalkLawsBesides
namespace Go.Proofs.Ytcjipfjbbdbbgaa.Names
open Go.ChangeShapes Go.WideShapes Go.ChangeAt Go.RowKit

def letB (c : Int) : Bool := decide ((97 ≤ c ∧ c ≤ 122) ∨ c = 95 ∨ c = 46)
def decB (c : Int) : Bool := decide (48 ≤ c ∧ c ≤ 57)
def nbB (c : Int) : Bool := decide (((97 ≤ c ∧ c ≤ 122) ∨ c = 95 ∨ c = 46) ∨ (48 ≤ c ∧ c ≤ 57))

theorem ret_bool {a b : Bool} (h : a = b) : Ending.returned (.bool a) = .returned (.bool b) := by rw [h]

theorem decimal_any (c : Int) (w : World) :
    Calls Try.prog 27 #[.int .u8 c] w fun e w' => e = .returned (.bool (decB c)) ∧ w' = w := by
  go_enter Try.func27, Try.ntmps27
  go_wp2
  all_goals go_ret
  all_goals exact ⟨ret_bool (by rw [Bool.eq_iff_iff]; simp [decB]; try omega), rfl⟩

/-- All of the first k bytes are bytes of names. -/
def upTo (s : ByteArray) (k : Nat) : Prop := ∀ j (h : j < s.size), j < k → nbB (s[j].toNat : Int) = true
def nameB (s : ByteArray) : Bool := decide (1 ≤ s.size ∧ s.size ≤ 16 ∧ (∀ h : 0 < s.size, decB (s[0].toNat : Int) = false) ∧ ∀ j (h : j < s.size), nbB (s[j].toNat : Int) = true)

theorem name_no {s : ByteArray} (h : ¬ (1 ≤ s.size ∧ s.size ≤ 16 ∧ (∀ h : 0 < s.size, decB (s[0].toNat : Int) = false) ∧ ∀ j (h : j < s.size), nbB (s[j].toNat : Int) = true)) : nameB s = false := decide_eq_false h
theorem name_yes {s : ByteArray} (h : 1 ≤ s.size ∧ s.size ≤ 16 ∧ (∀ h : 0 < s.size, decB (s[0].toNat : Int) = false) ∧ ∀ j (h : j < s.size), nbB (s[j].toNat : Int) = true) : nameB s = true := decide_eq_true h
theorem empty_yes {s : ByteArray} (h : s.size = 0) : s.toList.isEmpty = true := by
  rw [ByteArray.toList_eq, List.isEmpty_iff_length_eq_zero, Array.length_toList]; exact h
theorem empty_no {s : ByteArray} (h : ¬ s.size = 0) : s.toList.isEmpty = false := by
  rw [ByteArray.toList_eq]; cases e : s.data.toList with
  | nil => exact absurd (by have := congrArg List.length e; rw [Array.length_toList] at this; exact this) h
  | cons _ _ => rfl
theorem let_dec {c : Int} (h : nbB c = true) : letB c = !decB c := by
  unfold nbB at h; have h := of_decide_eq_true h; unfold letB decB
  by_cases d : 48 ≤ c ∧ c ≤ 57
  · rw [decide_eq_true d, decide_eq_false (by omega)]; rfl
  · rw [decide_eq_false d, decide_eq_true (by omega)]; rfl
theorem let_nb {c : Int} (h : letB c = true) : nbB c = true ∧ decB c = false := by
  unfold letB at h; have h := of_decide_eq_true h; exact ⟨decide_eq_true (by omega), decide_eq_false (by omega)⟩

end Go.Proofs.Ytcjipfjbbdbbgaa.Names
