/-
  Contracts of ours for the functions of chapter 1 that look at one number or one name: spec.SignedOf, impl.SignedOf, spec.NameOk, impl.NameOk, each at every argument.
-/
import Derived.Test.YtlobkgohenebmaaDoorRows
import Derived.WalkKit
import Derived.ProofKit
import Derived.OpenShut
import Derived.ShutString
import Derived.Outline
import Derived.WalkLawsBesides
namespace Go.Proofs.YtlobkgohenebmaaDoor.Names
open Go.ChangeShapes Go.WideShapes Go.ChangeAt Go.RowKit

def letB (c : Int) : Bool := decide ((97 ≤ c ∧ c ≤ 122) ∨ c = 95 ∨ c = 46)
def decB (c : Int) : Bool := decide (48 ≤ c ∧ c ≤ 57)
def nbB (c : Int) : Bool := decide (((97 ≤ c ∧ c ≤ 122) ∨ c = 95 ∨ c = 46) ∨ (48 ≤ c ∧ c ≤ 57))

theorem ret_bool {a b : Bool} (h : a = b) : Ending.returned (.bool a) = .returned (.bool b) := by rw [h]

theorem letter_any (c : Int) (w : World) :
    Calls Tryd.prog 58 #[.int .u8 c] w fun e w' => e = .returned (.bool (letB c)) ∧ w' = w := by
  go_enter Tryd.func58, Tryd.ntmps58
  go_wp2
  all_goals go_ret
  all_goals exact ⟨ret_bool (by rw [Bool.eq_iff_iff]; simp [letB]; try omega), rfl⟩

theorem decimal_any (c : Int) (w : World) :
    Calls Tryd.prog 66 #[.int .u8 c] w fun e w' => e = .returned (.bool (decB c)) ∧ w' = w := by
  go_enter Tryd.func66, Tryd.ntmps66
  go_wp2
  all_goals go_ret
  all_goals exact ⟨ret_bool (by rw [Bool.eq_iff_iff]; simp [decB]; try omega), rfl⟩

theorem nameByte_any (c : Int) (w : World) :
    Calls Tryd.prog 67 #[.int .u8 c] w fun e w' => e = .returned (.bool (nbB c)) ∧ w' = w := by
  go_enter Tryd.func67, Tryd.ntmps67
  go_wp2
  all_goals go_ret
  all_goals exact ⟨ret_bool (by rw [Bool.eq_iff_iff]; simp [nbB]; try omega), rfl⟩

/-- All of the first k bytes are bytes of names. -/
def upTo (s : ByteArray) (k : Nat) : Prop := ∀ j (h : j < s.size), j < k → nbB (s[j].toNat : Int) = true
def nameB (s : ByteArray) : Bool := decide (1 ≤ s.size ∧ s.size ≤ 16 ∧ (∀ h : 0 < s.size, decB (s[0].toNat : Int) = false) ∧ ∀ j (h : j < s.size), nbB (s[j].toNat : Int) = true)

theorem name_no {s : ByteArray} (h : ¬ (1 ≤ s.size ∧ s.size ≤ 16 ∧ (∀ h : 0 < s.size, decB (s[0].toNat : Int) = false) ∧ ∀ j (h : j < s.size), nbB (s[j].toNat : Int) = true)) : nameB s = false := decide_eq_false h
theorem name_yes {s : ByteArray} (h : 1 ≤ s.size ∧ s.size ≤ 16 ∧ (∀ h : 0 < s.size, decB (s[0].toNat : Int) = false) ∧ ∀ j (h : j < s.size), nbB (s[j].toNat : Int) = true) : nameB s = true := decide_eq_true h
theorem empty_yes {s : ByteArray} (h : s.size = 0) : s.toList.isEmpty = true := by
  rw [ByteArray.toList_eq, List.isEmpty_iff_length_eq_zero, Array.length_toList]; exact h
theorem empty_no {s : ByteArray} (h : ¬ s.size = 0) : s.toList.isEmpty = false := by
  rw [ByteArray.toList_eq]; cases e : s.data.toList with
  | nil => exact absurd (by have := congrArg List.length e; rw [Array.length_toList] at this; exact this) h
  | cons _ _ => rfl
theorem let_dec {c : Int} (h : nbB c = true) : letB c = !decB c := by
  unfold nbB at h; have h := of_decide_eq_true h; unfold letB decB
  by_cases d : 48 ≤ c ∧ c ≤ 57
  · rw [decide_eq_true d, decide_eq_false (by omega)]; rfl
  · rw [decide_eq_false d, decide_eq_true (by omega)]; rfl
theorem let_nb {c : Int} (h : letB c = true) : nbB c = true ∧ decB c = false := by
  unfold letB at h; have h := of_decide_eq_true h; exact ⟨decide_eq_true (by omega), decide_eq_false (by omega)⟩

set_option maxHeartbeats 400000 in
theorem implName_any (s : ByteArray) (w : World) (hs : s.size ≤ maxLen) :
    Calls Tryd.prog 56 #[.string s] w fun e w' => e = .returned (.bool (nameB s)) ∧ w' = w := by
  unfold maxLen at hs
  by_cases h0 : s.size = 0
  · have hn : nameB s = false := name_no (by omega)
    have he := empty_yes h0
    go_enter Tryd.func56, Tryd.ntmps56
    go_wp2
    go_ret
    first | exact ⟨rfl, rfl⟩ | exact ⟨ret_bool hn.symm, rfl⟩
  have he := empty_no h0
  have hp : 0 < s.size := by omega
  by_cases h16 : 16 < s.size
  · have hn : nameB s = false := name_no (by omega)
    go_enter Tryd.func56, Tryd.ntmps56
    go_wp2
    go_ret
    first | exact ⟨rfl, rfl⟩ | exact ⟨ret_bool hn.symm, rfl⟩
  by_cases hd : decB (s[0].toNat : Int) = true
  · have hn : nameB s = false := name_no (fun h => by have := h.2.2.1 hp; rw [hd] at this; cases this)
    go_enter Tryd.func56, Tryd.ntmps56
    go_wp2_with (go_at_call 66; refine (decimal_any _ _).mono ?_; rintro e w' ⟨rfl, rfl⟩)
    go_ret
    first | exact ⟨rfl, rfl⟩ | exact ⟨ret_bool hn.symm, rfl⟩
  have hd' : decB (s[0].toNat : Int) = false := by simpa using hd
  clear hd
  go_enter Tryd.func56, Tryd.ntmps56
  go_wp2_with (go_at_call 66; refine (decimal_any _ _).mono ?_; rintro e w' ⟨rfl, rfl⟩)
  go_loop [3] (fun i => ∃ k : Nat, k ≤ s.size ∧ i = .int .i64 k ∧ upTo s k) (fun i => s.size - (intOf i).toNat)
  case atStart => exact ⟨0, Nat.zero_le _, rfl, fun j _ h => absurd h (Nat.not_lt_zero _)⟩
  case round =>
    obtain ⟨k, hk, rfl, hu⟩ := hrel
    by_cases hlt : k < s.size
    · by_cases hc : nbB (s[k].toNat : Int) = true
      · go_wp2_with (go_at_call 67; refine (nameByte_any _ _).mono ?_; rintro e w' ⟨rfl, rfl⟩)
        go_round
        case rel =>
          refine ⟨k + 1, by omega, by go_num, fun j hj h => ?_⟩
          by_cases e : j = k
          · subst e; exact hc
          · exact hu j hj (by omega)
        case measure => simp [intOf]; omega
      · have hn : nameB s = false := name_no (fun h => hc (h.2.2.2 k hlt))
        have hc' : nbB (s[k].toNat : Int) = false := by simpa using hc
        clear hc
        go_wp2_with (go_at_call 67; refine (nameByte_any _ _).mono ?_; rintro e w' ⟨rfl, rfl⟩)
        go_ret
        first | exact ⟨rfl, rfl⟩ | exact ⟨ret_bool hn.symm, rfl⟩
    · have hn : nameB s = true := name_yes ⟨by omega, by omega, fun _ => hd', fun j hj => hu j hj (by omega)⟩
      go_wp2
      go_ret
      first | exact ⟨rfl, rfl⟩ | exact ⟨ret_bool hn.symm, rfl⟩

set_option maxHeartbeats 400000 in
theorem specName_any (s : ByteArray) (w : World) (hs : s.size ≤ maxLen) :
    Calls Tryd.prog 47 #[.string s] w fun e w' => e = .returned (.bool (nameB s)) ∧ w' = w := by
  unfold maxLen at hs
  by_cases h0 : s.size < 1
  · have hn : nameB s = false := name_no (by omega)
    go_enter Tryd.func47, Tryd.ntmps47
    go_wp2
    go_ret
    first | exact ⟨rfl, rfl⟩ | exact ⟨ret_bool hn.symm, rfl⟩
  have hp : 0 < s.size := by omega
  by_cases h16 : 16 < s.size
  · have hn : nameB s = false := name_no (by omega)
    go_enter Tryd.func47, Tryd.ntmps47
    go_wp2
    go_ret
    first | exact ⟨rfl, rfl⟩ | exact ⟨ret_bool hn.symm, rfl⟩
  by_cases hd : letB (s[0].toNat : Int) = true
  · go_enter Tryd.func47, Tryd.ntmps47
    go_wp2_with (go_at_call 58; refine (letter_any _ _).mono ?_; rintro e w' ⟨rfl, rfl⟩)
    go_loop [3] (fun i => ∃ k : Nat, k ≤ s.size ∧ i = .int .i64 k ∧ upTo s k) (fun i => s.size - (intOf i).toNat)
    case atStart => exact ⟨0, Nat.zero_le _, rfl, fun j _ h => absurd h (Nat.not_lt_zero _)⟩
    case round =>
      obtain ⟨k, hk, rfl, hu⟩ := hrel
      by_cases hlt : k < s.size
      · by_cases hc : nbB (s[k].toNat : Int) = true
        · have hcc : letB (s[k].toNat : Int) = true ∨ (letB (s[k].toNat : Int) = false ∧ 48 ≤ (s[k].toNat : Int) ∧ (s[k].toNat : Int) ≤ 57) := by
            by_cases l : letB (s[k].toNat : Int) = true
            · exact .inl l
            · refine .inr ⟨by simpa using l, ?_⟩
              have := let_dec hc
              rw [show letB (s[k].toNat : Int) = false by simpa using l] at this
              exact of_decide_eq_true (show decB (s[k].toNat : Int) = true by simpa using this.symm)
          rcases hcc with l | ⟨l, l1, l2⟩
          all_goals
            go_wp2_with (go_at_call 58; refine (letter_any _ _).mono ?_; rintro e w' ⟨rfl, rfl⟩)
            go_round
            case rel =>
              refine ⟨k + 1, by omega, by go_num, fun j hj h => ?_⟩
              by_cases e : j = k
              · subst e; exact hc
              · exact hu j hj (by omega)
            case measure => simp [intOf]; omega
        · have hn : nameB s = false := name_no (fun h => hc (h.2.2.2 k hlt))
          have l : letB (s[k].toNat : Int) = false := by
            by_cases l : letB (s[k].toNat : Int) = true
            · exact absurd (let_nb l).1 hc
            · simpa using l
          have hcc : (s[k].toNat : Int) < 48 ∨ 48 ≤ (s[k].toNat : Int) ∧ 57 < (s[k].toNat : Int) := by
            have : ¬ (48 ≤ (s[k].toNat : Int) ∧ (s[k].toNat : Int) ≤ 57) := fun d => hc (decide_eq_true (.inr d))
            omega
          clear hc
          rcases hcc with d | ⟨d1, d2⟩
          · go_wp2_with (go_at_call 58; refine (letter_any _ _).mono ?_; rintro e w' ⟨rfl, rfl⟩)
            go_ret
            first | exact ⟨rfl, rfl⟩ | exact ⟨ret_bool hn.symm, rfl⟩
          · have d3 : decide ((s[k].toNat : Int) ≤ 57) = false := decide_eq_false (by omega)
            go_wp2_with (go_at_call 58; refine (letter_any _ _).mono ?_; rintro e w' ⟨rfl, rfl⟩)
            go_ret
            first | exact ⟨rfl, rfl⟩ | exact ⟨ret_bool hn.symm, rfl⟩
      · have hn : nameB s = true := name_yes ⟨by omega, by omega, fun _ => (let_nb hd).2, fun j hj => hu j hj (by omega)⟩
        go_wp2
        go_ret
        first | exact ⟨rfl, rfl⟩ | exact ⟨ret_bool hn.symm, rfl⟩
  · have hd' : letB (s[0].toNat : Int) = false := by simpa using hd
    have hn : nameB s = false := name_no (fun h => by
      have a := h.2.2.1 hp
      have b := let_dec (h.2.2.2 0 hp)
      rw [a, hd'] at b; cases b)
    clear hd
    go_enter Tryd.func47, Tryd.ntmps47
    go_wp2_with (go_at_call 58; refine (letter_any _ _).mono ?_; rintro e w' ⟨rfl, rfl⟩)
    go_ret
    first | exact ⟨rfl, rfl⟩ | exact ⟨ret_bool hn.symm, rfl⟩

end Go.Proofs.YtlobkgohenebmaaDoor.Names
