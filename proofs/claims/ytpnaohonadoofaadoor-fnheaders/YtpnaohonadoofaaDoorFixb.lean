/-
  Contracts of ours for the small helpers of chapter 12, both sides: titles, kinds, how often two banks are doubled, noughts.
-/
import Derived.Test.YtpnaohonadoofaaDoorFixa
import Derived.Test.YtpnaohonadoofaaDoorTitl
namespace Go.Proofs.YtpnaohonadoofaaDoor.Fixb
open Go.ChangeShapes Go.WideShapes Go.ChangeAt Go.RowKit
open Signed (inB ret_int ret_bool l1In_any)
open Sums Fixa Titl
set_option linter.unusedVariables false

theorem dbl0 (w : World) : Calls Tryd.prog 26 #[.int .i64 0] w fun e w' => e = .returned (.int .i64 2) ∧ w' = w := by
  go_enter Tryd.func26, Tryd.ntmps26
  go_wp2
  go_ret
  exact ⟨rfl, rfl⟩
theorem dbl1 (w : World) : Calls Tryd.prog 26 #[.int .i64 1] w fun e w' => e = .returned (.int .i64 4) ∧ w' = w := by
  go_enter Tryd.func26, Tryd.ntmps26
  go_wp2
  go_ret
  exact ⟨rfl, rfl⟩
theorem dbl2 (w : World) : Calls Tryd.prog 26 #[.int .i64 2] w fun e w' => e = .returned (.int .i64 8) ∧ w' = w := by
  go_enter Tryd.func26, Tryd.ntmps26
  go_wp2
  go_ret
  exact ⟨rfl, rfl⟩
theorem dbl3 (w : World) : Calls Tryd.prog 26 #[.int .i64 3] w fun e w' => e = .returned (.int .i64 16) ∧ w' = w := by
  go_enter Tryd.func26, Tryd.ntmps26
  go_wp2
  go_ret
  exact ⟨rfl, rfl⟩
/-- How often two banks are doubled until there is room for n. -/
def timesV (n : Int) : Int := if n ≤ 2 then 0 else if n ≤ 4 then 1 else if n ≤ 8 then 2 else 3
def roomV (n : Int) : Int := if n ≤ 2 then 2 else if n ≤ 4 then 4 else if n ≤ 8 then 8 else 16
theorem doubledFor_any (n : Int) (w : World) (h1 : n ≤ 16) :
    Calls Tryd.prog 24 #[.int .i64 n] w fun e w' => e = .returned (.int .i64 (timesV n)) ∧ w' = w := by
  go_enter Tryd.func24, Tryd.ntmps24
  go_wp2
  go_loop [3] (fun i => i = .int .i64 0 ∨ (i = .int .i64 1 ∧ 2 < n) ∨ (i = .int .i64 2 ∧ 4 < n) ∨ (i = .int .i64 3 ∧ 8 < n)) (fun i => 3 - (intOf i).toNat)
  case atStart => exact .inl rfl
  case round =>
    rcases hrel with rfl | ⟨rfl, hn⟩ | ⟨rfl, hn⟩ | ⟨rfl, hn⟩
    · by_cases h : 2 < n
      · go_wp2_with (go_at_call 26; refine (dbl0 _).mono ?_; rintro e w' ⟨rfl, rfl⟩)
        go_round
        case rel => exact .inr (.inl ⟨rfl, h⟩)
        case measure => simp [intOf]
      · have HT : Hid (timesV n = 0) := by show _ = _; unfold timesV; rw [if_pos (by omega)]
        go_wp2_with (go_at_call 26; refine (dbl0 _).mono ?_; rintro e w' ⟨rfl, rfl⟩)
        go_ret
        first | exact ⟨ret_int HT.out.symm, rfl⟩ | exact ⟨rfl, rfl⟩
    · by_cases h : 4 < n
      · go_wp2_with (go_at_call 26; refine (dbl1 _).mono ?_; rintro e w' ⟨rfl, rfl⟩)
        go_round
        case rel => exact .inr (.inr (.inl ⟨rfl, h⟩))
        case measure => simp [intOf]
      · have HT : Hid (timesV n = 1) := by show _ = _; unfold timesV; rw [if_neg (by omega), if_pos (by omega)]
        go_wp2_with (go_at_call 26; refine (dbl1 _).mono ?_; rintro e w' ⟨rfl, rfl⟩)
        go_ret
        first | exact ⟨ret_int HT.out.symm, rfl⟩ | exact ⟨rfl, rfl⟩
    · by_cases h : 8 < n
      · go_wp2_with (go_at_call 26; refine (dbl2 _).mono ?_; rintro e w' ⟨rfl, rfl⟩)
        go_round
        case rel => exact .inr (.inr (.inr ⟨rfl, h⟩))
        case measure => simp [intOf]
      · have HT : Hid (timesV n = 2) := by show _ = _; unfold timesV; rw [if_neg (by omega), if_neg (by omega), if_pos (by omega)]
        go_wp2_with (go_at_call 26; refine (dbl2 _).mono ?_; rintro e w' ⟨rfl, rfl⟩)
        go_ret
        first | exact ⟨ret_int HT.out.symm, rfl⟩ | exact ⟨rfl, rfl⟩
    · have HT : Hid (timesV n = 3) := by show _ = _; unfold timesV; rw [if_neg (by omega), if_neg (by omega), if_neg (by omega)]
      have h : ¬ 16 < n := by omega
      go_wp2_with (go_at_call 26; refine (dbl3 _).mono ?_; rintro e w' ⟨rfl, rfl⟩)
      go_ret
      first | exact ⟨ret_int HT.out.symm, rfl⟩ | exact ⟨rfl, rfl⟩
theorem times_cases (n : Int) : (timesV n = 0 ∧ roomV n = 2) ∨ (timesV n = 1 ∧ roomV n = 4) ∨ (timesV n = 2 ∧ roomV n = 8) ∨ (timesV n = 3 ∧ roomV n = 16) := by
  unfold timesV roomV
  split
  · exact .inl ⟨rfl, rfl⟩
  split
  · exact .inr (.inl ⟨rfl, rfl⟩)
  split
  · exact .inr (.inr (.inl ⟨rfl, rfl⟩))
  · exact .inr (.inr (.inr ⟨rfl, rfl⟩))
theorem room_any (n : Int) (w : World) : Calls Tryd.prog 26 #[.int .i64 (timesV n)] w fun e w' => e = .returned (.int .i64 (roomV n)) ∧ w' = w := by
  rcases times_cases n with ⟨h1, h2⟩ | ⟨h1, h2⟩ | ⟨h1, h2⟩ | ⟨h1, h2⟩ <;> rw [h1, h2]
  · exact dbl0 w
  · exact dbl1 w
  · exact dbl2 w
  · exact dbl3 w
end Go.Proofs.YtpnaohonadoofaaDoor.Fixb
