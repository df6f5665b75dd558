/-
  Contracts of ours for titles, kinds and the code of a number of banks, both sides.
-/
import Derived.Test.YtpnaohonadoofaaDoorSums
import Derived.LoopN
namespace Go.Proofs.YtpnaohonadoofaaDoor.Titl
open Go.ChangeShapes Go.WideShapes Go.ChangeAt Go.RowKit
open Signed (inB ret_int ret_bool l1In_any)
open Sums
set_option linter.unusedVariables false

def titleB (s : ByteArray) : Bool := decide (∀ i (h : i < s.size), 32 ≤ s[i].toNat ∧ s[i].toNat ≤ 126)
def titleUp (s : ByteArray) (k : Nat) : Prop := ∀ i (h : i < s.size), i < k → 32 ≤ s[i].toNat ∧ s[i].toNat ≤ 126
theorem up_next {s : ByteArray} {k : Nat} (hk : k < s.size) (h : titleUp s k) (h1 : 32 ≤ s[k].toNat) (h2 : s[k].toNat ≤ 126) : titleUp s (k + 1) := fun i hi hlt => by
  by_cases e : i = k
  · subst e; exact ⟨h1, h2⟩
  · exact h i hi (by omega)
theorem title_no {s : ByteArray} {k : Nat} (hk : k < s.size) (h : ¬ (32 ≤ s[k].toNat ∧ s[k].toNat ≤ 126)) : titleB s = false := decide_eq_false fun x => h (x k hk)
theorem title_yes {s : ByteArray} {k : Nat} (hk : ¬ k < s.size) (h : titleUp s k) : titleB s = true := decide_eq_true fun i hi => h i hi (by omega)

theorem isTitle_any (s : ByteArray) (w : World) (hs : s.size ≤ maxLen) :
    Calls Tryd.prog 22 #[.string s] w fun e w' => e = .returned (.bool (titleB s)) ∧ w' = w := by
  have hz : s.size ≤ 9223372036854775807 := by unfold maxLen at hs; omega
  go_enter Tryd.func22, Tryd.ntmps22
  go_wp2
  go_loop [6] (fun i => ∃ k : Nat, k ≤ s.size ∧ i = .int .i64 k ∧ titleUp s k) (fun i => s.size - (intOf i).toNat)
  case atStart => exact ⟨0, Nat.zero_le _, rfl, fun _ _ h => absurd h (by omega)⟩
  case round =>
    obtain ⟨k, hk, rfl, hu⟩ := hrel
    have HU : Hid (titleUp s k) := hu
    clear hu
    by_cases hlt : k < s.size
    · by_cases h1 : (s[k].toNat : Int) < 32
      · have hn : Hid (titleB s = false) := title_no hlt (by omega)
        go_wp2
        go_ret
        exact ⟨ret_bool hn.out.symm, rfl⟩
      by_cases h2 : 126 < (s[k].toNat : Int)
      · have hn : Hid (titleB s = false) := title_no hlt (by omega)
        have d2 : decide (126 < (s[k].toNat : Int)) = true := decide_eq_true h2
        go_wp2
        go_ret
        exact ⟨ret_bool hn.out.symm, rfl⟩
      · have d2 : decide (126 < (s[k].toNat : Int)) = false := decide_eq_false h2
        go_wp2
        go_round
        case rel => exact ⟨k + 1, by omega, by go_num, up_next hlt HU.out (by omega) (by omega)⟩
        case measure => simp [intOf]; omega
    · have hn : Hid (titleB s = true) := title_yes hlt HU.out
      go_wp2
      go_ret
      exact ⟨ret_bool hn.out.symm, rfl⟩
def title15 (s : ByteArray) : Bool := titleB s && decide (s.size ≤ 15)
theorem l12Title_any (s : ByteArray) (w : World) (hs : s.size ≤ maxLen) :
    Calls Tryd.prog 29 #[.string s] w fun e w' => e = .returned (.bool (title15 s)) ∧ w' = w := by
  have hz : s.size ≤ 9223372036854775807 := by unfold maxLen at hs; omega
  go_enter Tryd.func29, Tryd.ntmps29
  go_wp2
  go_loop [3] (fun i => ∃ k : Nat, k ≤ s.size ∧ i = .int .i64 k ∧ titleUp s k) (fun i => s.size - (intOf i).toNat)
  case atStart => exact ⟨0, Nat.zero_le _, rfl, fun _ _ h => absurd h (by omega)⟩
  case round =>
    obtain ⟨k, hk, rfl, hu⟩ := hrel
    have HU : Hid (titleUp s k) := hu
    clear hu
    by_cases hlt : k < s.size
    · by_cases h1 : (s[k].toNat : Int) < 32
      · have hn : Hid (titleB s = false) := title_no hlt (by omega)
        go_wp2
        go_ret
        exact ⟨ret_bool (by unfold title15; rw [hn.out]; rfl), rfl⟩
      by_cases h2 : 126 < (s[k].toNat : Int)
      · have hn : Hid (titleB s = false) := title_no hlt (by omega)
        have d2 : decide (126 < (s[k].toNat : Int)) = true := decide_eq_true h2
        go_wp2
        go_ret
        exact ⟨ret_bool (by unfold title15; rw [hn.out]; rfl), rfl⟩
      · have d2 : decide (126 < (s[k].toNat : Int)) = false := decide_eq_false h2
        go_wp2
        go_round
        case rel => exact ⟨k + 1, by omega, by go_num, up_next hlt HU.out (by omega) (by omega)⟩
        case measure => simp [intOf]; omega
    · have hn : Hid (titleB s = true) := title_yes hlt HU.out
      go_wp2
      go_ret
      exact ⟨ret_bool (by unfold title15; rw [hn.out, Bool.true_and]; rw [Bool.eq_iff_iff]; simp; try omega), rfl⟩
theorem isCartKind_any (n : Int) (w : World) :
    Calls Tryd.prog 23 #[.int .i64 n] w fun e w' => e = .returned (.bool (inB n 0 2)) ∧ w' = w := by
  go_enter Tryd.func23, Tryd.ntmps23
  go_wp2
  all_goals go_ret
  all_goals exact ⟨ret_bool (by rw [Bool.eq_iff_iff]; simp [inB]; try omega), rfl⟩
theorem banksOf_any (rom : ByteArray) (w : World) (hs : rom.size ≤ maxLen) :
    Calls Tryd.prog 25 #[.string rom] w fun e w' => e = .returned (.int .i64 ((rom.size : Int) / 256)) ∧ w' = w := by
  have hs' : rom.size ≤ 9223372036854775807 := by unfold maxLen at hs; omega
  go_enter Tryd.func25, Tryd.ntmps25
  go_wp2
  go_ret
  exact ⟨rfl, rfl⟩
/-- What l12Code answers of 2 .. 16 banks. -/
def codeV (n : Int) : Int := if n = 2 then 0 else if n = 4 then 1 else if n = 8 then 2 else if n = 16 then 3 else -1
set_option maxHeartbeats 1000000 in
theorem l12Code_any (n : Int) (w : World) (h0 : 2 ≤ n) (h1 : n ≤ 16) :
    Calls Tryd.prog 30 #[.int .i64 n] w fun e w' => e = .returned (.int .i64 (codeV n)) ∧ w' = w := by
  go_enter Tryd.func30, Tryd.ntmps30
  go_wp2
  go_loop [3, 4] (fun c i => (c = .int .i64 0 ∧ i = .int .i64 2) ∨ (c = .int .i64 1 ∧ i = .int .i64 4 ∧ 2 < n) ∨ (c = .int .i64 2 ∧ i = .int .i64 8 ∧ 4 < n) ∨ (c = .int .i64 3 ∧ i = .int .i64 16 ∧ 8 < n)) (fun _ i => 16 - (intOf i).toNat)
  case atStart => exact .inl ⟨rfl, rfl⟩
  case round =>
    rcases hrel with ⟨rfl, rfl⟩ | ⟨rfl, rfl, hn⟩ | ⟨rfl, rfl, hn⟩ | ⟨rfl, rfl, hn⟩
    · by_cases h : 2 < n
      · go_wp2
        go_round
        case rel => exact .inr (.inl ⟨rfl, rfl, h⟩)
        case measure => simp [intOf]
      have he : n = 2 := by omega
      have HT : Hid (codeV n = 0) := by show _ = _; rw [he]; rfl
      have d1 : ((2 : Int) != n) = false := by simp; omega
      go_wp2
      go_ret
      first | exact ⟨ret_int HT.out.symm, rfl⟩ | exact ⟨rfl, rfl⟩
    · by_cases h : 4 < n
      · go_wp2
        go_round
        case rel => exact .inr (.inr (.inl ⟨rfl, rfl, h⟩))
        case measure => simp [intOf]
      by_cases he : n = 4
      · have HT : Hid (codeV n = 1) := by show _ = _; rw [he]; rfl
        have d1 : ((4 : Int) != n) = false := by simp; omega
        go_wp2
        go_ret
        first | exact ⟨ret_int HT.out.symm, rfl⟩ | exact ⟨rfl, rfl⟩
      · have HT : Hid (codeV n = -1) := by show _ = _; unfold codeV; rw [if_neg (by omega), if_neg (by omega), if_neg (by omega), if_neg (by omega)]
        have d1 : ((4 : Int) != n) = true := by simp; omega
        go_wp2
        go_ret
        first | exact ⟨ret_int HT.out.symm, rfl⟩ | exact ⟨rfl, rfl⟩
    · by_cases h : 8 < n
      · go_wp2
        go_round
        case rel => exact .inr (.inr (.inr ⟨rfl, rfl, h⟩))
        case measure => simp [intOf]
      by_cases he : n = 8
      · have HT : Hid (codeV n = 2) := by show _ = _; rw [he]; rfl
        have d1 : ((8 : Int) != n) = false := by simp; omega
        go_wp2
        go_ret
        first | exact ⟨ret_int HT.out.symm, rfl⟩ | exact ⟨rfl, rfl⟩
      · have HT : Hid (codeV n = -1) := by show _ = _; unfold codeV; rw [if_neg (by omega), if_neg (by omega), if_neg (by omega), if_neg (by omega)]
        have d1 : ((8 : Int) != n) = true := by simp; omega
        go_wp2
        go_ret
        first | exact ⟨ret_int HT.out.symm, rfl⟩ | exact ⟨rfl, rfl⟩
    · have h : ¬ 16 < n := by omega
      by_cases he : n = 16
      · have HT : Hid (codeV n = 3) := by show _ = _; rw [he]; rfl
        have d1 : ((16 : Int) != n) = false := by simp; omega
        go_wp2
        go_ret
        first | exact ⟨ret_int HT.out.symm, rfl⟩ | exact ⟨rfl, rfl⟩
      · have HT : Hid (codeV n = -1) := by show _ = _; unfold codeV; rw [if_neg (by omega), if_neg (by omega), if_neg (by omega), if_neg (by omega)]
        have d1 : ((16 : Int) != n) = true := by simp; omega
        go_wp2
        go_ret
        first | exact ⟨ret_int HT.out.symm, rfl⟩ | exact ⟨rfl, rfl⟩
end Go.Proofs.YtpnaohonadoofaaDoor.Titl
