/-
  The contract of ours for impl.Turned, at every argument.
-/
import Derived.Test.YtkfehdkjeodbmaaGreatDoorTurnS
namespace Go.Proofs.YtkfehdkjeodbmaaGreatDoor.TurnI
open Go.ChangeShapes Go.WideShapes Go.ChangeAt Go.RowKit
open Signed (inB ret_int ret_bool isByte_any l1In_any)
open Reck ReckS ReckM TurnS
set_option linter.unusedVariables false

theorem intoRight_any (v b : Int) (w : World) (v0 : 0 ≤ v) (v1 : v ≤ 255) (b0 : 0 ≤ b) (b1 : b ≤ 1) :
    Calls Tryz.prog 229 #[.int .i64 v, .int .i64 b] w fun e w' => e = .returned (.tuple #[.int .i64 (v * 2 % 256 + b), .int .i64 (v / 128)]) ∧ w' = w := by
  go_enter Tryz.func229, Tryz.ntmps229
  go_wp2
  go_ret2
  exact ⟨rfl, rfl⟩
theorem intoLeft_any (v b : Int) (w : World) (v0 : 0 ≤ v) (v1 : v ≤ 255) (b0 : 0 ≤ b) (b1 : b ≤ 1) :
    Calls Tryz.prog 230 #[.int .i64 v, .int .i64 b] w fun e w' => e = .returned (.tuple #[.int .i64 (v / 2 + 128 * b), .int .i64 (v % 2)]) ∧ w' = w := by
  go_enter Tryz.func230, Tryz.ntmps230
  go_wp2
  go_ret2
  exact ⟨rfl, rfl⟩
theorem roundLeft_any (v c : Int) (w : World) (v0 : 0 ≤ v) (v1 : v ≤ 255) (c0 : 0 ≤ c) (c1 : c ≤ 1) :
    Calls Tryz.prog 220 #[.int .i64 v, .int .i64 c] w fun e w' => e = .returned (.tuple #[.int .i64 (v * 2 % 256 + v / 128), .int .i64 (v / 128)]) ∧ w' = w := by
  go_enter Tryz.func220, Tryz.ntmps220
  go_wp2_with (go_at_call 229; refine (intoRight_any _ _ _ v0 v1 (by omega) (by omega)).mono ?_; rintro e w' ⟨rfl, rfl⟩)
  go_ret2
  exact ⟨ret_two (by omega) rfl, rfl⟩
theorem roundRight_any (v c : Int) (w : World) (v0 : 0 ≤ v) (v1 : v ≤ 255) (c0 : 0 ≤ c) (c1 : c ≤ 1) :
    Calls Tryz.prog 221 #[.int .i64 v, .int .i64 c] w fun e w' => e = .returned (.tuple #[.int .i64 (v / 2 + 128 * (v % 2)), .int .i64 (v % 2)]) ∧ w' = w := by
  go_enter Tryz.func221, Tryz.ntmps221
  go_wp2_with (go_at_call 230; refine (intoLeft_any _ _ _ v0 v1 (by omega) (by omega)).mono ?_; rintro e w' ⟨rfl, rfl⟩)
  go_ret2
  exact ⟨ret_two (by omega) rfl, rfl⟩
theorem carryLeft_any (v c : Int) (w : World) (v0 : 0 ≤ v) (v1 : v ≤ 255) (c0 : 0 ≤ c) (c1 : c ≤ 1) :
    Calls Tryz.prog 222 #[.int .i64 v, .int .i64 c] w fun e w' => e = .returned (.tuple #[.int .i64 (v * 2 % 256 + c), .int .i64 (v / 128)]) ∧ w' = w := by
  go_enter Tryz.func222, Tryz.ntmps222
  go_wp2_with (go_at_call 229; refine (intoRight_any _ _ _ v0 v1 (by omega) (by omega)).mono ?_; rintro e w' ⟨rfl, rfl⟩)
  go_ret2
  exact ⟨ret_two (by omega) rfl, rfl⟩
theorem carryRight_any (v c : Int) (w : World) (v0 : 0 ≤ v) (v1 : v ≤ 255) (c0 : 0 ≤ c) (c1 : c ≤ 1) :
    Calls Tryz.prog 223 #[.int .i64 v, .int .i64 c] w fun e w' => e = .returned (.tuple #[.int .i64 (v / 2 + 128 * c), .int .i64 (v % 2)]) ∧ w' = w := by
  go_enter Tryz.func223, Tryz.ntmps223
  go_wp2_with (go_at_call 230; refine (intoLeft_any _ _ _ v0 v1 (by omega) (by omega)).mono ?_; rintro e w' ⟨rfl, rfl⟩)
  go_ret2
  exact ⟨ret_two (by omega) rfl, rfl⟩
theorem shiftLeft_any (v c : Int) (w : World) (v0 : 0 ≤ v) (v1 : v ≤ 255) (c0 : 0 ≤ c) (c1 : c ≤ 1) :
    Calls Tryz.prog 224 #[.int .i64 v, .int .i64 c] w fun e w' => e = .returned (.tuple #[.int .i64 (v * 2 % 256), .int .i64 (v / 128)]) ∧ w' = w := by
  go_enter Tryz.func224, Tryz.ntmps224
  go_wp2_with (go_at_call 229; refine (intoRight_any _ _ _ v0 v1 (by omega) (by omega)).mono ?_; rintro e w' ⟨rfl, rfl⟩)
  go_ret2
  exact ⟨ret_two (by omega) rfl, rfl⟩
theorem shiftSigned_any (v c : Int) (w : World) (v0 : 0 ≤ v) (v1 : v ≤ 255) (c0 : 0 ≤ c) (c1 : c ≤ 1) :
    Calls Tryz.prog 225 #[.int .i64 v, .int .i64 c] w fun e w' => e = .returned (.tuple #[.int .i64 (v / 2 + 128 * (v / 128)), .int .i64 (v % 2)]) ∧ w' = w := by
  go_enter Tryz.func225, Tryz.ntmps225
  go_wp2_with (go_at_call 230; refine (intoLeft_any _ _ _ v0 v1 (by omega) (by omega)).mono ?_; rintro e w' ⟨rfl, rfl⟩)
  go_ret2
  exact ⟨ret_two (by omega) rfl, rfl⟩
theorem swapHalves_any (v c : Int) (w : World) (v0 : 0 ≤ v) (v1 : v ≤ 255) (c0 : 0 ≤ c) (c1 : c ≤ 1) :
    Calls Tryz.prog 226 #[.int .i64 v, .int .i64 c] w fun e w' => e = .returned (.tuple #[.int .i64 (v % 16 * 16 + v / 16), .int .i64 (0)]) ∧ w' = w := by
  go_enter Tryz.func226, Tryz.ntmps226
  go_wp2
  go_ret2
  exact ⟨ret_two (by omega) rfl, rfl⟩
theorem shiftRight_any (v c : Int) (w : World) (v0 : 0 ≤ v) (v1 : v ≤ 255) (c0 : 0 ≤ c) (c1 : c ≤ 1) :
    Calls Tryz.prog 227 #[.int .i64 v, .int .i64 c] w fun e w' => e = .returned (.tuple #[.int .i64 (v / 2), .int .i64 (v % 2)]) ∧ w' = w := by
  go_enter Tryz.func227, Tryz.ntmps227
  go_wp2_with (go_at_call 230; refine (intoLeft_any _ _ _ v0 v1 (by omega) (by omega)).mono ?_; rintro e w' ⟨rfl, rfl⟩)
  go_ret2
  exact ⟨ret_two (by omega) rfl, rfl⟩
theorem turnOps_any (w : World) :
    Calls Tryz.prog 205 #[] w fun e w' => e = .returned (.agg #[.func (.func 220) #[] #[], .func (.func 221) #[] #[], .func (.func 222) #[] #[], .func (.func 223) #[] #[], .func (.func 224) #[] #[], .func (.func 225) #[] #[], .func (.func 226) #[] #[], .func (.func 227) #[] #[]]) ∧ Below w.heap.size w w' := by
  go_enter Tryz.func205, Tryz.ntmps205
  go_wp2
  refine bodyPost_ret (v := .agg #[.func (.func 220) #[] #[], .func (.func 221) #[] #[], .func (.func 222) #[] #[], .func (.func 223) #[] #[], .func (.func 224) #[] #[], .func (.func 225) #[] #[], .func (.func 226) #[] #[], .func (.func 227) #[] #[]]) (by simp [results, Tryz.results205, go_sem]) rfl ⟨rfl, ?_⟩
  exact (Below.refl _ _).alloc (Nat.le_refl _) _
theorem implTurned_0 (v f : Int) (w : World) (v0 : 0 ≤ v) (v1 : v ≤ 255) (f0 : 0 ≤ f) (f1 : f ≤ 255) :
    Calls Tryz.prog 190 #[.int .i64 0, .int .i64 v, .int .i64 f] w fun e w' => e = .returned (.tuple #[.int .i64 (trnR 0 v f).1, .int .i64 (trnR 0 v f).2]) ∧ Below w.heap.size w w' := by
  have hv : inB v 0 255 = true := decide_eq_true (by omega)
  have hf : inB f 0 255 = true := decide_eq_true (by omega)
  obtain ⟨c0, c1⟩ := cy_bd f
  have hi : ∀ w : World, (Instr.index 180 (.agg #[.func (.func 220) #[] #[], .func (.func 221) #[] #[], .func (.func 222) #[] #[], .func (.func 223) #[] #[], .func (.func 224) #[] #[], .func (.func 225) #[] #[], .func (.func 226) #[] #[], .func (.func 227) #[] #[]]) (.int .i64 0)).run Tryz.prog w = .ok (.func (.func 220) #[] #[]) w := fun _ => by kernel_rfl
  go_enter Tryz.func190, Tryz.ntmps190
  go_wp2_with (go_at_call 94; refine (isByte_any _ _).mono ?_; rintro e w' ⟨rfl, rfl⟩)
  go_region_with (first | (go_at_call 205; refine (turnOps_any _).mono ?_; rintro e w1 ⟨rfl, hbe⟩) | (go_at_call 204; refine (carryOf_any _ _ f0 f1).mono ?_; rintro e w2 ⟨rfl, rfl⟩) | (go_at_call 220; refine (roundLeft_any _ _ _ v0 v1 c0 c1).mono ?_; rintro e w2 ⟨rfl, rfl⟩))
  all_goals go_wp2_with (go_at_call 189; refine (flagIf_any _ _ _).mono ?_; rintro e w3 ⟨rfl, rfl⟩)
  all_goals go_ret2
  all_goals
    refine ⟨ret_two rfl ?_, below_of_drew hbe⟩
    try rw [beq_dec']
    try rw [beq_dec']
    exact or_trn _ _
theorem implTurned_1 (v f : Int) (w : World) (v0 : 0 ≤ v) (v1 : v ≤ 255) (f0 : 0 ≤ f) (f1 : f ≤ 255) :
    Calls Tryz.prog 190 #[.int .i64 1, .int .i64 v, .int .i64 f] w fun e w' => e = .returned (.tuple #[.int .i64 (trnR 1 v f).1, .int .i64 (trnR 1 v f).2]) ∧ Below w.heap.size w w' := by
  have hv : inB v 0 255 = true := decide_eq_true (by omega)
  have hf : inB f 0 255 = true := decide_eq_true (by omega)
  obtain ⟨c0, c1⟩ := cy_bd f
  have hi : ∀ w : World, (Instr.index 180 (.agg #[.func (.func 220) #[] #[], .func (.func 221) #[] #[], .func (.func 222) #[] #[], .func (.func 223) #[] #[], .func (.func 224) #[] #[], .func (.func 225) #[] #[], .func (.func 226) #[] #[], .func (.func 227) #[] #[]]) (.int .i64 1)).run Tryz.prog w = .ok (.func (.func 221) #[] #[]) w := fun _ => by kernel_rfl
  go_enter Tryz.func190, Tryz.ntmps190
  go_wp2_with (go_at_call 94; refine (isByte_any _ _).mono ?_; rintro e w' ⟨rfl, rfl⟩)
  go_region_with (first | (go_at_call 205; refine (turnOps_any _).mono ?_; rintro e w1 ⟨rfl, hbe⟩) | (go_at_call 204; refine (carryOf_any _ _ f0 f1).mono ?_; rintro e w2 ⟨rfl, rfl⟩) | (go_at_call 221; refine (roundRight_any _ _ _ v0 v1 c0 c1).mono ?_; rintro e w2 ⟨rfl, rfl⟩))
  all_goals go_wp2_with (go_at_call 189; refine (flagIf_any _ _ _).mono ?_; rintro e w3 ⟨rfl, rfl⟩)
  all_goals go_ret2
  all_goals
    refine ⟨ret_two rfl ?_, below_of_drew hbe⟩
    try rw [beq_dec']
    try rw [beq_dec']
    exact or_trn _ _
theorem implTurned_2 (v f : Int) (w : World) (v0 : 0 ≤ v) (v1 : v ≤ 255) (f0 : 0 ≤ f) (f1 : f ≤ 255) :
    Calls Tryz.prog 190 #[.int .i64 2, .int .i64 v, .int .i64 f] w fun e w' => e = .returned (.tuple #[.int .i64 (trnR 2 v f).1, .int .i64 (trnR 2 v f).2]) ∧ Below w.heap.size w w' := by
  have hv : inB v 0 255 = true := decide_eq_true (by omega)
  have hf : inB f 0 255 = true := decide_eq_true (by omega)
  obtain ⟨c0, c1⟩ := cy_bd f
  have hi : ∀ w : World, (Instr.index 180 (.agg #[.func (.func 220) #[] #[], .func (.func 221) #[] #[], .func (.func 222) #[] #[], .func (.func 223) #[] #[], .func (.func 224) #[] #[], .func (.func 225) #[] #[], .func (.func 226) #[] #[], .func (.func 227) #[] #[]]) (.int .i64 2)).run Tryz.prog w = .ok (.func (.func 222) #[] #[]) w := fun _ => by kernel_rfl
  go_enter Tryz.func190, Tryz.ntmps190
  go_wp2_with (go_at_call 94; refine (isByte_any _ _).mono ?_; rintro e w' ⟨rfl, rfl⟩)
  go_region_with (first | (go_at_call 205; refine (turnOps_any _).mono ?_; rintro e w1 ⟨rfl, hbe⟩) | (go_at_call 204; refine (carryOf_any _ _ f0 f1).mono ?_; rintro e w2 ⟨rfl, rfl⟩) | (go_at_call 222; refine (carryLeft_any _ _ _ v0 v1 c0 c1).mono ?_; rintro e w2 ⟨rfl, rfl⟩))
  all_goals go_wp2_with (go_at_call 189; refine (flagIf_any _ _ _).mono ?_; rintro e w3 ⟨rfl, rfl⟩)
  all_goals go_ret2
  all_goals
    refine ⟨ret_two rfl ?_, below_of_drew hbe⟩
    try rw [beq_dec']
    try rw [beq_dec']
    exact or_trn _ _
theorem implTurned_3 (v f : Int) (w : World) (v0 : 0 ≤ v) (v1 : v ≤ 255) (f0 : 0 ≤ f) (f1 : f ≤ 255) :
    Calls Tryz.prog 190 #[.int .i64 3, .int .i64 v, .int .i64 f] w fun e w' => e = .returned (.tuple #[.int .i64 (trnR 3 v f).1, .int .i64 (trnR 3 v f).2]) ∧ Below w.heap.size w w' := by
  have hv : inB v 0 255 = true := decide_eq_true (by omega)
  have hf : inB f 0 255 = true := decide_eq_true (by omega)
  obtain ⟨c0, c1⟩ := cy_bd f
  have hi : ∀ w : World, (Instr.index 180 (.agg #[.func (.func 220) #[] #[], .func (.func 221) #[] #[], .func (.func 222) #[] #[], .func (.func 223) #[] #[], .func (.func 224) #[] #[], .func (.func 225) #[] #[], .func (.func 226) #[] #[], .func (.func 227) #[] #[]]) (.int .i64 3)).run Tryz.prog w = .ok (.func (.func 223) #[] #[]) w := fun _ => by kernel_rfl
  go_enter Tryz.func190, Tryz.ntmps190
  go_wp2_with (go_at_call 94; refine (isByte_any _ _).mono ?_; rintro e w' ⟨rfl, rfl⟩)
  go_region_with (first | (go_at_call 205; refine (turnOps_any _).mono ?_; rintro e w1 ⟨rfl, hbe⟩) | (go_at_call 204; refine (carryOf_any _ _ f0 f1).mono ?_; rintro e w2 ⟨rfl, rfl⟩) | (go_at_call 223; refine (carryRight_any _ _ _ v0 v1 c0 c1).mono ?_; rintro e w2 ⟨rfl, rfl⟩))
  all_goals go_wp2_with (go_at_call 189; refine (flagIf_any _ _ _).mono ?_; rintro e w3 ⟨rfl, rfl⟩)
  all_goals go_ret2
  all_goals
    refine ⟨ret_two rfl ?_, below_of_drew hbe⟩
    try rw [beq_dec']
    try rw [beq_dec']
    exact or_trn _ _
theorem implTurned_4 (v f : Int) (w : World) (v0 : 0 ≤ v) (v1 : v ≤ 255) (f0 : 0 ≤ f) (f1 : f ≤ 255) :
    Calls Tryz.prog 190 #[.int .i64 4, .int .i64 v, .int .i64 f] w fun e w' => e = .returned (.tuple #[.int .i64 (trnR 4 v f).1, .int .i64 (trnR 4 v f).2]) ∧ Below w.heap.size w w' := by
  have hv : inB v 0 255 = true := decide_eq_true (by omega)
  have hf : inB f 0 255 = true := decide_eq_true (by omega)
  obtain ⟨c0, c1⟩ := cy_bd f
  have hi : ∀ w : World, (Instr.index 180 (.agg #[.func (.func 220) #[] #[], .func (.func 221) #[] #[], .func (.func 222) #[] #[], .func (.func 223) #[] #[], .func (.func 224) #[] #[], .func (.func 225) #[] #[], .func (.func 226) #[] #[], .func (.func 227) #[] #[]]) (.int .i64 4)).run Tryz.prog w = .ok (.func (.func 224) #[] #[]) w := fun _ => by kernel_rfl
  go_enter Tryz.func190, Tryz.ntmps190
  go_wp2_with (go_at_call 94; refine (isByte_any _ _).mono ?_; rintro e w' ⟨rfl, rfl⟩)
  go_region_with (first | (go_at_call 205; refine (turnOps_any _).mono ?_; rintro e w1 ⟨rfl, hbe⟩) | (go_at_call 204; refine (carryOf_any _ _ f0 f1).mono ?_; rintro e w2 ⟨rfl, rfl⟩) | (go_at_call 224; refine (shiftLeft_any _ _ _ v0 v1 c0 c1).mono ?_; rintro e w2 ⟨rfl, rfl⟩))
  all_goals go_wp2_with (go_at_call 189; refine (flagIf_any _ _ _).mono ?_; rintro e w3 ⟨rfl, rfl⟩)
  all_goals go_ret2
  all_goals
    refine ⟨ret_two rfl ?_, below_of_drew hbe⟩
    try rw [beq_dec']
    try rw [beq_dec']
    exact or_trn _ _
theorem implTurned_5 (v f : Int) (w : World) (v0 : 0 ≤ v) (v1 : v ≤ 255) (f0 : 0 ≤ f) (f1 : f ≤ 255) :
    Calls Tryz.prog 190 #[.int .i64 5, .int .i64 v, .int .i64 f] w fun e w' => e = .returned (.tuple #[.int .i64 (trnR 5 v f).1, .int .i64 (trnR 5 v f).2]) ∧ Below w.heap.size w w' := by
  have hv : inB v 0 255 = true := decide_eq_true (by omega)
  have hf : inB f 0 255 = true := decide_eq_true (by omega)
  obtain ⟨c0, c1⟩ := cy_bd f
  have hi : ∀ w : World, (Instr.index 180 (.agg #[.func (.func 220) #[] #[], .func (.func 221) #[] #[], .func (.func 222) #[] #[], .func (.func 223) #[] #[], .func (.func 224) #[] #[], .func (.func 225) #[] #[], .func (.func 226) #[] #[], .func (.func 227) #[] #[]]) (.int .i64 5)).run Tryz.prog w = .ok (.func (.func 225) #[] #[]) w := fun _ => by kernel_rfl
  go_enter Tryz.func190, Tryz.ntmps190
  go_wp2_with (go_at_call 94; refine (isByte_any _ _).mono ?_; rintro e w' ⟨rfl, rfl⟩)
  go_region_with (first | (go_at_call 205; refine (turnOps_any _).mono ?_; rintro e w1 ⟨rfl, hbe⟩) | (go_at_call 204; refine (carryOf_any _ _ f0 f1).mono ?_; rintro e w2 ⟨rfl, rfl⟩) | (go_at_call 225; refine (shiftSigned_any _ _ _ v0 v1 c0 c1).mono ?_; rintro e w2 ⟨rfl, rfl⟩))
  all_goals go_wp2_with (go_at_call 189; refine (flagIf_any _ _ _).mono ?_; rintro e w3 ⟨rfl, rfl⟩)
  all_goals go_ret2
  all_goals
    refine ⟨ret_two rfl ?_, below_of_drew hbe⟩
    try rw [beq_dec']
    try rw [beq_dec']
    exact or_trn _ _
theorem implTurned_6 (v f : Int) (w : World) (v0 : 0 ≤ v) (v1 : v ≤ 255) (f0 : 0 ≤ f) (f1 : f ≤ 255) :
    Calls Tryz.prog 190 #[.int .i64 6, .int .i64 v, .int .i64 f] w fun e w' => e = .returned (.tuple #[.int .i64 (trnR 6 v f).1, .int .i64 (trnR 6 v f).2]) ∧ Below w.heap.size w w' := by
  have hv : inB v 0 255 = true := decide_eq_true (by omega)
  have hf : inB f 0 255 = true := decide_eq_true (by omega)
  obtain ⟨c0, c1⟩ := cy_bd f
  have hi : ∀ w : World, (Instr.index 180 (.agg #[.func (.func 220) #[] #[], .func (.func 221) #[] #[], .func (.func 222) #[] #[], .func (.func 223) #[] #[], .func (.func 224) #[] #[], .func (.func 225) #[] #[], .func (.func 226) #[] #[], .func (.func 227) #[] #[]]) (.int .i64 6)).run Tryz.prog w = .ok (.func (.func 226) #[] #[]) w := fun _ => by kernel_rfl
  go_enter Tryz.func190, Tryz.ntmps190
  go_wp2_with (go_at_call 94; refine (isByte_any _ _).mono ?_; rintro e w' ⟨rfl, rfl⟩)
  go_region_with (first | (go_at_call 205; refine (turnOps_any _).mono ?_; rintro e w1 ⟨rfl, hbe⟩) | (go_at_call 204; refine (carryOf_any _ _ f0 f1).mono ?_; rintro e w2 ⟨rfl, rfl⟩) | (go_at_call 226; refine (swapHalves_any _ _ _ v0 v1 c0 c1).mono ?_; rintro e w2 ⟨rfl, rfl⟩))
  all_goals go_wp2_with (go_at_call 189; refine (flagIf_any _ _ _).mono ?_; rintro e w3 ⟨rfl, rfl⟩)
  all_goals go_ret2
  all_goals
    refine ⟨ret_two rfl ?_, below_of_drew hbe⟩
    try rw [beq_dec']
    try rw [beq_dec']
    exact or_trn _ _
theorem implTurned_7 (v f : Int) (w : World) (v0 : 0 ≤ v) (v1 : v ≤ 255) (f0 : 0 ≤ f) (f1 : f ≤ 255) :
    Calls Tryz.prog 190 #[.int .i64 7, .int .i64 v, .int .i64 f] w fun e w' => e = .returned (.tuple #[.int .i64 (trnR 7 v f).1, .int .i64 (trnR 7 v f).2]) ∧ Below w.heap.size w w' := by
  have hv : inB v 0 255 = true := decide_eq_true (by omega)
  have hf : inB f 0 255 = true := decide_eq_true (by omega)
  obtain ⟨c0, c1⟩ := cy_bd f
  have hi : ∀ w : World, (Instr.index 180 (.agg #[.func (.func 220) #[] #[], .func (.func 221) #[] #[], .func (.func 222) #[] #[], .func (.func 223) #[] #[], .func (.func 224) #[] #[], .func (.func 225) #[] #[], .func (.func 226) #[] #[], .func (.func 227) #[] #[]]) (.int .i64 7)).run Tryz.prog w = .ok (.func (.func 227) #[] #[]) w := fun _ => by kernel_rfl
  go_enter Tryz.func190, Tryz.ntmps190
  go_wp2_with (go_at_call 94; refine (isByte_any _ _).mono ?_; rintro e w' ⟨rfl, rfl⟩)
  go_region_with (first | (go_at_call 205; refine (turnOps_any _).mono ?_; rintro e w1 ⟨rfl, hbe⟩) | (go_at_call 204; refine (carryOf_any _ _ f0 f1).mono ?_; rintro e w2 ⟨rfl, rfl⟩) | (go_at_call 227; refine (shiftRight_any _ _ _ v0 v1 c0 c1).mono ?_; rintro e w2 ⟨rfl, rfl⟩))
  all_goals go_wp2_with (go_at_call 189; refine (flagIf_any _ _ _).mono ?_; rintro e w3 ⟨rfl, rfl⟩)
  all_goals go_ret2
  all_goals
    refine ⟨ret_two rfl ?_, below_of_drew hbe⟩
    try rw [beq_dec']
    try rw [beq_dec']
    exact or_trn _ _
theorem implTurned_any (op v f : Int) (w : World) :
    Calls Tryz.prog 190 #[.int .i64 op, .int .i64 v, .int .i64 f] w fun e w' => e = .returned (.tuple #[.int .i64 (trn op v f).1, .int .i64 (trn op v f).2]) ∧ Below w.heap.size w w' := by
  by_cases h : (inB op 0 7 && inB v 0 255 && inB f 0 255) = true
  · have e : trn op v f = trnR op v f := by unfold trn; rw [if_pos h]
    rw [e]
    simp only [Bool.and_eq_true, inB, decide_eq_true_eq] at h
    obtain ⟨⟨⟨o0, o1⟩, v0, v1⟩, f0, f1⟩ := h
    have ho : op = 0 ∨ op = 1 ∨ op = 2 ∨ op = 3 ∨ op = 4 ∨ op = 5 ∨ op = 6 ∨ op = 7 := by omega
    rcases ho with rfl | rfl | rfl | rfl | rfl | rfl | rfl | rfl
    · exact implTurned_0 v f w v0 v1 f0 f1
    · exact implTurned_1 v f w v0 v1 f0 f1
    · exact implTurned_2 v f w v0 v1 f0 f1
    · exact implTurned_3 v f w v0 v1 f0 f1
    · exact implTurned_4 v f w v0 v1 f0 f1
    · exact implTurned_5 v f w v0 v1 f0 f1
    · exact implTurned_6 v f w v0 v1 f0 f1
    · exact implTurned_7 v f w v0 v1 f0 f1
  · have e : trn op v f = (0, 0) := by unfold trn; rw [if_neg h]
    rw [e]
    have h : (inB op 0 7 && inB v 0 255 && inB f 0 255) = false := by simpa using h
    by_cases ho : op < 0
    · go_enter Tryz.func190, Tryz.ntmps190
      go_wp2
      go_ret2
      exact ⟨rfl, Below.refl _ _⟩
    by_cases ho' : 7 < op
    · go_enter Tryz.func190, Tryz.ntmps190
      go_wp2
      go_ret2
      exact ⟨rfl, Below.refl _ _⟩
    have hop : inB op 0 7 = true := decide_eq_true (by omega)
    have h7 : decide (7 < op) = false := decide_eq_false ho'
    rw [hop] at h
    cases hv : inB v 0 255
    · go_enter Tryz.func190, Tryz.ntmps190
      go_wp2_with (go_at_call 94; refine (isByte_any _ _).mono ?_; rintro e w' ⟨rfl, rfl⟩)
      go_ret2
      exact ⟨rfl, Below.refl _ _⟩
    cases hf : inB f 0 255
    · go_enter Tryz.func190, Tryz.ntmps190
      go_wp2_with (go_at_call 94; refine (isByte_any _ _).mono ?_; rintro e w' ⟨rfl, rfl⟩)
      go_ret2
      exact ⟨rfl, Below.refl _ _⟩
    rw [hv, hf] at h
    exact absurd h (by decide)

end Go.Proofs.YtkfehdkjeodbmaaGreatDoor.TurnI
