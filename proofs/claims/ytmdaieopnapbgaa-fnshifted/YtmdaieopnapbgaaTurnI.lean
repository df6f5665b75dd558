/-
  The contract of ours for impl.Turned, at every argument.
-/
import Derived.Test.YtmdaieopnapbgaaTurnS
namespace Go.Proofs.Ytmdaieopnapbgaa.TurnI
open Go.ChangeShapes Go.WideShapes Go.ChangeAt Go.RowKit
open Signed (inB ret_int ret_bool isByte_any l1In_any)
open Reck ReckS ReckM TurnS
set_option linter.unusedVariables false

theorem intoRight_any (v b : Int) (w : World) (v0 : 0 ≤ v) (v1 : v ≤ 255) (b0 : 0 ≤ b) (b1 : b ≤ 1) :
    Calls Try.prog 71 #[.int .i64 v, .int .i64 b] w fun e w' => e = .returned (.tuple #[.int .i64 (v * 2 % 256 + b), .int .i64 (v / 128)]) ∧ w' = w := by
  go_enter Try.func71, Try.ntmps71
  go_wp2
  go_ret2
  exact ⟨rfl, rfl⟩
theorem intoLeft_any (v b : Int) (w : World) (v0 : 0 ≤ v) (v1 : v ≤ 255) (b0 : 0 ≤ b) (b1 : b ≤ 1) :
    Calls Try.prog 72 #[.int .i64 v, .int .i64 b] w fun e w' => e = .returned (.tuple #[.int .i64 (v / 2 + 128 * b), .int .i64 (v % 2)]) ∧ w' = w := by
  go_enter Try.func72, Try.ntmps72
  go_wp2
  go_ret2
  exact ⟨rfl, rfl⟩
theorem roundLeft_any (v c : Int) (w : World) (v0 : 0 ≤ v) (v1 : v ≤ 255) (c0 : 0 ≤ c) (c1 : c ≤ 1) :
    Calls Try.prog 62 #[.int .i64 v, .int .i64 c] w fun e w' => e = .returned (.tuple #[.int .i64 (v * 2 % 256 + v / 128), .int .i64 (v / 128)]) ∧ w' = w := by
  go_enter Try.func62, Try.ntmps62
  go_wp2_with (go_at_call 71; refine (intoRight_any _ _ _ v0 v1 (by omega) (by omega)).mono ?_; rintro e w' ⟨rfl, rfl⟩)
  go_ret2
  exact ⟨ret_two (by omega) rfl, rfl⟩
theorem roundRight_any (v c : Int) (w : World) (v0 : 0 ≤ v) (v1 : v ≤ 255) (c0 : 0 ≤ c) (c1 : c ≤ 1) :
    Calls Try.prog 63 #[.int .i64 v, .int .i64 c] w fun e w' => e = .returned (.tuple #[.int .i64 (v / 2 + 128 * (v % 2)), .int .i64 (v % 2)]) ∧ w' = w := by
  go_enter Try.func63, Try.ntmps63
  go_wp2_with (go_at_call 72; refine (intoLeft_any _ _ _ v0 v1 (by omega) (by omega)).mono ?_; rintro e w' ⟨rfl, rfl⟩)
  go_ret2
  exact ⟨ret_two (by omega) rfl, rfl⟩
theorem carryLeft_any (v c : Int) (w : World) (v0 : 0 ≤ v) (v1 : v ≤ 255) (c0 : 0 ≤ c) (c1 : c ≤ 1) :
    Calls Try.prog 64 #[.int .i64 v, .int .i64 c] w fun e w' => e = .returned (.tuple #[.int .i64 (v * 2 % 256 + c), .int .i64 (v / 128)]) ∧ w' = w := by
  go_enter Try.func64, Try.ntmps64
  go_wp2_with (go_at_call 71; refine (intoRight_any _ _ _ v0 v1 (by omega) (by omega)).mono ?_; rintro e w' ⟨rfl, rfl⟩)
  go_ret2
  exact ⟨ret_two (by omega) rfl, rfl⟩
theorem carryRight_any (v c : Int) (w : World) (v0 : 0 ≤ v) (v1 : v ≤ 255) (c0 : 0 ≤ c) (c1 : c ≤ 1) :
    Calls Try.prog 65 #[.int .i64 v, .int .i64 c] w fun e w' => e = .returned (.tuple #[.int .i64 (v / 2 + 128 * c), .int .i64 (v % 2)]) ∧ w' = w := by
  go_enter Try.func65, Try.ntmps65
  go_wp2_with (go_at_call 72; refine (intoLeft_any _ _ _ v0 v1 (by omega) (by omega)).mono ?_; rintro e w' ⟨rfl, rfl⟩)
  go_ret2
  exact ⟨ret_two (by omega) rfl, rfl⟩
theorem shiftLeft_any (v c : Int) (w : World) (v0 : 0 ≤ v) (v1 : v ≤ 255) (c0 : 0 ≤ c) (c1 : c ≤ 1) :
    Calls Try.prog 66 #[.int .i64 v, .int .i64 c] w fun e w' => e = .returned (.tuple #[.int .i64 (v * 2 % 256), .int .i64 (v / 128)]) ∧ w' = w := by
  go_enter Try.func66, Try.ntmps66
  go_wp2_with (go_at_call 71; refine (intoRight_any _ _ _ v0 v1 (by omega) (by omega)).mono ?_; rintro e w' ⟨rfl, rfl⟩)
  go_ret2
  exact ⟨ret_two (by omega) rfl, rfl⟩
theorem shiftSigned_any (v c : Int) (w : World) (v0 : 0 ≤ v) (v1 : v ≤ 255) (c0 : 0 ≤ c) (c1 : c ≤ 1) :
    Calls Try.prog 67 #[.int .i64 v, .int .i64 c] w fun e w' => e = .returned (.tuple #[.int .i64 (v / 2 + 128 * (v / 128)), .int .i64 (v % 2)]) ∧ w' = w := by
  go_enter Try.func67, Try.ntmps67
  go_wp2_with (go_at_call 72; refine (intoLeft_any _ _ _ v0 v1 (by omega) (by omega)).mono ?_; rintro e w' ⟨rfl, rfl⟩)
  go_ret2
  exact ⟨ret_two (by omega) rfl, rfl⟩
theorem swapHalves_any (v c : Int) (w : World) (v0 : 0 ≤ v) (v1 : v ≤ 255) (c0 : 0 ≤ c) (c1 : c ≤ 1) :
    Calls Try.prog 68 #[.int .i64 v, .int .i64 c] w fun e w' => e = .returned (.tuple #[.int .i64 (v % 16 * 16 + v / 16), .int .i64 (0)]) ∧ w' = w := by
  go_enter Try.func68, Try.ntmps68
  go_wp2
  go_ret2
  exact ⟨ret_two (by omega) rfl, rfl⟩
theorem shiftRight_any (v c : Int) (w : World) (v0 : 0 ≤ v) (v1 : v ≤ 255) (c0 : 0 ≤ c) (c1 : c ≤ 1) :
    Calls Try.prog 69 #[.int .i64 v, .int .i64 c] w fun e w' => e = .returned (.tuple #[.int .i64 (v / 2), .int .i64 (v % 2)]) ∧ w' = w := by
  go_enter Try.func69, Try.ntmps69
  go_wp2_with (go_at_call 72; refine (intoLeft_any _ _ _ v0 v1 (by omega) (by omega)).mono ?_; rintro e w' ⟨rfl, rfl⟩)
  go_ret2
  exact ⟨ret_two (by omega) rfl, rfl⟩
theorem turnOps_any (w : World) :
    Calls Try.prog 46 #[] w fun e w' => e = .returned (.agg #[.func (.func 62) #[] #[], .func (.func 63) #[] #[], .func (.func 64) #[] #[], .func (.func 65) #[] #[], .func (.func 66) #[] #[], .func (.func 67) #[] #[], .func (.func 68) #[] #[], .func (.func 69) #[] #[]]) ∧ Below w.heap.size w w' := by
  go_enter Try.func46, Try.ntmps46
  go_wp2
  refine bodyPost_ret (v := .agg #[.func (.func 62) #[] #[], .func (.func 63) #[] #[], .func (.func 64) #[] #[], .func (.func 65) #[] #[], .func (.func 66) #[] #[], .func (.func 67) #[] #[], .func (.func 68) #[] #[], .func (.func 69) #[] #[]]) (by simp [results, Try.results46, go_sem]) rfl ⟨rfl, ?_⟩
  exact (Below.refl _ _).alloc (Nat.le_refl _) _
theorem implTurned_0 (v f : Int) (w : World) (v0 : 0 ≤ v) (v1 : v ≤ 255) (f0 : 0 ≤ f) (f1 : f ≤ 255) :
    Calls Try.prog 19 #[.int .i64 0, .int .i64 v, .int .i64 f] w fun e w' => e = .returned (.tuple #[.int .i64 (trnR 0 v f).1, .int .i64 (trnR 0 v f).2]) ∧ Below w.heap.size w w' := by
  have hv : inB v 0 255 = true := decide_eq_true (by omega)
  have hf : inB f 0 255 = true := decide_eq_true (by omega)
  obtain ⟨c0, c1⟩ := cy_bd f
  have hi : ∀ w : World, (Instr.index 51 (.agg #[.func (.func 62) #[] #[], .func (.func 63) #[] #[], .func (.func 64) #[] #[], .func (.func 65) #[] #[], .func (.func 66) #[] #[], .func (.func 67) #[] #[], .func (.func 68) #[] #[], .func (.func 69) #[] #[]]) (.int .i64 0)).run Try.prog w = .ok (.func (.func 62) #[] #[]) w := fun _ => by kernel_rfl
  go_enter Try.func19, Try.ntmps19
  go_wp2_with (go_at_call 37; refine (isByte_any _ _).mono ?_; rintro e w' ⟨rfl, rfl⟩)
  go_region_with (first | (go_at_call 46; refine (turnOps_any _).mono ?_; rintro e w1 ⟨rfl, hbe⟩) | (go_at_call 39; refine (carryOf_any _ _ f0 f1).mono ?_; rintro e w2 ⟨rfl, rfl⟩) | (go_at_call 62; refine (roundLeft_any _ _ _ v0 v1 c0 c1).mono ?_; rintro e w2 ⟨rfl, rfl⟩))
  all_goals go_wp2_with (go_at_call 40; refine (flagIf_any _ _ _).mono ?_; rintro e w3 ⟨rfl, rfl⟩)
  all_goals go_ret2
  all_goals
    refine ⟨ret_two rfl ?_, below_of_drew hbe⟩
    try rw [beq_dec']
    try rw [beq_dec']
    exact or_trn _ _
theorem implTurned_1 (v f : Int) (w : World) (v0 : 0 ≤ v) (v1 : v ≤ 255) (f0 : 0 ≤ f) (f1 : f ≤ 255) :
    Calls Try.prog 19 #[.int .i64 1, .int .i64 v, .int .i64 f] w fun e w' => e = .returned (.tuple #[.int .i64 (trnR 1 v f).1, .int .i64 (trnR 1 v f).2]) ∧ Below w.heap.size w w' := by
  have hv : inB v 0 255 = true := decide_eq_true (by omega)
  have hf : inB f 0 255 = true := decide_eq_true (by omega)
  obtain ⟨c0, c1⟩ := cy_bd f
  have hi : ∀ w : World, (Instr.index 51 (.agg #[.func (.func 62) #[] #[], .func (.func 63) #[] #[], .func (.func 64) #[] #[], .func (.func 65) #[] #[], .func (.func 66) #[] #[], .func (.func 67) #[] #[], .func (.func 68) #[] #[], .func (.func 69) #[] #[]]) (.int .i64 1)).run Try.prog w = .ok (.func (.func 63) #[] #[]) w := fun _ => by kernel_rfl
  go_enter Try.func19, Try.ntmps19
  go_wp2_with (go_at_call 37; refine (isByte_any _ _).mono ?_; rintro e w' ⟨rfl, rfl⟩)
  go_region_with (first | (go_at_call 46; refine (turnOps_any _).mono ?_; rintro e w1 ⟨rfl, hbe⟩) | (go_at_call 39; refine (carryOf_any _ _ f0 f1).mono ?_; rintro e w2 ⟨rfl, rfl⟩) | (go_at_call 63; refine (roundRight_any _ _ _ v0 v1 c0 c1).mono ?_; rintro e w2 ⟨rfl, rfl⟩))
  all_goals go_wp2_with (go_at_call 40; refine (flagIf_any _ _ _).mono ?_; rintro e w3 ⟨rfl, rfl⟩)
  all_goals go_ret2
  all_goals
    refine ⟨ret_two rfl ?_, below_of_drew hbe⟩
    try rw [beq_dec']
    try rw [beq_dec']
    exact or_trn _ _
theorem implTurned_2 (v f : Int) (w : World) (v0 : 0 ≤ v) (v1 : v ≤ 255) (f0 : 0 ≤ f) (f1 : f ≤ 255) :
    Calls Try.prog 19 #[.int .i64 2, .int .i64 v, .int .i64 f] w fun e w' => e = .returned (.tuple #[.int .i64 (trnR 2 v f).1, .int .i64 (trnR 2 v f).2]) ∧ Below w.heap.size w w' := by
  have hv : inB v 0 255 = true := decide_eq_true (by omega)
  have hf : inB f 0 255 = true := decide_eq_true (by omega)
  obtain ⟨c0, c1⟩ := cy_bd f
  have hi : ∀ w : World, (Instr.index 51 (.agg #[.func (.func 62) #[] #[], .func (.func 63) #[] #[], .func (.func 64) #[] #[], .func (.func 65) #[] #[], .func (.func 66) #[] #[], .func (.func 67) #[] #[], .func (.func 68) #[] #[], .func (.func 69) #[] #[]]) (.int .i64 2)).run Try.prog w = .ok (.func (.func 64) #[] #[]) w := fun _ => by kernel_rfl
  go_enter Try.func19, Try.ntmps19
  go_wp2_with (go_at_call 37; refine (isByte_any _ _).mono ?_; rintro e w' ⟨rfl, rfl⟩)
  go_region_with (first | (go_at_call 46; refine (turnOps_any _).mono ?_; rintro e w1 ⟨rfl, hbe⟩) | (go_at_call 39; refine (carryOf_any _ _ f0 f1).mono ?_; rintro e w2 ⟨rfl, rfl⟩) | (go_at_call 64; refine (carryLeft_any _ _ _ v0 v1 c0 c1).mono ?_; rintro e w2 ⟨rfl, rfl⟩))
  all_goals go_wp2_with (go_at_call 40; refine (flagIf_any _ _ _).mono ?_; rintro e w3 ⟨rfl, rfl⟩)
  all_goals go_ret2
  all_goals
    refine ⟨ret_two rfl ?_, below_of_drew hbe⟩
    try rw [beq_dec']
    try rw [beq_dec']
    exact or_trn _ _
theorem implTurned_3 (v f : Int) (w : World) (v0 : 0 ≤ v) (v1 : v ≤ 255) (f0 : 0 ≤ f) (f1 : f ≤ 255) :
    Calls Try.prog 19 #[.int .i64 3, .int .i64 v, .int .i64 f] w fun e w' => e = .returned (.tuple #[.int .i64 (trnR 3 v f).1, .int .i64 (trnR 3 v f).2]) ∧ Below w.heap.size w w' := by
  have hv : inB v 0 255 = true := decide_eq_true (by omega)
  have hf : inB f 0 255 = true := decide_eq_true (by omega)
  obtain ⟨c0, c1⟩ := cy_bd f
  have hi : ∀ w : World, (Instr.index 51 (.agg #[.func (.func 62) #[] #[], .func (.func 63) #[] #[], .func (.func 64) #[] #[], .func (.func 65) #[] #[], .func (.func 66) #[] #[], .func (.func 67) #[] #[], .func (.func 68) #[] #[], .func (.func 69) #[] #[]]) (.int .i64 3)).run Try.prog w = .ok (.func (.func 65) #[] #[]) w := fun _ => by kernel_rfl
  go_enter Try.func19, Try.ntmps19
  go_wp2_with (go_at_call 37; refine (isByte_any _ _).mono ?_; rintro e w' ⟨rfl, rfl⟩)
  go_region_with (first | (go_at_call 46; refine (turnOps_any _).mono ?_; rintro e w1 ⟨rfl, hbe⟩) | (go_at_call 39; refine (carryOf_any _ _ f0 f1).mono ?_; rintro e w2 ⟨rfl, rfl⟩) | (go_at_call 65; refine (carryRight_any _ _ _ v0 v1 c0 c1).mono ?_; rintro e w2 ⟨rfl, rfl⟩))
  all_goals go_wp2_with (go_at_call 40; refine (flagIf_any _ _ _).mono ?_; rintro e w3 ⟨rfl, rfl⟩)
  all_goals go_ret2
  all_goals
    refine ⟨ret_two rfl ?_, below_of_drew hbe⟩
    try rw [beq_dec']
    try rw [beq_dec']
    exact or_trn _ _
theorem implTurned_4 (v f : Int) (w : World) (v0 : 0 ≤ v) (v1 : v ≤ 255) (f0 : 0 ≤ f) (f1 : f ≤ 255) :
    Calls Try.prog 19 #[.int .i64 4, .int .i64 v, .int .i64 f] w fun e w' => e = .returned (.tuple #[.int .i64 (trnR 4 v f).1, .int .i64 (trnR 4 v f).2]) ∧ Below w.heap.size w w' := by
  have hv : inB v 0 255 = true := decide_eq_true (by omega)
  have hf : inB f 0 255 = true := decide_eq_true (by omega)
  obtain ⟨c0, c1⟩ := cy_bd f
  have hi : ∀ w : World, (Instr.index 51 (.agg #[.func (.func 62) #[] #[], .func (.func 63) #[] #[], .func (.func 64) #[] #[], .func (.func 65) #[] #[], .func (.func 66) #[] #[], .func (.func 67) #[] #[], .func (.func 68) #[] #[], .func (.func 69) #[] #[]]) (.int .i64 4)).run Try.prog w = .ok (.func (.func 66) #[] #[]) w := fun _ => by kernel_rfl
  go_enter Try.func19, Try.ntmps19
  go_wp2_with (go_at_call 37; refine (isByte_any _ _).mono ?_; rintro e w' ⟨rfl, rfl⟩)
  go_region_with (first | (go_at_call 46; refine (turnOps_any _).mono ?_; rintro e w1 ⟨rfl, hbe⟩) | (go_at_call 39; refine (carryOf_any _ _ f0 f1).mono ?_; rintro e w2 ⟨rfl, rfl⟩) | (go_at_call 66; refine (shiftLeft_any _ _ _ v0 v1 c0 c1).mono ?_; rintro e w2 ⟨rfl, rfl⟩))
  all_goals go_wp2_with (go_at_call 40; refine (flagIf_any _ _ _).mono ?_; rintro e w3 ⟨rfl, rfl⟩)
  all_goals go_ret2
  all_goals
    refine ⟨ret_two rfl ?_, below_of_drew hbe⟩
    try rw [beq_dec']
    try rw [beq_dec']
    exact or_trn _ _
theorem implTurned_5 (v f : Int) (w : World) (v0 : 0 ≤ v) (v1 : v ≤ 255) (f0 : 0 ≤ f) (f1 : f ≤ 255) :
    Calls Try.prog 19 #[.int .i64 5, .int .i64 v, .int .i64 f] w fun e w' => e = .returned (.tuple #[.int .i64 (trnR 5 v f).1, .int .i64 (trnR 5 v f).2]) ∧ Below w.heap.size w w' := by
  have hv : inB v 0 255 = true := decide_eq_true (by omega)
  have hf : inB f 0 255 = true := decide_eq_true (by omega)
  obtain ⟨c0, c1⟩ := cy_bd f
  have hi : ∀ w : World, (Instr.index 51 (.agg #[.func (.func 62) #[] #[], .func (.func 63) #[] #[], .func (.func 64) #[] #[], .func (.func 65) #[] #[], .func (.func 66) #[] #[], .func (.func 67) #[] #[], .func (.func 68) #[] #[], .func (.func 69) #[] #[]]) (.int .i64 5)).run Try.prog w = .ok (.func (.func 67) #[] #[]) w := fun _ => by kernel_rfl
  go_enter Try.func19, Try.ntmps19
  go_wp2_with (go_at_call 37; refine (isByte_any _ _).mono ?_; rintro e w' ⟨rfl, rfl⟩)
  go_region_with (first | (go_at_call 46; refine (turnOps_any _).mono ?_; rintro e w1 ⟨rfl, hbe⟩) | (go_at_call 39; refine (carryOf_any _ _ f0 f1).mono ?_; rintro e w2 ⟨rfl, rfl⟩) | (go_at_call 67; refine (shiftSigned_any _ _ _ v0 v1 c0 c1).mono ?_; rintro e w2 ⟨rfl, rfl⟩))
  all_goals go_wp2_with (go_at_call 40; refine (flagIf_any _ _ _).mono ?_; rintro e w3 ⟨rfl, rfl⟩)
  all_goals go_ret2
  all_goals
    refine ⟨ret_two rfl ?_, below_of_drew hbe⟩
    try rw [beq_dec']
    try rw [beq_dec']
    exact or_trn _ _
theorem implTurned_6 (v f : Int) (w : World) (v0 : 0 ≤ v) (v1 : v ≤ 255) (f0 : 0 ≤ f) (f1 : f ≤ 255) :
    Calls Try.prog 19 #[.int .i64 6, .int .i64 v, .int .i64 f] w fun e w' => e = .returned (.tuple #[.int .i64 (trnR 6 v f).1, .int .i64 (trnR 6 v f).2]) ∧ Below w.heap.size w w' := by
  have hv : inB v 0 255 = true := decide_eq_true (by omega)
  have hf : inB f 0 255 = true := decide_eq_true (by omega)
  obtain ⟨c0, c1⟩ := cy_bd f
  have hi : ∀ w : World, (Instr.index 51 (.agg #[.func (.func 62) #[] #[], .func (.func 63) #[] #[], .func (.func 64) #[] #[], .func (.func 65) #[] #[], .func (.func 66) #[] #[], .func (.func 67) #[] #[], .func (.func 68) #[] #[], .func (.func 69) #[] #[]]) (.int .i64 6)).run Try.prog w = .ok (.func (.func 68) #[] #[]) w := fun _ => by kernel_rfl
  go_enter Try.func19, Try.ntmps19
  go_wp2_with (go_at_call 37; refine (isByte_any _ _).mono ?_; rintro e w' ⟨rfl, rfl⟩)
  go_region_with (first | (go_at_call 46; refine (turnOps_any _).mono ?_; rintro e w1 ⟨rfl, hbe⟩) | (go_at_call 39; refine (carryOf_any _ _ f0 f1).mono ?_; rintro e w2 ⟨rfl, rfl⟩) | (go_at_call 68; refine (swapHalves_any _ _ _ v0 v1 c0 c1).mono ?_; rintro e w2 ⟨rfl, rfl⟩))
  all_goals go_wp2_with (go_at_call 40; refine (flagIf_any _ _ _).mono ?_; rintro e w3 ⟨rfl, rfl⟩)
  all_goals go_ret2
  all_goals
    refine ⟨ret_two rfl ?_, below_of_drew hbe⟩
    try rw [beq_dec']
    try rw [beq_dec']
    exact or_trn _ _
theorem implTurned_7 (v f : Int) (w : World) (v0 : 0 ≤ v) (v1 : v ≤ 255) (f0 : 0 ≤ f) (f1 : f ≤ 255) :
    Calls Try.prog 19 #[.int .i64 7, .int .i64 v, .int .i64 f] w fun e w' => e = .returned (.tuple #[.int .i64 (trnR 7 v f).1, .int .i64 (trnR 7 v f).2]) ∧ Below w.heap.size w w' := by
  have hv : inB v 0 255 = true := decide_eq_true (by omega)
  have hf : inB f 0 255 = true := decide_eq_true (by omega)
  obtain ⟨c0, c1⟩ := cy_bd f
  have hi : ∀ w : World, (Instr.index 51 (.agg #[.func (.func 62) #[] #[], .func (.func 63) #[] #[], .func (.func 64) #[] #[], .func (.func 65) #[] #[], .func (.func 66) #[] #[], .func (.func 67) #[] #[], .func (.func 68) #[] #[], .func (.func 69) #[] #[]]) (.int .i64 7)).run Try.prog w = .ok (.func (.func 69) #[] #[]) w := fun _ => by kernel_rfl
  go_enter Try.func19, Try.ntmps19
  go_wp2_with (go_at_call 37; refine (isByte_any _ _).mono ?_; rintro e w' ⟨rfl, rfl⟩)
  go_region_with (first | (go_at_call 46; refine (turnOps_any _).mono ?_; rintro e w1 ⟨rfl, hbe⟩) | (go_at_call 39; refine (carryOf_any _ _ f0 f1).mono ?_; rintro e w2 ⟨rfl, rfl⟩) | (go_at_call 69; refine (shiftRight_any _ _ _ v0 v1 c0 c1).mono ?_; rintro e w2 ⟨rfl, rfl⟩))
  all_goals go_wp2_with (go_at_call 40; refine (flagIf_any _ _ _).mono ?_; rintro e w3 ⟨rfl, rfl⟩)
  all_goals go_ret2
  all_goals
    refine ⟨ret_two rfl ?_, below_of_drew hbe⟩
    try rw [beq_dec']
    try rw [beq_dec']
    exact or_trn _ _
theorem implTurned_any (op v f : Int) (w : World) :
    Calls Try.prog 19 #[.int .i64 op, .int .i64 v, .int .i64 f] w fun e w' => e = .returned (.tuple #[.int .i64 (trn op v f).1, .int .i64 (trn op v f).2]) ∧ Below w.heap.size w w' := by
  by_cases h : (inB op 0 7 && inB v 0 255 && inB f 0 255) = true
  · have e : trn op v f = trnR op v f := by unfold trn; rw [if_pos h]
    rw [e]
    simp only [Bool.and_eq_true, inB, decide_eq_true_eq] at h
    obtain ⟨⟨⟨o0, o1⟩, v0, v1⟩, f0, f1⟩ := h
    have ho : op = 0 ∨ op = 1 ∨ op = 2 ∨ op = 3 ∨ op = 4 ∨ op = 5 ∨ op = 6 ∨ op = 7 := by omega
    rcases ho with rfl | rfl | rfl | rfl | rfl | rfl | rfl | rfl
    · exact implTurned_0 v f w v0 v1 f0 f1
    · exact implTurned_1 v f w v0 v1 f0 f1
    · exact implTurned_2 v f w v0 v1 f0 f1
    · exact implTurned_3 v f w v0 v1 f0 f1
    · exact implTurned_4 v f w v0 v1 f0 f1
    · exact implTurned_5 v f w v0 v1 f0 f1
    · exact implTurned_6 v f w v0 v1 f0 f1
    · exact implTurned_7 v f w v0 v1 f0 f1
  · have e : trn op v f = (0, 0) := by unfold trn; rw [if_neg h]
    rw [e]
    have h : (inB op 0 7 && inB v 0 255 && inB f 0 255) = false := by simpa using h
    by_cases ho : op < 0
    · go_enter Try.func19, Try.ntmps19
      go_wp2
      go_ret2
      exact ⟨rfl, Below.refl _ _⟩
    by_cases ho' : 7 < op
    · go_enter Try.func19, Try.ntmps19
      go_wp2
      go_ret2
      exact ⟨rfl, Below.refl _ _⟩
    have hop : inB op 0 7 = true := decide_eq_true (by omega)
    have h7 : decide (7 < op) = false := decide_eq_false ho'
    rw [hop] at h
    cases hv : inB v 0 255
    · go_enter Try.func19, Try.ntmps19
      go_wp2_with (go_at_call 37; refine (isByte_any _ _).mono ?_; rintro e w' ⟨rfl, rfl⟩)
      go_ret2
      exact ⟨rfl, Below.refl _ _⟩
    cases hf : inB f 0 255
    · go_enter Try.func19, Try.ntmps19
      go_wp2_with (go_at_call 37; refine (isByte_any _ _).mono ?_; rintro e w' ⟨rfl, rfl⟩)
      go_ret2
      exact ⟨rfl, Below.refl _ _⟩
    rw [hv, hf] at h
    exact absurd h (by decide)

end Go.Proofs.Ytmdaieopnapbgaa.TurnI
