/-
  What Turned tells, and the contract of ours for spec.Turned, at every argument.
-/
import Derived.Test.YtkfehdkjeodbmaaGreatDoorReckM
namespace Go.Proofs.YtkfehdkjeodbmaaGreatDoor.TurnS
open Go.ChangeShapes Go.WideShapes Go.ChangeAt Go.RowKit
open Signed (inB ret_int ret_bool isByte_any l1In_any)
open Reck ReckS ReckM
set_option linter.unusedVariables false

/-- The byte and the bit that goes out. -/
def trnP (op v c : Int) : Int × Int :=
  if op = 0 then (v * 2 % 256 + v / 128, v / 128) else
  if op = 1 then (v / 2 + 128 * (v % 2), v % 2) else
  if op = 2 then (v * 2 % 256 + c, v / 128) else
  if op = 3 then (v / 2 + 128 * c, v % 2) else
  if op = 4 then (v * 2 % 256, v / 128) else
  if op = 5 then (v / 2 + 128 * (v / 128), v % 2) else
  if op = 6 then (v % 16 * 16 + v / 16, 0) else
  (v / 2, v % 2)
def trnR (op v f : Int) : Int × Int := ((trnP op v (cy f)).1, fl (decide ((trnP op v (cy f)).1 = 0)) false false (decide ((trnP op v (cy f)).2 = 1)))
def trn (op v f : Int) : Int × Int := if (inB op 0 7 && inB v 0 255 && inB f 0 255) = true then trnR op v f else (0, 0)
theorem or_trn (z c : Bool) : bits .or .i64 (chz z 128 0) (chz c 16 0) = fl z false false c := by cases z <;> cases c <;> decide
set_option maxHeartbeats 1000000 in
theorem l4Turned_any (op v f : Int) (w : World) (o0 : 0 ≤ op) (o1 : op ≤ 7) (v0 : 0 ≤ v) (v1 : v ≤ 255) (f0 : 0 ≤ f) (f1 : f ≤ 255) :
    Calls Tryz.prog 72 #[.int .i64 op, .int .i64 v, .int .i64 f] w fun e w' => e = .returned (.tuple #[.int .i64 (trnR op v f).1, .int .i64 (trnR op v f).2]) ∧ w' = w := by
  obtain ⟨c0, c1⟩ := cy_bd f
  have ho : op = 0 ∨ op = 1 ∨ op = 2 ∨ op = 3 ∨ op = 4 ∨ op = 5 ∨ op = 6 ∨ op = 7 := by omega
  rcases ho with rfl | rfl | rfl | rfl | rfl | rfl | rfl | rfl
  all_goals
    go_enter Tryz.func72, Tryz.ntmps72
    go_wp2_with (first | (go_at_call 73; refine (l4Flags_any _ _ _ _ _).mono ?_; rintro e w3 ⟨rfl, rfl⟩) | (go_at_call 74; refine (l4Carry_any _ _ f0 f1).mono ?_; rintro e w3 ⟨rfl, rfl⟩))
    go_ret2
    refine ⟨ret_two ?_ (fl_congr ?_ rfl rfl ?_), rfl⟩
  · show _ = v * 2 % 256 + v / 128; omega
  · show _ = decide (v * 2 % 256 + v / 128 = 0); rw [Bool.eq_iff_iff]; simp; try omega
  · show _ = decide (v / 128 = 1); rw [Bool.eq_iff_iff]; simp; try omega
  · show _ = v / 2 + 128 * (v % 2); omega
  · show _ = decide (v / 2 + 128 * (v % 2) = 0); rw [Bool.eq_iff_iff]; simp; try omega
  · show _ = decide (v % 2 = 1); rw [Bool.eq_iff_iff]; simp; try omega
  · show _ = v * 2 % 256 + cy f; omega
  · show _ = decide (v * 2 % 256 + cy f = 0); rw [Bool.eq_iff_iff]; simp; try omega
  · show _ = decide (v / 128 = 1); rw [Bool.eq_iff_iff]; simp; try omega
  · show _ = v / 2 + 128 * cy f; omega
  · show _ = decide (v / 2 + 128 * cy f = 0); rw [Bool.eq_iff_iff]; simp; try omega
  · show _ = decide (v % 2 = 1); rw [Bool.eq_iff_iff]; simp; try omega
  · show _ = v * 2 % 256; omega
  · show _ = decide (v * 2 % 256 = 0); rw [Bool.eq_iff_iff]; simp; try omega
  · show _ = decide (v / 128 = 1); rw [Bool.eq_iff_iff]; simp; try omega
  · show _ = v / 2 + 128 * (v / 128); omega
  · show _ = decide (v / 2 + 128 * (v / 128) = 0); rw [Bool.eq_iff_iff]; simp; try omega
  · show _ = decide (v % 2 = 1); rw [Bool.eq_iff_iff]; simp; try omega
  · show _ = v % 16 * 16 + v / 16; omega
  · show _ = decide (v % 16 * 16 + v / 16 = 0); rw [Bool.eq_iff_iff]; simp; try omega
  · show _ = decide (0 = 1); rw [Bool.eq_iff_iff]; simp; try omega
  · show _ = v / 2; omega
  · show _ = decide (v / 2 = 0); rw [Bool.eq_iff_iff]; simp; try omega
  · show _ = decide (v % 2 = 1); rw [Bool.eq_iff_iff]; simp; try omega
end Go.Proofs.YtkfehdkjeodbmaaGreatDoor.TurnS
