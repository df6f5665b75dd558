/-
  Contracts of ours for the specification's reckoning: Alu, Stepped8, Turned, Daa, AddWords, AddSigned, each at every argument.
-/
import Derived.Test.YtkfehdkjeodbmaaGreatDoorReck
namespace Go.Proofs.YtkfehdkjeodbmaaGreatDoor.ReckS
open Go.ChangeShapes Go.WideShapes Go.ChangeAt Go.RowKit
open Signed (inB ret_int ret_bool isByte_any l1In_any sgn specSigned_any)
open Reck

theorem fl_zd (z n h c : Bool) : fl z n h c = fl false n h c + 128 * one z := by cases z <;> cases n <;> cases h <;> cases c <;> decide
theorem fl_eq {z z' n n' h h' c c' : Bool} (e0 : z = z') (e1 : n = n') (e2 : h = h') (e3 : c = c') : fl z n h c = fl false n' h' c' + 128 * one z' := by subst e0 e1 e2 e3; exact fl_zd _ _ _ _
theorem fl_congr {z z' n n' h h' c c' : Bool} (e0 : z = z') (e1 : n = n') (e2 : h = h') (e3 : c = c') : fl z n h c = fl z' n' h' c' := by subst e0 e1 e2 e3; rfl
theorem zd_fl' (x : Int) (n h c : Bool) : zd (x, fl false n h c) = (x, fl (decide (x = 0)) n h c) := by unfold zd; rw [fl_zd (decide (x = 0))]
theorem aluR_0 (a b f : Int) : aluR 0 a b f = ((a + b) % 256, fl (decide ((a + b) % 256 = 0)) false (decide (15 < a % 16 + b % 16)) (decide (255 < a + b))) := by
  show zd (addR a b 0) = _; unfold addR; rw [zd_fl', Int.add_zero, Int.add_zero]
theorem aluR_1 (a b f : Int) : aluR 1 a b f = ((a + b + cy f) % 256, fl (decide ((a + b + cy f) % 256 = 0)) false (decide (15 < a % 16 + b % 16 + cy f)) (decide (255 < a + b + cy f))) := by
  show zd (addR a b (cy f)) = _; unfold addR; rw [zd_fl']
theorem aluR_2 (a b f : Int) : aluR 2 a b f = ((a - b) % 256, fl (decide ((a - b) % 256 = 0)) true (decide (a % 16 < b % 16)) (decide (a - b < 0))) := by
  show zd (subR a b 0) = _; unfold subR; rw [zd_fl', Int.add_zero, Int.sub_zero]
theorem aluR_3 (a b f : Int) : aluR 3 a b f = ((a - b - cy f) % 256, fl (decide ((a - b - cy f) % 256 = 0)) true (decide (a % 16 < b % 16 + cy f)) (decide (a - b - cy f < 0))) := by
  show zd (subR a b (cy f)) = _; unfold subR; rw [zd_fl']
theorem aluR_4 (a b f : Int) : aluR 4 a b f = (bits .and .i64 a b, fl (decide (bits .and .i64 a b = 0)) false true false) := zd_fl' _ false true false
theorem aluR_5 (a b f : Int) : aluR 5 a b f = (bits .xor .i64 a b, fl (decide (bits .xor .i64 a b = 0)) false false false) := zd_fl' _ false false false
theorem aluR_6 (a b f : Int) : aluR 6 a b f = (bits .or .i64 a b, fl (decide (bits .or .i64 a b = 0)) false false false) := zd_fl' _ false false false
theorem aluR_7 (a b f : Int) : aluR 7 a b f = (a, (aluR 2 a b f).2) := rfl
theorem bits_xor {a b : Int} (a0 : 0 ≤ a) (a1 : a ≤ 255) (b0 : 0 ≤ b) (b1 : b ≤ 255) : bits .xor .i64 a b = ((a.toNat ^^^ b.toNat : Nat) : Int) := by
  obtain ⟨m, rfl⟩ := Int.eq_ofNat_of_zero_le a0
  obtain ⟨n, rfl⟩ := Int.eq_ofNat_of_zero_le b0
  show IntKind.i64.wrap ((BitVec.ofInt 64 (m : Int) ^^^ BitVec.ofInt 64 (n : Int)).toNat : Int) = _
  have hx : m ^^^ n < 2 ^ 8 := Nat.xor_lt_two_pow (by omega) (by omega)
  rw [BitVec.toNat_xor, BitVec.ofInt_natCast, BitVec.ofInt_natCast, BitVec.toNat_ofNat, BitVec.toNat_ofNat, Nat.mod_eq_of_lt (by omega), Nat.mod_eq_of_lt (by omega), IntKind.wrap_i64]
  simp only [Int.toNat_natCast]
  omega
theorem bits_and {a b : Int} (a0 : 0 ≤ a) (a1 : a ≤ 255) (b0 : 0 ≤ b) (b1 : b ≤ 255) : bits .and .i64 a b = ((a.toNat &&& b.toNat : Nat) : Int) := by
  obtain ⟨m, rfl⟩ := Int.eq_ofNat_of_zero_le a0
  obtain ⟨n, rfl⟩ := Int.eq_ofNat_of_zero_le b0
  show IntKind.i64.wrap ((BitVec.ofInt 64 (m : Int) &&& BitVec.ofInt 64 (n : Int)).toNat : Int) = _
  have hx : m &&& n < 2 ^ 8 := Nat.and_lt_two_pow m (by omega)
  rw [BitVec.toNat_and, BitVec.ofInt_natCast, BitVec.ofInt_natCast, BitVec.toNat_ofNat, BitVec.toNat_ofNat, Nat.mod_eq_of_lt (by omega), Nat.mod_eq_of_lt (by omega), IntKind.wrap_i64]
  simp only [Int.toNat_natCast]
  omega
theorem bits_or {a b : Int} (a0 : 0 ≤ a) (a1 : a ≤ 255) (b0 : 0 ≤ b) (b1 : b ≤ 255) : bits .or .i64 a b = ((a.toNat ||| b.toNat : Nat) : Int) := by
  obtain ⟨m, rfl⟩ := Int.eq_ofNat_of_zero_le a0
  obtain ⟨n, rfl⟩ := Int.eq_ofNat_of_zero_le b0
  show IntKind.i64.wrap ((BitVec.ofInt 64 (m : Int) ||| BitVec.ofInt 64 (n : Int)).toNat : Int) = _
  have hx : m ||| n < 2 ^ 8 := Nat.or_lt_two_pow (by omega) (by omega)
  rw [BitVec.toNat_or, BitVec.ofInt_natCast, BitVec.ofInt_natCast, BitVec.toNat_ofNat, BitVec.toNat_ofNat, Nat.mod_eq_of_lt (by omega), Nat.mod_eq_of_lt (by omega), IntKind.wrap_i64]
  simp only [Int.toNat_natCast]
  omega
theorem xor_zero {a b : Int} (a0 : 0 ≤ a) (a1 : a ≤ 255) (b0 : 0 ≤ b) (b1 : b ≤ 255) : (a == b) = decide (bits .xor .i64 a b = 0) := by
  rw [bits_xor a0 a1 b0 b1, Bool.eq_iff_iff]
  simp
  have : a.toNat = b.toNat ↔ a = b := by omega
  rw [← this]
  constructor
  · intro h; rw [h, Nat.xor_self]
  · intro h
    have := congrArg (· ^^^ b.toNat) h
    simpa [Nat.xor_assoc] using this
set_option maxHeartbeats 1000000 in
theorem l4Alu_any (op a b f : Int) (w : World) (o0 : 0 ≤ op) (o1 : op ≤ 7) (a0 : 0 ≤ a) (a1 : a ≤ 255) (b0 : 0 ≤ b) (b1 : b ≤ 255) (f0 : 0 ≤ f) (f1 : f ≤ 255) :
    Calls Tryz.prog 52 #[.int .i64 op, .int .i64 a, .int .i64 b, .int .i64 f] w fun e w' => e = .returned (.tuple #[.int .i64 (aluR op a b f).1, .int .i64 (aluR op a b f).2]) ∧ w' = w := by
  obtain ⟨c0, c1⟩ := cy_bd f
  have hx := xor_zero a0 a1 b0 b1
  have HX : Hid ((a == b) = decide (bits .xor .i64 a b = 0)) := hx
  clear hx
  have ho : op = 0 ∨ op = 1 ∨ op = 2 ∨ op = 3 ∨ op = 4 ∨ op = 5 ∨ op = 6 ∨ op = 7 := by omega
  rcases ho with rfl | rfl | rfl | rfl | rfl | rfl | rfl | rfl
  all_goals
    go_enter Tryz.func52, Tryz.ntmps52
    go_wp2_with (first | (go_at_call 73; refine (l4Flags_any _ _ _ _ _).mono ?_; rintro e w3 ⟨rfl, rfl⟩) | (go_at_call 74; refine (l4Carry_any _ _ f0 f1).mono ?_; rintro e w3 ⟨rfl, rfl⟩))
    go_ret2
  all_goals first | rw [aluR_0] | rw [aluR_1] | rw [aluR_2] | rw [aluR_3] | rw [aluR_4] | rw [aluR_5] | rw [aluR_6] | rw [aluR_7, aluR_2]
  all_goals refine ⟨ret_two ?_ (fl_congr ?_ ?_ ?_ ?_), rfl⟩
  all_goals first
    | rfl
    | omega
    | exact HX.out
    | exact beq_dec _
    | (rw [Bool.eq_iff_iff]; simp; done)
    | (rw [Bool.eq_iff_iff]; simp; omega)
end Go.Proofs.YtkfehdkjeodbmaaGreatDoor.ReckS
