/-
  Contracts of ours for what ops make of one number or two, on both sides.
-/
import Derived.Test.YtlobkgohenebmaaDoorNames
import Derived.Test.YtlobkgohenebmaaDoorArith
import Derived.Laws.Bits128
import Derived.Laws.BitsLemmas
namespace Go.Proofs.YtlobkgohenebmaaDoor.Reke
open Go.ChangeShapes Go.WideShapes Go.ChangeAt Go.RowKit
set_option linter.unusedVariables false
def In (a : Int) : Prop := -2147483648 ≤ a ∧ a ≤ 2147483647
theorem in_wrap (x : Int) : In (wrap32 x) := by unfold In wrap32; omega
theorem in_bits (op : BinOp) (a b : Int) : In (IntKind.i32.wrap (a)) := by rw [IntKind.wrap_i32]; unfold In; omega
theorem in_and (a b : Int) : In (bits .and .i32 a b) := by
  show In (IntKind.i32.wrap ((BitVec.ofInt 32 a &&& BitVec.ofInt 32 b).toNat : Int))
  rw [IntKind.wrap_i32]; unfold In; omega
theorem in_or (a b : Int) : In (bits .or .i32 a b) := by
  show In (IntKind.i32.wrap ((BitVec.ofInt 32 a ||| BitVec.ofInt 32 b).toNat : Int))
  rw [IntKind.wrap_i32]; unfold In; omega
theorem in_xor (a b : Int) : In (bits .xor .i32 a b) := by
  show In (IntKind.i32.wrap ((BitVec.ofInt 32 a ^^^ BitVec.ofInt 32 b).toNat : Int))
  rw [IntKind.wrap_i32]; unfold In; omega
theorem and31_u (b : Int) : bits .and .u32 (b % 4294967296) 31 = b % 32 := by
  have h31 : (BitVec.ofInt 32 31).toNat = 2 ^ 5 - 1 := by decide
  have key : (BitVec.ofInt 32 (b % 4294967296) &&& BitVec.ofInt 32 31).toNat = ((b % 4294967296) % ((2 ^ 32 : Nat) : Int)).toNat % 2 ^ 5 := by
    rw [BitVec.toNat_and, BitVec.toNat_ofInt, h31, Nat.and_two_pow_sub_one_eq_mod]
  show IntKind.u32.wrap ((BitVec.ofInt 32 (b % 4294967296) &&& BitVec.ofInt 32 31).toNat : Nat) = b % 32
  rw [key, IntKind.wrap_u32]
  omega
theorem and31_i (b : Int) : bits .and .i64 b 31 = b % 32 := by
  have h31 : (BitVec.ofInt 64 31).toNat = 2 ^ 5 - 1 := by decide
  have key : (BitVec.ofInt 64 b &&& BitVec.ofInt 64 31).toNat = (b % ((2 ^ 64 : Nat) : Int)).toNat % 2 ^ 5 := by
    rw [BitVec.toNat_and, BitVec.toNat_ofInt, h31, Nat.and_two_pow_sub_one_eq_mod]
  show IntKind.i64.wrap ((BitVec.ofInt 64 b &&& BitVec.ofInt 64 31).toNat : Nat) = b % 32
  rw [key, IntKind.wrap_i64]
  omega
def f1 (k a : Int) : Int := if k = 4 then wrap32 (-a) else if k = 5 then bits .xor .i32 (-1) a else if k = 6 then bits .and .i32 (a / 256) 255 else bits .and .i32 a 255
def f2 (k a b : Int) : Int := if k = 8 then wrap32 (a + b) else if k = 9 then wrap32 (a - b) else if k = 10 then wrap32 (a * b) else if k = 11 then wrap32 (a.tdiv b) else if k = 12 then a.tmod b else if k = 13 then bits .and .i32 a b else if k = 14 then bits .xor .i32 a b else if k = 15 then bits .or .i32 a b else if k = 16 then wrap32 (a * 2 ^ (b % 32).toNat) else a / 2 ^ (b % 32).toNat
theorem in_f1 (k a : Int) : In (f1 k a) := by
  unfold f1
  split
  · exact in_wrap _
  split
  · exact in_xor _ _
  split
  · exact in_and _ _
  · exact in_and _ _
theorem in_tmod {a b : Int} (ha : In a) : In (a.tmod b) := by
  obtain ⟨h0, h1⟩ := ha
  have hn : (a.tmod b).natAbs ≤ a.natAbs := by rw [Int.natAbs_tmod]; exact Nat.mod_le _ _
  by_cases h : 0 ≤ a
  · have := Int.tmod_nonneg b h
    exact ⟨by omega, by omega⟩
  · have e : a.tmod b = -((-a).tmod b) := by rw [Int.neg_tmod, Int.neg_neg]
    have := Int.tmod_nonneg b (show 0 ≤ -a by omega)
    exact ⟨by omega, by omega⟩
theorem in_div {a : Int} (ha : In a) (n : Nat) : In (a / 2 ^ n) := by
  obtain ⟨h0, h1⟩ := ha
  have hm : (0 : Int) < 2 ^ n := Int.pow_pos (by decide)
  generalize (2 : Int) ^ n = m at hm
  exact ⟨(Int.le_ediv_iff_mul_le hm).2 (by omega), by have := (Int.ediv_lt_iff_lt_mul hm (a := a) (b := 2147483648)).2 (by omega); omega⟩
theorem in_f2 {k a b : Int} (ha : In a) : In (f2 k a b) := by
  unfold f2
  split
  · exact in_wrap _
  split
  · exact in_wrap _
  split
  · exact in_wrap _
  split
  · exact in_wrap _
  split
  · exact in_tmod ha
  split
  · exact in_and _ _
  split
  · exact in_xor _ _
  split
  · exact in_or _ _
  split
  · exact in_wrap _
  · exact in_div ha _
theorem ret_i {k : IntKind} {a b : Int} (h : a = b) : Ending.returned (.int k a) = .returned (.int k b) := by rw [h]
theorem ret_t {k : IntKind} {a b c : Int} (h : a = b) : Ending.returned (.tuple #[.int k a, .int .i64 c]) = .returned (.tuple #[.int k b, .int .i64 c]) := by rw [h]
theorem ret_b {k : IntKind} {a b : Int} {c : Bool} (h : a = b) : Ending.returned (.tuple #[.int k a, .bool c]) = .returned (.tuple #[.int k b, .bool c]) := by rw [h]
theorem one4 (a : Int) (w : World) (ha : In a) : Calls Tryd.prog 43 #[.int .i64 4, .int .i32 a] w fun e w' => e = .returned (.int .i32 (f1 4 a)) ∧ w' = w := by
  obtain ⟨h0, h1⟩ := ha
  go_enter Tryd.func43, Tryd.ntmps43
  go_wp2
  all_goals go_ret
  all_goals exact ⟨ret_i (by unfold f1; simp), rfl⟩
theorem one5 (a : Int) (w : World) (ha : In a) : Calls Tryd.prog 43 #[.int .i64 5, .int .i32 a] w fun e w' => e = .returned (.int .i32 (f1 5 a)) ∧ w' = w := by
  obtain ⟨h0, h1⟩ := ha
  go_enter Tryd.func43, Tryd.ntmps43
  go_wp2
  all_goals go_ret
  all_goals exact ⟨ret_i (by unfold f1; simp), rfl⟩
theorem one6 (a : Int) (w : World) (ha : In a) : Calls Tryd.prog 43 #[.int .i64 6, .int .i32 a] w fun e w' => e = .returned (.int .i32 (f1 6 a)) ∧ w' = w := by
  obtain ⟨h0, h1⟩ := ha
  go_enter Tryd.func43, Tryd.ntmps43
  go_wp2
  all_goals go_ret
  all_goals exact ⟨ret_i (by unfold f1; simp), rfl⟩
theorem one7 (a : Int) (w : World) (ha : In a) : Calls Tryd.prog 43 #[.int .i64 7, .int .i32 a] w fun e w' => e = .returned (.int .i32 (f1 7 a)) ∧ w' = w := by
  obtain ⟨h0, h1⟩ := ha
  go_enter Tryd.func43, Tryd.ntmps43
  go_wp2
  all_goals go_ret
  all_goals exact ⟨ret_i (by unfold f1; simp), rfl⟩
theorem one_any (k a : Int) (w : World) (ha : In a) (k0 : 4 ≤ k) (k1 : k ≤ 7) : Calls Tryd.prog 43 #[.int .i64 k, .int .i32 a] w fun e w' => e = .returned (.int .i32 (f1 k a)) ∧ w' = w := by
  have : k = 4 ∨ k = 5 ∨ k = 6 ∨ k = 7 := by omega
  rcases this with rfl | rfl | rfl | rfl
  · exact one4 a w ha
  · exact one5 a w ha
  · exact one6 a w ha
  · exact one7 a w ha
def zero (k b : Int) : Bool := decide ((k = 11 ∨ k = 12) ∧ b = 0)
/-- What an op of two tells: its number, and how it went. -/
def v2 (k a b : Int) : Int × Int := if zero k b = true then (0, 3) else (f2 k a b, 0)
theorem two8 (a b : Int) (w : World) (ha : In a) (hb : In b) : Calls Tryd.prog 44 #[.int .i64 8, .int .i32 a, .int .i32 b] w fun e w' => e = .returned (.tuple #[.int .i32 (f2 8 a b), .int .i64 0]) ∧ w' = w := by
  obtain ⟨a0, a1⟩ := ha
  obtain ⟨b0, b1⟩ := hb
  go_enter Tryd.func44, Tryd.ntmps44
  go_wp2
  all_goals go_ret2
  all_goals exact ⟨ret_t (by unfold f2; simp), rfl⟩
theorem two9 (a b : Int) (w : World) (ha : In a) (hb : In b) : Calls Tryd.prog 44 #[.int .i64 9, .int .i32 a, .int .i32 b] w fun e w' => e = .returned (.tuple #[.int .i32 (f2 9 a b), .int .i64 0]) ∧ w' = w := by
  obtain ⟨a0, a1⟩ := ha
  obtain ⟨b0, b1⟩ := hb
  go_enter Tryd.func44, Tryd.ntmps44
  go_wp2
  all_goals go_ret2
  all_goals exact ⟨ret_t (by unfold f2; simp), rfl⟩
theorem two10 (a b : Int) (w : World) (ha : In a) (hb : In b) : Calls Tryd.prog 44 #[.int .i64 10, .int .i32 a, .int .i32 b] w fun e w' => e = .returned (.tuple #[.int .i32 (f2 10 a b), .int .i64 0]) ∧ w' = w := by
  obtain ⟨a0, a1⟩ := ha
  obtain ⟨b0, b1⟩ := hb
  go_enter Tryd.func44, Tryd.ntmps44
  go_wp2
  all_goals go_ret2
  all_goals exact ⟨ret_t (by unfold f2; simp), rfl⟩
theorem two13 (a b : Int) (w : World) (ha : In a) (hb : In b) : Calls Tryd.prog 44 #[.int .i64 13, .int .i32 a, .int .i32 b] w fun e w' => e = .returned (.tuple #[.int .i32 (f2 13 a b), .int .i64 0]) ∧ w' = w := by
  obtain ⟨a0, a1⟩ := ha
  obtain ⟨b0, b1⟩ := hb
  go_enter Tryd.func44, Tryd.ntmps44
  go_wp2
  all_goals go_ret2
  all_goals exact ⟨ret_t (by unfold f2; simp), rfl⟩
theorem two14 (a b : Int) (w : World) (ha : In a) (hb : In b) : Calls Tryd.prog 44 #[.int .i64 14, .int .i32 a, .int .i32 b] w fun e w' => e = .returned (.tuple #[.int .i32 (f2 14 a b), .int .i64 0]) ∧ w' = w := by
  obtain ⟨a0, a1⟩ := ha
  obtain ⟨b0, b1⟩ := hb
  go_enter Tryd.func44, Tryd.ntmps44
  go_wp2
  all_goals go_ret2
  all_goals exact ⟨ret_t (by unfold f2; simp), rfl⟩
theorem two15 (a b : Int) (w : World) (ha : In a) (hb : In b) : Calls Tryd.prog 44 #[.int .i64 15, .int .i32 a, .int .i32 b] w fun e w' => e = .returned (.tuple #[.int .i32 (f2 15 a b), .int .i64 0]) ∧ w' = w := by
  obtain ⟨a0, a1⟩ := ha
  obtain ⟨b0, b1⟩ := hb
  go_enter Tryd.func44, Tryd.ntmps44
  go_wp2
  all_goals go_ret2
  all_goals exact ⟨ret_t (by unfold f2; simp), rfl⟩
theorem two16 (a b : Int) (w : World) (ha : In a) (hb : In b) : Calls Tryd.prog 44 #[.int .i64 16, .int .i32 a, .int .i32 b] w fun e w' => e = .returned (.tuple #[.int .i32 (f2 16 a b), .int .i64 0]) ∧ w' = w := by
  obtain ⟨a0, a1⟩ := ha
  obtain ⟨b0, b1⟩ := hb
  have q := and31_u b
  obtain ⟨c, hc⟩ : ∃ c, c = b % 32 := ⟨_, rfl⟩
  have c0 : 0 ≤ c := by omega
  have c1 : c ≤ 31 := by omega
  have HF : Hid (f2 16 a b = wrap32 (a * 2 ^ c.toNat)) := by show _ = _; unfold f2; simp [hc]
  rw [← hc] at q
  clear hc
  go_enter Tryd.func44, Tryd.ntmps44
  go_wp2
  all_goals go_ret2
  all_goals exact ⟨ret_t (by rw [HF.out]), rfl⟩
theorem two17 (a b : Int) (w : World) (ha : In a) (hb : In b) : Calls Tryd.prog 44 #[.int .i64 17, .int .i32 a, .int .i32 b] w fun e w' => e = .returned (.tuple #[.int .i32 (f2 17 a b), .int .i64 0]) ∧ w' = w := by
  obtain ⟨a0, a1⟩ := ha
  obtain ⟨b0, b1⟩ := hb
  have q := and31_u b
  obtain ⟨c, hc⟩ : ∃ c, c = b % 32 := ⟨_, rfl⟩
  have c0 : 0 ≤ c := by omega
  have c1 : c ≤ 31 := by omega
  have HF : Hid (f2 17 a b = a / 2 ^ c.toNat) := by show _ = _; unfold f2; simp [hc]
  rw [← hc] at q
  clear hc
  go_enter Tryd.func44, Tryd.ntmps44
  go_wp2
  all_goals go_ret2
  all_goals exact ⟨ret_t (by rw [HF.out]), rfl⟩
theorem div_zero (k a : Int) (w : World) (hk : k = 11 ∨ k = 12) : Calls Tryd.prog 57 #[.int .i64 k, .int .i32 a, .int .i32 0] w fun e w' => e = .returned (.tuple #[.int .i32 0, .int .i64 3]) ∧ w' = w := by
  go_enter Tryd.func57, Tryd.ntmps57
  go_wp2
  all_goals go_ret2
  all_goals exact ⟨rfl, rfl⟩
theorem div11 (a b : Int) (w : World) (ha : In a) (hb : In b) (h0 : ¬ b = 0) : Calls Tryd.prog 57 #[.int .i64 11, .int .i32 a, .int .i32 b] w fun e w' => e = .returned (.tuple #[.int .i32 (f2 11 a b), .int .i64 0]) ∧ w' = w := by
  obtain ⟨a0, a1⟩ := ha
  obtain ⟨b0, b1⟩ := hb
  go_enter Tryd.func57, Tryd.ntmps57
  go_wp2
  all_goals go_ret2
  all_goals exact ⟨ret_t (by unfold f2; simp), rfl⟩
theorem div12 (a b : Int) (w : World) (ha : In a) (hb : In b) (h0 : ¬ b = 0) : Calls Tryd.prog 57 #[.int .i64 12, .int .i32 a, .int .i32 b] w fun e w' => e = .returned (.tuple #[.int .i32 (f2 12 a b), .int .i64 0]) ∧ w' = w := by
  obtain ⟨a0, a1⟩ := ha
  obtain ⟨b0, b1⟩ := hb
  go_enter Tryd.func57, Tryd.ntmps57
  go_wp2
  all_goals go_ret2
  all_goals exact ⟨ret_t (by unfold f2; simp), rfl⟩
theorem two_div (k a b : Int) (w : World) (ha : In a) (hb : In b) (hk : k = 11 ∨ k = 12) : Calls Tryd.prog 44 #[.int .i64 k, .int .i32 a, .int .i32 b] w fun e w' => e = .returned (.tuple #[.int .i32 (v2 k a b).1, .int .i64 (v2 k a b).2]) ∧ w' = w := by
  have c : ∀ w, Calls Tryd.prog 57 #[.int .i64 k, .int .i32 a, .int .i32 b] w fun e w' => e = .returned (.tuple #[.int .i32 (v2 k a b).1, .int .i64 (v2 k a b).2]) ∧ w' = w := fun w => by
    by_cases h0 : b = 0
    · have e : v2 k a b = (0, 3) := by unfold v2; rw [if_pos (show zero k b = true from decide_eq_true ⟨hk, h0⟩)]
      rw [e, h0]
      exact div_zero k a w hk
    · have e : v2 k a b = (f2 k a b, 0) := by unfold v2; rw [if_neg (by unfold zero; simp [h0])]
      rw [e]
      rcases hk with rfl | rfl
      · exact div11 a b w ha hb h0
      · exact div12 a b w ha hb h0
  generalize (v2 k a b).1 = x at c ⊢
  generalize (v2 k a b).2 = y at c ⊢
  clear ha hb
  rcases hk with rfl | rfl
  all_goals
    go_enter Tryd.func44, Tryd.ntmps44
    go_wp2_with (go_at_call 57; refine (c _).mono ?_; rintro e w' ⟨rfl, hw'⟩; have hw' := hw'.symm; subst hw')
    go_ret2
    exact ⟨rfl, rfl⟩
theorem two_any (k a b : Int) (w : World) (ha : In a) (hb : In b) (k0 : 8 ≤ k) (k1 : k ≤ 17) : Calls Tryd.prog 44 #[.int .i64 k, .int .i32 a, .int .i32 b] w fun e w' => e = .returned (.tuple #[.int .i32 (v2 k a b).1, .int .i64 (v2 k a b).2]) ∧ w' = w := by
  by_cases hk : k = 11 ∨ k = 12
  · exact two_div k a b w ha hb hk
  have e : v2 k a b = (f2 k a b, 0) := by unfold v2; rw [if_neg (by unfold zero; simp [hk])]
  rw [e]
  have : k = 8 ∨ k = 9 ∨ k = 10 ∨ k = 13 ∨ k = 14 ∨ k = 15 ∨ k = 16 ∨ k = 17 := by omega
  rcases this with rfl | rfl | rfl | rfl | rfl | rfl | rfl | rfl
  · exact two8 a b w ha hb
  · exact two9 a b w ha hb
  · exact two10 a b w ha hb
  · exact two13 a b w ha hb
  · exact two14 a b w ha hb
  · exact two15 a b w ha hb
  · exact two16 a b w ha hb
  · exact two17 a b w ha hb
theorem spec8 (a b : Int) (w : World) (ha : In a) (hb : In b) : Calls Tryd.prog 35 #[.int .i64 8, .int .i64 a, .int .i64 b] w fun e w' => e = .returned (.tuple #[.int .i64 (f2 8 a b), .bool true]) ∧ w' = w := by
  go_enter Tryd.func35, Tryd.ntmps35
  go_wp2
  all_goals go_ret2
  all_goals exact ⟨ret_b (by unfold f2; simp [Arith.wrap64_of_wrap32, Arith.wrap32_of_wrap64]), rfl⟩
theorem spec9 (a b : Int) (w : World) (ha : In a) (hb : In b) : Calls Tryd.prog 35 #[.int .i64 9, .int .i64 a, .int .i64 b] w fun e w' => e = .returned (.tuple #[.int .i64 (f2 9 a b), .bool true]) ∧ w' = w := by
  go_enter Tryd.func35, Tryd.ntmps35
  go_wp2
  all_goals go_ret2
  all_goals exact ⟨ret_b (by unfold f2; simp [Arith.wrap64_of_wrap32, Arith.wrap32_of_wrap64]), rfl⟩
theorem spec10 (a b : Int) (w : World) (ha : In a) (hb : In b) : Calls Tryd.prog 35 #[.int .i64 10, .int .i64 a, .int .i64 b] w fun e w' => e = .returned (.tuple #[.int .i64 (f2 10 a b), .bool true]) ∧ w' = w := by
  go_enter Tryd.func35, Tryd.ntmps35
  go_wp2
  all_goals go_ret2
  all_goals exact ⟨ret_b (by unfold f2; simp [Arith.wrap64_of_wrap32, Arith.wrap32_of_wrap64]), rfl⟩
theorem spec11 (a b : Int) (w : World) (ha : In a) (hb : In b) (h0 : ¬ b = 0) : Calls Tryd.prog 35 #[.int .i64 11, .int .i64 a, .int .i64 b] w fun e w' => e = .returned (.tuple #[.int .i64 (f2 11 a b), .bool true]) ∧ w' = w := by
  go_enter Tryd.func35, Tryd.ntmps35
  go_wp2
  all_goals go_ret2
  all_goals exact ⟨ret_b (by unfold f2; simp [Arith.wrap64_of_wrap32, Arith.wrap32_of_wrap64]), rfl⟩
theorem spec12 (a b : Int) (w : World) (ha : In a) (hb : In b) (h0 : ¬ b = 0) : Calls Tryd.prog 35 #[.int .i64 12, .int .i64 a, .int .i64 b] w fun e w' => e = .returned (.tuple #[.int .i64 (f2 12 a b), .bool true]) ∧ w' = w := by
  go_enter Tryd.func35, Tryd.ntmps35
  go_wp2
  all_goals go_ret2
  all_goals exact ⟨ret_b (by unfold f2; simp [Arith.wrap64_of_wrap32]; exact Arith.wrap32_in (in_tmod ha).1 (in_tmod ha).2), rfl⟩
theorem spec13 (a b : Int) (w : World) (ha : In a) (hb : In b) : Calls Tryd.prog 35 #[.int .i64 13, .int .i64 a, .int .i64 b] w fun e w' => e = .returned (.tuple #[.int .i64 (f2 13 a b), .bool true]) ∧ w' = w := by
  go_enter Tryd.func35, Tryd.ntmps35
  go_wp2
  all_goals go_ret2
  all_goals exact ⟨ret_b (by unfold f2; simp; exact Arith.and64 ha.1 ha.2 hb.1 hb.2), rfl⟩
theorem spec14 (a b : Int) (w : World) (ha : In a) (hb : In b) : Calls Tryd.prog 35 #[.int .i64 14, .int .i64 a, .int .i64 b] w fun e w' => e = .returned (.tuple #[.int .i64 (f2 14 a b), .bool true]) ∧ w' = w := by
  go_enter Tryd.func35, Tryd.ntmps35
  go_wp2
  all_goals go_ret2
  all_goals exact ⟨ret_b (by unfold f2; simp; exact Arith.xor64 ha.1 ha.2 hb.1 hb.2), rfl⟩
theorem spec15 (a b : Int) (w : World) (ha : In a) (hb : In b) : Calls Tryd.prog 35 #[.int .i64 15, .int .i64 a, .int .i64 b] w fun e w' => e = .returned (.tuple #[.int .i64 (f2 15 a b), .bool true]) ∧ w' = w := by
  go_enter Tryd.func35, Tryd.ntmps35
  go_wp2
  all_goals go_ret2
  all_goals exact ⟨ret_b (by unfold f2; simp; exact Arith.or64 ha.1 ha.2 hb.1 hb.2), rfl⟩
theorem spec16 (a b : Int) (w : World) (ha : In a) (hb : In b) : Calls Tryd.prog 35 #[.int .i64 16, .int .i64 a, .int .i64 b] w fun e w' => e = .returned (.tuple #[.int .i64 (f2 16 a b), .bool true]) ∧ w' = w := by
  have q := and31_i b
  obtain ⟨c, hc⟩ : ∃ c, c = b % 32 := ⟨_, rfl⟩
  have c0 : 0 ≤ c := by omega
  have c1 : c ≤ 31 := by omega
  have HF : Hid (f2 16 a b = wrap32 (a * 2 ^ c.toNat)) := by show _ = _; unfold f2; simp [hc]
  rw [← hc] at q
  have q2 : IntKind.u64.wrap c = c := by rw [IntKind.wrap_u64]; omega
  have q3 : min c.toNat 64 = c.toNat := by omega
  clear hc
  go_enter Tryd.func35, Tryd.ntmps35
  go_wp2
  all_goals go_ret2
  all_goals exact ⟨ret_b (by rw [HF.out]; simp [Arith.wrap64_of_wrap32, Arith.wrap32_of_wrap64]), rfl⟩
theorem spec17 (a b : Int) (w : World) (ha : In a) (hb : In b) : Calls Tryd.prog 35 #[.int .i64 17, .int .i64 a, .int .i64 b] w fun e w' => e = .returned (.tuple #[.int .i64 (f2 17 a b), .bool true]) ∧ w' = w := by
  have q := and31_i b
  obtain ⟨c, hc⟩ : ∃ c, c = b % 32 := ⟨_, rfl⟩
  have c0 : 0 ≤ c := by omega
  have c1 : c ≤ 31 := by omega
  have HF : Hid (f2 17 a b = a / 2 ^ c.toNat) := by show _ = _; unfold f2; simp [hc]
  rw [← hc] at q
  have q2 : IntKind.u64.wrap c = c := by rw [IntKind.wrap_u64]; omega
  have q3 : min c.toNat 64 = c.toNat := by omega
  clear hc
  go_enter Tryd.func35, Tryd.ntmps35
  go_wp2
  all_goals go_ret2
  all_goals exact ⟨ret_b (by rw [HF.out]), rfl⟩
theorem spec_zero (k a : Int) (w : World) (hk : k = 11 ∨ k = 12) : Calls Tryd.prog 35 #[.int .i64 k, .int .i64 a, .int .i64 0] w fun e w' => e = .returned (.tuple #[.int .i64 0, .bool false]) ∧ w' = w := by
  rcases hk with rfl | rfl
  all_goals
    go_enter Tryd.func35, Tryd.ntmps35
    go_wp2
    go_ret2
    exact ⟨rfl, rfl⟩
theorem l2Two_any (k a b : Int) (w : World) (ha : In a) (hb : In b) (k0 : 8 ≤ k) (k1 : k ≤ 17) : Calls Tryd.prog 35 #[.int .i64 k, .int .i64 a, .int .i64 b] w fun e w' => e = .returned (.tuple #[.int .i64 (v2 k a b).1, .bool (!zero k b)]) ∧ w' = w := by
  by_cases hz : zero k b = true
  · have e : v2 k a b = (0, 3) := by unfold v2; rw [if_pos hz]
    rw [e, hz]
    obtain ⟨hk, rfl⟩ := of_decide_eq_true hz
    exact spec_zero k a w hk
  have hz' : zero k b = false := by simpa using hz
  have e : v2 k a b = (f2 k a b, 0) := by unfold v2; rw [if_neg hz]
  rw [e, hz']
  have hb0 : k = 11 ∨ k = 12 → ¬ b = 0 := fun hk h => hz (decide_eq_true ⟨hk, h⟩)
  have : k = 8 ∨ k = 9 ∨ k = 10 ∨ k = 11 ∨ k = 12 ∨ k = 13 ∨ k = 14 ∨ k = 15 ∨ k = 16 ∨ k = 17 := by omega
  rcases this with rfl | rfl | rfl | rfl | rfl | rfl | rfl | rfl | rfl | rfl
  · exact spec8 a b w ha hb
  · exact spec9 a b w ha hb
  · exact spec10 a b w ha hb
  · exact spec11 a b w ha hb (hb0 (.inl rfl))
  · exact spec12 a b w ha hb (hb0 (.inr rfl))
  · exact spec13 a b w ha hb
  · exact spec14 a b w ha hb
  · exact spec15 a b w ha hb
  · exact spec16 a b w ha hb
  · exact spec17 a b w ha hb
end Go.Proofs.YtlobkgohenebmaaDoor.Reke
