/-
  Plain facts of ours on numbers of 32 and of 64 bits with a sign, in the walk's own forms.
-/
import Derived.WalkKit
import Derived.OpenShut
import Derived.ProofKit
namespace Go.Proofs.YtlobkgohenebmaaDoor.Arith
open Go.ChangeShapes Go.WideShapes Go.ChangeAt Go.RowKit

theorem wrap32_of_wrap64 (x : Int) : wrap32 (wrap64 x) = wrap32 x := by unfold wrap32 wrap64; omega
theorem wrap64_of_wrap32 (x : Int) : wrap64 (wrap32 x) = wrap32 x := by unfold wrap32 wrap64; omega
theorem wrap32_in {x : Int} (h0 : -2147483648 ≤ x) (h1 : x ≤ 2147483647) : wrap32 x = x := by unfold wrap32; omega

theorem toInt32 {a : Int} (h0 : -2147483648 ≤ a) (h1 : a ≤ 2147483647) : (BitVec.ofInt 32 a).toInt = a := by
  rw [BitVec.toInt_ofInt]; rw [Int.bmod_def]; simp; omega
theorem ext {a : Int} (h0 : -2147483648 ≤ a) (h1 : a ≤ 2147483647) : (BitVec.ofInt 32 a).signExtend 64 = BitVec.ofInt 64 a := by
  unfold BitVec.signExtend; rw [toInt32 h0 h1]
theorem wrapInt32 (x : BitVec 32) : IntKind.i32.wrap (x.toNat : Int) = x.toInt := by
  rw [IntKind.wrap_i32, BitVec.toInt_eq_toNat_cond]; have := x.isLt; split <;> omega
theorem wrapInt64 (x : BitVec 64) : IntKind.i64.wrap (x.toNat : Int) = x.toInt := by
  rw [IntKind.wrap_i64, BitVec.toInt_eq_toNat_cond]; have := x.isLt; split <;> omega

theorem and64 {a b : Int} (h0 : -2147483648 ≤ a) (h1 : a ≤ 2147483647) (k0 : -2147483648 ≤ b) (k1 : b ≤ 2147483647) : bits .and .i64 a b = bits .and .i32 a b := by
  show IntKind.i64.wrap ((BitVec.ofInt 64 a &&& BitVec.ofInt 64 b).toNat : Int) = IntKind.i32.wrap ((BitVec.ofInt 32 a &&& BitVec.ofInt 32 b).toNat : Int)
  rw [wrapInt32, wrapInt64, ← ext h0 h1, ← ext k0 k1, ← BitVec.signExtend_and, BitVec.toInt_signExtend_of_le (by decide)]
theorem or64 {a b : Int} (h0 : -2147483648 ≤ a) (h1 : a ≤ 2147483647) (k0 : -2147483648 ≤ b) (k1 : b ≤ 2147483647) : bits .or .i64 a b = bits .or .i32 a b := by
  show IntKind.i64.wrap ((BitVec.ofInt 64 a ||| BitVec.ofInt 64 b).toNat : Int) = IntKind.i32.wrap ((BitVec.ofInt 32 a ||| BitVec.ofInt 32 b).toNat : Int)
  rw [wrapInt32, wrapInt64, ← ext h0 h1, ← ext k0 k1, ← BitVec.signExtend_or, BitVec.toInt_signExtend_of_le (by decide)]
theorem xor64 {a b : Int} (h0 : -2147483648 ≤ a) (h1 : a ≤ 2147483647) (k0 : -2147483648 ≤ b) (k1 : b ≤ 2147483647) : bits .xor .i64 a b = bits .xor .i32 a b := by
  show IntKind.i64.wrap ((BitVec.ofInt 64 a ^^^ BitVec.ofInt 64 b).toNat : Int) = IntKind.i32.wrap ((BitVec.ofInt 32 a ^^^ BitVec.ofInt 32 b).toNat : Int)
  rw [wrapInt32, wrapInt64, ← ext h0 h1, ← ext k0 k1, ← BitVec.signExtend_xor, BitVec.toInt_signExtend_of_le (by decide)]

end Go.Proofs.YtlobkgohenebmaaDoor.Arith
