/-
  Plain facts of ours on what chapter 4 tells, for the laws over drawn bytes.
-/
import Derived.Test.YtmdaieopnapbgaaAluI
import Derived.Test.YtmdaieopnapbgaaReckS
import Derived.Test.YtmdaieopnapbgaaDrawR
import Derived.Test.YtmdaieopnapbgaaNats
namespace Go.Proofs.Ytmdaieopnapbgaa.Alus
open Go.ChangeShapes Go.WideShapes Go.ChangeAt Go.RowKit
open Signed (inB)
open Reck ReckS Nats

theorem alu_in {op a b f : Int} (o0 : 0 ≤ op) (o1 : op ≤ 7) (a0 : 0 ≤ a) (a1 : a ≤ 255) (b0 : 0 ≤ b) (b1 : b ≤ 255) (f0 : 0 ≤ f) (f1 : f ≤ 255) : alu op a b f = aluR op a b f := by
  unfold alu
  rw [show inB op 0 7 = true from decide_eq_true ⟨o0, o1⟩, show inB a 0 255 = true from decide_eq_true ⟨a0, a1⟩, show inB b 0 255 = true from decide_eq_true ⟨b0, b1⟩, show inB f 0 255 = true from decide_eq_true ⟨f0, f1⟩]
  rfl
theorem one_dec (p : Prop) [Decidable p] : (p ∧ one (decide p) = 1) ∨ (¬ p ∧ one (decide p) = 0) := by
  by_cases h : p
  · exact .inl ⟨h, by rw [decide_eq_true h]; rfl⟩
  · exact .inr ⟨h, by rw [decide_eq_false h]; rfl⟩
theorem fl_facts (z n h c : Bool) : 0 ≤ fl z n h c ∧ fl z n h c ≤ 255 ∧ fl z n h c / 16 % 2 = one c ∧ fl z n h c / 32 % 2 = one h ∧ fl z n h c / 64 % 2 = one n ∧ decide (128 ≤ fl z n h c) = z ∧ fl z n h c % 128 = fl false n h c ∧ fl z n h c / 16 * 16 = fl z n h c := by cases z <;> cases n <;> cases h <;> cases c <;> decide
/-- A sum: what it is, its carry, its flags. -/
theorem add_facts {op a b f : Int} (ho : op = 0 ∨ op = 1) (a0 : 0 ≤ a) (a1 : a ≤ 255) (b0 : 0 ≤ b) (b1 : b ≤ 255) (f0 : 0 ≤ f) (f1 : f ≤ 255) :
    0 ≤ (alu op a b f).1 ∧ (alu op a b f).1 ≤ 255 ∧ 0 ≤ (alu op a b f).2 ∧ (alu op a b f).2 ≤ 255 ∧ (alu op a b f).1 + 256 * ((alu op a b f).2 / 16 % 2) = a + b + (if op = 1 then cy f else 0) ∧ decide (128 ≤ (alu op a b f).2) = ((alu op a b f).1 == 0) ∧ (alu op a b f).2 / 64 % 2 = 0 := by
  obtain ⟨c0, c1⟩ := cy_bd f
  rw [alu_in (by omega) (by omega) a0 a1 b0 b1 f0 f1]
  rcases ho with rfl | rfl
  · rw [aluR_0]
    obtain ⟨p0, p1, p2, p3, p4, p5, -⟩ := fl_facts (decide ((a + b) % 256 = 0)) false (decide (15 < a % 16 + b % 16)) (decide (255 < a + b))
    refine ⟨by simp only []; omega, by simp only []; omega, p0, p1, ?_, p5.trans (beq_dec _).symm, p4⟩
    simp only [p2]
    have := one_dec (255 < a + b)
    rw [if_neg (by decide)]
    omega
  · rw [aluR_1]
    obtain ⟨p0, p1, p2, p3, p4, p5, -⟩ := fl_facts (decide ((a + b + cy f) % 256 = 0)) false (decide (15 < a % 16 + b % 16 + cy f)) (decide (255 < a + b + cy f))
    refine ⟨by simp only []; omega, by simp only []; omega, p0, p1, ?_, p5.trans (beq_dec _).symm, p4⟩
    simp only [p2]
    have := one_dec (255 < a + b + cy f)
    rw [if_pos trivial]
    omega
/-- A difference, put back, compared, and with no carry. -/
theorem sub_facts {a b f : Int} (a0 : 0 ≤ a) (a1 : a ≤ 255) (b0 : 0 ≤ b) (b1 : b ≤ 255) (f0 : 0 ≤ f) (f1 : f ≤ 255) :
    0 ≤ (alu 2 a b f).1 ∧ (alu 2 a b f).1 ≤ 255 ∧ 0 ≤ (alu 2 a b f).2 ∧ (alu 2 a b f).2 ≤ 255 ∧ (alu 0 (alu 2 a b f).1 b f).1 = a ∧ 0 ≤ (alu 0 (alu 2 a b f).1 b f).2 ∧ (alu 0 (alu 2 a b f).1 b f).2 ≤ 255 ∧ (alu 0 (alu 2 a b f).1 b f).2 / 16 % 2 = (alu 2 a b f).2 / 16 % 2 ∧
    (alu 7 a b f).1 = a ∧ (alu 7 a b f).2 = (alu 2 a b f).2 ∧ (alu 3 a b 0).1 = (alu 2 a b f).1 ∧ (alu 3 a b 0).2 = (alu 2 a b f).2 ∧ ((alu 2 a b f).2 / 16 % 2 == 1) = decide (a < b) ∧ decide (128 ≤ (alu 2 a b f).2) = (a == b) := by
  have e2 : alu 2 a b f = ((a - b) % 256, fl (decide ((a - b) % 256 = 0)) true (decide (a % 16 < b % 16)) (decide (a - b < 0))) := by rw [alu_in (by decide) (by decide) a0 a1 b0 b1 f0 f1, aluR_2]
  have v0 : 0 ≤ (a - b) % 256 := by omega
  have v1 : (a - b) % 256 ≤ 255 := by omega
  have e0 : alu 0 ((a - b) % 256) b f = (((a - b) % 256 + b) % 256, fl (decide (((a - b) % 256 + b) % 256 = 0)) false (decide (15 < (a - b) % 256 % 16 + b % 16)) (decide (255 < (a - b) % 256 + b))) := by rw [alu_in (by decide) (by decide) v0 v1 b0 b1 f0 f1, aluR_0]
  have e7 : alu 7 a b f = (a, (alu 2 a b f).2) := by rw [alu_in (by decide) (by decide) a0 a1 b0 b1 f0 f1, alu_in (by decide) (by decide) a0 a1 b0 b1 f0 f1]; rfl
  have e3 : alu 3 a b 0 = alu 2 a b f := by
    rw [alu_in (by decide) (by decide) a0 a1 b0 b1 (by decide) (by decide), alu_in (by decide) (by decide) a0 a1 b0 b1 f0 f1, aluR_3, aluR_2, show cy 0 = 0 from rfl, Int.sub_zero, Int.add_zero]
  rw [e7, e3, e2]
  simp only []
  rw [e0]
  simp only []
  obtain ⟨p0, p1, p2, p3, p4, p5, -⟩ := fl_facts (decide ((a - b) % 256 = 0)) true (decide (a % 16 < b % 16)) (decide (a - b < 0))
  obtain ⟨q0, q1, q2, q3, q4, q5, -⟩ := fl_facts (decide (((a - b) % 256 + b) % 256 = 0)) false (decide (15 < (a - b) % 256 % 16 + b % 16)) (decide (255 < (a - b) % 256 + b))
  refine ⟨v0, v1, p0, p1, by omega, q0, q1, ?_, trivial, trivial, trivial, trivial, ?_, ?_⟩
  · rw [p2, q2, show decide (255 < (a - b) % 256 + b) = decide (a - b < 0) from decide_eq_decide.mpr (by omega)]
  · rw [p2]
    have := one_dec (a - b < 0)
    rw [Bool.eq_iff_iff]; simp only [beq_iff_eq, decide_eq_true_eq]; omega
  · rw [p5, Bool.eq_iff_iff]; simp only [beq_iff_eq, decide_eq_true_eq]; omega

/-- Bit by bit. -/
theorem logic_facts {a b f : Int} (a0 : 0 ≤ a) (a1 : a ≤ 255) (b0 : 0 ≤ b) (b1 : b ≤ 255) (f0 : 0 ≤ f) (f1 : f ≤ 255) :
    (alu 4 a b f).1 = bits .and .i64 a b ∧ (alu 5 a b f).1 = bits .xor .i64 a b ∧ (alu 6 a b f).1 = bits .or .i64 a b ∧ (alu 5 a a f).1 = 0 ∧ 0 ≤ bits .and .i64 a b ∧ bits .and .i64 a b ≤ 255 ∧ 0 ≤ bits .xor .i64 a b ∧ bits .xor .i64 a b ≤ 255 ∧ bits .and .i64 a b + bits .xor .i64 a b = bits .or .i64 a b ∧
    0 ≤ (alu 5 a b f).2 ∧ (alu 5 a b f).2 ≤ 255 ∧ (alu 5 a b f).2 / 16 % 2 = 0 ∧ 0 ≤ (alu 6 a b f).2 ∧ (alu 6 a b f).2 ≤ 255 ∧ (alu 6 a b f).2 / 32 % 2 = 0 ∧ 0 ≤ (alu 4 a b f).2 ∧ (alu 4 a b f).2 ≤ 255 ∧ (alu 4 a b f).2 / 32 % 2 = 1 := by
  rw [alu_in (by decide) (by decide) a0 a1 b0 b1 f0 f1, alu_in (by decide) (by decide) a0 a1 b0 b1 f0 f1, alu_in (by decide) (by decide) a0 a1 b0 b1 f0 f1, alu_in (by decide) (by decide) a0 a1 a0 a1 f0 f1, aluR_4, aluR_5, aluR_5, aluR_6]
  simp only []
  rw [bits_and a0 a1 b0 b1, bits_xor a0 a1 b0 b1, bits_or a0 a1 b0 b1, bits_xor a0 a1 a0 a1, Nat.xor_self]
  have ha : a.toNat < 2 ^ 8 := by omega
  have hb : b.toNat < 2 ^ 8 := by omega
  have h1 := Nat.and_lt_two_pow a.toNat hb
  have h2 := Nat.xor_lt_two_pow ha hb
  have h3 := nat_and_xor a.toNat (by omega) b.toNat (by omega)
  obtain ⟨p0, p1, p2, p3, -⟩ := fl_facts (decide (((a.toNat &&& b.toNat : Nat) : Int) = 0)) false true false
  obtain ⟨q0, q1, q2, q3, -⟩ := fl_facts (decide (((a.toNat ^^^ b.toNat : Nat) : Int) = 0)) false false false
  obtain ⟨r0, r1, r2, r3, -⟩ := fl_facts (decide (((a.toNat ||| b.toNat : Nat) : Int) = 0)) false false false
  exact ⟨trivial, trivial, trivial, rfl, by omega, by omega, by omega, by omega, by omega, q0, q1, q2, r0, r1, r3, p0, p1, p3⟩

end Go.Proofs.Ytmdaieopnapbgaa.Alus
