/-
  Plain facts of ours on AddWords and AddSigned.
-/
import Derived.Test.YtmdaieopnapbgaaAlus
import Derived.Test.YtmdaieopnapbgaaReckM
namespace Go.Proofs.Ytmdaieopnapbgaa.Words
open Go.ChangeShapes Go.WideShapes Go.ChangeAt Go.RowKit
open Signed (inB sgn)
open Reck ReckS ReckM Alus

theorem aw_facts {a b f : Int} (a0 : 0 ≤ a) (a1 : a ≤ 65535) (b0 : 0 ≤ b) (b1 : b ≤ 65535) (f0 : 0 ≤ f) (f1 : f ≤ 255) :
    0 ≤ (aw a b f).1 ∧ (aw a b f).1 ≤ 65535 ∧ 0 ≤ (aw a b f).2 ∧ (aw a b f).2 ≤ 255 ∧ (aw a b f).1 + 65536 * ((aw a b f).2 / 16 % 2) = a + b ∧ decide (128 ≤ (aw a b f).2) = decide (128 ≤ f) := by
  have e : aw a b f = awR a b f := by
    unfold aw
    rw [show inB a 0 65535 = true from decide_eq_true ⟨a0, a1⟩, show inB b 0 65535 = true from decide_eq_true ⟨b0, b1⟩, show inB f 0 255 = true from decide_eq_true ⟨f0, f1⟩]; rfl
  rw [e]
  unfold awR
  obtain ⟨p0, p1, p2, p3, p4, p5, -⟩ := fl_facts (zB f) false (decide (4095 < a % 4096 + b % 4096)) (decide (65535 < a + b))
  refine ⟨by simp only []; omega, by simp only []; omega, p0, p1, ?_, ?_⟩
  · simp only [p2]
    have := one_dec (65535 < a + b)
    omega
  · simp only [p5]
    unfold zB
    exact decide_eq_decide.mpr (by omega)
theorem asg_facts {sp n : Int} (a0 : 0 ≤ sp) (a1 : sp ≤ 65535) (b0 : 0 ≤ n) (b1 : n ≤ 255) :
    0 ≤ (asg sp n).1 ∧ (asg sp n).1 ≤ 65535 ∧ -128 ≤ sgn n ∧ sgn n ≤ 127 ∧ ((asg sp n).1 - sp - sgn n).tmod 65536 = 0 ∧ ((asg sp n).2 = (alu 0 (sp % 256) n 0).2 % 128 ∧ 0 ≤ (alu 0 (sp % 256) n 0).2 ∧ (alu 0 (sp % 256) n 0).2 ≤ 255) := by
  have e : asg sp n = asR sp n := by
    unfold asg
    rw [show inB sp 0 65535 = true from decide_eq_true ⟨a0, a1⟩, show inB n 0 255 = true from decide_eq_true ⟨b0, b1⟩]; rfl
  obtain ⟨s0, s1⟩ := sgn_bd n
  rw [e, alu_in (by decide) (by decide) (by omega) (by omega) b0 b1 (by decide) (by decide), aluR_0]
  unfold asR
  obtain ⟨p0, p1, p2, p3, p4, p5, p6, -⟩ := fl_facts (decide ((sp % 256 + n) % 256 = 0)) false (decide (15 < sp % 256 % 16 + n % 16)) (decide (255 < sp % 256 + n))
  refine ⟨by simp only []; omega, by simp only []; omega, s0, s1, ?_, ?_, p0, p1⟩
  · simp only []
    have h : (sp + sgn n) % 65536 - sp - sgn n = 0 ∨ (sp + sgn n) % 65536 - sp - sgn n = 65536 ∨ (sp + sgn n) % 65536 - sp - sgn n = -65536 := by omega
    rcases h with h | h | h <;> rw [h] <;> rfl
  · simp only [p6]
    rw [show sp % 256 % 16 = sp % 16 by omega]

end Go.Proofs.Ytmdaieopnapbgaa.Words
