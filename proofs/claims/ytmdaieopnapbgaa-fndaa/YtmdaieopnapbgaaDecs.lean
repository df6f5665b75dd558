/-
  Plain facts of ours on decimal digits of four bits, added and taken away as bytes, put right.
-/
import Derived.Test.YtmdaieopnapbgaaAlus
import Derived.Test.YtmdaieopnapbgaaBits
namespace Go.Proofs.Ytmdaieopnapbgaa.Decs
open Go.ChangeShapes Go.WideShapes Go.ChangeAt Go.RowKit
open Reck ReckS ReckM ReckD Alus Bits

theorem aluR_bd {op a b f : Int} (ho : op = 0 ∨ op = 2) : 0 ≤ (aluR op a b f).1 ∧ (aluR op a b f).1 ≤ 255 ∧ 0 ≤ (aluR op a b f).2 ∧ (aluR op a b f).2 ≤ 255 := by
  rcases ho with rfl | rfl
  · rw [aluR_0]
    obtain ⟨p0, p1, -⟩ := fl_facts (decide ((a + b) % 256 = 0)) false (decide (15 < a % 16 + b % 16)) (decide (255 < a + b))
    exact ⟨by simp only []; omega, by simp only []; omega, p0, p1⟩
  · rw [aluR_2]
    obtain ⟨p0, p1, -⟩ := fl_facts (decide ((a - b) % 256 = 0)) true (decide (a % 16 < b % 16)) (decide (a - b < 0))
    exact ⟨by simp only []; omega, by simp only []; omega, p0, p1⟩
theorem daa_in {a f : Int} (a0 : 0 ≤ a) (a1 : a ≤ 255) (f0 : 0 ≤ f) (f1 : f ≤ 255) : daa a f = daaR a f := by
  unfold daa
  rw [show Signed.inB a 0 255 = true from decide_eq_true ⟨a0, a1⟩, show Signed.inB f 0 255 = true from decide_eq_true ⟨f0, f1⟩]; rfl
theorem daa_bd {a f : Int} : 0 ≤ (daa a f).2 ∧ (daa a f).2 ≤ 255 := by
  unfold daa
  split
  · obtain ⟨p0, p1, -⟩ := fl_facts (decide ((a + daaK (nB f) (hB f) (cB f) (decide (9 < a % 16)) (decide (153 < a))) % 256 = 0)) (nB f) false (cB f || (!nB f && decide (153 < a)))
    exact ⟨p0, p1⟩
  · exact ⟨by decide, by decide⟩
theorem dec_facts {a b : Int} (a0 : 0 ≤ a) (a1 : a < 100) (b0 : 0 ≤ b) (b1 : b < 100) :
    (daa (alu 0 (bcd a) (bcd b) 0).1 (alu 0 (bcd a) (bcd b) 0).2).1 = (a + b) % 100 / 10 * 16 + (a + b) % 10 ∧ ((daa (alu 0 (bcd a) (bcd b) 0).1 (alu 0 (bcd a) (bcd b) 0).2).2 / 16 % 2 == 1) = decide (99 < a + b) ∧
    (daa (alu 2 (bcd a) (bcd b) 0).1 (alu 2 (bcd a) (bcd b) 0).2).1 = (a - b + 100) % 100 / 10 * 16 + (a - b + 100) % 100 % 10 := by
  have A0 : 0 ≤ bcd a := by unfold bcd; omega
  have A1 : bcd a ≤ 255 := by unfold bcd; omega
  have B0 : 0 ≤ bcd b := by unfold bcd; omega
  have B1 : bcd b ≤ 255 := by unfold bcd; omega
  rw [alu_in (by decide) (by decide) A0 A1 B0 B1 (by decide) (by decide), alu_in (by decide) (by decide) A0 A1 B0 B1 (by decide) (by decide)]
  obtain ⟨s0, s1, s2, s3⟩ := aluR_bd (op := 0) (a := bcd a) (b := bcd b) (f := 0) (.inl rfl)
  obtain ⟨d0, d1, d2, d3⟩ := aluR_bd (op := 2) (a := bcd a) (b := bcd b) (f := 0) (.inr rfl)
  rw [daa_in s0 s1 s2 s3, daa_in d0 d1 d2 d3]
  have h := bcds a.toNat (by omega) b.toNat (by omega)
  unfold bcdOk at h
  rw [show ((a.toNat : Nat) : Int) = a by omega, show ((b.toNat : Nat) : Int) = b by omega] at h
  simp only [Bool.and_eq_true, beq_iff_eq] at h
  obtain ⟨⟨h1, h2⟩, h3⟩ := h
  exact ⟨h1, h2, h3⟩
theorem bcd_of (x : Int) : x % 100 / 10 * 16 + x % 10 = bcd (x % 100) := by unfold bcd; omega
theorem u_eq (x y : Int) : (x % 100 - y % 100 + 100) % 100 / 10 * 16 + (x % 100 - y % 100 + 100) % 100 % 10 = (x - y) % 100 / 10 * 16 + (x - y) % 10 := by
  rw [show (x % 100 - y % 100 + 100) % 100 = (x - y) % 100 by omega]; omega
theorem t_eq (x y : Int) : (x % 100 + y % 100) % 100 / 10 * 16 + (x % 100 + y % 100) % 10 = (x + y) % 100 / 10 * 16 + (x % 100 + y % 100) % 10 := by
  rw [show (x % 100 + y % 100) % 100 = (x + y) % 100 by omega]
/-- The same, hidden: what is told of the sum and of the difference, put right. -/
theorem dec_hid (x y : Int) : ∃ S D, Hid (S = alu 0 (bcd (x % 100)) (bcd (y % 100)) 0) ∧ Hid (D = alu 2 (bcd (x % 100)) (bcd (y % 100)) 0) ∧
    Hid (∃ T K U : Int, 0 ≤ K ∧ K ≤ 255 ∧ (daa S.1 S.2).1 = T ∧ (daa S.1 S.2).2 = K ∧ (daa D.1 D.2).1 = U ∧ Hid (T = (x % 100 + y % 100) % 100 / 10 * 16 + (x % 100 + y % 100) % 10 ∧ (K / 16 % 2 == 1) = decide (99 < x % 100 + y % 100) ∧ U = (x % 100 - y % 100 + 100) % 100 / 10 * 16 + (x % 100 - y % 100 + 100) % 100 % 10)) := by
  obtain ⟨k1, k2, k3⟩ := dec_facts (a := x % 100) (b := y % 100) (by omega) (by omega) (by omega) (by omega)
  have T0 := daa_bd (a := (alu 0 (bcd (x % 100)) (bcd (y % 100)) 0).1) (f := (alu 0 (bcd (x % 100)) (bcd (y % 100)) 0).2)
  exact ⟨_, _, rfl, rfl, _, _, _, T0.1, T0.2, rfl, rfl, rfl, k1, k2, k3⟩

end Go.Proofs.Ytmdaieopnapbgaa.Decs
