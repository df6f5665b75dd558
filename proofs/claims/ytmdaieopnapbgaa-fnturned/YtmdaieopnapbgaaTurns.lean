/-
  Plain facts of ours on Turned: one turn by its byte and its carry; turned again and again.
-/
import Derived.Test.YtmdaieopnapbgaaAlus
import Derived.Test.YtmdaieopnapbgaaTurnI
import Derived.Test.YtmdaieopnapbgaaBits
namespace Go.Proofs.Ytmdaieopnapbgaa.Turns
open Go.ChangeShapes Go.WideShapes Go.ChangeAt Go.RowKit
open Reck ReckS ReckM TurnS Alus Bits

theorem trn_in {op v f : Int} (o0 : 0 ≤ op) (o1 : op ≤ 7) (v0 : 0 ≤ v) (v1 : v ≤ 255) (f0 : 0 ≤ f) (f1 : f ≤ 255) : trn op v f = trnR op v f := by
  unfold trn
  rw [show Signed.inB op 0 7 = true from decide_eq_true ⟨o0, o1⟩, show Signed.inB v 0 255 = true from decide_eq_true ⟨v0, v1⟩, show Signed.inB f 0 255 = true from decide_eq_true ⟨f0, f1⟩]; rfl
theorem trnP_bd {op v c : Int} (o0 : 0 ≤ op) (o1 : op ≤ 3) (v0 : 0 ≤ v) (v1 : v ≤ 255) (c0 : 0 ≤ c) (c1 : c ≤ 1) : 0 ≤ (trnP op v c).1 ∧ (trnP op v c).1 ≤ 255 ∧ 0 ≤ (trnP op v c).2 ∧ (trnP op v c).2 ≤ 1 := by
  have ho : op = 0 ∨ op = 1 ∨ op = 2 ∨ op = 3 := by omega
  rcases ho with rfl | rfl | rfl | rfl
  · show 0 ≤ v * 2 % 256 + v / 128 ∧ v * 2 % 256 + v / 128 ≤ 255 ∧ 0 ≤ v / 128 ∧ v / 128 ≤ 1; omega
  · show 0 ≤ v / 2 + 128 * (v % 2) ∧ v / 2 + 128 * (v % 2) ≤ 255 ∧ 0 ≤ v % 2 ∧ v % 2 ≤ 1; omega
  · show 0 ≤ v * 2 % 256 + c ∧ v * 2 % 256 + c ≤ 255 ∧ 0 ≤ v / 128 ∧ v / 128 ≤ 1; omega
  · show 0 ≤ v / 2 + 128 * c ∧ v / 2 + 128 * c ≤ 255 ∧ 0 ≤ v % 2 ∧ v % 2 ≤ 1; omega
/-- One turn. -/
theorem turn_one {op v f : Int} (o0 : 0 ≤ op) (o1 : op ≤ 3) (v0 : 0 ≤ v) (v1 : v ≤ 255) (f0 : 0 ≤ f) (f1 : f ≤ 255) :
    (trn op v f).1 = (trnP op v (cy f)).1 ∧ cy (trn op v f).2 = (trnP op v (cy f)).2 ∧ 0 ≤ (trn op v f).1 ∧ (trn op v f).1 ≤ 255 ∧ 0 ≤ (trn op v f).2 ∧ (trn op v f).2 ≤ 255 := by
  obtain ⟨c0, c1⟩ := cy_bd f
  obtain ⟨b0, b1, b2, b3⟩ := trnP_bd o0 o1 v0 v1 c0 c1
  rw [trn_in o0 (by omega) v0 v1 f0 f1]
  obtain ⟨p0, p1, p2, -⟩ := fl_facts (decide ((trnP op v (cy f)).1 = 0)) false false (decide ((trnP op v (cy f)).2 = 1))
  refine ⟨rfl, ?_, b0, b1, p0, p1⟩
  have := one_dec ((trnP op v (cy f)).2 = 1)
  exact p2.trans (by omega)
theorem spin_succ (op : Int) : ∀ (n : Nat) (p : Int × Int), spin op (n + 1) p = trnP op (spin op n p).1 (spin op n p).2
  | 0, _ => rfl
  | n + 1, p => spin_succ op n (trnP op p.1 p.2)
theorem spun {v f : Int} (v0 : 0 ≤ v) (v1 : v ≤ 255) : spinOk v.toNat (cy f).toNat = true := by
  have := cy_bd f
  exact spins v.toNat (by omega) (cy f).toNat (by omega)
/-- There and back, and all the way round. -/
theorem round_facts {v f : Int} (v0 : 0 ≤ v) (v1 : v ≤ 255) :
    (spin 0 8 (v, cy f)).1 = v ∧ (spin 1 8 (v, cy f)).1 = v ∧ spin 2 9 (v, cy f) = (v, cy f) ∧ spin 3 9 (v, cy f) = (v, cy f) ∧
    (trnP 1 (trnP 0 v (cy f)).1 (trnP 0 v (cy f)).2).1 = v ∧ (trnP 0 (trnP 1 v (cy f)).1 (trnP 1 v (cy f)).2).1 = v ∧ (trnP 3 (trnP 2 v (cy f)).1 (trnP 2 v (cy f)).2).1 = v ∧ (trnP 2 (trnP 3 v (cy f)).1 (trnP 3 v (cy f)).2).1 = v := by
  have h := spun (f := f) v0 v1
  have c := cy_bd f
  unfold spinOk at h
  rw [show ((v.toNat : Nat) : Int) = v by omega, show (((cy f).toNat : Nat) : Int) = cy f by omega] at h
  simp only [Bool.and_eq_true, beq_iff_eq] at h
  obtain ⟨⟨⟨⟨⟨⟨⟨h1, h2⟩, h3⟩, h4⟩, h5⟩, h6⟩, h7⟩, h8⟩ := h
  exact ⟨h1, h2, h3, h4, h5, h6, h7, h8⟩

end Go.Proofs.Ytmdaieopnapbgaa.Turns
