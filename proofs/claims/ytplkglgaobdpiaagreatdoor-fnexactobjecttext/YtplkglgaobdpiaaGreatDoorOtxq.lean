/-
  Pure: what bounds a right object has; how long its text is.
-/
import Derived.Test.YtplkglgaobdpiaaGreatDoorOtxp
namespace Go.Proofs.YtplkglgaobdpiaaGreatDoor.Otxq
open Go.ChangeShapes Go.WideShapes Go.ChangeAt Go.RowKit Go.Deep
open Signed (inB)
open Names (nameB)
open Stepx (exprB)
open Otxa Otxb Otxt Otxp Seco Secp Obje
set_option linter.unusedVariables false

theorem name_le {s : ByteArray} (h : nameB s = true) : s.size ≤ 16 := (of_decide_eq_true h).2.1
theorem in_of {n a b : Int} (h : inB n a b = true) : a ≤ n ∧ n ≤ b := of_decide_eq_true h
theorem expr_le {L : List Stepx.Node} (h : exprB L = true) : L.length ≤ 30 := by
  unfold exprB at h
  rw [Bool.and_eq_true] at h
  exact of_decide_eq_true h.1
theorem sec_b {s : Secr.X} (h : secB s = true) : SecB s := by
  unfold secB at h
  simp only [Bool.and_eq_true] at h
  obtain ⟨⟨⟨⟨⟨h1, h2⟩, h3⟩, h4⟩, h5⟩, h6⟩ := h
  unfold roomB at h3
  unfold bankB at h4
  unfold patchesB at h6
  simp only [Bool.and_eq_true] at h3 h6
  have k := in_of h2
  have d := of_decide_eq_true h3.1
  have hb : 0 ≤ base s.f1 ∧ base s.f1 ≤ 49152 := by unfold base; repeat' split <;> omega
  have a : -1 ≤ s.f3 ∧ s.f3 ≤ 50000 := by
    have := h3.2
    rw [Bool.or_eq_true] at this
    rcases this with h | h
    · have := eq_of_beq h; omega
    · have := in_of h; omega
  have bk : -1 ≤ s.f2 ∧ s.f2 ≤ 15 := by
    rw [Bool.or_eq_true] at h4
    rcases h4 with h | h
    · have := eq_of_beq h; omega
    · rw [Bool.and_eq_true] at h
      have := in_of h.2; omega
  have pn := of_decide_eq_true h6.1.1
  refine ⟨name_le h1, by omega, by omega, by omega, by omega, by omega, by omega, d, pn, fun i hi => ?_⟩
  have hp := List.all_eq_true.1 h6.2 s.f5[i] (List.getElem_mem hi)
  unfold patchB at hp
  simp only [Bool.and_eq_true] at hp
  have p1 := in_of hp.1.1
  have p0 := in_of hp.1.2
  have ps : 1 ≤ psize s.f5[i].f1 := by unfold psize; split <;> omega
  exact ⟨by omega, by omega, by omega, by omega, expr_le hp.2⟩
/-- What bounds a right symbol has. -/
structure SymB (y : Osyr.X) : Prop where
  nm : y.f0.size ≤ 16
  s0 : -4000000000 ≤ y.f1
  s1 : y.f1 ≤ 4000000000
  a0 : -4000000000 ≤ y.f2
  a1 : y.f2 ≤ 4000000000
theorem sym_b {S : List Secr.X} {y : Osyr.X} (hS : S.length ≤ 12) (hs : ∀ i (h : i < S.length), secB S[i] = true) (h : symB S y = true) : SymB y := by
  unfold symB at h
  rw [Bool.and_eq_true] at h
  have n := name_le h.1
  have h2 := h.2
  unfold placeB at h2
  split at h2
  · have := in_of h2
    exact ⟨n, by omega, by omega, by omega, by omega⟩
  · rw [Bool.and_eq_true] at h2
    have a := of_decide_eq_true h2.1
    have b := in_of h2.2
    have d : dataLen S y.f1.toNat ≤ 256 := by
      unfold dataLen
      split
      · rename_i s hs'
        obtain ⟨hi, rfl⟩ := List.getElem?_eq_some_iff.1 hs'
        exact (sec_b (hs _ hi)).dt
      · omega
    exact ⟨n, by omega, by omega, by omega, by omega⟩
theorem symT_le {y : Osyr.X} (h : SymB y) : (symT y).length ≤ 100 := sym_len h.nm h.s0 h.s1 h.a0 h.a1
theorem take_flat {α : Type} (f : α → List UInt8) (n m : Nat) (L : List α) (hL : L.length ≤ m) (h : ∀ i (hi : i < L.length), (f L[i]).length ≤ n) (k : Nat) : ((L.take k).flatMap f).length ≤ n * m := by
  have := flat_le f n (L.take k) (fun x hx => by
    obtain ⟨i, hi, rfl⟩ := List.getElem_of_mem (List.mem_of_mem_take hx)
    exact h i hi)
  have h2 : (L.take k).length ≤ m := by rw [List.length_take]; omega
  exact Nat.le_trans this (Nat.mul_le_mul_left _ h2)
theorem all_flat {α : Type} (f : α → List UInt8) (n m : Nat) (L : List α) (hL : L.length ≤ m) (h : ∀ i (hi : i < L.length), (f L[i]).length ≤ n) : (L.flatMap f).length ≤ n * m := by
  have := take_flat f n m L hL h L.length
  rwa [List.take_length] at this
noncomputable def objV (o : Objr.X) : ByteArray := if objB o = true then ⟨(objT o).toArray⟩ else ⟨#[]⟩
theorem objV_no {o : Objr.X} (h : objB o = false) : objV o = ⟨#[]⟩ := if_neg (by rw [h]; decide)
theorem objV_yes {o : Objr.X} (h : objB o = true) : objV o = ⟨(objT o).toArray⟩ := if_pos h
theorem right_of {o : Objr.X} (h : objB o = true) : Right o := by
  by_cases hr : Right o
  · exact hr
  · rw [obj_no hr] at h; exact absurd h (by decide)
end Go.Proofs.YtplkglgaobdpiaaGreatDoor.Otxq
