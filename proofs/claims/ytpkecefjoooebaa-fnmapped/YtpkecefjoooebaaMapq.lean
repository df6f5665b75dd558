/-
  Pure: what is told of a text that was mapped.
-/
import Derived.Test.YtpkecefjoooebaaMapp
namespace Go.Proofs.Ytpkecefjoooebaa.Mapq
open Pairr (Pair)
open Chok Mapp
set_option linter.unusedVariables false
theorem run_facts {L : List Pair} (h : Right L) : ∀ (f : Nat) (r out : List UInt8), run L f r = some out → (∀ b ∈ out, ∃ p ∈ L, u8 p.2 = b) ∧ out.length ≤ r.length ∧ (out = [] → r = [])
  | f, [], out, he => by
    have : out = [] := by cases f <;> simpa [run] using he.symm
    subst this
    exact ⟨fun b hb => (by cases hb), Nat.le_refl _, fun _ => rfl⟩
  | 0, x :: r, out, he => by simp [run] at he
  | f + 1, x :: r, out, he => by
    simp only [run] at he
    cases hs : Mapp.step L (x :: r) with
    | none => rw [hs] at he; cases he
    | some p =>
      rw [hs] at he
      dsimp only at he
      have hb := step_mem hs
      have hz := size_pos h hb.1
      have hfit := hb.2.1.1
      cases hr : run L f ((x :: r).drop p.1.size) with
      | none => rw [hr] at he; cases he
      | some o =>
        rw [hr] at he
        obtain rfl : u8 p.2 :: o = out := Option.some.inj he
        obtain ⟨h1, h2, _⟩ := run_facts h f _ o hr
        refine ⟨fun b hb' => ?_, ?_, fun hh => by cases hh⟩
        · rcases List.mem_cons.1 hb' with rfl | hb'
          · exact ⟨p, hb.1, rfl⟩
          · exact h1 b hb'
        · rw [List.length_drop] at h2
          simp only [List.length_cons] at *
          omega
theorem facts (L : List Pair) (s : ByteArray) : (outB L s = false ∧ outV L s = ⟨#[]⟩) ∨ (outB L s = true ∧ Right L ∧ (outV L s).size ≤ s.size ∧ ((outV L s).size = 0 ↔ s.size = 0) ∧ ∀ i (h : i < (outV L s).size), ∃ k, ∃ hk : k < L.length, L[k].2 = (((outV L s)[i]).toNat : Int)) := by
  by_cases hf : Right L ∧ s.size ≤ 20000
  · cases hr : runOf L (T s) with
    | none =>
      have e : res L s = none := by unfold res; rw [if_pos hf, hr]
      refine .inl ⟨?_, ?_⟩
      · unfold outB; rw [e]; rfl
      · unfold outV; rw [e]
    | some l =>
      have e : res L s = some l := by unfold res; rw [if_pos hf, hr]
      have ev : outV L s = ⟨l.toArray⟩ := by unfold outV; rw [e]
      obtain ⟨h1, h2, h3⟩ := run_facts hf.1 _ _ _ hr
      have hz : (⟨l.toArray⟩ : ByteArray).size = l.length := List.size_toArray
      rw [T_len] at h2
      refine .inr ⟨by unfold outB; rw [e]; rfl, hf.1, by rw [ev, hz]; exact h2, ?_, ?_⟩
      · rw [ev, hz]
        constructor
        · intro h0
          have := h3 (List.length_eq_zero_iff.1 h0)
          rw [← T_len, this]; rfl
        · intro h0; omega
      · rw [ev]
        intro i hi
        have hi' : i < l.length := by rw [hz] at hi; exact hi
        obtain ⟨p, hp, he⟩ := h1 l[i] (List.getElem_mem hi')
        obtain ⟨k, hk, rfl⟩ := List.getElem_of_mem hp
        refine ⟨k, hk, ?_⟩
        have := u8_val (size_pos hf.1 hp).2.2
        rw [← this, he]
        rfl
  · exact .inl ⟨(no_form hf).2, (no_form hf).1⟩
theorem nothing {L : List Pair} (h : Right L) : outB L ⟨#[]⟩ = true ∧ outV L ⟨#[]⟩ = ⟨#[]⟩ := by
  have e : res L ⟨#[]⟩ = some [] := by unfold res; rw [if_pos ⟨h, Nat.zero_le _⟩]; rfl
  constructor
  · unfold outB; rw [e]; rfl
  · unfold outV; rw [e]
end Go.Proofs.Ytpkecefjoooebaa.Mapq
