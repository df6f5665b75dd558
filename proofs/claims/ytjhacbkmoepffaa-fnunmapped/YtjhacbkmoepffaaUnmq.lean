/-
  Pure: what is told of bytes in two pieces.
-/
import Derived.Test.YtjhacbkmoepffaaUnmp
namespace Go.Proofs.Ytjhacbkmoepffaa.Unmq
open Pairr (Pair)
open Chok Mapp Unmp
set_option linter.unusedVariables false
theorem run_app (L : List Pair) (b : List UInt8) : ∀ a, runU L (a ++ b) = (runU L a).bind fun x => (runU L b).map (x ++ ·)
  | [] => by simp [runU]
  | c :: a => by
    simp only [List.cons_append, runU]
    cases firstOf L c with
    | none => rfl
    | some p =>
      simp only [run_app L b a]
      cases runU L a with
      | none => rfl
      | some x => cases runU L b <;> simp
theorem run_len {L : List Pair} (h : Right L) : ∀ a x, runU L a = some x → a.length ≤ x.length
  | [], x, hx => Nat.zero_le _
  | c :: a, x, hx => by
    simp only [runU] at hx
    cases hf : firstOf L c with
    | none => rw [hf] at hx; cases hx
    | some p =>
      rw [hf] at hx
      obtain ⟨y, hy, rfl⟩ := Option.map_eq_some_iff.1 hx
      have h1 := run_len h a y hy
      have h2 := size_pos h (first_mem hf)
      rw [List.length_append, T_len, List.length_cons]; omega
theorem T_take (s : ByteArray) (k : Nat) : T (s.extract 0 k) = (T s).take k := by
  show (s.extract 0 k).data.toList = _
  rw [ByteArray.data_extract, Array.toList_extract, List.extract_eq_take_drop]; simp
theorem T_drop (s : ByteArray) (k : Nat) : T (s.extract k s.size) = (T s).drop k := by
  show (s.extract k s.size).data.toList = _
  rw [ByteArray.data_extract, Array.toList_extract, List.extract_eq_take_drop]
  exact List.take_of_length_le (by rw [List.length_drop, T_len]; exact Nat.le_refl _)
theorem out_of {L : List Pair} {s : ByteArray} (h : Right L) (hs : s.size ≤ 20000) {x : List UInt8} (hx : runU L (T s) = some x) : Unmp.outB L s = true ∧ Unmp.outV L s = ⟨x.toArray⟩ := by
  have e : resU L s = some x := by unfold resU; rw [if_pos ⟨h, hs⟩, hx]
  unfold Unmp.outV Unmp.outB; rw [e]; exact ⟨rfl, rfl⟩
theorem facts (L : List Pair) (s : ByteArray) : (Unmp.outB L s = false ∧ Unmp.outV L s = ⟨#[]⟩) ∨ (Unmp.outB L s = true ∧ s.size ≤ (Unmp.outV L s).size ∧ ∀ k, k ≤ s.size → Unmp.outB L (s.extract 0 k) = true ∧ Unmp.outB L (s.extract k s.size) = true ∧ Unmp.outV L (s.extract 0 k) ++ Unmp.outV L (s.extract k s.size) = Unmp.outV L s) := by
  by_cases h : Right L ∧ s.size ≤ 20000
  · cases hr : runU L (T s) with
    | none =>
      have e : resU L s = none := by unfold resU; rw [if_pos h, hr]
      left; unfold Unmp.outV Unmp.outB; rw [e]; exact ⟨rfl, rfl⟩
    | some x =>
      have o := out_of h.1 h.2 hr
      refine .inr ⟨o.1, ?_, fun k hk => ?_⟩
      · rw [o.2]
        have := run_len h.1 _ _ hr
        rw [T_len] at this
        exact this
      · have e : T s = T (s.extract 0 k) ++ T (s.extract k s.size) := by rw [T_take, T_drop, List.take_append_drop]
        rw [e, run_app] at hr
        cases ha : runU L (T (s.extract 0 k)) with
        | none => rw [ha] at hr; cases hr
        | some a =>
          rw [ha] at hr
          obtain ⟨b, hb, hab⟩ := Option.map_eq_some_iff.1 (show (runU L (T (s.extract k s.size))).map (a ++ ·) = some x from hr)
          have o1 := out_of h.1 (by rw [ByteArray.size_extract]; have := h.2; omega) ha
          have o2 := out_of h.1 (by rw [ByteArray.size_extract]; have := h.2; omega) hb
          refine ⟨o1.1, o2.1, ?_⟩
          rw [o1.2, o2.2, o.2]
          exact T_inj (by rw [← hab]; simp [T])
  · exact .inl ⟨(Unmp.no_form h).2, (Unmp.no_form h).1⟩
theorem run_small {L : List Pair} (h : Right L) : ∀ a x, runU L a = some x → x.length ≤ 4 * a.length
  | [], x, hx => by cases hx; exact Nat.zero_le _
  | c :: a, x, hx => by
    simp only [runU] at hx
    cases hf : firstOf L c with
    | none => rw [hf] at hx; cases hx
    | some p =>
      rw [hf] at hx
      obtain ⟨y, hy, rfl⟩ := Option.map_eq_some_iff.1 hx
      have h1 := run_small h a y hy
      have h2 := size_pos h (first_mem hf)
      rw [List.length_append, T_len, List.length_cons]; omega
theorem out_small (L : List Pair) (s : ByteArray) (hs : s.size ≤ 8) : (Unmp.outV L s).size ≤ 1000000 := by
  by_cases h : Right L ∧ s.size ≤ 20000
  · cases hr : runU L (T s) with
    | none =>
      have e : resU L s = none := by unfold resU; rw [if_pos h, hr]
      unfold Unmp.outV; rw [e]; exact Nat.zero_le _
    | some x =>
      rw [(out_of h.1 h.2 hr).2]
      have := run_small h.1 _ _ hr
      rw [T_len] at this
      show x.length ≤ _
      omega
  · rw [(Unmp.no_form h).1]; exact Nat.zero_le _
end Go.Proofs.Ytjhacbkmoepffaa.Unmq
