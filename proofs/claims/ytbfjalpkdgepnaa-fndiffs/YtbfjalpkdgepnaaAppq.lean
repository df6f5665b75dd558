/-
  Pure: what a diff makes, it makes of that again.
-/
import Derived.Test.YtbfjalpkdgepnaaAppp
namespace Go.Proofs.Ytbfjalpkdgepnaa.Appq
open Appn Appp
open Rowb (over over_get over_length)
set_option linter.unusedVariables false
theorem fold_cons {all : Nat} {s : S} {p : Nat × List UInt8} {l : List (Nat × List UInt8)} {t : S} : fold all s (p :: l) = some t ↔ ¬ bad all s p ∧ fold all (over s.1 p.1 p.2, p.1 + p.2.length) l = some t := by
  unfold fold
  rw [List.foldlM_cons]
  rw [show Appp.step all s p = if bad all s p then none else some (over s.1 p.1 p.2, p.1 + p.2.length) from rfl]
  by_cases h : bad all s p
  · rw [if_pos h]; simp [h]
  · rw [if_neg h]; simp [h]
/-- What stands ahead of the place stays; the length stays. -/
theorem fold_ahead {all : Nat} : ∀ (l : List (Nat × List UInt8)) (s t : S), s.1.length = all → fold all s l = some t → t.1.length = all ∧ ∀ i, i < s.2 → t.1[i]? = s.1[i]?
  | [], s, t, hs, h => by
    have : s = t := by simpa [fold] using h
    subst this
    exact ⟨hs, fun _ _ => rfl⟩
  | p :: l, s, t, hs, h => by
    obtain ⟨hb, h⟩ := fold_cons.1 h
    have h1 : s.2 ≤ p.1 := Nat.le_of_not_lt fun hh => hb (.inr (.inl hh))
    have h2 : p.1 + p.2.length ≤ all := Nat.le_of_not_lt fun hh => hb (.inr (.inr hh))
    obtain ⟨e1, e2⟩ := fold_ahead l _ t (by dsimp only; rw [over_length _ _ _ (by omega)]; exact hs) h
    refine ⟨e1, fun i hi => ?_⟩
    rw [e2 i (by dsimp only; omega)]
    dsimp only
    rw [over_get _ _ _ _ (by omega), if_pos (by omega)]
theorem over_same {x t : List UInt8} {o : Nat} {p : List UInt8} (ho : o + p.length ≤ x.length) (hl : t.length = x.length) (h : ∀ i, i < o + p.length → t[i]? = (over x o p)[i]?) : over t o p = t := by
  apply List.ext_getElem?
  intro i
  rw [over_get _ _ _ _ (by omega)]
  by_cases c1 : i < o
  · rw [if_pos c1]
  · rw [if_neg c1]
    by_cases c2 : i < o + p.length
    · rw [if_pos c2, h i c2, over_get _ _ _ _ (by omega), if_neg c1, if_pos c2]
    · rw [if_neg c2]
theorem fold_again {all : Nat} : ∀ (l : List (Nat × List UInt8)) (s t : S), s.1.length = all → fold all s l = some t → fold all (t.1, s.2) l = some t
  | [], s, t, hs, h => by
    have : s = t := by simpa [fold] using h
    subst this
    rfl
  | p :: l, s, t, hs, h => by
    obtain ⟨hb, h⟩ := fold_cons.1 h
    have h2 : p.1 + p.2.length ≤ all := Nat.le_of_not_lt fun hh => hb (.inr (.inr hh))
    have hl : (over s.1 p.1 p.2).length = all := by rw [over_length _ _ _ (by omega)]; exact hs
    obtain ⟨e1, e2⟩ := fold_ahead l _ t hl h
    refine fold_cons.2 ⟨hb, ?_⟩
    have e3 := fold_again l _ t hl h
    dsimp only at e3 ⊢
    rw [over_same (x := s.1) (by omega) (by omega) e2]
    exact e3
theorem start_self {all : Nat} {c : ByteArray} (h : c.size = all) : Appp.start all c = c.data.toList := by
  have hl : c.data.toList.length = all := by rw [Array.length_toList]; exact h
  unfold Appp.start
  rw [List.take_of_length_le (by omega)]
  unfold over
  rw [List.take_zero, List.nil_append, List.drop_eq_nil_of_le (by rw [List.length_replicate]; omega), List.append_nil]
/-- All there is to know of what is put in. -/
theorem outs (a d : ByteArray) : (outB a d = false ∧ outV a d = ⟨#[]⟩) ∨ (outB a d = true ∧ (outV a d).size ≤ 20000 ∧ outB (outV a d) d = true ∧ outV (outV a d) d = outV a d) := by
  by_cases hf : Appp.Form a d
  · cases hr : fold (allOf d) (Appp.start (allOf d) a, 0) (PcsOf (mid d).data.toList) with
    | none => have := no_fold hf hr; exact .inl ⟨this.2, this.1⟩
    | some t =>
      have hy := yes_fold hf hr
      obtain ⟨e1, _⟩ := fold_ahead _ _ _ (start_len _ _) hr
      have e2 := fold_again _ _ _ (start_len _ _) hr
      have hz : (⟨t.1.toArray⟩ : ByteArray).size = allOf d := by show t.1.toArray.size = _; rw [List.size_toArray]; exact e1
      have hf2 : Appp.Form ⟨t.1.toArray⟩ d := ⟨by rw [hz]; exact hf.2.2.2.2.2, hf.2⟩
      have hy2 := yes_fold hf2 (s := t) (by rw [start_self hz]; exact e2)
      rw [hy.1, hy.2]
      exact .inr ⟨rfl, by rw [hz]; exact hf.2.2.2.2.2, hy2.2, hy2.1⟩
  · have := no_form hf; exact .inl ⟨this.2, this.1⟩
end Go.Proofs.Ytbfjalpkdgepnaa.Appq
