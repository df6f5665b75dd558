/-
  Pure: what is packed comes back, and is never more than a little longer.
-/
import Derived.Test.YtbffchfadockmaaPakp
namespace Go.Proofs.Ytbffchfadockmaa.Pakq
open Pakp
set_option linter.unusedVariables false

theorem run_all {l : List UInt8} {i : Nat} (h : i < run l) : l[i]? = some (l.headD 0) := by
  cases l with
  | nil => simp [run] at h
  | cons x xs =>
    cases i with
    | zero => rfl
    | succ i =>
      simp only [run] at h
      simpa using runL_all 127 x xs i (by omega)
theorem take_run (l : List UInt8) : l.take (run l) = List.replicate (run l) (l.headD 0) := by
  apply List.ext_getElem?
  intro i
  by_cases h : i < run l
  · rw [List.getElem?_take, if_pos h, run_all h, List.getElem?_replicate, if_pos h]
  · rw [List.getElem?_take, if_neg h, List.getElem?_replicate, if_neg h]
theorem rep_one (l : List UInt8) : rep (l, 1) = l := by simp [rep]
theorem rep_many (b : UInt8) (n : Nat) : rep ([b], n) = List.replicate n b := by
  unfold rep
  induction n with
  | zero => rfl
  | succ n ih => simp only [List.replicate_succ, List.flatten_cons]; simp only at ih; rw [ih]; rfl
/-- The next run, packed, is told as one part that is right. -/
theorem ahead_enc {l : List UInt8} (h : l ≠ []) (rest : List UInt8) : ∃ d n, Pakp.ahead (enc (l.take (many l), alike l) ++ rest) = (d, n, rest) ∧ d ≠ [] ∧ rep (d, n) = l.take (many l) := by
  have hp := many_pos h
  have h8 := many_le l
  have hl := many_len l
  by_cases h3 : 3 ≤ run l
  · have em : many l = run l := by unfold many alike; rw [if_pos (decide_eq_true h3)]
    have ea : alike l = true := decide_eq_true h3
    rw [em] at hp h8 hl ⊢
    rw [ea]
    unfold enc
    simp only [if_true]
    have el : (l.take (run l)).length = run l := by rw [List.length_take]; omega
    have eh : (l.take (run l)).headD 0 = l.headD 0 := by
      cases l with
      | nil => exact absurd rfl h
      | cons x xs => simp only [run, List.take_succ_cons, List.headD_cons]
    rw [el, eh]
    have ec : (UInt8.ofNat (257 - run l)).toNat = 257 - run l := by rw [UInt8.toNat_ofNat']; omega
    refine ⟨[l.headD 0], run l, ?_, by simp, by rw [rep_many, take_run]⟩
    show aheadC (UInt8.ofNat (257 - run l)) (l.headD 0 :: rest) = _
    unfold aheadC
    rw [ec, if_neg (by omega), if_pos (by omega), if_neg (by simp)]
    simp only [List.take_succ_cons, List.take_zero, List.drop_succ_cons, List.drop_zero]
    rw [show 257 - (257 - run l) = run l by omega]
  · have em : many l = oth 128 l := by unfold many alike; rw [if_neg (by simp; omega)]
    have ea : alike l = false := decide_eq_false h3
    rw [em] at hp h8 hl ⊢
    rw [ea]
    unfold enc
    simp only [Bool.false_eq_true, if_false]
    have el : (l.take (oth 128 l)).length = oth 128 l := by rw [List.length_take]; omega
    rw [el]
    have ec : (UInt8.ofNat (oth 128 l - 1)).toNat = oth 128 l - 1 := by rw [UInt8.toNat_ofNat']; omega
    refine ⟨l.take (oth 128 l), 1, ?_, fun e => by rw [e] at el; simp at el; omega, rep_one _⟩
    show aheadC (UInt8.ofNat (oth 128 l - 1)) (l.take (oth 128 l) ++ rest) = _
    unfold aheadC
    rw [ec, if_neg (by omega), if_neg (by omega), if_neg (by rw [List.length_append, el]; omega), show oth 128 l - 1 + 1 = oth 128 l by omega]
    rw [List.take_left' el, List.drop_left' el]
theorem enc_ne {l : List UInt8} (h : l ≠ []) : enc (l.take (many l), alike l) ≠ [] := by
  unfold enc; split <;> simp
/-- What is packed comes back. -/
theorem back : ∀ n l, l.length = n → (∀ x ∈ PartsOf (pack l), bad x = false) ∧ sumUp (PartsOf (pack l)) = l := by
  intro n
  induction n using Nat.strongRecOn with
  | ind n ih =>
    intro l hl
    by_cases h : l = []
    · subst h
      have e : pack [] = [] := rfl
      rw [e, PartsOf_nil]
      exact ⟨fun x hx => (by cases hx), rfl⟩
    · obtain ⟨d, k, ha, hd, hr⟩ := ahead_enc h (pack (l.drop (many l)))
      have hp := many_pos h
      have hm := many_len l
      have hne : pack l ≠ [] := by rw [pack_cons h]; simp [enc_ne h]
      have e : PartsOf (pack l) = (d, k) :: PartsOf (pack (l.drop (many l))) := by
        rw [PartsOf_cons hne, pack_cons h, ha]
      obtain ⟨i1, i2⟩ := ih (l.drop (many l)).length (by rw [List.length_drop]; have := List.length_pos_iff.2 h; omega) _ rfl
      rw [e]
      refine ⟨fun x hx => ?_, ?_⟩
      · rcases List.mem_cons.1 hx with rfl | hx
        · cases d with
          | nil => exact absurd rfl hd
          | cons => rfl
        · exact i1 x hx
      · have : sumUp ((d, k) :: PartsOf (pack (l.drop (many l)))) = rep (d, k) ++ sumUp (PartsOf (pack (l.drop (many l)))) := by simp [sumUp]
        rw [this, hr, i2, List.take_append_drop]
theorem oth_stop : ∀ m l, oth m l < m → oth m l = l.length ∨ 3 ≤ run (l.drop (oth m l))
  | 0, _, h => by simp [oth] at h
  | _ + 1, [], _ => by simp [oth]
  | m + 1, x :: xs, h => by
    unfold oth at h ⊢
    split
    · rename_i h3; exact .inr (by simpa using h3)
    · rename_i h3
      rw [if_neg h3] at h
      rcases oth_stop m xs (by omega) with h' | h'
      · exact .inl (by simp; omega)
      · exact .inr (by simpa using h')
theorem enc_len {l : List UInt8} (h : l ≠ []) : (enc (l.take (many l), alike l)).length = if alike l = true then 2 else many l + 1 := by
  have hl := many_len l
  unfold enc
  split <;> simp <;> omega
theorem small : ∀ n l, l.length = n → (pack l).length ≤ n + n / 128 + 1 ∧ (l = [] ∨ alike l = true → (pack l).length ≤ n + n / 128) := by
  intro n
  induction n using Nat.strongRecOn with
  | ind n ih =>
    intro l hl
    by_cases h : l = []
    · subst h
      have e : pack [] = [] := rfl
      rw [e]; simp
    · have hp := many_pos h
      have hm := many_len l
      have h8 := many_le l
      have hpos := List.length_pos_iff.2 h
      obtain ⟨i1, i2⟩ := ih (l.drop (many l)).length (by rw [List.length_drop]; omega) _ rfl
      rw [List.length_drop] at i1 i2
      have e : (pack l).length = (enc (l.take (many l), alike l)).length + (pack (l.drop (many l))).length := by rw [pack_cons h, List.length_append]
      rw [enc_len h] at e
      by_cases ha : alike l = true
      · rw [if_pos ha] at e
        have h3 : 3 ≤ run l := of_decide_eq_true ha
        have em : many l = run l := by unfold many; rw [if_pos ha]
        refine ⟨by omega, fun _ => by omega⟩
      · rw [if_neg ha] at e
        have h3 : ¬ 3 ≤ run l := fun h' => ha (decide_eq_true h')
        have em : many l = oth 128 l := by unfold many; rw [if_neg ha]
        refine ⟨?_, fun hc => absurd (hc.resolve_left h) ha⟩
        by_cases hf : many l = 128
        · omega
        · have hs := oth_stop 128 l (by omega)
          rw [← em] at hs
          have : (pack (l.drop (many l))).length ≤ l.length - many l + (l.length - many l) / 128 := by
            refine i2 ?_
            rcases hs with hs | hs
            · exact .inl (List.drop_eq_nil_of_le (by omega))
            · exact .inr (decide_eq_true hs)
          omega
theorem unp_pack {l : List UInt8} (h : l.length ≤ 20000) : unpV (pack l) = l ∧ unpB (pack l) = true := by
  obtain ⟨b1, b2⟩ := back _ l rfl
  have hs := (small _ l rfl).1
  have := unp_yes (l := pack l) (by omega) ⟨b1, by rw [b2]; exact h⟩
  rw [b2] at this
  exact this
end Go.Proofs.Ytbffchfadockmaa.Pakq
