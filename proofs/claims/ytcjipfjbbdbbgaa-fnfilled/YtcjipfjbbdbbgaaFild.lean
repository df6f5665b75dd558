/-
  Contracts of ours for both Filled.
-/
import Derived.Test.YtcjipfjbbdbbgaaFill
namespace Go.Proofs.Ytcjipfjbbdbbgaa.Fild
open Go.ChangeShapes Go.WideShapes Go.ChangeAt Go.RowKit Go.Deep
set_option linter.unusedVariables false
open Txts (Texts)
open Fill
theorem ret_str {a b : ByteArray} (h : b = a) : Ending.returned (.string a) = .returned (.string b) := by rw [h]

set_option maxHeartbeats 1000000 in
theorem spec_any (s : ByteArray) (a : Option Addr) (cap : Nat) (A : List ByteArray) (w : World) (hN : Texts w a A) (hs : s.size ≤ 1048576) (hA : ∀ i (h : i < A.length), A[i].size ≤ 1048576) (hlen : A.length ≤ 1048576) :
    Calls Try.prog 12 #[.string s, .slice a A.length cap] w fun e w' => e = .returned (.string (filled s A)) ∧ w' = w := by
  obtain ⟨r, hr⟩ : ∃ r, r = filled s A := ⟨_, rfl⟩
  rw [← hr]
  obtain ⟨len, hl⟩ : ∃ len, len = A.length := ⟨_, rfl⟩
  have HL : Hid (len = A.length) := hl
  by_cases h80 : 80 < s.size
  · have HR : Hid (r = ⟨#[]⟩) := by rw [hr]; exact filled_no (fun h => by have := h.1; omega)
    clear hr hN hA
    rw [← hl] at hlen ⊢
    clear hl
    go_enter Try.func12, Try.ntmps12
    go_wp2
    go_ret
    exact ⟨ret_str HR.out, rfl⟩
  by_cases h9 : 9 < A.length
  · have HR : Hid (r = ⟨#[]⟩) := by rw [hr]; exact filled_no (fun h => by have := h.2.1; omega)
    clear hr hN hA
    rw [← hl] at hlen h9 ⊢
    clear hl
    have d9 : decide (9 < (len : Int)) = true := decide_eq_true (by omega)
    go_enter Try.func12, Try.ntmps12
    go_wp2
    go_ret
    exact ⟨ret_str HR.out, rfl⟩
  have HA : Hid (∀ i (h : i < A.length), A[i].size ≤ 1048576) := hA
  clear hA
  have HN : Hid (Texts w a A) := hN
  have HY : Hid ((∀ i (h : i < A.length), A[i].size ≤ 80) → fitB (fill s A 0) = true → r = fill s A 0) := fun h1 h2 => by rw [hr]; exact filled_yes ⟨by omega, by omega, h1, h2⟩
  have HX : Hid (fitB (fill s A 0) = false → r = ⟨#[]⟩) := fun h2 => by rw [hr]; exact filled_no (fun h => by rw [h.2.2.2] at h2; cases h2)
  have HZ : Hid (∀ i (h : i < A.length), 80 < A[i].size → r = ⟨#[]⟩) := fun i h h2 => by rw [hr]; exact filled_no (fun hg => by have := hg.2.2.1 i h; omega)
  have HI : Hid ((∀ i (h : i < A.length), A[i].size ≤ 80) → Calls Try.prog 23 #[.string s, .slice a len cap] w fun e w' => e = .returned (.tuple #[.string (fill s A 0), .bool (fitB (fill s A 0))]) ∧ w' = w) := fun h => by rw [hl]; exact l8Fill_any s a cap A w hN (by omega) h (by omega)
  clear hr
  rw [← hl] at hlen h9 ⊢
  clear hl
  have d9 : decide (9 < (len : Int)) = false := decide_eq_false (by omega)
  go_enter Try.func12, Try.ntmps12
  go_wp2
  go_loop [5] (fun i => ∃ (k : Nat), k ≤ len ∧ i = .int .i64 k ∧ Hid (shortB A k)) (fun i => len - (intOf i).toNat)
  case atStart => exact ⟨0, Nat.zero_le _, rfl, fun i _ h => absurd h (Nat.not_lt_zero _)⟩
  case round =>
    obtain ⟨k, hk, rfl, hsh⟩ := hrel
    by_cases hlt : k < len
    · have hkL : k < A.length := by have := HL.out; omega
      rcases hN with hnil | ⟨b, off, rfl, hb, hc⟩
      · exfalso; rw [hnil] at hkL; exact absurd hkL (by simp)
      have c0 : w.cell? ⟨b, off + k, none⟩ = some (.string A[k]) := hc k hkL
      have hz : A[k].size ≤ 1048576 := HA.out k hkL
      have HR := (show Hid _ from HZ.out k hkL)
      have HS : Hid (A[k].size ≤ 80 → shortB A (k + 1)) := fun hh i hi h => by
        by_cases e : i = k
        · subst e; exact hh
        · exact hsh.out i hi (by omega)
      clear hc HZ HY HX HI HA HN
      generalize A[k] = t at c0 hz HR HS
      by_cases ht : 80 < t.size
      · go_wp2
        go_ret
        exact ⟨ret_str (HR.out ht), rfl⟩
      · go_wp2
        go_round
        case rel => exact ⟨k + 1, by omega, by go_num, HS.out (by omega)⟩
        case measure => simp [intOf]; omega
    · have hall : ∀ i (h : i < A.length), A[i].size ≤ 80 := fun i hi => hsh.out i hi (by have := HL.out; omega)
      have ci := HI.out hall
      have HY' := (show Hid _ from HY.out hall)
      clear HI HY hsh hall hN HN HZ HA
      generalize fill s A 0 = t at ci HY' HX
      generalize hfit : fitB t = f at ci HY' HX
      clear hfit
      cases f
      · have HQ := (show Hid _ from HX.out rfl)
        clear HX HY'
        go_wp2_with (go_at_call 23; refine ci.mono ?_; rintro e w' ⟨rfl, rfl⟩)
        go_ret
        exact ⟨ret_str HQ.out, rfl⟩
      · have HQ := (show Hid _ from HY'.out rfl)
        clear HX HY'
        go_wp2_with (go_at_call 23; refine ci.mono ?_; rintro e w' ⟨rfl, rfl⟩)
        go_ret
        exact ⟨ret_str HQ.out, rfl⟩

set_option maxHeartbeats 1000000 in
theorem impl_any (s : ByteArray) (a : Option Addr) (cap : Nat) (A : List ByteArray) (w : World) (hN : Texts w a A) (hs : s.size ≤ 1048576) (hA : ∀ i (h : i < A.length), A[i].size ≤ 1048576) (hlen : A.length ≤ 1048576) :
    Calls Try.prog 11 #[.string s, .slice a A.length cap] w fun e w' => e = .returned (.string (filled s A)) ∧ Below w.heap.size w w' := by
  obtain ⟨r, hr⟩ : ∃ r, r = filled s A := ⟨_, rfl⟩
  rw [← hr]
  obtain ⟨len, hl⟩ : ∃ len, len = A.length := ⟨_, rfl⟩
  have HL : Hid (len = A.length) := hl
  by_cases h80 : 80 < s.size
  · have HR : Hid (r = ⟨#[]⟩) := by rw [hr]; exact filled_no (fun h => by have := h.1; omega)
    clear hr hN hA
    rw [← hl] at hlen ⊢
    clear hl
    go_enter Try.func11, Try.ntmps11
    go_wp2
    go_ret
    exact ⟨ret_str HR.out, Below.refl _ _⟩
  by_cases h9 : 9 < A.length
  · have HR : Hid (r = ⟨#[]⟩) := by rw [hr]; exact filled_no (fun h => by have := h.2.1; omega)
    clear hr hN hA
    rw [← hl] at hlen h9 ⊢
    clear hl
    have d9 : decide (9 < (len : Int)) = true := decide_eq_true (by omega)
    go_enter Try.func11, Try.ntmps11
    go_wp2
    go_ret
    exact ⟨ret_str HR.out, Below.refl _ _⟩
  have HA : Hid (∀ i (h : i < A.length), A[i].size ≤ 1048576) := hA
  clear hA
  have HN : Hid (Texts w a A) := hN
  have HY : Hid ((∀ i (h : i < A.length), A[i].size ≤ 80) → fitB (fill s A 0) = true → r = fill s A 0) := fun h1 h2 => by rw [hr]; exact filled_yes ⟨by omega, by omega, h1, h2⟩
  have HX : Hid (fitB (fill s A 0) = false → r = ⟨#[]⟩) := fun h2 => by rw [hr]; exact filled_no (fun h => by rw [h.2.2.2] at h2; cases h2)
  have HZ : Hid (∀ i (h : i < A.length), 80 < A[i].size → r = ⟨#[]⟩) := fun i h h2 => by rw [hr]; exact filled_no (fun hg => by have := hg.2.2.1 i h; omega)
  have HI : Hid ((∀ i (h : i < A.length), A[i].size ≤ 80) → Calls Try.prog 22 #[.string s, .slice a len cap] w fun e w' => e = .returned (.tuple #[.string (fill s A 0), .bool (fitB (fill s A 0))]) ∧ Below w.heap.size w w') := fun h => by rw [hl]; exact filledIn_any s a cap A w hN (by omega) h (by omega)
  clear hr
  rw [← hl] at hlen h9 ⊢
  clear hl
  have d9 : decide (9 < (len : Int)) = false := decide_eq_false (by omega)
  go_enter Try.func11, Try.ntmps11
  go_wp2
  go_loop [19] (fun i => ∃ (k : Nat), k ≤ len ∧ i = .int .i64 k ∧ Hid (shortB A k)) (fun i => len - (intOf i).toNat)
  case atStart => exact ⟨0, Nat.zero_le _, rfl, fun i _ h => absurd h (Nat.not_lt_zero _)⟩
  case round =>
    obtain ⟨k, hk, rfl, hsh⟩ := hrel
    by_cases hlt : k < len
    · have hkL : k < A.length := by have := HL.out; omega
      rcases hN with hnil | ⟨b, off, rfl, hb, hc⟩
      · exfalso; rw [hnil] at hkL; exact absurd hkL (by simp)
      have c0 : w.cell? ⟨b, off + k, none⟩ = some (.string A[k]) := hc k hkL
      have hz : A[k].size ≤ 1048576 := HA.out k hkL
      have HR := (show Hid _ from HZ.out k hkL)
      have HS : Hid (A[k].size ≤ 80 → shortB A (k + 1)) := fun hh i hi h => by
        by_cases e : i = k
        · subst e; exact hh
        · exact hsh.out i hi (by omega)
      clear hc HZ HY HX HI HA HN
      generalize A[k] = t at c0 hz HR HS
      by_cases ht : 80 < t.size
      · go_wp2
        go_ret
        exact ⟨ret_str (HR.out ht), Below.refl _ _⟩
      · go_wp2
        go_round
        case rel => exact ⟨k + 1, by omega, by go_num, HS.out (by omega)⟩
        case measure => simp [intOf]; omega
    · have hall : ∀ i (h : i < A.length), A[i].size ≤ 80 := fun i hi => hsh.out i hi (by have := HL.out; omega)
      have ci := HI.out hall
      have HY' := (show Hid _ from HY.out hall)
      clear HI HY hsh hall hN HN HZ HA
      generalize fill s A 0 = t at ci HY' HX
      generalize hfit : fitB t = f at ci HY' HX
      clear hfit
      cases f
      · have HQ := (show Hid _ from HX.out rfl)
        clear HX HY'
        go_wp2_with (go_at_call 22; refine ci.mono ?_; rintro e w' ⟨rfl, hb⟩)
        go_ret
        exact ⟨ret_str HQ.out, hb⟩
      · have HQ := (show Hid _ from HY'.out rfl)
        clear HX HY'
        go_wp2_with (go_at_call 22; refine ci.mono ?_; rintro e w' ⟨rfl, hb⟩)
        go_ret
        exact ⟨ret_str HQ.out, hb⟩
end Go.Proofs.Ytcjipfjbbdbbgaa.Fild
