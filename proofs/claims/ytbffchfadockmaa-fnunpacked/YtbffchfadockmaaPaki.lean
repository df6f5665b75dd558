/-
  Contracts of ours for impl.alikeAhead and impl.othersAhead, at every text.
-/
import Derived.Test.YtbffchfadockmaaPaks
namespace Go.Proofs.Ytbffchfadockmaa.Paki
open Go.ChangeShapes Go.WideShapes Go.ChangeAt Go.RowKit Go.Deep
open Pakp Paks
set_option linter.unusedVariables false
set_option maxRecDepth 20000
theorem D_ext (s : ByteArray) (k : Nat) : D (s.extract k s.size) 0 = D s k := by
  unfold D
  rw [List.drop_zero, ByteArray.data_extract, Array.toList_extract, List.extract_eq_take_drop, List.take_of_length_le (by simp)]
set_option maxHeartbeats 1000000 in
theorem alike_any (s : ByteArray) (w : World) (hs : s.size ≤ 1048576) :
    Calls Try.prog 23 #[.string s] w fun e w' => e = .returned (.int .i64 (run (D s 0) : Nat)) ∧ ∃ n, w' = w.drewN n := by
  have HL := D_len s 0
  by_cases hs0 : s.size = 0
  · have HE : Hid ((run (D s 0) : Int) = 0) := by
      have : D s 0 = [] := List.eq_nil_of_length_eq_zero (by omega)
      show _ = _
      rw [this]; rfl
    go_enter Try.func23, Try.ntmps23
    go_wp2
    go_loopw [3] (fun i wr => i = .int .i64 0 ∧ wr = w) (fun _ _ => 0)
    case atStart => exact ⟨rfl, rfl⟩
    case round =>
      obtain ⟨rfl, rfl⟩ := hrel
      have d1 : decide ((0 : Int) < (s.size : Int)) = false := decide_eq_false (by omega)
      go_wp2_with fail
      go_quiet (fail)
      go_wp2
      go_ret
      exact ⟨ret_int HE.out.symm, _, rfl⟩
  have h00 : 0 < s.size := by omega
  have HN0 : Hid (run (D s 0) = run (D s 0)) := rfl
  go_enter Try.func23, Try.ntmps23
  go_wp2
  go_loopw [3] (fun i wr => ∃ (n : Nat), n ≤ 128 ∧ n ≤ s.size ∧ i = .int .i64 n ∧ Hid (∀ i, i < n → (D s 0)[i]? = some s[0]) ∧ Hid (∃ m, wr = w.drewN m)) (fun i _ => 200 - (intOf i).toNat)
  case atStart => exact ⟨0, by omega, by omega, rfl, fun i h => absurd h (Nat.not_lt_zero _), 0, rfl⟩
  case round =>
    clear HN0
    obtain ⟨n, h2, h3, rfl, hall, hw⟩ := hrel
    have E : Hid (1 ≤ n → (n = (D s 0).length ∨ n = 128 ∨ (D s 0)[n]? ≠ some s[0]) → (run (D s 0) : Int) = n) := fun h1 he => by rw [run_eq h1 h2 (by rw [HL]; omega) hall.out he]
    have DA : Hid (∀ h : n < s.size, (D s 0)[n]? = some s[n]) := fun h => by have := D_at s 0 n (by omega); simpa only [Nat.zero_add] using this
    have k1 : (0 : Int) < (s.size : Int) := by omega
    by_cases c1 : n < s.size
    · have d1 : decide ((n : Int) < (s.size : Int)) = true := decide_eq_true (by omega)
      have e3 : (0 : Int) ≤ (n : Int) := by omega
      have e4 : (n : Int) < (s.size : Int) := by omega
      by_cases c2 : n < 128
      · have d2 : decide ((n : Int) < 128) = true := decide_eq_true (by omega)
        by_cases c3 : s[n] = s[0]
        · have HN : Hid (∀ i, i < n + 1 → (D s 0)[i]? = some s[0]) := fun i hi => by
            rcases Nat.lt_or_ge i n with h' | h'
            · exact hall.out i h'
            · obtain rfl : i = n := by omega
              rw [DA.out c1, c3]
          have c3 : (s[n].toNat : Int) = (s[0].toNat : Int) := eq_byte.2 c3
          clear E hall DA
          go_wp2_with fail
          go_quiet (fail)
          go_wp2
          go_roundw
          case rel => obtain ⟨m, rfl⟩ := hw.out
                      exact ⟨n + 1, by omega, by omega, by go_num, HN.out, _, World.drewN_drewN _ _ _⟩
          case measure => simp [intOf]; omega
        · have HE : Hid ((run (D s 0) : Int) = n) := E.out (by
            rcases Nat.eq_zero_or_pos n with h | h
            · subst h; exact absurd rfl c3
            · exact h) (.inr (.inr (by rw [DA.out c1]; simpa using c3)))
          have c3 : ¬ (s[n].toNat : Int) = (s[0].toNat : Int) := fun h => c3 (eq_byte.1 h)
          have c4 : ((s[n].toNat : Int) == (s[0].toNat : Int)) = false := by simpa using c3
          clear E hall DA
          go_wp2_with fail
          go_quiet (fail)
          go_wp2
          go_ret
          obtain ⟨m, rfl⟩ := hw.out
          exact ⟨ret_int HE.out.symm, _, World.drewN_drewN _ _ _⟩
      · have HE : Hid ((run (D s 0) : Int) = n) := E.out (by omega) (.inr (.inl (by omega)))
        have d2 : decide ((n : Int) < 128) = false := decide_eq_false (by omega)
        clear E hall DA
        go_wp2_with fail
        go_quiet (fail)
        go_wp2
        go_ret
        obtain ⟨m, rfl⟩ := hw.out
        exact ⟨ret_int HE.out.symm, _, World.drewN_drewN _ _ _⟩
    · have HE : Hid ((run (D s 0) : Int) = n) := E.out (by omega) (.inl (by rw [HL]; omega))
      have d1 : decide ((n : Int) < (s.size : Int)) = false := decide_eq_false (by omega)
      clear E hall DA
      go_wp2_with fail
      go_quiet (fail)
      go_wp2
      go_ret
      obtain ⟨m, rfl⟩ := hw.out
      exact ⟨ret_int HE.out.symm, _, World.drewN_drewN _ _ _⟩
set_option maxHeartbeats 1000000 in
theorem others_any (s : ByteArray) (w : World) (hs : s.size ≤ 1048576) :
    Calls Try.prog 24 #[.string s] w fun e w' => e = .returned (.int .i64 (oth 128 (D s 0) : Nat)) ∧ ∃ n, w' = w.drewN n := by
  have OE : Hid (∀ n, n ≤ 128 → n ≤ s.size → (∀ i, i < n → run (D s i) < 3) → (n = s.size ∨ n = 128 ∨ 3 ≤ run (D s n)) → oth 128 (D s 0) = n) := fun n h1 h2 h3 h4 =>
    oth_eq 128 (D s 0) n h1 (by rw [D_len]; omega) (fun i hi => by rw [D_drop, Nat.zero_add]; exact h3 i hi) (by rw [D_drop, D_len, Nat.zero_add]; omega)
  generalize oth 128 (D s 0) = m at *
  go_enter Try.func24, Try.ntmps24
  go_wp2
  go_loopw [3] (fun i wr => ∃ (n : Nat), n ≤ 128 ∧ n ≤ s.size ∧ i = .int .i64 n ∧ Hid (∀ i, i < n → run (D s i) < 3) ∧ Hid (∃ m, wr = w.drewN m)) (fun i _ => 200 - (intOf i).toNat)
  case atStart => exact ⟨0, by omega, by omega, rfl, fun i h => absurd h (Nat.not_lt_zero _), 0, rfl⟩
  case round =>
    obtain ⟨n, h2, h3, rfl, hall, hw⟩ := hrel
    have FIN : Hid ((n = s.size ∨ n = 128 ∨ 3 ≤ run (D s n)) → (m : Int) = n) := fun h => by rw [OE.out n h2 h3 hall.out h]
    by_cases c1 : n < s.size
    · have d1 : decide ((n : Int) < (s.size : Int)) = true := decide_eq_true (by omega)
      have e3 : (0 : Int) ≤ (n : Int) := by omega
      have e4 : (n : Int) ≤ (s.size : Int) := by omega
      have c := fun w => alike_any (s.extract n s.size) w (by rw [ByteArray.size_extract]; omega)
      rw [D_ext] at c
      have q8 := run_le (D s n)
      by_cases c2 : n < 128
      · have d2 : decide ((n : Int) < 128) = true := decide_eq_true (by omega)
        by_cases c3 : run (D s n) < 3
        · have HN : Hid (∀ i, i < n + 1 → run (D s i) < 3) := fun i hi => by
            rcases Nat.lt_or_ge i n with h' | h'
            · exact hall.out i h'
            · obtain rfl : i = n := by omega
              exact c3
          clear FIN hall OE
          generalize run (D s n) = q at *
          have d3 : decide ((q : Int) < 3) = true := decide_eq_true (by omega)
          go_wp2_with (go_at_call 23; refine (c _).mono ?_; rintro e w2 ⟨rfl, n2, hn2⟩; have hw2 : Hid (∃ m, w2 = w.drewN m) := (by obtain ⟨m, hm⟩ := hw.out; exact ⟨m + n2, by rw [hn2, hm, World.drewN_drewN]⟩); clear hn2 hw c)
          go_roundw
          case rel => exact ⟨n + 1, by omega, by omega, by go_num, HN.out, hw2.out⟩
          case measure => simp [intOf]; omega
        · have HE : Hid ((m : Int) = n) := FIN.out (.inr (.inr (by omega)))
          clear FIN hall OE
          generalize run (D s n) = q at *
          have d3 : decide ((q : Int) < 3) = false := decide_eq_false (by omega)
          go_wp2_with (go_at_call 23; refine (c _).mono ?_; rintro e w2 ⟨rfl, n2, hn2⟩; have hw2 : Hid (∃ m, w2 = w.drewN m) := (by obtain ⟨m, hm⟩ := hw.out; exact ⟨m + n2, by rw [hn2, hm, World.drewN_drewN]⟩); clear hn2 hw c)
          go_ret
          exact ⟨ret_int HE.out.symm, hw2.out⟩
      · have HE : Hid ((m : Int) = n) := FIN.out (.inr (.inl (by omega)))
        have d2 : decide ((n : Int) < 128) = false := decide_eq_false (by omega)
        clear FIN hall OE c q8
        go_wp2
        go_ret
        exact ⟨ret_int HE.out.symm, hw.out⟩
    · have HE : Hid ((m : Int) = n) := FIN.out (.inl (by omega))
      have d1 : decide ((n : Int) < (s.size : Int)) = false := decide_eq_false (by omega)
      clear FIN hall OE
      go_wp2
      go_ret
      exact ⟨ret_int HE.out.symm, hw.out⟩
end Go.Proofs.Ytbffchfadockmaa.Paki
