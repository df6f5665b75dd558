/-
  Contracts of ours for the reading of numbers: spec.l1Digit, impl.digitOf, spec.l1Base, impl.wordOf, spec.ReadNum, impl.ReadNum, each at every argument; impl's where the table of digits holds what its initialiser lays.
-/
import Derived.Test.YtlobkgohenebmaaDoorRows
import Derived.WalkKit
import Derived.ProofKit
import Derived.OpenShut
import Derived.ShutString
import Derived.Outline
import Derived.WalkLawsBesides
namespace Go.Proofs.YtlobkgohenebmaaDoor.Nums
open Go.ChangeShapes Go.WideShapes Go.ChangeAt Go.RowKit

def digS (c : Int) : Int := if 48 ≤ c ∧ c ≤ 57 then c - 48 else if 65 ≤ c ∧ c ≤ 70 then c - 55 else 99
def digI (c : Int) : Int := if digS c = 99 then -1 else digS c
def tab : List Int := [48, 49, 50, 51, 52, 53, 54, 55, 56, 57, 65, 66, 67, 68, 69, 70]
/-- The table of digits lies where it was laid. -/
def Tab (w : World) : Prop := ∀ i, i < 16 → w.cell? ⟨0, i, none⟩ = some (.int .u8 (tab.getD i 0))

theorem ret_int {k : IntKind} {a b : Int} (h : a = b) : Ending.returned (.int k a) = .returned (.int k b) := by rw [h]
theorem ret_two {a a' : Int} {b b' : Bool} (h : a = a') (h' : b = b') : Ending.returned (.tuple #[.int .i64 a, .bool b]) = .returned (.tuple #[.int .i64 a', .bool b']) := by rw [h, h']
theorem digI_tab : ∀ k, k < 16 → digI (tab.getD k 0) = (k : Int) := by decide
theorem digI_none {c : Int} (h : ∀ j, j < 16 → tab.getD j 0 ≠ c) : digI c = -1 := by
  have e : digS c = 99 := by
    unfold digS
    by_cases h1 : 48 ≤ c ∧ c ≤ 57
    · exfalso
      have : c = 48 ∨ c = 49 ∨ c = 50 ∨ c = 51 ∨ c = 52 ∨ c = 53 ∨ c = 54 ∨ c = 55 ∨ c = 56 ∨ c = 57 := by omega
      rcases this with rfl | rfl | rfl | rfl | rfl | rfl | rfl | rfl | rfl | rfl
      · exact h 0 (by decide) rfl
      · exact h 1 (by decide) rfl
      · exact h 2 (by decide) rfl
      · exact h 3 (by decide) rfl
      · exact h 4 (by decide) rfl
      · exact h 5 (by decide) rfl
      · exact h 6 (by decide) rfl
      · exact h 7 (by decide) rfl
      · exact h 8 (by decide) rfl
      · exact h 9 (by decide) rfl
    · rw [if_neg h1]
      by_cases h2 : 65 ≤ c ∧ c ≤ 70
      · exfalso
        have : c = 65 ∨ c = 66 ∨ c = 67 ∨ c = 68 ∨ c = 69 ∨ c = 70 := by omega
        rcases this with rfl | rfl | rfl | rfl | rfl | rfl
        · exact h 10 (by decide) rfl
        · exact h 11 (by decide) rfl
        · exact h 12 (by decide) rfl
        · exact h 13 (by decide) rfl
        · exact h 14 (by decide) rfl
        · exact h 15 (by decide) rfl
      · rw [if_neg h2]
  unfold digI; rw [if_pos e]
theorem digS_bd (c : Int) : 0 ≤ digS c ∧ digS c ≤ 99 ∧ (digS c ≤ 15 ∨ digS c = 99) := by unfold digS; split <;> (try split) <;> omega

theorem l1Digit_any (c : Int) (w : World) (h0 : 0 ≤ c) (h1 : c ≤ 255) :
    Calls Tryd.prog 68 #[.int .u8 c] w fun e w' => e = .returned (.int .i64 (digS c)) ∧ w' = w := by
  have hc : c < 48 ∨ (48 ≤ c ∧ c ≤ 57) ∨ (57 < c ∧ c < 65) ∨ (65 ≤ c ∧ c ≤ 70) ∨ 70 < c := by omega
  rcases hc with h | ⟨h, h'⟩ | ⟨h, h'⟩ | ⟨h, h'⟩ | h
  · have hs : digS c = 99 := by unfold digS; rw [if_neg (by omega), if_neg (by omega)]
    go_enter Tryd.func68, Tryd.ntmps68
    go_wp2
    go_ret
    first | exact ⟨rfl, rfl⟩ | exact ⟨ret_int hs.symm, rfl⟩
  · have hs : digS c = c - 48 := by unfold digS; rw [if_pos ⟨h, h'⟩]
    have hd : decide (c ≤ 57) = true := decide_eq_true h'
    go_enter Tryd.func68, Tryd.ntmps68
    go_wp2
    go_ret
    first | exact ⟨rfl, rfl⟩ | exact ⟨ret_int hs.symm, rfl⟩
  · have hs : digS c = 99 := by unfold digS; rw [if_neg (by omega), if_neg (by omega)]
    have hd : decide (c ≤ 57) = false := decide_eq_false (by omega)
    go_enter Tryd.func68, Tryd.ntmps68
    go_wp2
    go_ret
    first | exact ⟨rfl, rfl⟩ | exact ⟨ret_int hs.symm, rfl⟩
  · have hs : digS c = c - 65 + 10 := by unfold digS; rw [if_neg (by omega), if_pos ⟨h, h'⟩]; omega
    have hd : decide (c ≤ 57) = false := decide_eq_false (by omega)
    have hd' : decide (c ≤ 70) = true := decide_eq_true h'
    go_enter Tryd.func68, Tryd.ntmps68
    go_wp2
    go_ret
    first | exact ⟨rfl, rfl⟩ | exact ⟨ret_int hs.symm, rfl⟩
  · have hs : digS c = 99 := by unfold digS; rw [if_neg (by omega), if_neg (by omega)]
    have hd : decide (c ≤ 57) = false := decide_eq_false (by omega)
    have hd' : decide (c ≤ 70) = false := decide_eq_false (by omega)
    go_enter Tryd.func68, Tryd.ntmps68
    go_wp2
    go_ret
    first | exact ⟨rfl, rfl⟩ | exact ⟨ret_int hs.symm, rfl⟩

theorem digitOf_any (c : Int) (w : World) (hT : Tab w) :
    Calls Tryd.prog 70 #[.int .u8 c] w fun e w' => e = .returned (.int .i64 (digI c)) ∧ w' = w := by
  go_enter Tryd.func70, Tryd.ntmps70
  go_wp2
  go_loop [4] (fun i => ∃ k : Nat, k ≤ 16 ∧ i = .int .i64 k ∧ ∀ j, j < k → tab.getD j 0 ≠ c) (fun i => 16 - (intOf i).toNat)
  case atStart => exact ⟨0, Nat.zero_le _, rfl, fun j h => absurd h (Nat.not_lt_zero _)⟩
  case round =>
    obtain ⟨k, hk, rfl, hu⟩ := hrel
    by_cases hlt : k < 16
    · have hcell := hT k hlt
      clear hT
      by_cases hc : tab.getD k 0 = c
      · have hd : digI c = (k : Int) := by rw [← hc]; exact digI_tab k hlt
        have HD : Hid (digI c = (k : Int)) := hd
        rw [hc] at hcell
        clear hc hd hu
        go_wp2
        go_ret
        exact ⟨ret_int HD.out.symm, rfl⟩
      · have hb : (tab.getD k 0 == c) = false := by simpa using hc
        have hT' : ∃ t, t = tab.getD k 0 := ⟨_, rfl⟩
        obtain ⟨t, ht⟩ := hT'
        rw [← ht] at hcell hb
        clear ht
        go_wp2
        go_round
        case rel =>
          refine ⟨k + 1, by omega, by go_num, fun j h => ?_⟩
          by_cases e : j = k
          · subst e; exact hc
          · exact hu j (by omega)
        case measure => simp [intOf]; omega
    · have hd : digI c = -1 := digI_none (fun j h => hu j (by omega))
      have HD : Hid (digI c = -1) := hd
      clear hd hT
      go_wp2
      go_ret
      exact ⟨ret_int HD.out.symm, rfl⟩

/-- The number that digits of a base are, behind what is read so far; none: a byte is no such digit, or it passes a word. -/
def word (base : Int) : Int → List UInt8 → Option Int
  | n, [] => some n
  | n, c :: r => if base ≤ digS (c.toNat : Int) then none else if 65535 < n * base + digS (c.toNat : Int) then none else word base (n * base + digS (c.toNat : Int)) r
def base (s : ByteArray) (b : Int) : Option Int := if s.size = 0 then none else word b 0 s.data.toList
theorem drop_at (s : ByteArray) (k : Nat) (h : k < s.size) : s.data.toList.drop k = s[k] :: s.data.toList.drop (k + 1) := by
  rw [List.drop_eq_getElem_cons (by simpa using h)]; rfl
theorem drop_end (s : ByteArray) (k : Nat) (h : s.size ≤ k) : s.data.toList.drop k = [] :=
  List.drop_eq_nil_of_le (by rw [Array.length_toList]; exact h)
theorem empty_yes {s : ByteArray} (h : s.size = 0) : s.toList.isEmpty = true := by
  rw [ByteArray.toList_eq, List.isEmpty_iff_length_eq_zero, Array.length_toList]; exact h
theorem empty_no {s : ByteArray} (h : ¬ s.size = 0) : s.toList.isEmpty = false := by
  rw [ByteArray.toList_eq]; cases e : s.data.toList with
  | nil => exact absurd (by have := congrArg List.length e; rw [Array.length_toList] at this; exact this) h
  | cons _ _ => rfl
theorem mul_bd {m b : Int} (h0 : 0 ≤ m) (h1 : m ≤ 65535) (hb0 : 2 ≤ b) (hb1 : b ≤ 16) : 0 ≤ m * b ∧ m * b ≤ 1048560 := by
  constructor
  · exact Int.mul_nonneg h0 (by omega)
  · calc m * b ≤ 65535 * b := Int.mul_le_mul_of_nonneg_right h1 (by omega)
      _ ≤ 65535 * 16 := Int.mul_le_mul_of_nonneg_left hb1 (by decide)
      _ = 1048560 := by decide

set_option maxHeartbeats 400000 in
theorem wordOf_any (s : ByteArray) (b : Int) (w : World) (hT : Tab w) (hs : s.size ≤ maxLen) (hb0 : 2 ≤ b) (hb1 : b ≤ 16) :
    Calls Tryd.prog 69 #[.string s, .int .i64 b] w fun e w' => e = .returned (.tuple #[.int .i64 ((base s b).getD 0), .bool (base s b).isSome]) ∧ w' = w := by
  unfold maxLen at hs
  by_cases h0 : s.size = 0
  · have hn : base s b = none := by unfold base; rw [if_pos h0]
    rw [hn]
    have he := empty_yes h0
    clear hT
    go_enter Tryd.func69, Tryd.ntmps69
    go_wp2
    go_ret2
    exact ⟨rfl, rfl⟩
  have he := empty_no h0
  have hw : base s b = word b 0 s.data.toList := by unfold base; rw [if_neg h0]
  rw [hw]
  clear hw
  obtain ⟨r, hr⟩ : ∃ r, r = word b 0 s.data.toList := ⟨_, rfl⟩
  rw [← hr]
  have HT : Hid (Tab w) := hT
  clear hT
  go_enter Tryd.func69, Tryd.ntmps69
  go_wp2
  go_loop [6, 7] (fun n i => ∃ (k : Nat) (m : Int), k ≤ s.size ∧ 0 ≤ m ∧ m ≤ 65535 ∧ i = .int .i64 k ∧ n = .int .i64 m ∧ Hid (r = word b m (s.data.toList.drop k))) (fun _ i => s.size - (intOf i).toNat)
  case atStart => exact ⟨0, 0, Nat.zero_le _, by omega, by omega, rfl, rfl, hr⟩
  case round =>
    clear hr
    obtain ⟨k, m, hk, hm0, hm1, rfl, rfl, hw⟩ := hrel
    have hmul := mul_bd hm0 hm1 hb0 hb1
    obtain ⟨hmul0, hmul1⟩ := hmul
    by_cases hlt : k < s.size
    · have hd := digS_bd (s[k].toNat : Int)
      have hw' : Hid (r = if b ≤ digS (s[k].toNat : Int) then none else if 65535 < m * b + digS (s[k].toNat : Int) then none else word b (m * b + digS (s[k].toNat : Int)) (s.data.toList.drop (k + 1))) := by
        have := hw.out; rw [drop_at s k hlt] at this; exact this
      clear hw
      obtain ⟨d, hdd⟩ : ∃ d, d = digS (s[k].toNat : Int) := ⟨_, rfl⟩
      rw [← hdd] at hd hw'
      have hI : digI (s[k].toNat : Int) = -1 ∧ d = 99 ∨ digI (s[k].toNat : Int) = d ∧ d ≤ 15 := by
        unfold digI; rw [← hdd]
        by_cases e : d = 99
        · exact .inl ⟨if_pos e, e⟩
        · exact .inr ⟨if_neg e, by omega⟩
      clear hdd
      have cal : Calls Tryd.prog 70 #[.int .u8 (s[k].toNat : Int)] w fun e w' => e = .returned (.int .i64 (digI (s[k].toNat : Int))) ∧ w' = w := digitOf_any _ w HT.out
      obtain ⟨hd0, -, -⟩ := hd
      rcases hI with ⟨e, e'⟩ | ⟨e, e'⟩
      · rw [e] at cal
        have hw'' : r = none := by have := hw'.out; rw [if_pos (by omega)] at this; exact this
        have HR : Hid (r = none) := hw''
        clear e e' hd0 hw' hw''
        go_wp2_with (go_at_call 70; refine cal.mono ?_; rintro e w' ⟨rfl, rfl⟩)
        go_ret2
        exact ⟨by rw [HR.out]; rfl, rfl⟩
      · rw [e] at cal
        clear e
        by_cases hbd : b ≤ d
        · have HR : Hid (r = none) := by have := hw'.out; rw [if_pos hbd] at this; exact this
          have hdb : decide (b ≤ d) = true := decide_eq_true hbd
          clear hw'
          go_wp2_with (go_at_call 70; refine cal.mono ?_; rintro e w' ⟨rfl, rfl⟩)
          go_ret2
          exact ⟨by rw [HR.out]; rfl, rfl⟩
        · have hdb : decide (b ≤ d) = false := decide_eq_false hbd
          by_cases hbig : 65535 < m * b + d
          · have HR : Hid (r = none) := by have := hw'.out; rw [if_neg hbd, if_pos hbig] at this; exact this
            clear hw'
            go_wp2_with (go_at_call 70; refine cal.mono ?_; rintro e w' ⟨rfl, rfl⟩)
            go_ret2
            exact ⟨by rw [HR.out]; rfl, rfl⟩
          · have HR : Hid (r = word b (m * b + d) (s.data.toList.drop (k + 1))) := by have := hw'.out; rw [if_neg hbd, if_neg hbig] at this; exact this
            clear hw'
            go_wp2_with (go_at_call 70; refine cal.mono ?_; rintro e w' ⟨rfl, rfl⟩)
            go_round
            case rel => exact ⟨k + 1, m * b + d, by omega, by omega, by omega, by go_num, rfl, HR⟩
            case measure => simp [intOf]; omega
    · have HR : Hid (r = some m) := by have := hw.out; rw [drop_end s k (by omega)] at this; exact this
      clear hw
      go_wp2
      go_ret2
      exact ⟨by rw [HR.out]; rfl, rfl⟩

set_option maxHeartbeats 400000 in
theorem l1Base_any (s : ByteArray) (b : Int) (w : World) (hs : s.size ≤ maxLen) (hb0 : 2 ≤ b) (hb1 : b ≤ 16) :
    Calls Tryd.prog 59 #[.string s, .int .i64 b] w fun e w' => e = .returned (.tuple #[.int .i64 ((base s b).getD 0), .bool (base s b).isSome]) ∧ w' = w := by
  unfold maxLen at hs
  by_cases h0 : s.size = 0
  · have hn : base s b = none := by unfold base; rw [if_pos h0]
    rw [hn]
    have he := empty_yes h0
    go_enter Tryd.func59, Tryd.ntmps59
    go_wp2
    go_loop [6, 7] (fun n i => i = .int .i64 0 ∧ n = .int .i64 0) (fun _ _ => 0)
    case atStart => exact ⟨rfl, rfl⟩
    case round =>
      obtain ⟨rfl, rfl⟩ := hrel
      go_wp2
      go_ret2
      exact ⟨rfl, rfl⟩
  have he := empty_no h0
  have hw : base s b = word b 0 s.data.toList := by unfold base; rw [if_neg h0]
  rw [hw]
  clear hw
  obtain ⟨r, hr⟩ : ∃ r, r = word b 0 s.data.toList := ⟨_, rfl⟩
  rw [← hr]
  go_enter Tryd.func59, Tryd.ntmps59
  go_wp2
  go_loop [6, 7] (fun n i => ∃ (k : Nat) (m : Int), k ≤ s.size ∧ 0 ≤ m ∧ m ≤ 65535 ∧ i = .int .i64 k ∧ n = .int .i64 m ∧ Hid (r = word b m (s.data.toList.drop k))) (fun _ i => s.size - (intOf i).toNat)
  case atStart => exact ⟨0, 0, Nat.zero_le _, by omega, by omega, rfl, rfl, hr⟩
  case round =>
    clear hr
    obtain ⟨k, m, hk, hm0, hm1, rfl, rfl, hw⟩ := hrel
    have hmul := mul_bd hm0 hm1 hb0 hb1
    obtain ⟨hmul0, hmul1⟩ := hmul
    by_cases hlt : k < s.size
    · have hd := digS_bd (s[k].toNat : Int)
      have hw' : Hid (r = if b ≤ digS (s[k].toNat : Int) then none else if 65535 < m * b + digS (s[k].toNat : Int) then none else word b (m * b + digS (s[k].toNat : Int)) (s.data.toList.drop (k + 1))) := by
        have := hw.out; rw [drop_at s k hlt] at this; exact this
      clear hw
      have h8 : (s[k].toNat : Int) ≤ 255 := by have := s[k].toNat_lt; omega
      have cal : Calls Tryd.prog 68 #[.int .u8 (s[k].toNat : Int)] w fun e w' => e = .returned (.int .i64 (digS (s[k].toNat : Int))) ∧ w' = w := l1Digit_any _ w (by omega) h8
      obtain ⟨d, hdd⟩ : ∃ d, d = digS (s[k].toNat : Int) := ⟨_, rfl⟩
      rw [← hdd] at hd hw' cal
      obtain ⟨hd0, hd1, -⟩ := hd
      clear hdd h8
      by_cases hbd : b ≤ d
      · have HR : Hid (r = none) := by have := hw'.out; rw [if_pos hbd] at this; exact this
        clear hw'
        go_wp2_with (go_at_call 68; refine cal.mono ?_; rintro e w' ⟨rfl, rfl⟩)
        go_ret2
        exact ⟨by rw [HR.out]; rfl, rfl⟩
      · by_cases hbig : 65535 < m * b + d
        · have HR : Hid (r = none) := by have := hw'.out; rw [if_neg hbd, if_pos hbig] at this; exact this
          clear hw'
          go_wp2_with (go_at_call 68; refine cal.mono ?_; rintro e w' ⟨rfl, rfl⟩)
          go_ret2
          exact ⟨by rw [HR.out]; rfl, rfl⟩
        · have HR : Hid (r = word b (m * b + d) (s.data.toList.drop (k + 1))) := by have := hw'.out; rw [if_neg hbd, if_neg hbig] at this; exact this
          clear hw'
          go_wp2_with (go_at_call 68; refine cal.mono ?_; rintro e w' ⟨rfl, rfl⟩)
          go_round
          case rel => exact ⟨k + 1, m * b + d, by omega, by omega, by omega, by go_num, rfl, HR⟩
          case measure => simp [intOf]; omega
    · have HR : Hid (r = some m) := by have := hw.out; rw [drop_end s k (by omega)] at this; exact this
      clear hw
      go_wp2
      go_ret2
      exact ⟨by rw [HR.out]; rfl, rfl⟩

/-- What ReadNum reads; none: no number. -/
def num (s : ByteArray) : Option Int :=
  if s.size = 0 ∨ 18 < s.size then none
  else if (s.data.getD 0 0).toNat = 36 then base (s.extract 1 s.size) 16
  else if (s.data.getD 0 0).toNat = 37 then base (s.extract 1 s.size) 2
  else base s 10
theorem getD_at (s : ByteArray) (h : 0 < s.size) : s.data.getD 0 0 = s[0] := by
  show s.data.getD 0 0 = s.data[0]
  rw [Array.getD_eq_getD_getElem?, Array.getElem?_eq_getElem h]; rfl
theorem cut_size (s : ByteArray) : (s.extract 1 s.size).size = s.size - 1 := by rw [ByteArray.size_extract]; omega

set_option maxHeartbeats 400000 in
theorem implNum_any (s : ByteArray) (w : World) (hT : Tab w) (hs : s.size ≤ maxLen) :
    Calls Tryd.prog 62 #[.string s] w fun e w' => e = .returned (.tuple #[.int .i64 ((num s).getD 0), .bool (num s).isSome]) ∧ w' = w := by
  have HT : Hid (Tab w) := hT
  clear hT
  by_cases h0 : s.size = 0
  · have hn : num s = none := by unfold num; rw [if_pos (.inl h0)]
    rw [hn]
    have he := empty_yes h0
    unfold maxLen at hs
    go_enter Tryd.func62, Tryd.ntmps62
    go_wp2
    go_ret2
    exact ⟨rfl, rfl⟩
  have he := empty_no h0
  by_cases h18 : 18 < s.size
  · have hn : num s = none := by unfold num; rw [if_pos (.inr h18)]
    rw [hn]
    unfold maxLen at hs
    go_enter Tryd.func62, Tryd.ntmps62
    go_wp2
    go_ret2
    exact ⟨rfl, rfl⟩
  have hp : 0 < s.size := by omega
  have hz : (s.extract 1 s.size).size ≤ maxLen := by rw [cut_size]; omega
  have c16 := wordOf_any (s.extract 1 s.size) 16 w HT.out hz (by decide) (by decide)
  have c2 := wordOf_any (s.extract 1 s.size) 2 w HT.out hz (by decide) (by decide)
  have c10 := wordOf_any s 10 w HT.out hs (by decide) (by decide)
  clear hz
  unfold maxLen at hs
  by_cases a1 : s[0].toNat = 36
  · have hn : num s = base (s.extract 1 s.size) 16 := by unfold num; rw [if_neg (by omega), getD_at s hp, if_pos a1]
    rw [hn]
    have b1 : ((s[0].toNat : Int) == 36) = true := by simp; omega
    clear hn c2 c10
    go_enter Tryd.func62, Tryd.ntmps62
    go_wp2_with (go_at_call 69; refine c16.mono ?_; rintro e w' ⟨rfl, rfl⟩)
    go_ret2
    exact ⟨rfl, rfl⟩
  by_cases a2 : s[0].toNat = 37
  · have hn : num s = base (s.extract 1 s.size) 2 := by unfold num; rw [if_neg (by omega), getD_at s hp, if_neg a1, if_pos a2]
    rw [hn]
    have b1 : ((s[0].toNat : Int) == 36) = false := by simp; omega
    have b2 : ((s[0].toNat : Int) == 37) = true := by simp; omega
    clear hn c16 c10
    go_enter Tryd.func62, Tryd.ntmps62
    go_wp2_with (go_at_call 69; refine c2.mono ?_; rintro e w' ⟨rfl, rfl⟩)
    go_ret2
    exact ⟨rfl, rfl⟩
  · have hn : num s = base s 10 := by unfold num; rw [if_neg (by omega), getD_at s hp, if_neg a1, if_neg a2]
    rw [hn]
    have b1 : ((s[0].toNat : Int) == 36) = false := by simp; omega
    have b2 : ((s[0].toNat : Int) == 37) = false := by simp; omega
    clear hn c16 c2
    go_enter Tryd.func62, Tryd.ntmps62
    go_wp2_with (go_at_call 69; refine c10.mono ?_; rintro e w' ⟨rfl, rfl⟩)
    go_ret2
    exact ⟨rfl, rfl⟩

set_option maxHeartbeats 400000 in
theorem specNum_any (s : ByteArray) (w : World) (hs : s.size ≤ maxLen) :
    Calls Tryd.prog 48 #[.string s] w fun e w' => e = .returned (.tuple #[.int .i64 ((num s).getD 0), .bool (num s).isSome]) ∧ w' = w := by
  by_cases h18 : 18 < s.size
  · have hn : num s = none := by unfold num; rw [if_pos (.inr h18)]
    rw [hn]
    unfold maxLen at hs
    go_enter Tryd.func48, Tryd.ntmps48
    go_wp2
    go_ret2
    exact ⟨rfl, rfl⟩
  by_cases h0 : s.size = 0
  · have hn : num s = none := by unfold num; rw [if_pos (.inl h0)]
    rw [hn]
    have he := empty_yes h0
    unfold maxLen at hs
    go_enter Tryd.func48, Tryd.ntmps48
    go_wp2
    go_ret2
    exact ⟨rfl, rfl⟩
  have he := empty_no h0
  have hp : 0 < s.size := by omega
  have hz : (s.extract 1 s.size).size ≤ maxLen := by rw [cut_size]; omega
  have c16 := l1Base_any (s.extract 1 s.size) 16 w hz (by decide) (by decide)
  have c2 := l1Base_any (s.extract 1 s.size) 2 w hz (by decide) (by decide)
  have c10 := l1Base_any s 10 w hs (by decide) (by decide)
  clear hz
  unfold maxLen at hs
  by_cases a1 : s[0].toNat = 36
  · have hn : num s = base (s.extract 1 s.size) 16 := by unfold num; rw [if_neg (by omega), getD_at s hp, if_pos a1]
    rw [hn]
    have b1 : ((s[0].toNat : Int) == 36) = true := by simp; omega
    clear hn c2 c10
    go_enter Tryd.func48, Tryd.ntmps48
    go_wp2_with (go_at_call 59; refine c16.mono ?_; rintro e w' ⟨rfl, rfl⟩)
    go_ret2
    exact ⟨rfl, rfl⟩
  by_cases a2 : s[0].toNat = 37
  · have hn : num s = base (s.extract 1 s.size) 2 := by unfold num; rw [if_neg (by omega), getD_at s hp, if_neg a1, if_pos a2]
    rw [hn]
    have b1 : ((s[0].toNat : Int) == 36) = false := by simp; omega
    have b2 : ((s[0].toNat : Int) == 37) = true := by simp; omega
    clear hn c16 c10
    go_enter Tryd.func48, Tryd.ntmps48
    go_wp2_with (go_at_call 59; refine c2.mono ?_; rintro e w' ⟨rfl, rfl⟩)
    go_ret2
    exact ⟨rfl, rfl⟩
  · have hn : num s = base s 10 := by unfold num; rw [if_neg (by omega), getD_at s hp, if_neg a1, if_neg a2]
    rw [hn]
    have b1 : ((s[0].toNat : Int) == 36) = false := by simp; omega
    have b2 : ((s[0].toNat : Int) == 37) = false := by simp; omega
    clear hn c16 c2
    go_enter Tryd.func48, Tryd.ntmps48
    go_wp2_with (go_at_call 59; refine c10.mono ?_; rintro e w' ⟨rfl, rfl⟩)
    go_ret2
    exact ⟨rfl, rfl⟩

end Go.Proofs.YtlobkgohenebmaaDoor.Nums
