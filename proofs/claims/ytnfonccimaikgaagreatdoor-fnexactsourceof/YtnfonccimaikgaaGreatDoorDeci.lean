/-
  A contract of ours for spec.l1Dec at small numbers, below 0 too: their digits.
-/
import Derived.Test.YtnfonccimaikgaaGreatDoorSigned
import Derived.Laws.BytesArg
import Derived.LoopN
import Derived.Below
import Derived.ProofKit
import Derived.ShutString
import Derived.Lib.ItoaLen
namespace Go.Proofs.YtnfonccimaikgaaGreatDoor.Deci
open Go.ChangeShapes Go.WideShapes Go.ChangeAt Go.RowKit
set_option linter.unusedVariables false
set_option maxRecDepth 20000

/-- A number's decimal digits, ahead of a text. -/
def dec (n : Int) (t : ByteArray) : ByteArray := if n < 10 then strOfNums [48 + n] ++ t else dec (n / 10) (strOfNums [48 + n % 10] ++ t)
termination_by n.toNat
decreasing_by omega
theorem dec_small {n : Int} {t : ByteArray} (h : n < 10) : dec n t = strOfNums [48 + n] ++ t := by rw [dec, if_pos h]
theorem dec_great {n : Int} {t : ByteArray} (h : ¬ n < 10) : dec n t = dec (n / 10) (strOfNums [48 + n % 10] ++ t) := by rw [dec, if_neg h]
theorem one_size (x : Int) : (strOfNums [x]).size = 1 := strOfNums_size _
theorem cat_size (x : Int) (t : ByteArray) : (strOfNums [x] ++ t).size = t.size + 1 := by rw [ByteArray.size_append, one_size]; omega
theorem dec_size : ∀ (k : Nat) (n : Int) (t : ByteArray), n.toNat ≤ k → 0 ≤ n → ((dec n t).size : Int) ≤ t.size + n + 1
  | 0, n, t, hk, h0 => by rw [dec_small (by omega), cat_size]; omega
  | k + 1, n, t, hk, h0 => by
    by_cases h : n < 10
    · rw [dec_small h, cat_size]; omega
    · rw [dec_great h]
      have := dec_size k (n / 10) (strOfNums [48 + n % 10] ++ t) (by omega) (by omega)
      rw [cat_size] at this
      omega

set_option maxHeartbeats 400000 in
theorem l1Dec_any (n : Int) (w : World) (h0 : 0 ≤ n) (h1 : n ≤ 1000000000) :
    Calls Tryz.prog 19 #[.int .i64 n] w fun e w' => e = .returned (.string (dec n ⟨#[]⟩)) ∧ Below w.heap.size w w' := by
  have hcv : ∀ (u : World) (x : Int), (convert 47 9 (.slice (some ⟨u.heap.size, 0, none⟩) 1 1)).run Tryz.prog (u.alloc (.cells #[.int .u8 x] 5)) = .ok (.string (strOfNums [x])) (u.alloc (.cells #[.int .u8 x] 5)) := fun u x =>
    run_convert_bytes_arg _ 47 5 Tryz.underlying47 Tryz.underlying5 u.heap.size 0 1 1 [x] rfl (fun i hi => by
      rw [Nat.zero_add, World.cell?_alloc_new]
      match i, hi with
      | 0, _ => rfl) 9 Tryz.underlying9
  have hsz := one_size
  obtain ⟨r, hr⟩ : ∃ r, r = dec n ⟨#[]⟩ := ⟨_, rfl⟩
  rw [← hr]
  go_enter Tryz.func19, Tryz.ntmps19
  go_wp2
  go_loopw [0, 3] (fun v t wr => ∃ (m : Int) (s : ByteArray), 0 ≤ m ∧ (s.size : Int) + m ≤ n ∧ v = .int .i64 m ∧ t = .string s ∧ Hid (r = dec m s) ∧ Hid (Below w.heap.size w wr)) (fun v _ _ => (intOf v).toNat)
  case atStart => exact ⟨n, ⟨#[]⟩, h0, by show ((0 : Nat) : Int) + n ≤ n; omega, rfl, rfl, hr, Below.refl _ _⟩
  case round =>
    clear hr
    obtain ⟨m, s, hm0, hm1, rfl, rfl, hr, hb⟩ := hrel
    by_cases hlt : 10 ≤ m
    · have HR : Hid (r = dec (m / 10) (strOfNums [48 + m % 10] ++ s)) := by have := hr.out; rw [dec_great (by omega)] at this; exact this
      clear hr
      go_wp2
      go_roundw
      case rel => exact ⟨m / 10, strOfNums [48 + m % 10] ++ s, by omega, by rw [cat_size]; omega, rfl, rfl, HR, hb.out.alloc hb.out.size _⟩
      case measure => simp [intOf]; omega
    · have HR : Hid (r = strOfNums [48 + m] ++ s) := by have := hr.out; rw [dec_small (by omega)] at this; exact this
      clear hr
      go_wp2
      go_ret
      exact ⟨by rw [HR.out]; rfl, hb.out.alloc hb.out.size _⟩
def decE (n : Int) : ByteArray := if n < 0 then (if -n < 10 then strOfNums [45, 48 + -n] else if -n < 100 then strOfNums [45, 48 + -n / 10, 48 + -n % 10] else strOfNums [45, 48 + -n / 100, 48 + -n / 10 % 10, 48 + -n % 10])
  else if n < 10 then strOfNums [48 + n] else if n < 100 then strOfNums [48 + n / 10, 48 + n % 10] else strOfNums [48 + n / 100, 48 + n / 10 % 10, 48 + n % 10]
theorem cat (a b : List Int) : strOfNums a ++ strOfNums b = strOfNums (a ++ b) := by
  apply ByteArray.ext
  simp [strOfNums, ByteArray.data_append]
theorem nil_str : (⟨#[]⟩ : ByteArray) = strOfNums [] := rfl
theorem dec_pos {n : Int} (h0 : 0 ≤ n) (h1 : n < 1000) : dec n ⟨#[]⟩ = (if n < 10 then strOfNums [48 + n] else if n < 100 then strOfNums [48 + n / 10, 48 + n % 10] else strOfNums [48 + n / 100, 48 + n / 10 % 10, 48 + n % 10]) := by
  rw [nil_str]
  by_cases h2 : n < 10
  · rw [if_pos h2, dec_small h2, cat]; rfl
  rw [if_neg h2, dec_great h2, cat]
  by_cases h3 : n < 100
  · rw [if_pos h3, dec_small (by omega), cat]; rfl
  · rw [if_neg h3, dec_great (by omega), cat, dec_small (by omega), cat, show n / 10 / 10 = n / 100 by omega]; rfl
theorem itoa_all : ∀ k : Fin 256, (⟨(Lib.itoa ((k.val : Int) - 128)).toArray⟩ : ByteArray) = decE ((k.val : Int) - 128) := by decide +kernel
theorem itoa_at {n : Int} (h0 : -128 ≤ n) (h1 : n ≤ 127) : (⟨(Lib.itoa n).toArray⟩ : ByteArray) = decE n := by
  have := itoa_all ⟨(n + 128).toNat, by omega⟩
  rwa [show (((⟨(n + 128).toNat, by omega⟩ : Fin 256).val : Int) - 128) = n by show (((n + 128).toNat : Nat) : Int) - 128 = n; omega] at this
set_option maxHeartbeats 400000 in
theorem dec_any (n : Int) (w : World) (h0 : -128 ≤ n) (h1 : n ≤ 127) :
    Calls Tryz.prog 19 #[.int .i64 n] w fun e w' => e = .returned (.string (decE n)) ∧ Below w.heap.size w w' := by
  by_cases hn : n < 0
  · have c := fun w => l1Dec_any (-n) w (by omega) (by omega)
    have e : decE n = strOfNums [45] ++ dec (-n) ⟨#[]⟩ := by
      rw [dec_pos (by omega) (by omega)]
      unfold decE
      rw [if_pos hn]
      split
      · rw [cat]; rfl
      · split
        · rw [cat]; rfl
        · rw [cat]; rfl
    have hz : (dec (-n) ⟨#[]⟩).size ≤ 3 := by
      rw [dec_pos (by omega) (by omega)]
      repeat' split
      all_goals (rw [strOfNums_size]; simp)
    rw [e]
    generalize dec (-n) ⟨#[]⟩ = S at c hz
    have hk : wrap64 (-n) = -n := by unfold wrap64; omega
    have hm : (⟨#[45]⟩ : ByteArray) = strOfNums [45] := rfl
    go_enter Tryz.func19, Tryz.ntmps19
    go_wp2_with fail
    refine (c _).mono ?_
    rintro e w1 ⟨rfl, b1⟩
    have B1 : Hid (Below w.heap.size w w1) := b1
    clear b1 hm
    go_wp2
    go_ret
    exact ⟨rfl, B1.out⟩
  · refine (l1Dec_any n w (by omega) (by omega)).mono ?_
    rintro e w' ⟨rfl, hb⟩
    refine ⟨?_, hb⟩
    rw [dec_pos (by omega) (by omega)]
    unfold decE
    rw [if_neg hn]
end Go.Proofs.YtnfonccimaikgaaGreatDoor.Deci
