/-
  Contracts of ours for spec.l14Read and impl.readHighestFirst: the number that two or three bytes are.
-/
import Derived.Test.YtbfjalpkdgepnaaDifs
namespace Go.Proofs.Ytbfjalpkdgepnaa.Appn
open Go.ChangeShapes Go.WideShapes Go.ChangeAt Go.RowKit Go.Deep
open Difp Difs
set_option linter.unusedVariables false
set_option linter.unusedSimpArgs false
set_option maxRecDepth 20000
def num (l : List UInt8) : Nat := l.foldl (fun n b => 256 * n + b.toNat) 0
theorem num_snoc (l : List UInt8) (b : UInt8) : num (l ++ [b]) = 256 * num l + b.toNat := by simp [num]
theorem fold_lt : ∀ (l : List UInt8) (m : Nat), l.foldl (fun n b => 256 * n + b.toNat) m < (m + 1) * 256 ^ l.length
  | [], m => by simp
  | b :: l, m => by
    have h1 := fold_lt l (256 * m + b.toNat)
    have h2 := b.toNat_lt
    simp only [List.foldl_cons, List.length_cons, Nat.pow_succ]
    have h3 : (256 * m + b.toNat + 1) * 256 ^ l.length ≤ (256 * (m + 1)) * 256 ^ l.length := Nat.mul_le_mul_right _ (by omega)
    have h4 : 256 * (m + 1) * 256 ^ l.length = (m + 1) * (256 ^ l.length * 256) := by rw [Nat.mul_comm 256 (m + 1), Nat.mul_assoc, Nat.mul_comm 256]
    omega
theorem num_lt (l : List UInt8) : num l < 256 ^ l.length := by
  have := fold_lt l 0
  rw [Nat.zero_add, Nat.one_mul] at this
  exact this
theorem take_next (s : ByteArray) (i : Nat) (h : i < s.size) : s.data.toList.take (i + 1) = s.data.toList.take i ++ [s[i]] := by
  rw [List.take_add_one, List.getElem?_eq_getElem (by rw [Array.length_toList]; exact h)]
  simp [Array.getElem_toList]; rfl
theorem ret_int {k : IntKind} {a b : Int} (h : a = b) : Ending.returned (.int k a) = .returned (.int k b) := by rw [h]
theorem pow_le {i : Nat} (h : i ≤ 3) : 256 ^ i ≤ 16777216 := by
  match i, h with
  | 0, _ => decide
  | 1, _ => decide
  | 2, _ => decide
  | 3, _ => decide
set_option maxHeartbeats 1000000 in
theorem read_any (s : ByteArray) (w : World) (hs : s.size ≤ 3) :
    Calls Try.prog 19 #[.string s] w fun e w' => e = .returned (.int .i64 (num s.data.toList : Nat)) ∧ w' = w := by
  go_enter Try.func19, Try.ntmps19
  go_wp2
  go_loop [3, 4] (fun v i => ∃ (k q : Nat), k ≤ s.size ∧ i = .int .i64 k ∧ v = .int .i64 q ∧ q < 16777217 ∧ Hid (q = num (s.data.toList.take k))) (fun _ i => s.size - (intOf i).toNat)
  case atStart => exact ⟨0, 0, Nat.zero_le _, rfl, rfl, by decide, rfl⟩
  case round =>
    obtain ⟨k, q, hk, rfl, rfl, hq, HQ⟩ := hrel
    by_cases hlt : k < s.size
    · have hlt' : (k : Int) < (s.size : Int) := by omega
      have k0 : (0 : Int) ≤ (k : Int) := by omega
      have hb := s[k].toNat_lt
      have HN : Hid (256 * q + s[k].toNat = num (s.data.toList.take (k + 1))) := by
        show _ = _
        rw [take_next s k hlt, num_snoc, HQ.out]
      have hl : 256 * q + s[k].toNat < 16777217 := by
        have h1 := num_lt (s.data.toList.take (k + 1))
        rw [← HN.out, List.length_take, Array.length_toList] at h1
        have h2 := pow_le (i := min (k + 1) s.data.size) (by have : s.data.size = s.size := rfl; omega)
        omega
      go_wp2
      go_round
      case rel => exact ⟨k + 1, 256 * q + s[k].toNat, by omega, by go_num, by first | rfl | (congr 1; omega), hl, HN.out⟩
      case measure => simp [intOf]; omega
    · have hlt' : ¬ (k : Int) < (s.size : Int) := by omega
      have HE : Hid ((num s.data.toList : Nat) = q) := by
        have := HQ.out
        rw [List.take_of_length_le (by rw [Array.length_toList]; have : s.data.size = s.size := rfl; omega)] at this
        exact this.symm
      go_wp2
      go_ret
      exact ⟨ret_int (by rw [HE.out]), rfl⟩
theorem or_add (q c : Nat) (hq : q < 16777217) (hc : c < 256) : bits .or .i64 ((q : Int) * 256) (c : Int) = ((256 * q + c : Nat) : Int) := by
  have h1 : (BitVec.ofInt 64 ((q : Int) * 256)).toNat = 2 ^ 8 * q := by
    rw [BitVec.toNat_ofInt]; omega
  have h2 : (BitVec.ofInt 64 (c : Int)).toNat = c := by
    rw [BitVec.toNat_ofInt]; omega
  have key : (BitVec.ofInt 64 ((q : Int) * 256) ||| BitVec.ofInt 64 (c : Int)).toNat = 2 ^ 8 * q + c := by
    rw [BitVec.toNat_or, h1, h2, ← Nat.two_pow_add_eq_or_of_lt (by omega)]
  show IntKind.i64.wrap ((BitVec.ofInt 64 ((q : Int) * 256) ||| BitVec.ofInt 64 (c : Int)).toNat : Int) = _
  rw [key, IntKind.wrap_i64]
  omega
set_option maxHeartbeats 1000000 in
theorem high_any (s : ByteArray) (w : World) (hs : s.size ≤ 3) :
    Calls Try.prog 31 #[.string s] w fun e w' => e = .returned (.int .i64 (num s.data.toList : Nat)) ∧ w' = w := by
  go_enter Try.func31, Try.ntmps31
  go_wp2
  go_loop [3, 7] (fun v i => ∃ (k q : Nat), k ≤ s.size ∧ i = .int .i64 k ∧ v = .int .i64 q ∧ q < 16777217 ∧ Hid (q = num (s.data.toList.take k))) (fun _ i => s.size - (intOf i).toNat)
  case atStart => exact ⟨0, 0, Nat.zero_le _, rfl, rfl, by decide, rfl⟩
  case round =>
    obtain ⟨k, q, hk, rfl, rfl, hq, HQ⟩ := hrel
    by_cases hlt : k < s.size
    · have hlt' : (k : Int) < (s.size : Int) := by omega
      have k0 : (0 : Int) ≤ (k : Int) := by omega
      have hb := s[k].toNat_lt
      have HN : Hid (256 * q + s[k].toNat = num (s.data.toList.take (k + 1))) := by
        show _ = _
        rw [take_next s k hlt, num_snoc, HQ.out]
      have hl : 256 * q + s[k].toNat < 16777217 := by
        have h1 := num_lt (s.data.toList.take (k + 1))
        rw [← HN.out, List.length_take, Array.length_toList] at h1
        have h2 := pow_le (i := min (k + 1) s.data.size) (by have : s.data.size = s.size := rfl; omega)
        omega
      have eo := or_add q s[k].toNat (by omega) (by omega)
      go_wp2
      go_round
      case rel => exact ⟨k + 1, 256 * q + s[k].toNat, by omega, by go_num, by first | rfl | (congr 1; omega), hl, HN.out⟩
      case measure => simp [intOf]; omega
    · have hlt' : ¬ (k : Int) < (s.size : Int) := by omega
      have HE : Hid ((num s.data.toList : Nat) = q) := by
        have := HQ.out
        rw [List.take_of_length_le (by rw [Array.length_toList]; have : s.data.size = s.size := rfl; omega)] at this
        exact this.symm
      go_wp2
      go_ret
      exact ⟨ret_int (by rw [HE.out]), rfl⟩
end Go.Proofs.Ytbfjalpkdgepnaa.Appn
