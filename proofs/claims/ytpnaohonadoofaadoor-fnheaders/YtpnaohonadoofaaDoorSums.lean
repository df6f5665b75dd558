/-
  Contracts of ours for the sums of chapter 12, both sides: HeaderSum and WholeSum, at every argument.
-/
import Derived.Test.YtpnaohonadoofaaDoorSigned
import Derived.Test.YtpnaohonadoofaaDoorRows
import Derived.WalkKit
import Derived.ProofKit
import Derived.OpenShut
import Derived.Outline
import Derived.BigQuiet
import Derived.Deep.RegionWith
import Derived.Deep.QuietTactic
import Derived.Below
import Derived.OneCell
import Derived.Laws.BitsLemmas
import Derived.Laws.Rows
namespace Go.Proofs.YtpnaohonadoofaaDoor.Sums
open Go.ChangeShapes Go.WideShapes Go.ChangeAt Go.RowKit
open Signed (inB ret_int ret_bool l1In_any)
set_option linter.unusedVariables false

def banks (n : Nat) : Int := if n % 256 = 0 ∧ 512 ≤ n ∧ n ≤ 4096 then n / 256 else 0
def romB (n : Nat) : Bool := decide (n % 256 = 0 ∧ 512 ≤ n ∧ n ≤ 4096)
theorem romOk_any (rom : ByteArray) (w : World) (hs : rom.size ≤ maxLen) :
    Calls Tryd.prog 31 #[.string rom] w fun e w' => e = .returned (.bool (romB rom.size)) ∧ w' = w := by
  have hs' : rom.size ≤ 9223372036854775807 := by unfold maxLen at hs; omega
  go_enter Tryd.func31, Tryd.ntmps31
  go_wp2
  all_goals go_ret
  all_goals exact ⟨ret_bool (by rw [Bool.eq_iff_iff]; simp [romB]; try omega), rfl⟩
set_option maxHeartbeats 1000000 in
theorem l5Banks_any (rom : ByteArray) (w : World) (hs : rom.size ≤ maxLen) :
    Calls Tryd.prog 33 #[.string rom] w fun e w' => e = .returned (.int .i64 (banks rom.size)) ∧ w' = w := by
  have hs' : rom.size ≤ 9223372036854775807 := by unfold maxLen at hs; omega
  go_enter Tryd.func33, Tryd.ntmps33
  go_wp2_with (go_at_call 28; refine (l1In_any _ _ _ _).mono ?_; rintro e w' ⟨rfl, rfl⟩)
  all_goals go_ret
  all_goals exact ⟨ret_int (by unfold banks; simp_all [inB]; try omega), rfl⟩
theorem banks_yes {n : Nat} (h : romB n = true) : 2 ≤ banks n ∧ banks n ≤ 16 ∧ n = 256 * (n / 256) ∧ 512 ≤ n ∧ n ≤ 4096 ∧ banks n = n / 256 := by
  have h := of_decide_eq_true h
  have e : banks n = n / 256 := by unfold banks; rw [if_pos h]
  omega
theorem banks_no {n : Nat} (h : romB n = false) : banks n = 0 := by
  have h := of_decide_eq_false h
  unfold banks; rw [if_neg h]

/-- The byte at a place, as a number; 0 behind the end. -/
def byteAt (s : ByteArray) (i : Nat) : Int := if h : i < s.size then (s[i].toNat : Int) else 0
theorem byteAt_in {s : ByteArray} {i : Nat} (h : i < s.size) : byteAt s i = (s[i].toNat : Int) := dif_pos h
theorem byteAt_bd (s : ByteArray) (i : Nat) : 0 ≤ byteAt s i ∧ byteAt s i ≤ 255 := by
  unfold byteAt
  split
  · have := (s[i]).toNat_lt; omega
  · omega
theorem byteAt_extract {s : ByteArray} {a b i : Nat} (hb : b ≤ s.size) (h : a + i < b) : byteAt (s.extract a b) i = byteAt s (a + i) := by
  have h1 : i < (s.extract a b).size := by simp; omega
  rw [byteAt_in h1, byteAt_in (by omega)]
  congr 2
  simp [ByteArray.getElem_extract]
/-- The sum of n bytes from a on. -/
def sumOf (s : ByteArray) (a : Nat) : Nat → Int
  | 0 => 0
  | n + 1 => sumOf s a n + byteAt s (a + n)
theorem sumOf_bd (s : ByteArray) (a : Nat) : ∀ n, 0 ≤ sumOf s a n ∧ sumOf s a n ≤ 255 * n
  | 0 => by simp [sumOf]
  | n + 1 => by
    have := sumOf_bd s a n
    have := byteAt_bd s (a + n)
    simp only [sumOf]
    omega
theorem sumOf_extract {s : ByteArray} {a b : Nat} (hb : b ≤ s.size) : ∀ n, a + n ≤ b → sumOf (s.extract a b) 0 n = sumOf s a n
  | 0, _ => rfl
  | n + 1, h => by
    simp only [sumOf]
    rw [sumOf_extract hb n (by omega), Nat.zero_add, byteAt_extract hb (by omega)]
theorem sumOf_split (s : ByteArray) (a m : Nat) : ∀ n, sumOf s a (m + n) = sumOf s a m + sumOf s (a + m) n
  | 0 => by simp [sumOf]
  | n + 1 => by
    rw [← Nat.add_assoc]
    simp only [sumOf]
    rw [sumOf_split s a m n, Nat.add_assoc]
    omega
theorem and255 (n : Int) : bits .and .i64 n 255 = n % 256 := by
  have h127 : (BitVec.ofInt 64 255).toNat = 2 ^ 8 - 1 := by decide
  have key : (BitVec.ofInt 64 n &&& BitVec.ofInt 64 255).toNat = (n % ((2 ^ 64 : Nat) : Int)).toNat % 2 ^ 8 := by
    rw [BitVec.toNat_and, BitVec.toNat_ofInt, h127, Nat.and_two_pow_sub_one_eq_mod]
  show IntKind.i64.wrap ((BitVec.ofInt 64 n &&& BitVec.ofInt 64 255).toNat : Nat) = n % 256
  rw [key, IntKind.wrap_i64]
  omega
theorem and65535 (n : Int) : bits .and .i64 n 65535 = n % 65536 := by
  have h127 : (BitVec.ofInt 64 65535).toNat = 2 ^ 16 - 1 := by decide
  have key : (BitVec.ofInt 64 n &&& BitVec.ofInt 64 65535).toNat = (n % ((2 ^ 64 : Nat) : Int)).toNat % 2 ^ 16 := by
    rw [BitVec.toNat_and, BitVec.toNat_ofInt, h127, Nat.and_two_pow_sub_one_eq_mod]
  show IntKind.i64.wrap ((BitVec.ofInt 64 n &&& BitVec.ofInt 64 65535).toNat : Nat) = n % 65536
  rw [key, IntKind.wrap_i64]
  omega
def headV (rom : ByteArray) : Int := if romB rom.size = true then (-(sumOf rom 52 25) - 25) % 256 else -1
def wholeV (rom : ByteArray) : Int := if romB rom.size = true then (sumOf rom 0 78 + sumOf rom 80 (rom.size - 80)) % 65536 else -1

/-- The block of one number. -/
abbrev One (w : World) (B : Nat) (v : Int) : Prop := w.heap[B]? = some (.cells #[.int .i64 v] 2 (0, 0))
theorem one_new (w : World) (v : Int) : One (w.alloc (.cells #[.int .i64 v] 2)) w.heap.size v := heap_alloc_new _ _

theorem one_step {w : World} {B : Nat} {v u x : Int} (h : One w B v) (e : u = x) : One (w.setCell ⟨B, 0, none⟩ (.int .i64 u)) B x := by rw [← e]; exact one_setCell h
theorem lessOne_any (B : Nat) (v b : Int) (w : World) (h : One w B v) (v0 : -10000 ≤ v) (v1 : v ≤ 10000) (b0 : 0 ≤ b) (b1 : b ≤ 255) :
    Calls Tryd.prog 35 #[.int .i64 b, .pointer (some ⟨B, 0, none⟩)] w fun e w' => e = .returned (.tuple #[]) ∧ w' = w.setCell ⟨B, 0, none⟩ (.int .i64 (v - (b + 1))) := by
  have h1 := cell_of_one h
  have h2 := free_of_one h
  have h3 : wrap64 (b + 1) = b + 1 := by unfold wrap64; omega
  have h4 : wrap64 (v - (b + 1)) = v - (b + 1) := by unfold wrap64; omega
  clear h
  go_enter Tryd.func35, Tryd.ntmps35
  go_wp2
  go_end0
  exact ⟨rfl, rfl⟩
theorem addOne_any (B : Nat) (v b : Int) (w : World) (h : One w B v) (v0 : 0 ≤ v) (v1 : v ≤ 10000000) (b0 : 0 ≤ b) (b1 : b ≤ 255) :
    Calls Tryd.prog 36 #[.int .i64 b, .pointer (some ⟨B, 0, none⟩)] w fun e w' => e = .returned (.tuple #[]) ∧ w' = w.setCell ⟨B, 0, none⟩ (.int .i64 (v + b)) := by
  have h1 := cell_of_one h
  have h2 := free_of_one h
  have h4 : wrap64 (v + b) = v + b := by unfold wrap64; omega
  clear h
  go_enter Tryd.func36, Tryd.ntmps36
  go_wp2
  go_end0
  exact ⟨rfl, rfl⟩
theorem eachLess_any (B : Nat) (v : Int) (s : ByteArray) (w : World) (h : One w B v) (v0 : -1000 ≤ v) (v1 : v ≤ 1000) (hs : s.size ≤ 30) :
    Calls Tryd.prog 34 #[.string s, .func (.func 35) #[] #[.pointer (some ⟨B, 0, none⟩)]] w fun e w' => e = .returned (.tuple #[]) ∧ One w' B (v - sumOf s 0 s.size - (s.size : Nat)) ∧ Below B w w' := by
  have hz : s.size ≤ 9223372036854775807 := by omega
  go_enter Tryd.func34, Tryd.ntmps34
  go_wp2_with fail
  go_loopw [7] (fun i wr => ∃ k : Nat, k ≤ s.size ∧ i = .int .i64 k ∧ Hid (One wr B (v - sumOf s 0 k - (k : Nat))) ∧ Hid (Below B w wr)) (fun i _ => s.size - (intOf i).toNat)
  case atStart => exact ⟨0, Nat.zero_le _, rfl, by show One w B _; simpa [sumOf] using h, Below.refl _ _⟩
  case round =>
    obtain ⟨k, hk, rfl, h1, h2⟩ := hrel
    have bd := sumOf_bd s 0 k
    have bb := byteAt_bd s k
    have en : sumOf s 0 (k + 1) = sumOf s 0 k + byteAt s k := by simp only [sumOf, Nat.zero_add]
    by_cases hlt : k < s.size
    · have hbk : byteAt s k = (s[k].toNat : Int) := byteAt_in hlt
      obtain ⟨x, hx⟩ : ∃ x, x = sumOf s 0 k := ⟨_, rfl⟩
      rw [← hx] at h1 bd en
      have c := lessOne_any B (v - x - (k : Nat)) (s[k].toNat : Int)
      rw [hbk] at bb en
      have EN : Hid (sumOf s 0 (k + 1) = x + (s[k].toNat : Int)) := en
      clear en hx hbk
      go_wp2_with (go_at_call 35; refine (c _ h1.out (by omega) (by omega) (by omega) (by omega)).mono ?_; rintro e w' ⟨rfl, rfl⟩)
      go_roundw
      case rel => exact ⟨k + 1, by omega, by go_num, one_step h1.out (by rw [EN.out]; omega), h2.out.setCell (Nat.le_refl _) _⟩
      case measure => simp [intOf]; omega
    · have e : k = s.size := by omega
      subst e
      go_wp2
      go_end0
      exact ⟨rfl, h1.out, h2.out⟩
theorem eachAdd_any (B : Nat) (v : Int) (s : ByteArray) (w : World) (h : One w B v) (v0 : 0 ≤ v) (v1 : v ≤ 2000000) (hs : s.size ≤ 5000) :
    Calls Tryd.prog 34 #[.string s, .func (.func 36) #[] #[.pointer (some ⟨B, 0, none⟩)]] w fun e w' => e = .returned (.tuple #[]) ∧ One w' B (v + sumOf s 0 s.size) ∧ Below B w w' := by
  have hz : s.size ≤ 9223372036854775807 := by omega
  go_enter Tryd.func34, Tryd.ntmps34
  go_wp2_with fail
  go_loopw [7] (fun i wr => ∃ k : Nat, k ≤ s.size ∧ i = .int .i64 k ∧ Hid (One wr B (v + sumOf s 0 k)) ∧ Hid (Below B w wr)) (fun i _ => s.size - (intOf i).toNat)
  case atStart => exact ⟨0, Nat.zero_le _, rfl, by show One w B _; simpa [sumOf] using h, Below.refl _ _⟩
  case round =>
    obtain ⟨k, hk, rfl, h1, h2⟩ := hrel
    have bd := sumOf_bd s 0 k
    have bb := byteAt_bd s k
    have en : sumOf s 0 (k + 1) = sumOf s 0 k + byteAt s k := by simp only [sumOf, Nat.zero_add]
    by_cases hlt : k < s.size
    · have hbk : byteAt s k = (s[k].toNat : Int) := byteAt_in hlt
      obtain ⟨x, hx⟩ : ∃ x, x = sumOf s 0 k := ⟨_, rfl⟩
      rw [← hx] at h1 bd en
      have c := addOne_any B (v + x) (s[k].toNat : Int)
      rw [hbk] at bb en
      have EN : Hid (sumOf s 0 (k + 1) = x + (s[k].toNat : Int)) := en
      clear en hx hbk
      go_wp2_with (go_at_call 36; refine (c _ h1.out (by omega) (by omega) (by omega) (by omega)).mono ?_; rintro e w' ⟨rfl, rfl⟩)
      go_roundw
      case rel => exact ⟨k + 1, by omega, by go_num, one_step h1.out (by rw [EN.out]; omega), h2.out.setCell (Nat.le_refl _) _⟩
      case measure => simp [intOf]; omega
    · have e : k = s.size := by omega
      subst e
      go_wp2
      go_end0
      exact ⟨rfl, h1.out, h2.out⟩
theorem slice_string (s : ByteArray) (a b : Nat) (h : a ≤ b) (hb : b ≤ s.size) (w : World) : (Instr.slice 9 (.string s) (some (.int .i64 a)) (some (.int .i64 b)) none).run Tryd.prog w = .ok (.string (s.extract a b)) w := by
  have := run_slice_string (P := Tryd.prog) w 9 s .i64 .i64 a b Tryd.underlying9 (by omega) (by omega) (by omega)
  simpa using this
set_option maxHeartbeats 1000000 in
theorem implHead_any (rom : ByteArray) (w : World) (hs : rom.size ≤ maxLen) :
    Calls Tryd.prog 13 #[.string rom] w fun e w' => e = .returned (.int .i64 (headV rom)) ∧ Below w.heap.size w w' := by
  have cr := romOk_any rom w hs
  cases hb : romB rom.size with
  | false =>
    have HV : Hid (headV rom = -1) := by show _ = _; unfold headV; rw [hb]; rfl
    rw [hb] at cr
    clear hb
    go_enter Tryd.func13, Tryd.ntmps13
    go_wp2_with (go_at_call 31; refine cr.mono ?_; rintro e w' ⟨rfl, rfl⟩)
    go_ret
    exact ⟨ret_int HV.out.symm, Below.refl _ _⟩
  | true =>
    obtain ⟨h0, h1, h2, h3, h4, h5⟩ := banks_yes hb
    have HV : Hid (headV rom = (0 - sumOf (rom.extract 52 77) 0 (rom.extract 52 77).size - (rom.extract 52 77).size) % 256) := by
      show _ = _
      unfold headV
      rw [if_pos hb]
      have e : (rom.extract 52 77).size = 25 := by simp; omega
      rw [e, sumOf_extract (by omega) 25 (by omega)]
      congr 1
      omega
    have hz : (rom.extract 52 77).size = 25 := by simp; omega
    rw [hb] at cr
    have sl : ∀ w, (Instr.slice 9 (.string rom) (some (.int .i64 52)) (some (.int .i64 77)) none).run Tryd.prog w = .ok (.string (rom.extract 52 77)) w := fun w => slice_string rom 52 77 (by omega) (by omega) w
    have hmf : ∀ (fn : Fn) (first cap : Array Value) (w : World), (Instr.makeFunc fn first cap).run Tryd.prog w = .ok (.func fn first cap) w := fun _ _ _ _ => rfl
    have ce := fun (w : World) h => eachLess_any w.heap.size 0 (rom.extract 52 77) (w.alloc (.cells #[.int .i64 0] 2)) h (by omega) (by omega) (by omega)
    have ha := and255
    clear hb h0 h1 h2 h5
    generalize rom.extract 52 77 = E at *
    go_enter Tryd.func13, Tryd.ntmps13
    go_wp2_with (first | (go_at_call 31; refine cr.mono ?_; rintro e w' ⟨rfl, rfl⟩) | fail)
    refine (ce _ (one_new _ _)).mono ?_
    rintro e w1 ⟨rfl, o1, b1⟩
    have g1 := cell_of_one o1
    have B1 : Hid (Below w'.heap.size w' w1) := ((Below.refl _ _).alloc (Nat.le_refl _) _).trans b1
    clear o1 b1 ce
    go_wp2
    go_ret
    exact ⟨ret_int (by rw [HV.out, hz]; congr 1; omega), B1.out⟩
set_option maxHeartbeats 1000000 in
theorem implWhole_any (rom : ByteArray) (w : World) (hs : rom.size ≤ maxLen) :
    Calls Tryd.prog 15 #[.string rom] w fun e w' => e = .returned (.int .i64 (wholeV rom)) ∧ Below w.heap.size w w' := by
  have cr := romOk_any rom w hs
  cases hb : romB rom.size with
  | false =>
    have HV : Hid (wholeV rom = -1) := by show _ = _; unfold wholeV; rw [hb]; rfl
    rw [hb] at cr
    clear hb
    go_enter Tryd.func15, Tryd.ntmps15
    go_wp2_with (go_at_call 31; refine cr.mono ?_; rintro e w' ⟨rfl, rfl⟩)
    go_ret
    exact ⟨ret_int HV.out.symm, Below.refl _ _⟩
  | true =>
    obtain ⟨h0, h1, h2, h3, h4, h5⟩ := banks_yes hb
    have hz1 : (rom.extract 0 78).size = 78 := by simp; omega
    have hz2 : (rom.extract 80 rom.size).size = rom.size - 80 := by simp
    have HV : Hid (wholeV rom = (sumOf (rom.extract 0 78) 0 (rom.extract 0 78).size + sumOf (rom.extract 80 rom.size) 0 (rom.extract 80 rom.size).size) % 65536) := by
      show _ = _
      unfold wholeV
      rw [if_pos hb, hz1, hz2, sumOf_extract (by omega) 78 (by omega), sumOf_extract (by omega) (rom.size - 80) (by omega)]
    rw [hb] at cr
    have sl1 : ∀ w, (Instr.slice 9 (.string rom) none (some (.int .i64 78)) none).run Tryd.prog w = .ok (.string (rom.extract 0 78)) w := fun w => by
      simpa using run_slice_string_h w (t := 9) (s := rom) Tryd.underlying9 .i64 78 (by omega) (by omega)
    have sl2 : ∀ w, (Instr.slice 9 (.string rom) (some (.int .i64 80)) none none).run Tryd.prog w = .ok (.string (rom.extract 80 rom.size)) w := fun w => by
      simpa using run_slice_string_l w (t := 9) (s := rom) Tryd.underlying9 .i64 80 (by omega) (by omega)
    have hmf : ∀ (fn : Fn) (first cap : Array Value) (w : World), (Instr.makeFunc fn first cap).run Tryd.prog w = .ok (.func fn first cap) w := fun _ _ _ _ => rfl
    have b1 := sumOf_bd (rom.extract 0 78) 0 (rom.extract 0 78).size
    have ce1 := fun (w : World) h => eachAdd_any w.heap.size 0 (rom.extract 0 78) (w.alloc (.cells #[.int .i64 0] 2)) h (by omega) (by omega) (by omega)
    have ce2 := fun (B : Nat) v (w : World) h => eachAdd_any B v (rom.extract 80 rom.size) w h
    have ha := and65535
    have hz2' : (rom.extract 80 rom.size).size ≤ 5000 := by omega
    clear hb h0 h1 h2 h5 hz2
    generalize rom.extract 0 78 = E at *
    generalize rom.extract 80 rom.size = F at *
    go_enter Tryd.func15, Tryd.ntmps15
    go_wp2_with (first | (go_at_call 31; refine cr.mono ?_; rintro e w' ⟨rfl, rfl⟩) | fail)
    refine (ce1 _ (one_new _ _)).mono ?_
    rintro e w1 ⟨rfl, o1, b1'⟩
    have O1 : Hid (One w1 w'.heap.size (0 + sumOf E 0 E.size)) := o1
    have B1 : Hid (Below w'.heap.size w' w1) := ((Below.refl _ _).alloc (Nat.le_refl _) _).trans b1'
    clear o1 b1' ce1
    go_wp2_with fail
    refine (ce2 _ _ _ O1.out (by omega) (by omega) (by omega)).mono ?_
    rintro e w2 ⟨rfl, o2, b2⟩
    have g1 := cell_of_one o2
    have B2 : Hid (Below w'.heap.size w' w2) := B1.out.trans b2
    clear o2 b2 O1 B1 ce2
    go_wp2
    go_ret
    exact ⟨ret_int (by rw [HV.out, hz1]), B2.out⟩
/-- The sum of the first k bytes, but those at 78 and 79. -/
def wpart (s : ByteArray) (k : Nat) : Int := if k ≤ 78 then sumOf s 0 k else sumOf s 0 78 + sumOf s 80 (k - 80)
theorem wpart_bd (s : ByteArray) (k : Nat) (hk : k ≤ 4096) : 0 ≤ wpart s k ∧ wpart s k ≤ 3000000 := by
  unfold wpart
  have := sumOf_bd s 0 k
  have := sumOf_bd s 0 78
  have := sumOf_bd s 80 (k - 80)
  split <;> omega
theorem wpart_next (s : ByteArray) (k : Nat) (h1 : k ≠ 78) (h2 : k ≠ 79) : wpart s (k + 1) = wpart s k + byteAt s k := by
  unfold wpart
  by_cases h : k < 78
  · rw [if_pos (by omega), if_pos (by omega)]; simp only [sumOf, Nat.zero_add]
  · rw [if_neg (by omega), if_neg (by omega), show k + 1 - 80 = (k - 80) + 1 by omega]
    simp only [sumOf]
    rw [show 80 + (k - 80) = k by omega]
    omega
theorem wpart_skip (s : ByteArray) (k : Nat) (h : k = 78 ∨ k = 79) : wpart s (k + 1) = wpart s k := by
  unfold wpart
  rcases h with rfl | rfl
  · rw [if_neg (by omega), if_pos (by omega)]; simp [sumOf]
  · rw [if_neg (by omega), if_neg (by omega)]
theorem modNeg (x : Int) (h0 : -10000 ≤ x) (h1 : x ≤ 0) : (wrap64 (x.tmod 256 + 256)).tmod 256 = x % 256 := by
  have e : x.tmod 256 = -((-x) % 256) := by
    have := Int.neg_tmod (-x) 256
    rw [Int.neg_neg] at this
    rw [this, Int.tmod_eq_emod_of_nonneg (by omega)]
  rw [e]
  have e2 : wrap64 (-((-x) % 256) + 256) = -((-x) % 256) + 256 := by unfold wrap64; omega
  rw [e2, Int.tmod_eq_emod_of_nonneg (by omega)]
  omega
/-- What HeaderSum has reckoned ahead of the byte k. -/
def hpart (s : ByteArray) (k : Nat) : Int := -(sumOf s 52 (k - 52)) - ((k - 52 : Nat) : Int)
theorem hpart_bd (s : ByteArray) (k : Nat) (hk : k ≤ 77) : -10000 ≤ hpart s k ∧ hpart s k ≤ 0 := by
  unfold hpart
  have := sumOf_bd s 52 (k - 52)
  omega
theorem hpart_next (s : ByteArray) (k : Nat) (h : 52 ≤ k) : hpart s (k + 1) = hpart s k - byteAt s k - 1 := by
  unfold hpart
  rw [show k + 1 - 52 = (k - 52) + 1 by omega]
  simp only [sumOf]
  rw [show 52 + (k - 52) = k by omega]
  omega
set_option maxHeartbeats 1000000 in
theorem specHead_any (rom : ByteArray) (w : World) (hs : rom.size ≤ maxLen) :
    Calls Tryd.prog 14 #[.string rom] w fun e w' => e = .returned (.int .i64 (headV rom)) ∧ w' = w := by
  have cr := l5Banks_any rom w hs
  cases hb : romB rom.size with
  | false =>
    have HV : Hid (headV rom = -1) := by show _ = _; unfold headV; rw [hb]; rfl
    rw [banks_no hb] at cr
    clear hb
    go_enter Tryd.func14, Tryd.ntmps14
    go_wp2_with (go_at_call 33; refine cr.mono ?_; rintro e w' ⟨rfl, rfl⟩)
    go_ret
    exact ⟨ret_int HV.out.symm, rfl⟩
  | true =>
    obtain ⟨h0, h1, h2, h3, h4, h5⟩ := banks_yes hb
    have HV : Hid (headV rom = (-(sumOf rom 52 25) - 25) % 256) := by show _ = _; unfold headV; rw [if_pos hb]
    clear hb h2 h5
    generalize banks rom.size = n at *
    go_enter Tryd.func14, Tryd.ntmps14
    go_wp2_with (go_at_call 33; refine cr.mono ?_; rintro e w' ⟨rfl, rfl⟩)
    go_loop [3, 4] (fun x i => ∃ k : Nat, 52 ≤ k ∧ k ≤ 77 ∧ x = .int .i64 (hpart rom k) ∧ i = .int .i64 k) (fun _ i => 77 - (intOf i).toNat)
    case atStart => exact ⟨52, by omega, by omega, rfl, rfl⟩
    case round =>
      obtain ⟨k, hk0, hk, rfl, rfl⟩ := hrel
      have bd := hpart_bd rom k hk
      have bb := byteAt_bd rom k
      by_cases hlt : k < 77
      · have hbk : byteAt rom k = (rom[k].toNat : Int) := byteAt_in (by omega)
        have EN : Hid (hpart rom (k + 1) = hpart rom k - (rom[k].toNat : Int) - 1) := by have := hpart_next rom k hk0; rw [hbk] at this; exact this
        rw [hbk] at bb
        obtain ⟨x, hx⟩ : ∃ x, x = hpart rom k := ⟨_, rfl⟩
        rw [← hx] at bd EN ⊢
        have hl : k < rom.size := by omega
        clear hx hbk
        go_wp2
        go_round
        case rel => exact ⟨k + 1, by omega, by omega, by rw [EN.out], by go_num⟩
        case measure => simp [intOf]; omega
      · have e : k = 77 := by omega
        have HW : Hid (headV rom = hpart rom k % 256) := by show _ = _; rw [HV.out, e]; rfl
        clear bb HV
        obtain ⟨x, hx⟩ : ∃ x, x = hpart rom k := ⟨_, rfl⟩
        rw [← hx] at bd HW ⊢
        clear hx
        go_wp2
        go_ret
        exact ⟨ret_int (by rw [HW.out]; exact modNeg x bd.1 bd.2), rfl⟩
set_option maxHeartbeats 1000000 in
theorem specWhole_any (rom : ByteArray) (w : World) (hs : rom.size ≤ maxLen) :
    Calls Tryd.prog 16 #[.string rom] w fun e w' => e = .returned (.int .i64 (wholeV rom)) ∧ w' = w := by
  have cr := l5Banks_any rom w hs
  cases hb : romB rom.size with
  | false =>
    have HV : Hid (wholeV rom = -1) := by show _ = _; unfold wholeV; rw [hb]; rfl
    rw [banks_no hb] at cr
    clear hb
    go_enter Tryd.func16, Tryd.ntmps16
    go_wp2_with (go_at_call 33; refine cr.mono ?_; rintro e w' ⟨rfl, rfl⟩)
    go_ret
    exact ⟨ret_int HV.out.symm, rfl⟩
  | true =>
    obtain ⟨h0, h1, h2, h3, h4, h5⟩ := banks_yes hb
    clear h2 h5
    have HV : Hid (wholeV rom = (sumOf rom 0 78 + sumOf rom 80 (rom.size - 80)) % 65536) := by show _ = _; unfold wholeV; rw [if_pos hb]
    clear hb
    generalize banks rom.size = n at *
    go_enter Tryd.func16, Tryd.ntmps16
    go_wp2_with (go_at_call 33; refine cr.mono ?_; rintro e w' ⟨rfl, rfl⟩)
    go_loop [3, 4] (fun x i => ∃ k : Nat, k ≤ rom.size ∧ x = .int .i64 (wpart rom k) ∧ i = .int .i64 k) (fun _ i => rom.size - (intOf i).toNat)
    case atStart => exact ⟨0, by omega, rfl, rfl⟩
    case round =>
      obtain ⟨k, hk, rfl, rfl⟩ := hrel
      have bd := wpart_bd rom k (by omega)
      have bb := byteAt_bd rom k
      by_cases hlt : k < rom.size
      · have hbk : byteAt rom k = (rom[k].toNat : Int) := byteAt_in hlt
        by_cases h78 : k = 78
        · have EN : Hid (wpart rom (k + 1) = wpart rom k) := wpart_skip rom k (.inl h78)
          obtain ⟨x, hx⟩ : ∃ x, x = wpart rom k := ⟨_, rfl⟩
          rw [← hx] at bd EN ⊢
          clear hx hbk bb
          have d1 : ((k : Int) != 78) = false := by simp; omega
          have d2 : (k : Int) = 78 := by omega
          go_wp2
          go_round
          case rel => exact ⟨k + 1, by omega, by rw [EN.out], by go_num⟩
          case measure => simp [intOf]; omega
        by_cases h79 : k = 79
        · have EN : Hid (wpart rom (k + 1) = wpart rom k) := wpart_skip rom k (.inr h79)
          obtain ⟨x, hx⟩ : ∃ x, x = wpart rom k := ⟨_, rfl⟩
          rw [← hx] at bd EN ⊢
          clear hx hbk bb
          have d1 : ((k : Int) != 78) = true := by simp; omega
          have d2 : ¬ (k : Int) = 78 := by omega
          have d3 : ((k : Int) != 79) = false := by simp; omega
          have d4 : (k : Int) = 79 := by omega
          go_wp2
          go_round
          case rel => exact ⟨k + 1, by omega, by rw [EN.out], by go_num⟩
          case measure => simp [intOf]; omega
        · have EN : Hid (wpart rom (k + 1) = wpart rom k + (rom[k].toNat : Int)) := by have := wpart_next rom k h78 h79; rw [hbk] at this; exact this
          rw [hbk] at bb
          obtain ⟨x, hx⟩ : ∃ x, x = wpart rom k := ⟨_, rfl⟩
          rw [← hx] at bd EN ⊢
          clear hx hbk
          have d1 : ((k : Int) != 78) = true := by simp; omega
          have d2 : ¬ (k : Int) = 78 := by omega
          have d3 : ((k : Int) != 79) = true := by simp; omega
          have d4 : ¬ (k : Int) = 79 := by omega
          go_wp2
          go_round
          case rel => exact ⟨k + 1, by omega, by rw [EN.out], by go_num⟩
          case measure => simp [intOf]; omega
      · have e : k = rom.size := by omega
        subst e
        have HW : Hid (wholeV rom = wpart rom rom.size % 65536) := by show _ = _; rw [HV.out]; unfold wpart; rw [if_neg (by omega)]
        clear bb HV
        obtain ⟨x, hx⟩ : ∃ x, x = wpart rom rom.size := ⟨_, rfl⟩
        rw [← hx] at bd HW ⊢
        clear hx
        go_wp2
        go_ret
        exact ⟨ret_int (by rw [HW.out]; try omega), rfl⟩
end Go.Proofs.YtpnaohonadoofaaDoor.Sums
