/-
  Pieces of an object's text: decimal numbers, digits of bytes, a line of words.
-/
import Derived.Test.YtplkglgaobdpiaaGreatDoorExts
import Derived.Test.YtplkglgaobdpiaaGreatDoorBld
import Derived.Test.YtplkglgaobdpiaaGreatDoorHex
import Derived.Test.YtplkglgaobdpiaaGreatDoorObuf
import Derived.Test.YtplkglgaobdpiaaGreatDoorQtail
import Derived.Test.YtplkglgaobdpiaaGreatDoorSeco
import Derived.Deep.Cut
namespace Go.Proofs.YtplkglgaobdpiaaGreatDoor.Otxa
open Go.ChangeShapes Go.WideShapes Go.ChangeAt Go.RowKit Go.Deep
open Optx (decW Pow)
open Lib (byteCells strCells)
open Bld (Holds)
set_option linter.unusedVariables false
set_option maxRecDepth 20000

theorem after {a w w' : World} (h : Below a.heap.size a w) (k : Below w.heap.size w w') : Below a.heap.size a w' := h.trans (k.mono h.size)
theorem decimal_any (n : Int) (w : World) (hP : Pow w) (h0 : -9223372036854775808 ≤ n) (h1 : n ≤ 9223372036854775807) :
    Calls Tryz.prog 33 #[.int .i64 n] w fun e w' => e = .returned (.string (decW n)) ∧ Below w.heap.size w w' := by
  have c : Calls Tryz.prog 81 #[.int .i64 n, .int .i64 10] w fun e w' => e = .returned (.string (decW n)) ∧ Below w.heap.size w w' :=
    (Tryz.strconv_FormatInt_10 n (by omega) (by omega) w hP).mono (by
      rintro e w' ⟨rfl, k, os, rfl⟩
      exact ⟨rfl, Lib.below_grow _ _ (Nat.le_refl _) k os⟩)
  clear hP
  generalize decW n = V at c ⊢
  go_enter Tryz.func33, Tryz.ntmps33
  go_wp2_with fail
  refine c.mono ?_
  rintro e w1 ⟨rfl, b1⟩
  have B1 : Hid (Below w.heap.size w w1) := b1
  clear b1 c
  go_wp2
  go_ret
  exact ⟨rfl, B1.out⟩
theorem digits_le : ∀ (k u : Nat), u < 10 ^ (k + 1) → (Lib.decDigits u).length ≤ k + 1
  | 0, u, h => by
    rw [Lib.decDigits, dif_pos (by omega)]; simp
  | k + 1, u, h => by
    rw [Lib.decDigits]
    split
    · simp
    · rw [List.length_append]
      have h' : u < 10 * 10 ^ (k + 1) := by rw [Nat.pow_succ] at h; omega
      have := digits_le k (u / 10) (by omega)
      simp only [List.length_cons, List.length_nil]
      omega
theorem decW_le {n : Int} (h0 : -4000000000 ≤ n) (h1 : n ≤ 4000000000) : (decW n).size ≤ 11 := by
  show (Lib.itoa n).toArray.size ≤ 11
  rw [List.size_toArray]
  unfold Lib.itoa
  split
  · have := digits_le 9 n.natAbs (by omega)
    rw [List.length_cons]
    omega
  · have := digits_le 9 n.toNat (by omega)
    omega
theorem decW_neg {n : Int} (h : n < 0) : (⟨#[45]⟩ : ByteArray) ++ decW (-n) = decW n := by
  apply ByteArray.ext
  apply Array.ext'
  rw [ByteArray.data_append, Array.toList_append]
  show [45] ++ (Lib.itoa (-n)).toArray.toList = (Lib.itoa n).toArray.toList
  unfold Lib.itoa
  rw [if_neg (by omega), if_pos h, show (-n).toNat = n.natAbs by omega]
  rfl
theorem ret_str {a b : ByteArray} (h : b = a) : Ending.returned (.string a) = .returned (.string b) := by rw [h]
theorem l1Dec_all (n : Int) (w : World) (h0 : -4000000000 ≤ n) (h1 : n ≤ 4000000000) :
    Calls Tryz.prog 70 #[.int .i64 n] w fun e w' => e = .returned (.string (decW n)) ∧ Below w.heap.size w w' := by
  by_cases hn : n < 0
  · have c := fun w => Exts.l1Dec_any (-n) w (by omega) (by omega)
    rw [Exts.dec_w (by omega)] at c
    have hz := decW_le (n := -n) (by omega) (by omega)
    have HE : Hid ((⟨#[45]⟩ : ByteArray) ++ decW (-n) = decW n) := decW_neg hn
    have dn : decide (n < 0) = true := decide_eq_true hn
    have dw : IntKind.i64.wrap (-n) = -n := by rw [IntKind.wrap_i64]; omega
    generalize decW (-n) = V at c hz HE
    have q : ¬ 9223372036854775807 < 1 + V.size := by omega
    go_enter Tryz.func70, Tryz.ntmps70
    go_wp2_with fail
    refine (c _).mono ?_
    rintro e w1 ⟨rfl, b1⟩
    have B1 : Hid (Below w.heap.size w w1) := b1
    clear b1 c
    go_wp2
    go_ret
    exact ⟨ret_str HE.out.symm, B1.out⟩
  · have c := Exts.l1Dec_any n w (by omega) h1
    rw [Exts.dec_w (by omega)] at c
    exact c
/-- The two digits of a byte. -/
def two (c : UInt8) : List UInt8 := [UInt8.ofNat (Nums.tab.getD (c.toNat / 16) 0).toNat, UInt8.ofNat (Nums.tab.getD (c.toNat % 16) 0).toNat]
def hexA (s : ByteArray) : ByteArray := ⟨(s.data.toList.flatMap two).toArray⟩
theorem size_list (s : ByteArray) : s.data.toList.length = s.size := by rw [Array.length_toList]; rfl
theorem flat_len (l : List UInt8) : (l.flatMap two).length = 2 * l.length := by
  induction l with
  | nil => rfl
  | cons x l ih => rw [List.flatMap_cons, List.length_append, ih, List.length_cons]; show 2 + _ = _; omega
theorem hexA_size (s : ByteArray) : (hexA s).size = 2 * s.size := by
  show (s.data.toList.flatMap two).toArray.size = _
  rw [List.size_toArray, flat_len, size_list]
def hexT (s : ByteArray) (k : Nat) : List UInt8 := (s.data.toList.take k).flatMap two
theorem hexT_step {s : ByteArray} {k : Nat} (h : k < s.size) : hexT s (k + 1) = hexT s k ++ two s[k] := by
  unfold hexT
  have hk : k < s.data.toList.length := by rw [size_list]; exact h
  rw [List.take_succ_eq_append_getElem hk, List.flatMap_append]
  simp
  rfl
theorem hexT_all (s : ByteArray) : hexT s s.size = s.data.toList.flatMap two := by
  unfold hexT
  rw [List.take_of_length_le (by rw [size_list]; exact Nat.le_refl _)]
theorem hexT_len {s : ByteArray} {k : Nat} (h : k ≤ s.size) : (hexT s k).length = 2 * k := by
  unfold hexT
  rw [flat_len, List.length_take, size_list]
  omega
theorem two_hex : ∀ c : Fin 256, (Hex.hexS (c.val : Int) 2).size = 3 ∧ ((Hex.hexS (c.val : Int) 2).extract 1 3).data.toList = two (UInt8.ofNat c.val) := by decide +kernel
theorem two_byte (c : UInt8) : (Hex.hexS (c.toNat : Int) 2).size = 3 ∧ ((Hex.hexS (c.toNat : Int) 2).extract 1 3).data.toList = two c := by
  have := two_hex ⟨c.toNat, c.toNat_lt⟩
  simpa using this
set_option maxHeartbeats 1000000 in
theorem l9Hex_any (s : ByteArray) (w : World) (hs : s.size ≤ 1048576) :
    Calls Tryz.prog 71 #[.string s] w fun e w' => e = .returned (.string (hexA s)) ∧ w' = w := by
  go_enter Tryz.func71, Tryz.ntmps71
  go_wp2
  go_loop [3, 4] (fun v i => ∃ k : Nat, k ≤ s.size ∧ v = .string ⟨(hexT s k).toArray⟩ ∧ i = .int .i64 (k : Int)) (fun _ i => s.size - (intOf i).toNat)
  case atStart => exact ⟨0, Nat.zero_le _, rfl, rfl⟩
  case round =>
    obtain ⟨k, hk, rfl, rfl⟩ := hrel
    by_cases hlt : k < s.size
    · have c := fun w => Hex.specHex_any ((s[k]'hlt).toNat : Int) 2 w
      obtain ⟨t1, t2⟩ := two_byte (s[k]'hlt)
      have HN : Hid ((⟨(hexT s k).toArray⟩ : ByteArray) ++ (Hex.hexS ((s[k]'hlt).toNat : Int) 2).extract 1 3 = ⟨(hexT s (k + 1)).toArray⟩) := (show _ = _ from by
        apply ByteArray.ext
        apply Array.ext'
        rw [ByteArray.data_append, Array.toList_append, t2, hexT_step hlt])
      have hl := hexT_len (s := s) (k := k) hk
      have hl' : (⟨(hexT s k).toArray⟩ : ByteArray).size = 2 * k := by show (hexT s k).toArray.size = _; rw [List.size_toArray, hl]
      have x3 : ((Hex.hexS ((s[k]'hlt).toNat : Int) 2).extract 1 3).size = 2 := by rw [ByteArray.size_extract, t1]; rfl
      have hb := (s[k]'hlt).toNat_lt
      have hix : ∀ w, (Instr.index 9 (.string s) (.int .i64 (k : Int))).run Tryz.prog w = .ok (.int .u8 ((s[k]'hlt).toNat : Int)) w := fun w => by
        rw [run_index_string w 9 s .i64 (k : Int) Tryz.underlying9, dif_pos ⟨by omega, by omega⟩]
        rfl
      have sl : ∀ w, (Instr.slice 9 (.string (Hex.hexS ((s[k]'hlt).toNat : Int) 2)) (some (.int .i64 1)) none none).run Tryz.prog w = .ok (.string ((Hex.hexS ((s[k]'hlt).toNat : Int) 2).extract 1 3)) w := fun w => by
        have := run_slice_string_l (P := Tryz.prog) w (t := 9) (s := Hex.hexS ((s[k]'hlt).toNat : Int) 2) Tryz.underlying9 .i64 1 (by omega) (by omega)
        rwa [t1] at this
      generalize (Hex.hexS ((s[k]'hlt).toNat : Int) 2).extract 1 3 = Y at sl HN x3
      generalize Hex.hexS ((s[k]'hlt).toNat : Int) 2 = X at c sl t1
      generalize (s[k]'hlt).toNat = cc at c hix hb
      generalize (⟨(hexT s k).toArray⟩ : ByteArray) = Z at HN hl'
      have q : ¬ 9223372036854775807 < Z.size + Y.size := by omega
      have dw : IntKind.i64.wrap (cc : Int) = cc := by rw [IntKind.wrap_i64]; omega
      have dk : IntKind.i64.wrap ((k : Int) + 1) = ((k + 1 : Nat) : Int) := by rw [IntKind.wrap_i64]; omega
      clear t2 hl hl' x3
      go_wp2_with (go_at_call 115; refine (c _).mono ?_; rintro e w' ⟨rfl, hw⟩; have hw := hw.symm; subst hw)
      go_round
      case rel => exact ⟨k + 1, by omega, by rw [HN.out], by go_num⟩
      case measure => simp [intOf]; omega
    · have e : k = s.size := by omega
      subst e
      have HA : Hid (hexA s = ⟨(hexT s s.size).toArray⟩) := (show _ = _ from by rw [hexT_all]; rfl)
      go_wp2
      go_ret
      exact ⟨ret_str HA.out, rfl⟩
end Go.Proofs.YtplkglgaobdpiaaGreatDoor.Otxa
