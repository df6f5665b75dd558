/-
  Contracts of ours for spec.HexOf and impl.HexOf, at every argument; impl's where the table of digits holds what its initialiser lays.
-/
import Derived.Test.YtplkglgaobdpiaaGreatDoorNums
import Derived.LoopN
import Derived.Laws.BytesArg
namespace Go.Proofs.YtplkglgaobdpiaaGreatDoor.Hex
open Go.ChangeShapes Go.WideShapes Go.ChangeAt Go.RowKit
open Nums (tab Tab)

def inB (n low high : Int) : Bool := decide (low ≤ n ∧ n ≤ high)
theorem ret_bool {a b : Bool} (h : a = b) : Ending.returned (.bool a) = .returned (.bool b) := by rw [h]
theorem isWord_any (n : Int) (w : World) :
    Calls Tryz.prog 151 #[.int .i64 n] w fun e w' => e = .returned (.bool (inB n 0 65535)) ∧ w' = w := by
  go_enter Tryz.func151, Tryz.ntmps151
  go_wp2
  all_goals go_ret
  all_goals exact ⟨ret_bool (by rw [Bool.eq_iff_iff]; simp [inB]; try omega), rfl⟩

theorem l1In_any (n low high : Int) (w : World) :
    Calls Tryz.prog 58 #[.int .i64 n, .int .i64 low, .int .i64 high] w fun e w' => e = .returned (.bool (inB n low high)) ∧ w' = w := by
  go_enter Tryz.func58, Tryz.ntmps58
  go_wp2
  all_goals go_ret
  all_goals exact ⟨ret_bool (by rw [Bool.eq_iff_iff]; simp [inB]; try omega), rfl⟩

theorem size_pos {w : World} (hT : Tab w) : 0 < w.heap.size := by
  have h := hT 0 (by decide)
  rcases Nat.lt_or_ge 0 w.heap.size with a | a
  · exact a
  · rw [World.cell?, Array.getElem?_eq_none a] at h; cases h

/-- The digits of n, sixteen a place, the last k. -/
def digs (n : Int) : Nat → List Int
  | 0 => []
  | k + 1 => digs (n / 16) k ++ [tab.getD (n % 16).toNat 0]

abbrev hexs : ByteArray := ⟨#[48, 49, 50, 51, 52, 53, 54, 55, 56, 57, 65, 66, 67, 68, 69, 70]⟩
def one (m : Int) : ByteArray := strOfNums [tab.getD m.toNat 0]
theorem one_size (m : Int) : (one m).size = 1 := by unfold one; rw [strOfNums_size]; rfl
theorem slice_nat (u : World) : ∀ k : Nat, k < 16 → (Instr.slice 9 (.string hexs) (some (.int .i64 (k : Int))) (some (.int .i64 ((k : Int) + 1))) none).run Tryz.prog u = .ok (.string (one (k : Int))) u
  | 0, _ => by kernel_rfl
  | 1, _ => by kernel_rfl
  | 2, _ => by kernel_rfl
  | 3, _ => by kernel_rfl
  | 4, _ => by kernel_rfl
  | 5, _ => by kernel_rfl
  | 6, _ => by kernel_rfl
  | 7, _ => by kernel_rfl
  | 8, _ => by kernel_rfl
  | 9, _ => by kernel_rfl
  | 10, _ => by kernel_rfl
  | 11, _ => by kernel_rfl
  | 12, _ => by kernel_rfl
  | 13, _ => by kernel_rfl
  | 14, _ => by kernel_rfl
  | 15, _ => by kernel_rfl
  | k + 16, h => absurd h (by omega)
theorem slice_one (m : Int) (h0 : 0 ≤ m) (h1 : m < 16) (u : World) : (Instr.slice 9 (.string hexs) (some (.int .i64 m)) (some (.int .i64 (m + 1))) none).run Tryz.prog u = .ok (.string (one m)) u := by
  obtain ⟨k, rfl⟩ := Int.eq_ofNat_of_zero_le h0
  exact slice_nat u k (by omega)
theorem str_append (a b : List Int) : strOfNums a ++ strOfNums b = strOfNums (a ++ b) := by
  apply ByteArray.ext
  rw [ByteArray.data_append]
  simp [strOfNums]
theorem nil_str : (⟨#[]⟩ : ByteArray) = strOfNums [] := rfl
theorem dollar_str : (⟨#[36]⟩ : ByteArray) = strOfNums [36] := rfl
def pw (d : Int) : Int := 16 ^ d.toNat
/-- The digits of a word with a sign ahead; nothing where it is not so. -/
def hexS (n d : Int) : ByteArray := if 1 ≤ d ∧ d ≤ 4 ∧ 0 ≤ n ∧ n ≤ 65535 ∧ n / pw d = 0 then strOfNums (36 :: digs n d.toNat) else ⟨#[]⟩
theorem hexS_no {n d : Int} (h : ¬ (1 ≤ d ∧ d ≤ 4 ∧ 0 ≤ n ∧ n ≤ 65535 ∧ n / pw d = 0)) : hexS n d = ⟨#[]⟩ := if_neg h
theorem hexS_yes {n d : Int} (h : 1 ≤ d ∧ d ≤ 4 ∧ 0 ≤ n ∧ n ≤ 65535 ∧ n / pw d = 0) : hexS n d = strOfNums (36 :: digs n d.toNat) := if_pos h
theorem ret_str {a b : ByteArray} (h : a = b) : Ending.returned (.string a) = .returned (.string b) := by rw [h]

set_option maxRecDepth 100000 in
set_option maxHeartbeats 400000 in
theorem spec1y (n : Int) (w : World) (h0 : 0 ≤ n) (h1 : n ≤ 65535) (hq : n / 16 = 0) :
    Calls Tryz.prog 115 #[.int .i64 n, .int .i64 1] w fun e w' => e = .returned (.string (strOfNums (36 :: digs n 1))) ∧ w' = w := by
  have hb : ¬ 0 < n / 16 := by omega
  clear hq
  have hi : inB n 0 65535 = true := decide_eq_true ⟨h0, h1⟩
  have hd : inB 1 1 4 = true := rfl
  have s0 := slice_one (n % 16) (by omega) (by omega)
  have z0 : (one (n % 16)).size = 1 := one_size _
  go_enter Tryz.func115, Tryz.ntmps115
  go_wp2_with (go_at_call 58; refine (l1In_any _ _ _ _).mono ?_; rintro e w' ⟨rfl, rfl⟩)
  refine wp_loop_rounds 2 ?_
  rw [rounds_succ]
  go_wp2
  rw [rounds_succ]
  go_wp2
  go_ret
  exact ⟨ret_str (by rw [nil_str, dollar_str]; simp only [one, str_append, digs, List.nil_append, List.cons_append]), rfl⟩

set_option maxRecDepth 100000 in
set_option maxHeartbeats 400000 in
theorem spec1n (n : Int) (w : World) (h0 : 0 ≤ n) (h1 : n ≤ 65535) (hq : ¬ n / 16 = 0) :
    Calls Tryz.prog 115 #[.int .i64 n, .int .i64 1] w fun e w' => e = .returned (.string (⟨#[]⟩)) ∧ w' = w := by
  have hb : 0 < n / 16 := by omega
  clear hq
  have hi : inB n 0 65535 = true := decide_eq_true ⟨h0, h1⟩
  have hd : inB 1 1 4 = true := rfl
  have s0 := slice_one (n % 16) (by omega) (by omega)
  have z0 : (one (n % 16)).size = 1 := one_size _
  go_enter Tryz.func115, Tryz.ntmps115
  go_wp2_with (go_at_call 58; refine (l1In_any _ _ _ _).mono ?_; rintro e w' ⟨rfl, rfl⟩)
  refine wp_loop_rounds 2 ?_
  rw [rounds_succ]
  go_wp2
  rw [rounds_succ]
  go_wp2
  go_ret
  exact ⟨rfl, rfl⟩

set_option maxRecDepth 100000 in
set_option maxHeartbeats 400000 in
theorem spec2y (n : Int) (w : World) (h0 : 0 ≤ n) (h1 : n ≤ 65535) (hq : n / 16 / 16 = 0) :
    Calls Tryz.prog 115 #[.int .i64 n, .int .i64 2] w fun e w' => e = .returned (.string (strOfNums (36 :: digs n 2))) ∧ w' = w := by
  have hb : ¬ 0 < n / 16 / 16 := by omega
  clear hq
  have hi : inB n 0 65535 = true := decide_eq_true ⟨h0, h1⟩
  have hd : inB 2 1 4 = true := rfl
  have s0 := slice_one (n % 16) (by omega) (by omega)
  have z0 : (one (n % 16)).size = 1 := one_size _
  have s1 := slice_one (n / 16 % 16) (by omega) (by omega)
  have z1 : (one (n / 16 % 16)).size = 1 := one_size _
  go_enter Tryz.func115, Tryz.ntmps115
  go_wp2_with (go_at_call 58; refine (l1In_any _ _ _ _).mono ?_; rintro e w' ⟨rfl, rfl⟩)
  refine wp_loop_rounds 3 ?_
  rw [rounds_succ]
  go_wp2
  rw [rounds_succ]
  go_wp2
  rw [rounds_succ]
  go_wp2
  go_ret
  exact ⟨ret_str (by rw [nil_str, dollar_str]; simp only [one, str_append, digs, List.nil_append, List.cons_append]), rfl⟩

set_option maxRecDepth 100000 in
set_option maxHeartbeats 400000 in
theorem spec2n (n : Int) (w : World) (h0 : 0 ≤ n) (h1 : n ≤ 65535) (hq : ¬ n / 16 / 16 = 0) :
    Calls Tryz.prog 115 #[.int .i64 n, .int .i64 2] w fun e w' => e = .returned (.string (⟨#[]⟩)) ∧ w' = w := by
  have hb : 0 < n / 16 / 16 := by omega
  clear hq
  have hi : inB n 0 65535 = true := decide_eq_true ⟨h0, h1⟩
  have hd : inB 2 1 4 = true := rfl
  have s0 := slice_one (n % 16) (by omega) (by omega)
  have z0 : (one (n % 16)).size = 1 := one_size _
  have s1 := slice_one (n / 16 % 16) (by omega) (by omega)
  have z1 : (one (n / 16 % 16)).size = 1 := one_size _
  go_enter Tryz.func115, Tryz.ntmps115
  go_wp2_with (go_at_call 58; refine (l1In_any _ _ _ _).mono ?_; rintro e w' ⟨rfl, rfl⟩)
  refine wp_loop_rounds 3 ?_
  rw [rounds_succ]
  go_wp2
  rw [rounds_succ]
  go_wp2
  rw [rounds_succ]
  go_wp2
  go_ret
  exact ⟨rfl, rfl⟩

set_option maxRecDepth 100000 in
set_option maxHeartbeats 400000 in
theorem spec3y (n : Int) (w : World) (h0 : 0 ≤ n) (h1 : n ≤ 65535) (hq : n / 16 / 16 / 16 = 0) :
    Calls Tryz.prog 115 #[.int .i64 n, .int .i64 3] w fun e w' => e = .returned (.string (strOfNums (36 :: digs n 3))) ∧ w' = w := by
  have hb : ¬ 0 < n / 16 / 16 / 16 := by omega
  clear hq
  have hi : inB n 0 65535 = true := decide_eq_true ⟨h0, h1⟩
  have hd : inB 3 1 4 = true := rfl
  have s0 := slice_one (n % 16) (by omega) (by omega)
  have z0 : (one (n % 16)).size = 1 := one_size _
  have s1 := slice_one (n / 16 % 16) (by omega) (by omega)
  have z1 : (one (n / 16 % 16)).size = 1 := one_size _
  have s2 := slice_one (n / 16 / 16 % 16) (by omega) (by omega)
  have z2 : (one (n / 16 / 16 % 16)).size = 1 := one_size _
  go_enter Tryz.func115, Tryz.ntmps115
  go_wp2_with (go_at_call 58; refine (l1In_any _ _ _ _).mono ?_; rintro e w' ⟨rfl, rfl⟩)
  refine wp_loop_rounds 4 ?_
  rw [rounds_succ]
  go_wp2
  rw [rounds_succ]
  go_wp2
  rw [rounds_succ]
  go_wp2
  rw [rounds_succ]
  go_wp2
  go_ret
  exact ⟨ret_str (by rw [nil_str, dollar_str]; simp only [one, str_append, digs, List.nil_append, List.cons_append]), rfl⟩

set_option maxRecDepth 100000 in
set_option maxHeartbeats 400000 in
theorem spec3n (n : Int) (w : World) (h0 : 0 ≤ n) (h1 : n ≤ 65535) (hq : ¬ n / 16 / 16 / 16 = 0) :
    Calls Tryz.prog 115 #[.int .i64 n, .int .i64 3] w fun e w' => e = .returned (.string (⟨#[]⟩)) ∧ w' = w := by
  have hb : 0 < n / 16 / 16 / 16 := by omega
  clear hq
  have hi : inB n 0 65535 = true := decide_eq_true ⟨h0, h1⟩
  have hd : inB 3 1 4 = true := rfl
  have s0 := slice_one (n % 16) (by omega) (by omega)
  have z0 : (one (n % 16)).size = 1 := one_size _
  have s1 := slice_one (n / 16 % 16) (by omega) (by omega)
  have z1 : (one (n / 16 % 16)).size = 1 := one_size _
  have s2 := slice_one (n / 16 / 16 % 16) (by omega) (by omega)
  have z2 : (one (n / 16 / 16 % 16)).size = 1 := one_size _
  go_enter Tryz.func115, Tryz.ntmps115
  go_wp2_with (go_at_call 58; refine (l1In_any _ _ _ _).mono ?_; rintro e w' ⟨rfl, rfl⟩)
  refine wp_loop_rounds 4 ?_
  rw [rounds_succ]
  go_wp2
  rw [rounds_succ]
  go_wp2
  rw [rounds_succ]
  go_wp2
  rw [rounds_succ]
  go_wp2
  go_ret
  exact ⟨rfl, rfl⟩

set_option maxRecDepth 100000 in
set_option maxHeartbeats 400000 in
theorem spec4y (n : Int) (w : World) (h0 : 0 ≤ n) (h1 : n ≤ 65535) (hq : n / 16 / 16 / 16 / 16 = 0) :
    Calls Tryz.prog 115 #[.int .i64 n, .int .i64 4] w fun e w' => e = .returned (.string (strOfNums (36 :: digs n 4))) ∧ w' = w := by
  have hb : ¬ 0 < n / 16 / 16 / 16 / 16 := by omega
  clear hq
  have hi : inB n 0 65535 = true := decide_eq_true ⟨h0, h1⟩
  have hd : inB 4 1 4 = true := rfl
  have s0 := slice_one (n % 16) (by omega) (by omega)
  have z0 : (one (n % 16)).size = 1 := one_size _
  have s1 := slice_one (n / 16 % 16) (by omega) (by omega)
  have z1 : (one (n / 16 % 16)).size = 1 := one_size _
  have s2 := slice_one (n / 16 / 16 % 16) (by omega) (by omega)
  have z2 : (one (n / 16 / 16 % 16)).size = 1 := one_size _
  have s3 := slice_one (n / 16 / 16 / 16 % 16) (by omega) (by omega)
  have z3 : (one (n / 16 / 16 / 16 % 16)).size = 1 := one_size _
  go_enter Tryz.func115, Tryz.ntmps115
  go_wp2_with (go_at_call 58; refine (l1In_any _ _ _ _).mono ?_; rintro e w' ⟨rfl, rfl⟩)
  refine wp_loop_rounds 5 ?_
  rw [rounds_succ]
  go_wp2
  rw [rounds_succ]
  go_wp2
  rw [rounds_succ]
  go_wp2
  rw [rounds_succ]
  go_wp2
  rw [rounds_succ]
  go_wp2
  go_ret
  exact ⟨ret_str (by rw [nil_str, dollar_str]; simp only [one, str_append, digs, List.nil_append, List.cons_append]), rfl⟩

theorem spec4n (n : Int) (w : World) (_h0 : 0 ≤ n) (_h1 : n ≤ 65535) (hq : ¬ n / 16 / 16 / 16 / 16 = 0) :
    Calls Tryz.prog 115 #[.int .i64 n, .int .i64 4] w fun e w' => e = .returned (.string (⟨#[]⟩)) ∧ w' = w := absurd (by omega) hq

set_option maxHeartbeats 400000 in
theorem specHex_any (n d : Int) (w : World) :
    Calls Tryz.prog 115 #[.int .i64 n, .int .i64 d] w fun e w' => e = .returned (.string (hexS n d)) ∧ w' = w := by
  by_cases hd : ¬ (1 ≤ d ∧ d ≤ 4)
  · rw [hexS_no (by omega)]
    have hi : inB d 1 4 = false := decide_eq_false hd
    clear hd
    go_enter Tryz.func115, Tryz.ntmps115
    go_wp2_with (go_at_call 58; refine (l1In_any _ _ _ _).mono ?_; rintro e w' ⟨rfl, rfl⟩)
    go_ret
    exact ⟨rfl, rfl⟩
  by_cases hn : 0 ≤ n ∧ n ≤ 65535
  · obtain ⟨h0, h1⟩ := hn
    have hdd : d = 1 ∨ d = 2 ∨ d = 3 ∨ d = 4 := by omega
    rcases hdd with rfl | rfl | rfl | rfl
    · have e : n / pw 1 = n / 16 := by unfold pw; show n / (16 ^ 1) = _; omega
      by_cases hq : n / 16 = 0
      · rw [hexS_yes ⟨by decide, by decide, h0, h1, by omega⟩]
        exact spec1y n w h0 h1 hq
      · rw [hexS_no (fun h => hq (by omega))]
        exact spec1n n w h0 h1 hq
    · have e : n / pw 2 = n / 16 / 16 := by unfold pw; show n / (16 ^ 2) = _; omega
      by_cases hq : n / 16 / 16 = 0
      · rw [hexS_yes ⟨by decide, by decide, h0, h1, by omega⟩]
        exact spec2y n w h0 h1 hq
      · rw [hexS_no (fun h => hq (by omega))]
        exact spec2n n w h0 h1 hq
    · have e : n / pw 3 = n / 16 / 16 / 16 := by unfold pw; show n / (16 ^ 3) = _; omega
      by_cases hq : n / 16 / 16 / 16 = 0
      · rw [hexS_yes ⟨by decide, by decide, h0, h1, by omega⟩]
        exact spec3y n w h0 h1 hq
      · rw [hexS_no (fun h => hq (by omega))]
        exact spec3n n w h0 h1 hq
    · have e : n / pw 4 = n / 16 / 16 / 16 / 16 := by unfold pw; show n / (16 ^ 4) = _; omega
      by_cases hq : n / 16 / 16 / 16 / 16 = 0
      · rw [hexS_yes ⟨by decide, by decide, h0, h1, by omega⟩]
        exact spec4y n w h0 h1 hq
      · rw [hexS_no (fun h => hq (by omega))]
        exact spec4n n w h0 h1 hq
  · rw [hexS_no (by omega)]
    have hi : inB n 0 65535 = false := decide_eq_false hn
    have hi' : inB d 1 4 = true := decide_eq_true (Classical.not_not.1 hd)
    clear hn hd
    go_enter Tryz.func115, Tryz.ntmps115
    go_wp2_with (go_at_call 58; refine (l1In_any _ _ _ _).mono ?_; rintro e w' ⟨rfl, rfl⟩)
    go_ret
    exact ⟨rfl, rfl⟩

end Go.Proofs.YtplkglgaobdpiaaGreatDoor.Hex
