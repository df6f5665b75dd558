/-
  Contracts of ours for spec.HexOf and impl.HexOf, at every argument; impl's where the table of digits holds what its initialiser lays.
-/
import Derived.Test.YtnfonccimaikgaaGreatDoorNums
import Derived.LoopN
import Derived.Laws.BytesArg
namespace Go.Proofs.YtnfonccimaikgaaGreatDoor.Hex
open Go.ChangeShapes Go.WideShapes Go.ChangeAt Go.RowKit
open Nums (tab Tab)

def inB (n low high : Int) : Bool := decide (low ≤ n ∧ n ≤ high)
theorem ret_bool {a b : Bool} (h : a = b) : Ending.returned (.bool a) = .returned (.bool b) := by rw [h]
theorem isWord_any (n : Int) (w : World) :
    Calls Tryz.prog 57 #[.int .i64 n] w fun e w' => e = .returned (.bool (inB n 0 65535)) ∧ w' = w := by
  go_enter Tryz.func57, Tryz.ntmps57
  go_wp2
  all_goals go_ret
  all_goals exact ⟨ret_bool (by rw [Bool.eq_iff_iff]; simp [inB]; try omega), rfl⟩

theorem l1In_any (n low high : Int) (w : World) :
    Calls Tryz.prog 12 #[.int .i64 n, .int .i64 low, .int .i64 high] w fun e w' => e = .returned (.bool (inB n low high)) ∧ w' = w := by
  go_enter Tryz.func12, Tryz.ntmps12
  go_wp2
  all_goals go_ret
  all_goals exact ⟨ret_bool (by rw [Bool.eq_iff_iff]; simp [inB]; try omega), rfl⟩

theorem size_pos {w : World} (hT : Tab w) : 0 < w.heap.size := by
  have h := hT 0 (by decide)
  rcases Nat.lt_or_ge 0 w.heap.size with a | a
  · exact a
  · rw [World.cell?, Array.getElem?_eq_none a] at h; cases h

/-- The digits of n in base 16, the last k. -/
def digs (n : Int) : Nat → List Int
  | 0 => []
  | k + 1 => digs (n / 16) k ++ [tab.getD (n % 16).toNat 0]

abbrev hexs : ByteArray := ⟨#[48, 49, 50, 51, 52, 53, 54, 55, 56, 57, 65, 66, 67, 68, 69, 70]⟩
def one (m : Int) : ByteArray := strOfNums [tab.getD m.toNat 0]
theorem one_size (m : Int) : (one m).size = 1 := by unfold one; rw [strOfNums_size]; rfl
theorem slice_nat (u : World) : ∀ k : Nat, k < 16 → (Instr.slice 9 (.string hexs) (some (.int .i64 (k : Int))) (some (.int .i64 ((k : Int) + 1))) none).run Tryz.prog u = .ok (.string (one (k : Int))) u
  | 0, _ => by kernel_rfl
  | 1, _ => by kernel_rfl
  | 2, _ => by kernel_rfl
  | 3, _ => by kernel_rfl
  | 4, _ => by kernel_rfl
  | 5, _ => by kernel_rfl
  | 6, _ => by kernel_rfl
  | 7, _ => by kernel_rfl
  | 8, _ => by kernel_rfl
  | 9, _ => by kernel_rfl
  | 10, _ => by kernel_rfl
  | 11, _ => by kernel_rfl
  | 12, _ => by kernel_rfl
  | 13, _ => by kernel_rfl
  | 14, _ => by kernel_rfl
  | 15, _ => by kernel_rfl
  | k + 16, h => absurd h (by omega)
theorem slice_one (m : Int) (h0 : 0 ≤ m) (h1 : m < 16) (u : World) : (Instr.slice 9 (.string hexs) (some (.int .i64 m)) (some (.int .i64 (m + 1))) none).run Tryz.prog u = .ok (.string (one m)) u := by
  obtain ⟨k, rfl⟩ := Int.eq_ofNat_of_zero_le h0
  exact slice_nat u k (by omega)
theorem str_append (a b : List Int) : strOfNums a ++ strOfNums b = strOfNums (a ++ b) := by
  apply ByteArray.ext
  rw [ByteArray.data_append]
  simp [strOfNums]
theorem nil_str : (⟨#[]⟩ : ByteArray) = strOfNums [] := rfl
theorem dollar_str : (⟨#[36]⟩ : ByteArray) = strOfNums [36] := rfl
def pw (d : Int) : Int := 16 ^ d.toNat
/-- The digits of a word with a sign ahead; nothing where it is not so. -/
def hexS (n d : Int) : ByteArray := if 1 ≤ d ∧ d ≤ 4 ∧ 0 ≤ n ∧ n ≤ 65535 ∧ n / pw d = 0 then strOfNums (36 :: digs n d.toNat) else ⟨#[]⟩
theorem hexS_no {n d : Int} (h : ¬ (1 ≤ d ∧ d ≤ 4 ∧ 0 ≤ n ∧ n ≤ 65535 ∧ n / pw d = 0)) : hexS n d = ⟨#[]⟩ := if_neg h
theorem hexS_yes {n d : Int} (h : 1 ≤ d ∧ d ≤ 4 ∧ 0 ≤ n ∧ n ≤ 65535 ∧ n / pw d = 0) : hexS n d = strOfNums (36 :: digs n d.toNat) := if_pos h
theorem ret_str {a b : ByteArray} (h : a = b) : Ending.returned (.string a) = .returned (.string b) := by rw [h]

set_option maxRecDepth 100000 in
set_option maxHeartbeats 400000 in
theorem impl1y (n : Int) (w : World) (h0 : 0 ≤ n) (h1 : n ≤ 65535) (hT : Tab w) (hq : n / 16 = 0) :
    Calls Tryz.prog 42 #[.int .i64 n, .int .i64 1] w fun e w' => e = .returned (.string (strOfNums (36 :: digs n 1))) ∧ Below w.heap.size w w' := by
  have hb : (n / 16 != 0) = false := by simp; omega
  clear hq
  have hmk : ∀ w, (Instr.makeSlice 47 (.int .i64 2) (.int .i64 2)).run Tryz.prog w = .ok (.slice (some ⟨w.heap.size, 0, none⟩) 2 2) (w.alloc (.cells #[.int .u8 0, .int .u8 0] 5)) := fun _ => by kernel_rfl
  have hi : inB n 0 65535 = true := decide_eq_true ⟨h0, h1⟩
  have hz := size_pos hT
  have t0 := hT (n % 16).toNat (by omega)
  obtain ⟨x0, hx0⟩ : ∃ x, x = tab.getD (n % 16).toNat 0 := ⟨_, rfl⟩
  rw [← hx0] at t0
  have HX : Hid (digs n 1 = [x0]) := by
    show digs n 1 = _
    simp only [digs, List.nil_append]
    rw [← hx0]
  clear hT hx0
  have hcv : ∀ u : World, (convert 47 9 (.slice (some ⟨u.heap.size, 0, none⟩) 2 2)).run Tryz.prog (u.alloc (.cells #[.int .u8 36, .int .u8 x0] 5)) = .ok (.string (strOfNums [36, x0])) (u.alloc (.cells #[.int .u8 36, .int .u8 x0] 5)) := fun u =>
    run_convert_bytes_arg _ 47 5 Tryz.underlying47 Tryz.underlying5 u.heap.size 0 2 2 [36, x0] rfl (fun i hi => by
      rw [Nat.zero_add, World.cell?_alloc_new]
      match i, hi with
      | 0, _ => rfl
      | 1, _ => rfl) 9 Tryz.underlying9
  go_enter Tryz.func42, Tryz.ntmps42
  go_wp2_with (go_at_call 57; refine (isWord_any _ _).mono ?_; rintro e w' ⟨rfl, rfl⟩)
  refine wp_loop_rounds 2 ?_
  rw [rounds_succ]
  go_wp2
  rw [rounds_succ]
  go_wp2
  go_ret
  exact ⟨by rw [HX.out]; rfl, (Below.refl _ _).alloc (Nat.le_refl _) _⟩

set_option maxRecDepth 100000 in
set_option maxHeartbeats 400000 in
theorem impl1n (n : Int) (w : World) (h0 : 0 ≤ n) (h1 : n ≤ 65535) (hT : Tab w) (hq : ¬ n / 16 = 0) :
    Calls Tryz.prog 42 #[.int .i64 n, .int .i64 1] w fun e w' => e = .returned (.string (⟨#[]⟩)) ∧ Below w.heap.size w w' := by
  have hb : (n / 16 != 0) = true := by simp; omega
  clear hq
  have hmk : ∀ w, (Instr.makeSlice 47 (.int .i64 2) (.int .i64 2)).run Tryz.prog w = .ok (.slice (some ⟨w.heap.size, 0, none⟩) 2 2) (w.alloc (.cells #[.int .u8 0, .int .u8 0] 5)) := fun _ => by kernel_rfl
  have hi : inB n 0 65535 = true := decide_eq_true ⟨h0, h1⟩
  have hz := size_pos hT
  have t0 := hT (n % 16).toNat (by omega)
  obtain ⟨x0, hx0⟩ : ∃ x, x = tab.getD (n % 16).toNat 0 := ⟨_, rfl⟩
  rw [← hx0] at t0
  have HX : Hid (digs n 1 = [x0]) := by
    show digs n 1 = _
    simp only [digs, List.nil_append]
    rw [← hx0]
  clear hT hx0
  go_enter Tryz.func42, Tryz.ntmps42
  go_wp2_with (go_at_call 57; refine (isWord_any _ _).mono ?_; rintro e w' ⟨rfl, rfl⟩)
  refine wp_loop_rounds 2 ?_
  rw [rounds_succ]
  go_wp2
  rw [rounds_succ]
  go_wp2
  go_ret
  exact ⟨rfl, (Below.refl _ _).alloc (Nat.le_refl _) _⟩

set_option maxRecDepth 100000 in
set_option maxHeartbeats 400000 in
theorem impl2y (n : Int) (w : World) (h0 : 0 ≤ n) (h1 : n ≤ 65535) (hT : Tab w) (hq : n / 16 / 16 = 0) :
    Calls Tryz.prog 42 #[.int .i64 n, .int .i64 2] w fun e w' => e = .returned (.string (strOfNums (36 :: digs n 2))) ∧ Below w.heap.size w w' := by
  have hb : (n / 16 / 16 != 0) = false := by simp; omega
  clear hq
  have hmk : ∀ w, (Instr.makeSlice 47 (.int .i64 3) (.int .i64 3)).run Tryz.prog w = .ok (.slice (some ⟨w.heap.size, 0, none⟩) 3 3) (w.alloc (.cells #[.int .u8 0, .int .u8 0, .int .u8 0] 5)) := fun _ => by kernel_rfl
  have hi : inB n 0 65535 = true := decide_eq_true ⟨h0, h1⟩
  have hz := size_pos hT
  have t0 := hT (n % 16).toNat (by omega)
  have t1 := hT (n / 16 % 16).toNat (by omega)
  obtain ⟨x0, hx0⟩ : ∃ x, x = tab.getD (n % 16).toNat 0 := ⟨_, rfl⟩
  rw [← hx0] at t0
  obtain ⟨x1, hx1⟩ : ∃ x, x = tab.getD (n / 16 % 16).toNat 0 := ⟨_, rfl⟩
  rw [← hx1] at t1
  have HX : Hid (digs n 2 = [x1, x0]) := by
    show digs n 2 = _
    simp only [digs, List.nil_append, List.cons_append]
    rw [← hx0, ← hx1]
  clear hT hx0 hx1
  have hcv : ∀ u : World, (convert 47 9 (.slice (some ⟨u.heap.size, 0, none⟩) 3 3)).run Tryz.prog (u.alloc (.cells #[.int .u8 36, .int .u8 x1, .int .u8 x0] 5)) = .ok (.string (strOfNums [36, x1, x0])) (u.alloc (.cells #[.int .u8 36, .int .u8 x1, .int .u8 x0] 5)) := fun u =>
    run_convert_bytes_arg _ 47 5 Tryz.underlying47 Tryz.underlying5 u.heap.size 0 3 3 [36, x1, x0] rfl (fun i hi => by
      rw [Nat.zero_add, World.cell?_alloc_new]
      match i, hi with
      | 0, _ => rfl
      | 1, _ => rfl
      | 2, _ => rfl) 9 Tryz.underlying9
  go_enter Tryz.func42, Tryz.ntmps42
  go_wp2_with (go_at_call 57; refine (isWord_any _ _).mono ?_; rintro e w' ⟨rfl, rfl⟩)
  refine wp_loop_rounds 3 ?_
  rw [rounds_succ]
  go_wp2
  rw [rounds_succ]
  go_wp2
  rw [rounds_succ]
  go_wp2
  go_ret
  exact ⟨by rw [HX.out]; rfl, (Below.refl _ _).alloc (Nat.le_refl _) _⟩

set_option maxRecDepth 100000 in
set_option maxHeartbeats 400000 in
theorem impl2n (n : Int) (w : World) (h0 : 0 ≤ n) (h1 : n ≤ 65535) (hT : Tab w) (hq : ¬ n / 16 / 16 = 0) :
    Calls Tryz.prog 42 #[.int .i64 n, .int .i64 2] w fun e w' => e = .returned (.string (⟨#[]⟩)) ∧ Below w.heap.size w w' := by
  have hb : (n / 16 / 16 != 0) = true := by simp; omega
  clear hq
  have hmk : ∀ w, (Instr.makeSlice 47 (.int .i64 3) (.int .i64 3)).run Tryz.prog w = .ok (.slice (some ⟨w.heap.size, 0, none⟩) 3 3) (w.alloc (.cells #[.int .u8 0, .int .u8 0, .int .u8 0] 5)) := fun _ => by kernel_rfl
  have hi : inB n 0 65535 = true := decide_eq_true ⟨h0, h1⟩
  have hz := size_pos hT
  have t0 := hT (n % 16).toNat (by omega)
  have t1 := hT (n / 16 % 16).toNat (by omega)
  obtain ⟨x0, hx0⟩ : ∃ x, x = tab.getD (n % 16).toNat 0 := ⟨_, rfl⟩
  rw [← hx0] at t0
  obtain ⟨x1, hx1⟩ : ∃ x, x = tab.getD (n / 16 % 16).toNat 0 := ⟨_, rfl⟩
  rw [← hx1] at t1
  have HX : Hid (digs n 2 = [x1, x0]) := by
    show digs n 2 = _
    simp only [digs, List.nil_append, List.cons_append]
    rw [← hx0, ← hx1]
  clear hT hx0 hx1
  go_enter Tryz.func42, Tryz.ntmps42
  go_wp2_with (go_at_call 57; refine (isWord_any _ _).mono ?_; rintro e w' ⟨rfl, rfl⟩)
  refine wp_loop_rounds 3 ?_
  rw [rounds_succ]
  go_wp2
  rw [rounds_succ]
  go_wp2
  rw [rounds_succ]
  go_wp2
  go_ret
  exact ⟨rfl, (Below.refl _ _).alloc (Nat.le_refl _) _⟩

set_option maxRecDepth 100000 in
set_option maxHeartbeats 400000 in
theorem impl3y (n : Int) (w : World) (h0 : 0 ≤ n) (h1 : n ≤ 65535) (hT : Tab w) (hq : n / 16 / 16 / 16 = 0) :
    Calls Tryz.prog 42 #[.int .i64 n, .int .i64 3] w fun e w' => e = .returned (.string (strOfNums (36 :: digs n 3))) ∧ Below w.heap.size w w' := by
  have hb : (n / 16 / 16 / 16 != 0) = false := by simp; omega
  clear hq
  have hmk : ∀ w, (Instr.makeSlice 47 (.int .i64 4) (.int .i64 4)).run Tryz.prog w = .ok (.slice (some ⟨w.heap.size, 0, none⟩) 4 4) (w.alloc (.cells #[.int .u8 0, .int .u8 0, .int .u8 0, .int .u8 0] 5)) := fun _ => by kernel_rfl
  have hi : inB n 0 65535 = true := decide_eq_true ⟨h0, h1⟩
  have hz := size_pos hT
  have t0 := hT (n % 16).toNat (by omega)
  have t1 := hT (n / 16 % 16).toNat (by omega)
  have t2 := hT (n / 16 / 16 % 16).toNat (by omega)
  obtain ⟨x0, hx0⟩ : ∃ x, x = tab.getD (n % 16).toNat 0 := ⟨_, rfl⟩
  rw [← hx0] at t0
  obtain ⟨x1, hx1⟩ : ∃ x, x = tab.getD (n / 16 % 16).toNat 0 := ⟨_, rfl⟩
  rw [← hx1] at t1
  obtain ⟨x2, hx2⟩ : ∃ x, x = tab.getD (n / 16 / 16 % 16).toNat 0 := ⟨_, rfl⟩
  rw [← hx2] at t2
  have HX : Hid (digs n 3 = [x2, x1, x0]) := by
    show digs n 3 = _
    simp only [digs, List.nil_append, List.cons_append]
    rw [← hx0, ← hx1, ← hx2]
  clear hT hx0 hx1 hx2
  have hcv : ∀ u : World, (convert 47 9 (.slice (some ⟨u.heap.size, 0, none⟩) 4 4)).run Tryz.prog (u.alloc (.cells #[.int .u8 36, .int .u8 x2, .int .u8 x1, .int .u8 x0] 5)) = .ok (.string (strOfNums [36, x2, x1, x0])) (u.alloc (.cells #[.int .u8 36, .int .u8 x2, .int .u8 x1, .int .u8 x0] 5)) := fun u =>
    run_convert_bytes_arg _ 47 5 Tryz.underlying47 Tryz.underlying5 u.heap.size 0 4 4 [36, x2, x1, x0] rfl (fun i hi => by
      rw [Nat.zero_add, World.cell?_alloc_new]
      match i, hi with
      | 0, _ => rfl
      | 1, _ => rfl
      | 2, _ => rfl
      | 3, _ => rfl) 9 Tryz.underlying9
  go_enter Tryz.func42, Tryz.ntmps42
  go_wp2_with (go_at_call 57; refine (isWord_any _ _).mono ?_; rintro e w' ⟨rfl, rfl⟩)
  refine wp_loop_rounds 4 ?_
  rw [rounds_succ]
  go_wp2
  rw [rounds_succ]
  go_wp2
  rw [rounds_succ]
  go_wp2
  rw [rounds_succ]
  go_wp2
  go_ret
  exact ⟨by rw [HX.out]; rfl, (Below.refl _ _).alloc (Nat.le_refl _) _⟩

set_option maxRecDepth 100000 in
set_option maxHeartbeats 400000 in
theorem impl3n (n : Int) (w : World) (h0 : 0 ≤ n) (h1 : n ≤ 65535) (hT : Tab w) (hq : ¬ n / 16 / 16 / 16 = 0) :
    Calls Tryz.prog 42 #[.int .i64 n, .int .i64 3] w fun e w' => e = .returned (.string (⟨#[]⟩)) ∧ Below w.heap.size w w' := by
  have hb : (n / 16 / 16 / 16 != 0) = true := by simp; omega
  clear hq
  have hmk : ∀ w, (Instr.makeSlice 47 (.int .i64 4) (.int .i64 4)).run Tryz.prog w = .ok (.slice (some ⟨w.heap.size, 0, none⟩) 4 4) (w.alloc (.cells #[.int .u8 0, .int .u8 0, .int .u8 0, .int .u8 0] 5)) := fun _ => by kernel_rfl
  have hi : inB n 0 65535 = true := decide_eq_true ⟨h0, h1⟩
  have hz := size_pos hT
  have t0 := hT (n % 16).toNat (by omega)
  have t1 := hT (n / 16 % 16).toNat (by omega)
  have t2 := hT (n / 16 / 16 % 16).toNat (by omega)
  obtain ⟨x0, hx0⟩ : ∃ x, x = tab.getD (n % 16).toNat 0 := ⟨_, rfl⟩
  rw [← hx0] at t0
  obtain ⟨x1, hx1⟩ : ∃ x, x = tab.getD (n / 16 % 16).toNat 0 := ⟨_, rfl⟩
  rw [← hx1] at t1
  obtain ⟨x2, hx2⟩ : ∃ x, x = tab.getD (n / 16 / 16 % 16).toNat 0 := ⟨_, rfl⟩
  rw [← hx2] at t2
  have HX : Hid (digs n 3 = [x2, x1, x0]) := by
    show digs n 3 = _
    simp only [digs, List.nil_append, List.cons_append]
    rw [← hx0, ← hx1, ← hx2]
  clear hT hx0 hx1 hx2
  go_enter Tryz.func42, Tryz.ntmps42
  go_wp2_with (go_at_call 57; refine (isWord_any _ _).mono ?_; rintro e w' ⟨rfl, rfl⟩)
  refine wp_loop_rounds 4 ?_
  rw [rounds_succ]
  go_wp2
  rw [rounds_succ]
  go_wp2
  rw [rounds_succ]
  go_wp2
  rw [rounds_succ]
  go_wp2
  go_ret
  exact ⟨rfl, (Below.refl _ _).alloc (Nat.le_refl _) _⟩

set_option maxRecDepth 100000 in
set_option maxHeartbeats 400000 in
theorem impl4y (n : Int) (w : World) (h0 : 0 ≤ n) (h1 : n ≤ 65535) (hT : Tab w) (hq : n / 16 / 16 / 16 / 16 = 0) :
    Calls Tryz.prog 42 #[.int .i64 n, .int .i64 4] w fun e w' => e = .returned (.string (strOfNums (36 :: digs n 4))) ∧ Below w.heap.size w w' := by
  have hb : (n / 16 / 16 / 16 / 16 != 0) = false := by simp; omega
  clear hq
  have hmk : ∀ w, (Instr.makeSlice 47 (.int .i64 5) (.int .i64 5)).run Tryz.prog w = .ok (.slice (some ⟨w.heap.size, 0, none⟩) 5 5) (w.alloc (.cells #[.int .u8 0, .int .u8 0, .int .u8 0, .int .u8 0, .int .u8 0] 5)) := fun _ => by kernel_rfl
  have hi : inB n 0 65535 = true := decide_eq_true ⟨h0, h1⟩
  have hz := size_pos hT
  have t0 := hT (n % 16).toNat (by omega)
  have t1 := hT (n / 16 % 16).toNat (by omega)
  have t2 := hT (n / 16 / 16 % 16).toNat (by omega)
  have t3 := hT (n / 16 / 16 / 16 % 16).toNat (by omega)
  obtain ⟨x0, hx0⟩ : ∃ x, x = tab.getD (n % 16).toNat 0 := ⟨_, rfl⟩
  rw [← hx0] at t0
  obtain ⟨x1, hx1⟩ : ∃ x, x = tab.getD (n / 16 % 16).toNat 0 := ⟨_, rfl⟩
  rw [← hx1] at t1
  obtain ⟨x2, hx2⟩ : ∃ x, x = tab.getD (n / 16 / 16 % 16).toNat 0 := ⟨_, rfl⟩
  rw [← hx2] at t2
  obtain ⟨x3, hx3⟩ : ∃ x, x = tab.getD (n / 16 / 16 / 16 % 16).toNat 0 := ⟨_, rfl⟩
  rw [← hx3] at t3
  have HX : Hid (digs n 4 = [x3, x2, x1, x0]) := by
    show digs n 4 = _
    simp only [digs, List.nil_append, List.cons_append]
    rw [← hx0, ← hx1, ← hx2, ← hx3]
  clear hT hx0 hx1 hx2 hx3
  have hcv : ∀ u : World, (convert 47 9 (.slice (some ⟨u.heap.size, 0, none⟩) 5 5)).run Tryz.prog (u.alloc (.cells #[.int .u8 36, .int .u8 x3, .int .u8 x2, .int .u8 x1, .int .u8 x0] 5)) = .ok (.string (strOfNums [36, x3, x2, x1, x0])) (u.alloc (.cells #[.int .u8 36, .int .u8 x3, .int .u8 x2, .int .u8 x1, .int .u8 x0] 5)) := fun u =>
    run_convert_bytes_arg _ 47 5 Tryz.underlying47 Tryz.underlying5 u.heap.size 0 5 5 [36, x3, x2, x1, x0] rfl (fun i hi => by
      rw [Nat.zero_add, World.cell?_alloc_new]
      match i, hi with
      | 0, _ => rfl
      | 1, _ => rfl
      | 2, _ => rfl
      | 3, _ => rfl
      | 4, _ => rfl) 9 Tryz.underlying9
  go_enter Tryz.func42, Tryz.ntmps42
  go_wp2_with (go_at_call 57; refine (isWord_any _ _).mono ?_; rintro e w' ⟨rfl, rfl⟩)
  refine wp_loop_rounds 5 ?_
  rw [rounds_succ]
  go_wp2
  rw [rounds_succ]
  go_wp2
  rw [rounds_succ]
  go_wp2
  rw [rounds_succ]
  go_wp2
  rw [rounds_succ]
  go_wp2
  go_ret
  exact ⟨by rw [HX.out]; rfl, (Below.refl _ _).alloc (Nat.le_refl _) _⟩

theorem impl4n (n : Int) (w : World) (_h0 : 0 ≤ n) (_h1 : n ≤ 65535) (_hT : Tab w) (hq : ¬ n / 16 / 16 / 16 / 16 = 0) :
    Calls Tryz.prog 42 #[.int .i64 n, .int .i64 4] w fun e w' => e = .returned (.string (⟨#[]⟩)) ∧ Below w.heap.size w w' := absurd (by omega) hq

set_option maxRecDepth 100000 in
set_option maxHeartbeats 400000 in
theorem spec1y (n : Int) (w : World) (h0 : 0 ≤ n) (h1 : n ≤ 65535) (hq : n / 16 = 0) :
    Calls Tryz.prog 24 #[.int .i64 n, .int .i64 1] w fun e w' => e = .returned (.string (strOfNums (36 :: digs n 1))) ∧ w' = w := by
  have hb : ¬ 0 < n / 16 := by omega
  clear hq
  have hi : inB n 0 65535 = true := decide_eq_true ⟨h0, h1⟩
  have hd : inB 1 1 4 = true := rfl
  have s0 := slice_one (n % 16) (by omega) (by omega)
  have z0 : (one (n % 16)).size = 1 := one_size _
  go_enter Tryz.func24, Tryz.ntmps24
  go_wp2_with (go_at_call 12; refine (l1In_any _ _ _ _).mono ?_; rintro e w' ⟨rfl, rfl⟩)
  refine wp_loop_rounds 2 ?_
  rw [rounds_succ]
  go_wp2
  rw [rounds_succ]
  go_wp2
  go_ret
  exact ⟨ret_str (by rw [nil_str, dollar_str]; simp only [one, str_append, digs, List.nil_append, List.cons_append]), rfl⟩

set_option maxRecDepth 100000 in
set_option maxHeartbeats 400000 in
theorem spec1n (n : Int) (w : World) (h0 : 0 ≤ n) (h1 : n ≤ 65535) (hq : ¬ n / 16 = 0) :
    Calls Tryz.prog 24 #[.int .i64 n, .int .i64 1] w fun e w' => e = .returned (.string (⟨#[]⟩)) ∧ w' = w := by
  have hb : 0 < n / 16 := by omega
  clear hq
  have hi : inB n 0 65535 = true := decide_eq_true ⟨h0, h1⟩
  have hd : inB 1 1 4 = true := rfl
  have s0 := slice_one (n % 16) (by omega) (by omega)
  have z0 : (one (n % 16)).size = 1 := one_size _
  go_enter Tryz.func24, Tryz.ntmps24
  go_wp2_with (go_at_call 12; refine (l1In_any _ _ _ _).mono ?_; rintro e w' ⟨rfl, rfl⟩)
  refine wp_loop_rounds 2 ?_
  rw [rounds_succ]
  go_wp2
  rw [rounds_succ]
  go_wp2
  go_ret
  exact ⟨rfl, rfl⟩

set_option maxRecDepth 100000 in
set_option maxHeartbeats 400000 in
theorem spec2y (n : Int) (w : World) (h0 : 0 ≤ n) (h1 : n ≤ 65535) (hq : n / 16 / 16 = 0) :
    Calls Tryz.prog 24 #[.int .i64 n, .int .i64 2] w fun e w' => e = .returned (.string (strOfNums (36 :: digs n 2))) ∧ w' = w := by
  have hb : ¬ 0 < n / 16 / 16 := by omega
  clear hq
  have hi : inB n 0 65535 = true := decide_eq_true ⟨h0, h1⟩
  have hd : inB 2 1 4 = true := rfl
  have s0 := slice_one (n % 16) (by omega) (by omega)
  have z0 : (one (n % 16)).size = 1 := one_size _
  have s1 := slice_one (n / 16 % 16) (by omega) (by omega)
  have z1 : (one (n / 16 % 16)).size = 1 := one_size _
  go_enter Tryz.func24, Tryz.ntmps24
  go_wp2_with (go_at_call 12; refine (l1In_any _ _ _ _).mono ?_; rintro e w' ⟨rfl, rfl⟩)
  refine wp_loop_rounds 3 ?_
  rw [rounds_succ]
  go_wp2
  rw [rounds_succ]
  go_wp2
  rw [rounds_succ]
  go_wp2
  go_ret
  exact ⟨ret_str (by rw [nil_str, dollar_str]; simp only [one, str_append, digs, List.nil_append, List.cons_append]), rfl⟩

set_option maxRecDepth 100000 in
set_option maxHeartbeats 400000 in
theorem spec2n (n : Int) (w : World) (h0 : 0 ≤ n) (h1 : n ≤ 65535) (hq : ¬ n / 16 / 16 = 0) :
    Calls Tryz.prog 24 #[.int .i64 n, .int .i64 2] w fun e w' => e = .returned (.string (⟨#[]⟩)) ∧ w' = w := by
  have hb : 0 < n / 16 / 16 := by omega
  clear hq
  have hi : inB n 0 65535 = true := decide_eq_true ⟨h0, h1⟩
  have hd : inB 2 1 4 = true := rfl
  have s0 := slice_one (n % 16) (by omega) (by omega)
  have z0 : (one (n % 16)).size = 1 := one_size _
  have s1 := slice_one (n / 16 % 16) (by omega) (by omega)
  have z1 : (one (n / 16 % 16)).size = 1 := one_size _
  go_enter Tryz.func24, Tryz.ntmps24
  go_wp2_with (go_at_call 12; refine (l1In_any _ _ _ _).mono ?_; rintro e w' ⟨rfl, rfl⟩)
  refine wp_loop_rounds 3 ?_
  rw [rounds_succ]
  go_wp2
  rw [rounds_succ]
  go_wp2
  rw [rounds_succ]
  go_wp2
  go_ret
  exact ⟨rfl, rfl⟩

set_option maxRecDepth 100000 in
set_option maxHeartbeats 400000 in
theorem spec3y (n : Int) (w : World) (h0 : 0 ≤ n) (h1 : n ≤ 65535) (hq : n / 16 / 16 / 16 = 0) :
    Calls Tryz.prog 24 #[.int .i64 n, .int .i64 3] w fun e w' => e = .returned (.string (strOfNums (36 :: digs n 3))) ∧ w' = w := by
  have hb : ¬ 0 < n / 16 / 16 / 16 := by omega
  clear hq
  have hi : inB n 0 65535 = true := decide_eq_true ⟨h0, h1⟩
  have hd : inB 3 1 4 = true := rfl
  have s0 := slice_one (n % 16) (by omega) (by omega)
  have z0 : (one (n % 16)).size = 1 := one_size _
  have s1 := slice_one (n / 16 % 16) (by omega) (by omega)
  have z1 : (one (n / 16 % 16)).size = 1 := one_size _
  have s2 := slice_one (n / 16 / 16 % 16) (by omega) (by omega)
  have z2 : (one (n / 16 / 16 % 16)).size = 1 := one_size _
  go_enter Tryz.func24, Tryz.ntmps24
  go_wp2_with (go_at_call 12; refine (l1In_any _ _ _ _).mono ?_; rintro e w' ⟨rfl, rfl⟩)
  refine wp_loop_rounds 4 ?_
  rw [rounds_succ]
  go_wp2
  rw [rounds_succ]
  go_wp2
  rw [rounds_succ]
  go_wp2
  rw [rounds_succ]
  go_wp2
  go_ret
  exact ⟨ret_str (by rw [nil_str, dollar_str]; simp only [one, str_append, digs, List.nil_append, List.cons_append]), rfl⟩

set_option maxRecDepth 100000 in
set_option maxHeartbeats 400000 in
theorem spec3n (n : Int) (w : World) (h0 : 0 ≤ n) (h1 : n ≤ 65535) (hq : ¬ n / 16 / 16 / 16 = 0) :
    Calls Tryz.prog 24 #[.int .i64 n, .int .i64 3] w fun e w' => e = .returned (.string (⟨#[]⟩)) ∧ w' = w := by
  have hb : 0 < n / 16 / 16 / 16 := by omega
  clear hq
  have hi : inB n 0 65535 = true := decide_eq_true ⟨h0, h1⟩
  have hd : inB 3 1 4 = true := rfl
  have s0 := slice_one (n % 16) (by omega) (by omega)
  have z0 : (one (n % 16)).size = 1 := one_size _
  have s1 := slice_one (n / 16 % 16) (by omega) (by omega)
  have z1 : (one (n / 16 % 16)).size = 1 := one_size _
  have s2 := slice_one (n / 16 / 16 % 16) (by omega) (by omega)
  have z2 : (one (n / 16 / 16 % 16)).size = 1 := one_size _
  go_enter Tryz.func24, Tryz.ntmps24
  go_wp2_with (go_at_call 12; refine (l1In_any _ _ _ _).mono ?_; rintro e w' ⟨rfl, rfl⟩)
  refine wp_loop_rounds 4 ?_
  rw [rounds_succ]
  go_wp2
  rw [rounds_succ]
  go_wp2
  rw [rounds_succ]
  go_wp2
  rw [rounds_succ]
  go_wp2
  go_ret
  exact ⟨rfl, rfl⟩

set_option maxRecDepth 100000 in
set_option maxHeartbeats 400000 in
theorem spec4y (n : Int) (w : World) (h0 : 0 ≤ n) (h1 : n ≤ 65535) (hq : n / 16 / 16 / 16 / 16 = 0) :
    Calls Tryz.prog 24 #[.int .i64 n, .int .i64 4] w fun e w' => e = .returned (.string (strOfNums (36 :: digs n 4))) ∧ w' = w := by
  have hb : ¬ 0 < n / 16 / 16 / 16 / 16 := by omega
  clear hq
  have hi : inB n 0 65535 = true := decide_eq_true ⟨h0, h1⟩
  have hd : inB 4 1 4 = true := rfl
  have s0 := slice_one (n % 16) (by omega) (by omega)
  have z0 : (one (n % 16)).size = 1 := one_size _
  have s1 := slice_one (n / 16 % 16) (by omega) (by omega)
  have z1 : (one (n / 16 % 16)).size = 1 := one_size _
  have s2 := slice_one (n / 16 / 16 % 16) (by omega) (by omega)
  have z2 : (one (n / 16 / 16 % 16)).size = 1 := one_size _
  have s3 := slice_one (n / 16 / 16 / 16 % 16) (by omega) (by omega)
  have z3 : (one (n / 16 / 16 / 16 % 16)).size = 1 := one_size _
  go_enter Tryz.func24, Tryz.ntmps24
  go_wp2_with (go_at_call 12; refine (l1In_any _ _ _ _).mono ?_; rintro e w' ⟨rfl, rfl⟩)
  refine wp_loop_rounds 5 ?_
  rw [rounds_succ]
  go_wp2
  rw [rounds_succ]
  go_wp2
  rw [rounds_succ]
  go_wp2
  rw [rounds_succ]
  go_wp2
  rw [rounds_succ]
  go_wp2
  go_ret
  exact ⟨ret_str (by rw [nil_str, dollar_str]; simp only [one, str_append, digs, List.nil_append, List.cons_append]), rfl⟩

theorem spec4n (n : Int) (w : World) (_h0 : 0 ≤ n) (_h1 : n ≤ 65535) (hq : ¬ n / 16 / 16 / 16 / 16 = 0) :
    Calls Tryz.prog 24 #[.int .i64 n, .int .i64 4] w fun e w' => e = .returned (.string (⟨#[]⟩)) ∧ w' = w := absurd (by omega) hq

set_option maxHeartbeats 400000 in
theorem implHex_any (n d : Int) (w : World) (hT : Tab w) :
    Calls Tryz.prog 42 #[.int .i64 n, .int .i64 d] w fun e w' => e = .returned (.string (hexS n d)) ∧ Below w.heap.size w w' := by
  by_cases hd : d < 1
  · rw [hexS_no (by omega)]
    clear hT
    go_enter Tryz.func42, Tryz.ntmps42
    go_wp2
    go_ret
    exact ⟨rfl, Below.refl _ _⟩
  by_cases hd' : 4 < d
  · rw [hexS_no (by omega)]
    clear hT
    go_enter Tryz.func42, Tryz.ntmps42
    go_wp2
    go_ret
    exact ⟨rfl, Below.refl _ _⟩
  by_cases hn : 0 ≤ n ∧ n ≤ 65535
  · obtain ⟨h0, h1⟩ := hn
    have hdd : d = 1 ∨ d = 2 ∨ d = 3 ∨ d = 4 := by omega
    rcases hdd with rfl | rfl | rfl | rfl
    · have e : n / pw 1 = n / 16 := by unfold pw; show n / (16 ^ 1) = _; omega
      by_cases hq : n / 16 = 0
      · rw [hexS_yes ⟨by decide, by decide, h0, h1, by omega⟩]
        exact impl1y n w h0 h1 hT hq
      · rw [hexS_no (fun h => hq (by omega))]
        exact impl1n n w h0 h1 hT hq
    · have e : n / pw 2 = n / 16 / 16 := by unfold pw; show n / (16 ^ 2) = _; omega
      by_cases hq : n / 16 / 16 = 0
      · rw [hexS_yes ⟨by decide, by decide, h0, h1, by omega⟩]
        exact impl2y n w h0 h1 hT hq
      · rw [hexS_no (fun h => hq (by omega))]
        exact impl2n n w h0 h1 hT hq
    · have e : n / pw 3 = n / 16 / 16 / 16 := by unfold pw; show n / (16 ^ 3) = _; omega
      by_cases hq : n / 16 / 16 / 16 = 0
      · rw [hexS_yes ⟨by decide, by decide, h0, h1, by omega⟩]
        exact impl3y n w h0 h1 hT hq
      · rw [hexS_no (fun h => hq (by omega))]
        exact impl3n n w h0 h1 hT hq
    · have e : n / pw 4 = n / 16 / 16 / 16 / 16 := by unfold pw; show n / (16 ^ 4) = _; omega
      by_cases hq : n / 16 / 16 / 16 / 16 = 0
      · rw [hexS_yes ⟨by decide, by decide, h0, h1, by omega⟩]
        exact impl4y n w h0 h1 hT hq
      · rw [hexS_no (fun h => hq (by omega))]
        exact impl4n n w h0 h1 hT hq
  · rw [hexS_no (by omega)]
    have hi : inB n 0 65535 = false := decide_eq_false hn
    clear hn hT
    go_enter Tryz.func42, Tryz.ntmps42
    go_wp2_with (go_at_call 57; refine (isWord_any _ _).mono ?_; rintro e w' ⟨rfl, rfl⟩)
    go_ret
    exact ⟨rfl, Below.refl _ _⟩

set_option maxHeartbeats 400000 in
theorem specHex_any (n d : Int) (w : World) :
    Calls Tryz.prog 24 #[.int .i64 n, .int .i64 d] w fun e w' => e = .returned (.string (hexS n d)) ∧ w' = w := by
  by_cases hd : ¬ (1 ≤ d ∧ d ≤ 4)
  · rw [hexS_no (by omega)]
    have hi : inB d 1 4 = false := decide_eq_false hd
    clear hd
    go_enter Tryz.func24, Tryz.ntmps24
    go_wp2_with (go_at_call 12; refine (l1In_any _ _ _ _).mono ?_; rintro e w' ⟨rfl, rfl⟩)
    go_ret
    exact ⟨rfl, rfl⟩
  by_cases hn : 0 ≤ n ∧ n ≤ 65535
  · obtain ⟨h0, h1⟩ := hn
    have hdd : d = 1 ∨ d = 2 ∨ d = 3 ∨ d = 4 := by omega
    rcases hdd with rfl | rfl | rfl | rfl
    · have e : n / pw 1 = n / 16 := by unfold pw; show n / (16 ^ 1) = _; omega
      by_cases hq : n / 16 = 0
      · rw [hexS_yes ⟨by decide, by decide, h0, h1, by omega⟩]
        exact spec1y n w h0 h1 hq
      · rw [hexS_no (fun h => hq (by omega))]
        exact spec1n n w h0 h1 hq
    · have e : n / pw 2 = n / 16 / 16 := by unfold pw; show n / (16 ^ 2) = _; omega
      by_cases hq : n / 16 / 16 = 0
      · rw [hexS_yes ⟨by decide, by decide, h0, h1, by omega⟩]
        exact spec2y n w h0 h1 hq
      · rw [hexS_no (fun h => hq (by omega))]
        exact spec2n n w h0 h1 hq
    · have e : n / pw 3 = n / 16 / 16 / 16 := by unfold pw; show n / (16 ^ 3) = _; omega
      by_cases hq : n / 16 / 16 / 16 = 0
      · rw [hexS_yes ⟨by decide, by decide, h0, h1, by omega⟩]
        exact spec3y n w h0 h1 hq
      · rw [hexS_no (fun h => hq (by omega))]
        exact spec3n n w h0 h1 hq
    · have e : n / pw 4 = n / 16 / 16 / 16 / 16 := by unfold pw; show n / (16 ^ 4) = _; omega
      by_cases hq : n / 16 / 16 / 16 / 16 = 0
      · rw [hexS_yes ⟨by decide, by decide, h0, h1, by omega⟩]
        exact spec4y n w h0 h1 hq
      · rw [hexS_no (fun h => hq (by omega))]
        exact spec4n n w h0 h1 hq
  · rw [hexS_no (by omega)]
    have hi : inB n 0 65535 = false := decide_eq_false hn
    have hi' : inB d 1 4 = true := decide_eq_true (Classical.not_not.1 hd)
    clear hn hd
    go_enter Tryz.func24, Tryz.ntmps24
    go_wp2_with (go_at_call 12; refine (l1In_any _ _ _ _).mono ?_; rintro e w' ⟨rfl, rfl⟩)
    go_ret
    exact ⟨rfl, rfl⟩

end Go.Proofs.YtnfonccimaikgaaGreatDoor.Hex
