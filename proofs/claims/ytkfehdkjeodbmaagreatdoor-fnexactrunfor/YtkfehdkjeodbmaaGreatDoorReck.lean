/-
  Contracts of ours for the reckoning of chapter 4: both Alu, Stepped8, Turned, Daa, AddWords and AddSigned, each at every argument.
-/
import Derived.Test.YtkfehdkjeodbmaaGreatDoorSigned
import Derived.Test.YtkfehdkjeodbmaaGreatDoorRows
import Derived.WalkKit
import Derived.ProofKit
import Derived.OpenShut
import Derived.Laws.EntriesVeiled
import Derived.BigQuiet
import Derived.Deep.RegionWith
import Derived.Deep.QuietTactic
namespace Go.Proofs.YtkfehdkjeodbmaaGreatDoor.Reck
open Go.ChangeShapes Go.WideShapes Go.ChangeAt Go.RowKit
open Signed (inB ret_int ret_bool isByte_any l1In_any)

def one (b : Bool) : Int := if b = true then 1 else 0
def chz (b : Bool) (y n : Int) : Int := if b = true then y else n
def fl (z n h c : Bool) : Int := 128 * one z + 64 * one n + 32 * one h + 16 * one c
def cy (f : Int) : Int := f / 16 % 2
theorem ret_two {a a' b b' : Int} (h : a = a') (h' : b = b') : Ending.returned (.tuple #[.int .i64 a, .int .i64 b]) = .returned (.tuple #[.int .i64 a', .int .i64 b']) := by rw [h, h']
theorem cy_bd (f : Int) : 0 ≤ cy f ∧ cy f ≤ 1 := by unfold cy; omega
theorem chz_bd (b : Bool) (y n : Int) : chz b y n = y ∨ chz b y n = n := by unfold chz; cases b <;> simp

theorem l3One_any (b : Bool) (w : World) :
    Calls Tryz.prog 89 #[.bool b] w fun e w' => e = .returned (.int .i64 (one b)) ∧ w' = w := by
  cases b
  all_goals
    go_enter Tryz.func89, Tryz.ntmps89
    go_wp2
    go_ret
    exact ⟨rfl, rfl⟩
theorem l4Flags_any (z n h c : Bool) (w : World) :
    Calls Tryz.prog 73 #[.bool z, .bool n, .bool h, .bool c] w fun e w' => e = .returned (.int .i64 (fl z n h c)) ∧ w' = w := by
  have oz : 0 ≤ one z ∧ one z ≤ 1 := by cases z <;> decide
  have on : 0 ≤ one n ∧ one n ≤ 1 := by cases n <;> decide
  have oh : 0 ≤ one h ∧ one h ≤ 1 := by cases h <;> decide
  have oc : 0 ≤ one c ∧ one c ≤ 1 := by cases c <;> decide
  obtain ⟨z0, z1⟩ := oz
  obtain ⟨n0, n1⟩ := on
  obtain ⟨h0, h1⟩ := oh
  obtain ⟨c0, c1⟩ := oc
  go_enter Tryz.func73, Tryz.ntmps73
  go_wp2_with (go_at_call 89; refine (l3One_any _ _).mono ?_; rintro e w' ⟨rfl, rfl⟩)
  go_ret
  exact ⟨ret_int (by unfold fl; omega), rfl⟩
theorem l4Carry_any (f : Int) (w : World) (f0 : 0 ≤ f) (f1 : f ≤ 255) :
    Calls Tryz.prog 74 #[.int .i64 f] w fun e w' => e = .returned (.int .i64 (cy f)) ∧ w' = w := by
  go_enter Tryz.func74, Tryz.ntmps74
  go_wp2
  go_ret
  exact ⟨rfl, rfl⟩
theorem l4Byte_any (n : Int) (w : World) :
    Calls Tryz.prog 44 #[.int .i64 n] w fun e w' => e = .returned (.bool (inB n 0 255)) ∧ w' = w := by
  go_enter Tryz.func44, Tryz.ntmps44
  go_wp2_with (go_at_call 36; refine (l1In_any _ _ _ _).mono ?_; rintro e w' ⟨rfl, rfl⟩)
  go_ret
  exact ⟨rfl, rfl⟩
theorem l4Word_any (n : Int) (w : World) :
    Calls Tryz.prog 45 #[.int .i64 n] w fun e w' => e = .returned (.bool (inB n 0 65535)) ∧ w' = w := by
  go_enter Tryz.func45, Tryz.ntmps45
  go_wp2_with (go_at_call 36; refine (l1In_any _ _ _ _).mono ?_; rintro e w' ⟨rfl, rfl⟩)
  go_ret
  exact ⟨rfl, rfl⟩
theorem isWord_any (n : Int) (w : World) :
    Calls Tryz.prog 91 #[.int .i64 n] w fun e w' => e = .returned (.bool (inB n 0 65535)) ∧ w' = w := by
  go_enter Tryz.func91, Tryz.ntmps91
  go_wp2
  all_goals go_ret
  all_goals exact ⟨ret_bool (by rw [Bool.eq_iff_iff]; simp [inB]; try omega), rfl⟩
theorem chosen_any (b : Bool) (y n : Int) (w : World) :
    Calls Tryz.prog 117 #[.bool b, .int .i64 y, .int .i64 n] w fun e w' => e = .returned (.int .i64 (chz b y n)) ∧ w' = w := by
  cases b
  all_goals
    go_enter Tryz.func117, Tryz.ntmps117
    go_wp2
    go_ret
    exact ⟨rfl, rfl⟩
theorem flagIf_any (v : Int) (b : Bool) (w : World) :
    Calls Tryz.prog 189 #[.int .i64 v, .bool b] w fun e w' => e = .returned (.int .i64 (chz b v 0)) ∧ w' = w := by
  go_enter Tryz.func189, Tryz.ntmps189
  go_wp2_with (go_at_call 117; refine (chosen_any _ _ _ _).mono ?_; rintro e w' ⟨rfl, rfl⟩)
  go_ret
  exact ⟨rfl, rfl⟩
theorem carryOf_any (f : Int) (w : World) (f0 : 0 ≤ f) (f1 : f ≤ 255) :
    Calls Tryz.prog 204 #[.int .i64 f] w fun e w' => e = .returned (.int .i64 (cy f)) ∧ w' = w := by
  go_enter Tryz.func204, Tryz.ntmps204
  go_wp2
  go_ret
  exact ⟨rfl, rfl⟩

theorem or_hc (h c : Bool) : bits .or .i64 (chz h 32 0) (chz c 16 0) = fl false false h c := by cases h <;> cases c <;> decide
theorem or_nhc (h c : Bool) : bits .or .i64 (bits .or .i64 64 (chz h 32 0)) (chz c 16 0) = fl false true h c := by cases h <;> cases c <;> decide
theorem or_z (z n h c : Bool) : bits .or .i64 (fl false n h c) (chz z 128 0) = fl z n h c := by cases z <;> cases n <;> cases h <;> cases c <;> decide
def addR (a b c : Int) : Int × Int := ((a + b + c) % 256, fl false false (decide (15 < a % 16 + b % 16 + c)) (decide (255 < a + b + c)))
def subR (a b c : Int) : Int × Int := ((a - b - c) % 256, fl false true (decide (a % 16 < b % 16 + c)) (decide (a - b - c < 0)))
def zd (p : Int × Int) : Int × Int := (p.1, p.2 + 128 * one (decide (p.1 = 0)))
def aluR (op a b f : Int) : Int × Int :=
  if op = 0 then zd (addR a b 0) else if op = 1 then zd (addR a b (cy f)) else if op = 2 then zd (subR a b 0) else if op = 3 then zd (subR a b (cy f))
  else if op = 4 then zd (bits .and .i64 a b, 32) else if op = 5 then zd (bits .xor .i64 a b, 0) else if op = 6 then zd (bits .or .i64 a b, 0) else (a, (zd (subR a b 0)).2)
/-- What Alu tells: nothing where an argument is out of its range. -/
def alu (op a b f : Int) : Int × Int :=
  if (inB op 0 7 && inB a 0 255 && inB b 0 255 && inB f 0 255) = true then aluR op a b f else (0, 0)
theorem addCarried_any (a b c : Int) (w : World) (a0 : 0 ≤ a) (a1 : a ≤ 255) (b0 : 0 ≤ b) (b1 : b ≤ 255) (c0 : 0 ≤ c) (c1 : c ≤ 1) :
    Calls Tryz.prog 214 #[.int .i64 a, .int .i64 b, .int .i64 c] w fun e w' => e = .returned (.tuple #[.int .i64 (addR a b c).1, .int .i64 (addR a b c).2]) ∧ w' = w := by
  go_enter Tryz.func214, Tryz.ntmps214
  go_wp2_with (go_at_call 189; refine (flagIf_any _ _ _).mono ?_; rintro e w' ⟨rfl, rfl⟩)
  go_ret2
  refine ⟨ret_two rfl ?_, rfl⟩
  exact or_hc _ _
theorem subCarried_any (a b c : Int) (w : World) (a0 : 0 ≤ a) (a1 : a ≤ 255) (b0 : 0 ≤ b) (b1 : b ≤ 255) (c0 : 0 ≤ c) (c1 : c ≤ 1) :
    Calls Tryz.prog 216 #[.int .i64 a, .int .i64 b, .int .i64 c] w fun e w' => e = .returned (.tuple #[.int .i64 (subR a b c).1, .int .i64 (subR a b c).2]) ∧ w' = w := by
  go_enter Tryz.func216, Tryz.ntmps216
  go_wp2_with (go_at_call 189; refine (flagIf_any _ _ _).mono ?_; rintro e w' ⟨rfl, rfl⟩)
  go_ret2
  refine ⟨ret_two rfl ?_, rfl⟩
  exact or_nhc _ _
theorem addAlone_any (a b c : Int) (w : World) (a0 : 0 ≤ a) (a1 : a ≤ 255) (b0 : 0 ≤ b) (b1 : b ≤ 255) :
    Calls Tryz.prog 213 #[.int .i64 a, .int .i64 b, .int .i64 c] w fun e w' => e = .returned (.tuple #[.int .i64 (addR a b 0).1, .int .i64 (addR a b 0).2]) ∧ w' = w := by
  go_enter Tryz.func213, Tryz.ntmps213
  go_wp2_with (go_at_call 214; refine (addCarried_any _ _ _ _ a0 a1 b0 b1 (by decide) (by decide)).mono ?_; rintro e w' ⟨rfl, rfl⟩)
  go_ret2
  exact ⟨rfl, rfl⟩
theorem subAlone_any (a b c : Int) (w : World) (a0 : 0 ≤ a) (a1 : a ≤ 255) (b0 : 0 ≤ b) (b1 : b ≤ 255) :
    Calls Tryz.prog 215 #[.int .i64 a, .int .i64 b, .int .i64 c] w fun e w' => e = .returned (.tuple #[.int .i64 (subR a b 0).1, .int .i64 (subR a b 0).2]) ∧ w' = w := by
  go_enter Tryz.func215, Tryz.ntmps215
  go_wp2_with (go_at_call 216; refine (subCarried_any _ _ _ _ a0 a1 b0 b1 (by decide) (by decide)).mono ?_; rintro e w' ⟨rfl, rfl⟩)
  go_ret2
  exact ⟨rfl, rfl⟩
theorem andBits_any (a b c : Int) (w : World) :
    Calls Tryz.prog 217 #[.int .i64 a, .int .i64 b, .int .i64 c] w fun e w' => e = .returned (.tuple #[.int .i64 (bits .and .i64 a b, 32).1, .int .i64 (bits .and .i64 a b, 32).2]) ∧ w' = w := by
  go_enter Tryz.func217, Tryz.ntmps217
  go_wp2
  go_ret2
  exact ⟨rfl, rfl⟩
theorem xorBits_any (a b c : Int) (w : World) :
    Calls Tryz.prog 218 #[.int .i64 a, .int .i64 b, .int .i64 c] w fun e w' => e = .returned (.tuple #[.int .i64 (bits .xor .i64 a b, 0).1, .int .i64 (bits .xor .i64 a b, 0).2]) ∧ w' = w := by
  go_enter Tryz.func218, Tryz.ntmps218
  go_wp2
  go_ret2
  exact ⟨rfl, rfl⟩
theorem orBits_any (a b c : Int) (w : World) :
    Calls Tryz.prog 219 #[.int .i64 a, .int .i64 b, .int .i64 c] w fun e w' => e = .returned (.tuple #[.int .i64 (bits .or .i64 a b, 0).1, .int .i64 (bits .or .i64 a b, 0).2]) ∧ w' = w := by
  go_enter Tryz.func219, Tryz.ntmps219
  go_wp2
  go_ret2
  exact ⟨rfl, rfl⟩
theorem aluOps_any (w : World) :
    Calls Tryz.prog 203 #[] w fun e w' => e = .returned (.agg #[.func (.func 213) #[] #[], .func (.func 214) #[] #[], .func (.func 215) #[] #[], .func (.func 216) #[] #[], .func (.func 217) #[] #[], .func (.func 218) #[] #[], .func (.func 219) #[] #[], .func (.func 215) #[] #[]]) ∧ Below w.heap.size w w' := by
  go_enter Tryz.func203, Tryz.ntmps203
  go_wp2
  refine bodyPost_ret (v := .agg #[.func (.func 213) #[] #[], .func (.func 214) #[] #[], .func (.func 215) #[] #[], .func (.func 216) #[] #[], .func (.func 217) #[] #[], .func (.func 218) #[] #[], .func (.func 219) #[] #[], .func (.func 215) #[] #[]]) (by simp [results, Tryz.results203, go_sem]) rfl ⟨rfl, ?_⟩
  exact (Below.refl _ _).alloc (Nat.le_refl _) _
theorem below_of_drew {w w' : World} (h : Below w.drew.heap.size w.drew w') : Below w.heap.size w w' := ⟨h.os, h.tape, h.output, h.size, h.block⟩
theorem zd_fl (x : Int) (n h c z : Bool) (hz : z = decide (x = 0)) : bits .or .i64 (fl false n h c) (chz z 128 0) = (zd (x, fl false n h c)).2 := by
  subst hz; show _ = fl false n h c + 128 * one (decide (x = 0)); generalize decide (x = 0) = z; revert z n h c; decide
theorem zd_32 (x : Int) (z : Bool) (hz : z = decide (x = 0)) : bits .or .i64 32 (chz z 128 0) = (zd (x, 32)).2 := zd_fl x false true false z hz
theorem zd_0 (x : Int) (z : Bool) (hz : z = decide (x = 0)) : bits .or .i64 0 (chz z 128 0) = (zd (x, 0)).2 := zd_fl x false false false z hz
theorem beq_dec (x : Int) : (x == 0) = decide (x = 0) := by rw [Bool.eq_iff_iff]; simp

end Go.Proofs.YtkfehdkjeodbmaaGreatDoor.Reck
