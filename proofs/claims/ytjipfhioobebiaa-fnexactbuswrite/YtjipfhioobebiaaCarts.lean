/-
  Contracts of ours for the carts of chapter 5, both sides: what a right cart is, at every argument.
-/
import Derived.Test.YtjipfhioobebiaaSigned
import Derived.Test.YtjipfhioobebiaaRows
import Derived.WalkKit
import Derived.ProofKit
import Derived.OpenShut
import Derived.BigQuiet
import Derived.Deep.RegionWith
import Derived.Deep.QuietTactic
import Derived.Below
namespace Go.Proofs.Ytjipfhioobebiaa.Carts
open Go.ChangeShapes Go.WideShapes Go.ChangeAt Go.RowKit
open Signed (inB ret_int ret_bool isByte_any l1In_any)

def banks (n : Nat) : Int := if n % 256 = 0 ∧ 512 ≤ n ∧ n ≤ 4096 then n / 256 else 0
def romB (n : Nat) : Bool := decide (n % 256 = 0 ∧ 512 ≤ n ∧ n ≤ 4096)
def heldB (kind bank rb : Int) (on : Bool) (mode : Int) : Bool :=
  if kind = 0 then decide (bank = 1 ∧ rb = 0 ∧ mode = 0 ∧ on = false)
  else if kind = 1 then inB bank 1 31 && inB rb 0 3 && inB mode 0 1
  else if kind = 2 then inB bank 0 255 && inB rb 0 3 && mode == 0
  else false
def okB (rom : ByteArray) (kind bank : Int) (ram : ByteArray) (rb : Int) (on : Bool) (mode : Int) : Bool := heldB kind bank rb on mode && romB rom.size && ram.size == 256
def mapV (kind : Int) : Value :=
  if kind = 0 then .iface 85 (.agg #[])
  else if kind = 1 then .iface 86 (.agg #[])
  else if kind = 2 then .iface 87 (.agg #[])
  else .nilIface

theorem isRamBank_any (n : Int) (w : World) :
    Calls Try.prog 101 #[.int .i64 n] w fun e w' => e = .returned (.bool (inB n 0 3)) ∧ w' = w := by
  go_enter Try.func101, Try.ntmps101
  go_wp2
  all_goals go_ret
  all_goals exact ⟨ret_bool (by rw [Bool.eq_iff_iff]; simp [inB]; try omega), rfl⟩
theorem mapperOf_any (n : Int) (w : World) :
    Calls Try.prog 44 #[.int .i64 n] w fun e w' => e = .returned (mapV n) ∧ w' = w := by
  go_enter Try.func44, Try.ntmps44
  go_wp2
  all_goals go_ret
  all_goals exact ⟨by congr 1; unfold mapV; simp_all, rfl⟩
theorem romOk_any (rom : ByteArray) (w : World) (hs : rom.size ≤ maxLen) :
    Calls Try.prog 45 #[.string rom] w fun e w' => e = .returned (.bool (romB rom.size)) ∧ w' = w := by
  have hs' : rom.size ≤ 9223372036854775807 := by unfold maxLen at hs; omega
  go_enter Try.func45, Try.ntmps45
  go_wp2
  all_goals go_ret
  all_goals exact ⟨ret_bool (by rw [Bool.eq_iff_iff]; simp [romB]; try omega), rfl⟩

set_option maxHeartbeats 1000000 in
theorem l5Banks_any (rom : ByteArray) (w : World) (hs : rom.size ≤ maxLen) :
    Calls Try.prog 42 #[.string rom] w fun e w' => e = .returned (.int .i64 (banks rom.size)) ∧ w' = w := by
  have hs' : rom.size ≤ 9223372036854775807 := by unfold maxLen at hs; omega
  go_enter Try.func42, Try.ntmps42
  go_wp2_with (go_at_call 43; refine (l1In_any _ _ _ _).mono ?_; rintro e w' ⟨rfl, rfl⟩)
  all_goals go_ret
  all_goals exact ⟨ret_int (by unfold banks; simp_all [inB]; try omega), rfl⟩

theorem m0 (w : World) : (method 207 85 (.agg #[]) "loop.example/g00460/impl.holds").run Try.prog w = .ok (99, .agg #[]) w := by kernel_rfl
theorem m1 (w : World) : (method 207 86 (.agg #[]) "loop.example/g00460/impl.holds").run Try.prog w = .ok (100, .agg #[]) w := by kernel_rfl
theorem m2 (w : World) : (method 207 87 (.agg #[]) "loop.example/g00460/impl.holds").run Try.prog w = .ok (102, .agg #[]) w := by kernel_rfl

set_option maxHeartbeats 1000000 in
theorem plainHolds_any (rom : ByteArray) (kind bank : Int) (ram : ByteArray) (rb : Int) (on : Bool) (mode : Int) (w : World) :
    Calls Try.prog 99 #[.agg #[], .agg #[.string rom, .int .i64 kind, .int .i64 bank, .string ram, .int .i64 rb, .bool on, .int .i64 mode]] w fun e w' => e = .returned (.bool (decide (bank = 1 ∧ rb = 0 ∧ mode = 0 ∧ on = false))) ∧ w' = (w.alloc (.cells #[] 85)).alloc (.cells #[.string rom, .int .i64 kind, .int .i64 bank, .string ram, .int .i64 rb, .bool on, .int .i64 mode] 26) := by
  go_enter Try.func99, Try.ntmps99
  go_wp2
  all_goals go_ret
  all_goals exact ⟨ret_bool (by rw [Bool.eq_iff_iff]; simp_all), by first | rfl | simp_all⟩
set_option maxHeartbeats 1000000 in
theorem oneHolds_any (rom : ByteArray) (kind bank : Int) (ram : ByteArray) (rb : Int) (on : Bool) (mode : Int) (w : World) :
    Calls Try.prog 100 #[.agg #[], .agg #[.string rom, .int .i64 kind, .int .i64 bank, .string ram, .int .i64 rb, .bool on, .int .i64 mode]] w fun e w' => e = .returned (.bool (inB bank 1 31 && inB rb 0 3 && inB mode 0 1)) ∧ w' = (w.alloc (.cells #[] 86)).alloc (.cells #[.string rom, .int .i64 kind, .int .i64 bank, .string ram, .int .i64 rb, .bool on, .int .i64 mode] 26) := by
  go_enter Try.func100, Try.ntmps100
  go_wp2_with (go_at_call 101; refine (isRamBank_any _ _).mono ?_; rintro e w' ⟨rfl, rfl⟩)
  all_goals go_ret
  all_goals exact ⟨ret_bool (by rw [Bool.eq_iff_iff]; simp_all [inB] <;> omega), by first | rfl | simp_all⟩
set_option maxHeartbeats 1000000 in
theorem fiveHolds_any (rom : ByteArray) (kind bank : Int) (ram : ByteArray) (rb : Int) (on : Bool) (mode : Int) (w : World) :
    Calls Try.prog 102 #[.agg #[], .agg #[.string rom, .int .i64 kind, .int .i64 bank, .string ram, .int .i64 rb, .bool on, .int .i64 mode]] w fun e w' => e = .returned (.bool (inB bank 0 255 && inB rb 0 3 && mode == 0)) ∧ w' = (w.alloc (.cells #[] 87)).alloc (.cells #[.string rom, .int .i64 kind, .int .i64 bank, .string ram, .int .i64 rb, .bool on, .int .i64 mode] 26) := by
  go_enter Try.func102, Try.ntmps102
  go_wp2_with (first | (go_at_call 101; refine (isRamBank_any _ _).mono ?_; rintro e w' ⟨rfl, rfl⟩) | (go_at_call 54; refine (isByte_any _ _).mono ?_; rintro e w' ⟨rfl, rfl⟩))
  all_goals go_ret
  all_goals exact ⟨ret_bool (by rw [Bool.eq_iff_iff]; simp_all [inB] <;> omega), by first | rfl | simp_all⟩

end Go.Proofs.Ytjipfhioobebiaa.Carts
