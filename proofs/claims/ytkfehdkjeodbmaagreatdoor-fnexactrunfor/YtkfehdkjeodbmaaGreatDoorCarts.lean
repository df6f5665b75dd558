/-
  Contracts of ours for the carts of chapter 5, both sides: what a right cart is, at every argument.
-/
import Derived.Test.YtkfehdkjeodbmaaGreatDoorSigned
import Derived.Test.YtkfehdkjeodbmaaGreatDoorRows
import Derived.WalkKit
import Derived.ProofKit
import Derived.OpenShut
import Derived.BigQuiet
import Derived.Deep.RegionWith
import Derived.Deep.QuietTactic
import Derived.Below
namespace Go.Proofs.YtkfehdkjeodbmaaGreatDoor.Carts
set_option maxRecDepth 20000
open Go.ChangeShapes Go.WideShapes Go.ChangeAt Go.RowKit
open Signed (inB ret_int ret_bool isByte_any l1In_any)

def banks (n : Nat) : Int := if n % 256 = 0 ∧ 512 ≤ n ∧ n ≤ 4096 then n / 256 else 0
def romB (n : Nat) : Bool := decide (n % 256 = 0 ∧ 512 ≤ n ∧ n ≤ 4096)
def heldB (kind bank rb : Int) (on : Bool) (mode : Int) : Bool :=
  if kind = 0 then decide (bank = 1 ∧ rb = 0 ∧ mode = 0 ∧ on = false)
  else if kind = 1 then inB bank 1 31 && inB rb 0 3 && inB mode 0 1
  else if kind = 2 then inB bank 0 255 && inB rb 0 3 && mode == 0
  else false
def okB (rom : ByteArray) (kind bank : Int) (ram : ByteArray) (rb : Int) (on : Bool) (mode : Int) : Bool := heldB kind bank rb on mode && romB rom.size && ram.size == 256
def mapV (kind : Int) : Value :=
  if kind = 0 then .iface 141 (.agg #[])
  else if kind = 1 then .iface 142 (.agg #[])
  else if kind = 2 then .iface 143 (.agg #[])
  else .nilIface

theorem isRamBank_any (n : Int) (w : World) :
    Calls Tryz.prog 251 #[.int .i64 n] w fun e w' => e = .returned (.bool (inB n 0 3)) ∧ w' = w := by
  go_enter Tryz.func251, Tryz.ntmps251
  go_wp2
  all_goals go_ret
  all_goals exact ⟨ret_bool (by rw [Bool.eq_iff_iff]; simp [inB]; try omega), rfl⟩
theorem mapperOf_any (n : Int) (w : World) :
    Calls Tryz.prog 92 #[.int .i64 n] w fun e w' => e = .returned (mapV n) ∧ w' = w := by
  go_enter Tryz.func92, Tryz.ntmps92
  go_wp2
  all_goals go_ret
  all_goals exact ⟨by congr 1; unfold mapV; simp_all, rfl⟩
theorem romOk_any (rom : ByteArray) (w : World) (hs : rom.size ≤ maxLen) :
    Calls Tryz.prog 93 #[.string rom] w fun e w' => e = .returned (.bool (romB rom.size)) ∧ w' = w := by
  have hs' : rom.size ≤ 9223372036854775807 := by unfold maxLen at hs; omega
  go_enter Tryz.func93, Tryz.ntmps93
  go_wp2
  all_goals go_ret
  all_goals exact ⟨ret_bool (by rw [Bool.eq_iff_iff]; simp [romB]; try omega), rfl⟩

set_option maxHeartbeats 1000000 in
theorem l5Banks_any (rom : ByteArray) (w : World) (hs : rom.size ≤ maxLen) :
    Calls Tryz.prog 69 #[.string rom] w fun e w' => e = .returned (.int .i64 (banks rom.size)) ∧ w' = w := by
  have hs' : rom.size ≤ 9223372036854775807 := by unfold maxLen at hs; omega
  go_enter Tryz.func69, Tryz.ntmps69
  go_wp2_with (go_at_call 36; refine (l1In_any _ _ _ _).mono ?_; rintro e w' ⟨rfl, rfl⟩)
  all_goals go_ret
  all_goals exact ⟨ret_int (by unfold banks; simp_all [inB]; try omega), rfl⟩

theorem m0 (w : World) : (method 301 141 (.agg #[]) "loop.example/g00460/impl.holds").run Tryz.prog w = .ok (249, .agg #[]) w := by kernel_rfl
theorem m1 (w : World) : (method 301 142 (.agg #[]) "loop.example/g00460/impl.holds").run Tryz.prog w = .ok (250, .agg #[]) w := by kernel_rfl
theorem m2 (w : World) : (method 301 143 (.agg #[]) "loop.example/g00460/impl.holds").run Tryz.prog w = .ok (252, .agg #[]) w := by kernel_rfl

set_option maxHeartbeats 1000000 in
theorem plainHolds_any (rom : ByteArray) (kind bank : Int) (ram : ByteArray) (rb : Int) (on : Bool) (mode : Int) (w : World) :
    Calls Tryz.prog 249 #[.agg #[], .agg #[.string rom, .int .i64 kind, .int .i64 bank, .string ram, .int .i64 rb, .bool on, .int .i64 mode]] w fun e w' => e = .returned (.bool (decide (bank = 1 ∧ rb = 0 ∧ mode = 0 ∧ on = false))) ∧ w' = (w.alloc (.cells #[] 141)).alloc (.cells #[.string rom, .int .i64 kind, .int .i64 bank, .string ram, .int .i64 rb, .bool on, .int .i64 mode] 31) := by
  go_enter Tryz.func249, Tryz.ntmps249
  go_wp2
  all_goals go_ret
  all_goals exact ⟨ret_bool (by rw [Bool.eq_iff_iff]; simp_all), by first | rfl | simp_all⟩
set_option maxHeartbeats 1000000 in
theorem oneHolds_any (rom : ByteArray) (kind bank : Int) (ram : ByteArray) (rb : Int) (on : Bool) (mode : Int) (w : World) :
    Calls Tryz.prog 250 #[.agg #[], .agg #[.string rom, .int .i64 kind, .int .i64 bank, .string ram, .int .i64 rb, .bool on, .int .i64 mode]] w fun e w' => e = .returned (.bool (inB bank 1 31 && inB rb 0 3 && inB mode 0 1)) ∧ w' = (w.alloc (.cells #[] 142)).alloc (.cells #[.string rom, .int .i64 kind, .int .i64 bank, .string ram, .int .i64 rb, .bool on, .int .i64 mode] 31) := by
  go_enter Tryz.func250, Tryz.ntmps250
  go_wp2_with (go_at_call 251; refine (isRamBank_any _ _).mono ?_; rintro e w' ⟨rfl, rfl⟩)
  all_goals go_ret
  all_goals exact ⟨ret_bool (by rw [Bool.eq_iff_iff]; simp_all [inB] <;> omega), by first | rfl | simp_all⟩
set_option maxHeartbeats 1000000 in
theorem fiveHolds_any (rom : ByteArray) (kind bank : Int) (ram : ByteArray) (rb : Int) (on : Bool) (mode : Int) (w : World) :
    Calls Tryz.prog 252 #[.agg #[], .agg #[.string rom, .int .i64 kind, .int .i64 bank, .string ram, .int .i64 rb, .bool on, .int .i64 mode]] w fun e w' => e = .returned (.bool (inB bank 0 255 && inB rb 0 3 && mode == 0)) ∧ w' = (w.alloc (.cells #[] 143)).alloc (.cells #[.string rom, .int .i64 kind, .int .i64 bank, .string ram, .int .i64 rb, .bool on, .int .i64 mode] 31) := by
  go_enter Tryz.func252, Tryz.ntmps252
  go_wp2_with (first | (go_at_call 251; refine (isRamBank_any _ _).mono ?_; rintro e w' ⟨rfl, rfl⟩) | (go_at_call 94; refine (isByte_any _ _).mono ?_; rintro e w' ⟨rfl, rfl⟩))
  all_goals go_ret
  all_goals exact ⟨ret_bool (by rw [Bool.eq_iff_iff]; simp_all [inB] <;> omega), by first | rfl | simp_all⟩

end Go.Proofs.YtkfehdkjeodbmaaGreatDoor.Carts
