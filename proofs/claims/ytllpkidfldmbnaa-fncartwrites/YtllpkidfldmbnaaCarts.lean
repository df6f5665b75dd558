/-
  Contracts of ours for the carts of chapter 5, both sides: what a right cart is, at every argument.
-/
import Derived.Test.YtllpkidfldmbnaaSigned
import Derived.Test.YtllpkidfldmbnaaRows
import Derived.WalkKit
import Derived.ProofKit
import Derived.OpenShut
import Derived.BigQuiet
import Derived.Deep.RegionWith
import Derived.Deep.QuietTactic
import Derived.Below
namespace Go.Proofs.Ytllpkidfldmbnaa.Carts
open Go.ChangeShapes Go.WideShapes Go.ChangeAt Go.RowKit
open Signed (inB ret_int ret_bool isByte_any l1In_any)

def banks (n : Nat) : Int := if n % 256 = 0 ∧ 512 ≤ n ∧ n ≤ 4096 then n / 256 else 0
def romB (n : Nat) : Bool := decide (n % 256 = 0 ∧ 512 ≤ n ∧ n ≤ 4096)
def heldB (kind bank rb : Int) (on : Bool) (mode : Int) : Bool :=
  if kind = 0 then decide (bank = 1 ∧ rb = 0 ∧ mode = 0 ∧ on = false)
  else if kind = 1 then inB bank 1 31 && inB rb 0 3 && inB mode 0 1
  else if kind = 2 then inB bank 0 255 && inB rb 0 3 && mode == 0
  else false
def okB (rom : ByteArray) (kind bank : Int) (ram : ByteArray) (rb : Int) (on : Bool) (mode : Int) : Bool := heldB kind bank rb on mode && romB rom.size && ram.size == 256
def mapV (kind : Int) : Value :=
  if kind = 0 then .iface 64 (.agg #[])
  else if kind = 1 then .iface 65 (.agg #[])
  else if kind = 2 then .iface 66 (.agg #[])
  else .nilIface

theorem isRamBank_any (n : Int) (w : World) :
    Calls Try.prog 90 #[.int .i64 n] w fun e w' => e = .returned (.bool (inB n 0 3)) ∧ w' = w := by
  go_enter Try.func90, Try.ntmps90
  go_wp2
  all_goals go_ret
  all_goals exact ⟨ret_bool (by rw [Bool.eq_iff_iff]; simp [inB]; try omega), rfl⟩
theorem mapperOf_any (n : Int) (w : World) :
    Calls Try.prog 28 #[.int .i64 n] w fun e w' => e = .returned (mapV n) ∧ w' = w := by
  go_enter Try.func28, Try.ntmps28
  go_wp2
  all_goals go_ret
  all_goals exact ⟨by congr 1; unfold mapV; simp_all, rfl⟩
theorem romOk_any (rom : ByteArray) (w : World) (hs : rom.size ≤ maxLen) :
    Calls Try.prog 29 #[.string rom] w fun e w' => e = .returned (.bool (romB rom.size)) ∧ w' = w := by
  have hs' : rom.size ≤ 9223372036854775807 := by unfold maxLen at hs; omega
  go_enter Try.func29, Try.ntmps29
  go_wp2
  all_goals go_ret
  all_goals exact ⟨ret_bool (by rw [Bool.eq_iff_iff]; simp [romB]; try omega), rfl⟩

set_option maxHeartbeats 1000000 in
theorem l5Banks_any (rom : ByteArray) (w : World) (hs : rom.size ≤ maxLen) :
    Calls Try.prog 35 #[.string rom] w fun e w' => e = .returned (.int .i64 (banks rom.size)) ∧ w' = w := by
  have hs' : rom.size ≤ 9223372036854775807 := by unfold maxLen at hs; omega
  go_enter Try.func35, Try.ntmps35
  go_wp2_with (go_at_call 36; refine (l1In_any _ _ _ _).mono ?_; rintro e w' ⟨rfl, rfl⟩)
  all_goals go_ret
  all_goals exact ⟨ret_int (by unfold banks; simp_all [inB]; try omega), rfl⟩

theorem m0 (w : World) : (method 195 64 (.agg #[]) "loop.example/g00460/impl.holds").run Try.prog w = .ok (88, .agg #[]) w := by kernel_rfl
theorem m1 (w : World) : (method 195 65 (.agg #[]) "loop.example/g00460/impl.holds").run Try.prog w = .ok (89, .agg #[]) w := by kernel_rfl
theorem m2 (w : World) : (method 195 66 (.agg #[]) "loop.example/g00460/impl.holds").run Try.prog w = .ok (91, .agg #[]) w := by kernel_rfl

set_option maxHeartbeats 1000000 in
theorem plainHolds_any (rom : ByteArray) (kind bank : Int) (ram : ByteArray) (rb : Int) (on : Bool) (mode : Int) (w : World) :
    Calls Try.prog 88 #[.agg #[], .agg #[.string rom, .int .i64 kind, .int .i64 bank, .string ram, .int .i64 rb, .bool on, .int .i64 mode]] w fun e w' => e = .returned (.bool (decide (bank = 1 ∧ rb = 0 ∧ mode = 0 ∧ on = false))) ∧ w' = (w.alloc (.cells #[] 64)).alloc (.cells #[.string rom, .int .i64 kind, .int .i64 bank, .string ram, .int .i64 rb, .bool on, .int .i64 mode] 27) := by
  go_enter Try.func88, Try.ntmps88
  go_wp2
  all_goals go_ret
  all_goals exact ⟨ret_bool (by rw [Bool.eq_iff_iff]; simp_all), by first | rfl | simp_all⟩
set_option maxHeartbeats 1000000 in
theorem oneHolds_any (rom : ByteArray) (kind bank : Int) (ram : ByteArray) (rb : Int) (on : Bool) (mode : Int) (w : World) :
    Calls Try.prog 89 #[.agg #[], .agg #[.string rom, .int .i64 kind, .int .i64 bank, .string ram, .int .i64 rb, .bool on, .int .i64 mode]] w fun e w' => e = .returned (.bool (inB bank 1 31 && inB rb 0 3 && inB mode 0 1)) ∧ w' = (w.alloc (.cells #[] 65)).alloc (.cells #[.string rom, .int .i64 kind, .int .i64 bank, .string ram, .int .i64 rb, .bool on, .int .i64 mode] 27) := by
  go_enter Try.func89, Try.ntmps89
  go_wp2_with (go_at_call 90; refine (isRamBank_any _ _).mono ?_; rintro e w' ⟨rfl, rfl⟩)
  all_goals go_ret
  all_goals exact ⟨ret_bool (by rw [Bool.eq_iff_iff]; simp_all [inB] <;> omega), by first | rfl | simp_all⟩
set_option maxHeartbeats 1000000 in
theorem fiveHolds_any (rom : ByteArray) (kind bank : Int) (ram : ByteArray) (rb : Int) (on : Bool) (mode : Int) (w : World) :
    Calls Try.prog 91 #[.agg #[], .agg #[.string rom, .int .i64 kind, .int .i64 bank, .string ram, .int .i64 rb, .bool on, .int .i64 mode]] w fun e w' => e = .returned (.bool (inB bank 0 255 && inB rb 0 3 && mode == 0)) ∧ w' = (w.alloc (.cells #[] 66)).alloc (.cells #[.string rom, .int .i64 kind, .int .i64 bank, .string ram, .int .i64 rb, .bool on, .int .i64 mode] 27) := by
  go_enter Try.func91, Try.ntmps91
  go_wp2_with (first | (go_at_call 90; refine (isRamBank_any _ _).mono ?_; rintro e w' ⟨rfl, rfl⟩) | (go_at_call 39; refine (isByte_any _ _).mono ?_; rintro e w' ⟨rfl, rfl⟩))
  all_goals go_ret
  all_goals exact ⟨ret_bool (by rw [Bool.eq_iff_iff]; simp_all [inB] <;> omega), by first | rfl | simp_all⟩

end Go.Proofs.Ytllpkidfldmbnaa.Carts
