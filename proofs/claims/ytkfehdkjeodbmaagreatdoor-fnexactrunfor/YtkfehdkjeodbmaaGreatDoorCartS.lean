/-
  Contracts of ours for what is read of a cart, the specification's side; both CartRead.
-/
import Derived.Test.YtkfehdkjeodbmaaGreatDoorCartR
namespace Go.Proofs.YtkfehdkjeodbmaaGreatDoor.CartS
set_option maxRecDepth 20000
open Go.ChangeShapes Go.WideShapes Go.ChangeAt Go.RowKit Go.Deep
set_option linter.unusedVariables false
open Signed (inB ret_int ret_bool isByte_any l1In_any)
open Carts CartK CartL CartM CartR
set_option maxHeartbeats 1000000 in
theorem sread2 (rom : ByteArray) (kind bank : Int) (ram : ByteArray) (rb : Int) (on : Bool) (mode : Int) (addr z q : Int) (w : World) (hs : rom.size ≤ maxLen) (s1 : rom.size ≤ 4096) (hz : banks rom.size = z) (z0 : 2 ≤ z) (z1 : z ≤ 16) (b0 : 0 ≤ bank) (b1 : bank ≤ 255) (hq : bank % z = q) (q0 : 0 ≤ q) (q1 : q ≤ 15) (q2 : q * 256 + 256 ≤ rom.size) (a0 : 256 ≤ addr) (a1 : addr < 512) :
    Calls Tryz.prog 107 #[.agg #[.string rom, .int .i64 kind, .int .i64 bank, .string ram, .int .i64 rb, .bool on, .int .i64 mode], .int .i64 addr] w fun e w' => e = .returned (.int .i64 (byteAt rom (q * 256 + addr - 256))) ∧ Below w.heap.size w w' := by
  have d1 : inB addr 0 255 = false := decide_eq_false (by omega)
  have d2 : inB addr 256 511 = true := decide_eq_true (by omega)
  have c3 := fun w => l5Banks_any rom w hs
  rw [hz] at c3
  clear hz hs
  have i0 : 0 ≤ q * 256 + addr - 256 := by omega
  have i1 : q * 256 + addr - 256 < (rom.size : Int) := by omega
  have e1 : IntKind.i64.wrap (q * 256) = q * 256 := by rw [IntKind.wrap_i64]; omega
  have e2 : IntKind.i64.wrap (q * 256 + addr) = q * 256 + addr := by rw [IntKind.wrap_i64]; omega
  have e3 : IntKind.i64.wrap (q * 256 + addr - 256) = q * 256 + addr - 256 := by rw [IntKind.wrap_i64]; omega
  have z2 : ¬ z = 0 := by omega
  have ht : bank.tmod z = q := by rw [Int.tmod_eq_emod_of_nonneg b0]; exact hq
  have i2 : 256 ≤ q * 256 + addr := by omega
  clear hq
  go_enter Tryz.func107, Tryz.ntmps107
  go_wp2_with (go_at_call 36; refine (l1In_any _ _ _ _).mono ?_; rintro e w' ⟨rfl, rfl⟩)
  go_quiet ((go_at_call 69; exact Calls.quiet_of_same (c3 _)))
  go_wp2
  go_ret
  exact ⟨ret_int (by first | exact byteAt_wrap (by omega) | exact byteAt_wrapk (by omega)), by repeat (with_reducible first | exact Below.refl _ _ | refine CartL.grow ?_ _ | refine below_drewN ?_ _ | refine Below.drew ?_)⟩
set_option maxHeartbeats 1000000 in
theorem sread3 (rom : ByteArray) (kind bank : Int) (ram : ByteArray) (rb : Int) (mode : Int) (addr r : Int) (w : World) (sr : ram.size = 256) (h0 : 0 ≤ rb) (h1 : rb ≤ 3) (a0 : 40960 ≤ addr) (a1 : addr < 41024) (hr : ramQ kind rb mode = r) :
    Calls Tryz.prog 107 #[.agg #[.string rom, .int .i64 kind, .int .i64 bank, .string ram, .int .i64 rb, .bool true, .int .i64 mode], .int .i64 addr] w fun e w' => e = .returned (.int .i64 (byteAt ram (r * 64 + addr - 40960))) ∧ Below w.heap.size w w' := by
  have c := fun w => l5RamBank_any rom kind bank ram rb true mode w
  obtain ⟨r0, r1⟩ := ramQ_bd (kind := kind) (mode := mode) h0 h1
  rw [hr] at c r0 r1
  clear hr h0 h1
  have d1 : inB addr 0 255 = false := decide_eq_false (by omega)
  have d2 : inB addr 256 511 = false := decide_eq_false (by omega)
  have d3 : inB addr 40960 41023 = true := decide_eq_true (by omega)
  have i0 : 0 ≤ r * 64 + addr - 40960 := by omega
  have i1 : r * 64 + addr - 40960 < (ram.size : Int) := by omega
  have i2 : 40960 ≤ r * 64 + addr := by omega
  clear sr
  have e1 : IntKind.i64.wrap (r * 64) = r * 64 := by rw [IntKind.wrap_i64]; omega
  have e2 : IntKind.i64.wrap (r * 64 + addr) = r * 64 + addr := by rw [IntKind.wrap_i64]; omega
  have e3 : IntKind.i64.wrap (r * 64 + addr - 40960) = r * 64 + addr - 40960 := by rw [IntKind.wrap_i64]; omega
  go_enter Tryz.func107, Tryz.ntmps107
  go_wp2_with (go_at_call 36; refine (l1In_any _ _ _ _).mono ?_; rintro e w' ⟨rfl, rfl⟩)
  go_region_with (go_at_call 173; refine (c _).mono ?_; rintro e w' ⟨rfl, rfl⟩)
  all_goals go_wp2
  all_goals go_ret
  all_goals exact ⟨ret_int (by first | exact byteAt_wrap (by omega) | exact byteAt_wrapk (by omega)), by repeat (with_reducible first | exact Below.refl _ _ | refine CartL.grow ?_ _ | refine below_drewN ?_ _ | refine Below.drew ?_)⟩
theorem sread4 (rom : ByteArray) (kind bank : Int) (ram : ByteArray) (rb : Int) (on : Bool) (mode : Int) (addr : Int) (w : World) (a0 : 512 ≤ addr) (h : on = false ∨ addr < 40960 ∨ 41024 ≤ addr) :
    Calls Tryz.prog 107 #[.agg #[.string rom, .int .i64 kind, .int .i64 bank, .string ram, .int .i64 rb, .bool on, .int .i64 mode], .int .i64 addr] w fun e w' => e = .returned (.int .i64 255) ∧ Below w.heap.size w w' := by
  have d1 : inB addr 0 255 = false := decide_eq_false (by omega)
  have d2 : inB addr 256 511 = false := decide_eq_false (by omega)
  cases on with
  | false =>
    go_enter Tryz.func107, Tryz.ntmps107
    go_wp2_with (go_at_call 36; refine (l1In_any _ _ _ _).mono ?_; rintro e w' ⟨rfl, rfl⟩)
    go_ret
    exact ⟨rfl, by repeat (with_reducible first | exact Below.refl _ _ | refine CartL.grow ?_ _ | refine below_drewN ?_ _ | refine Below.drew ?_)⟩
  | true =>
    have d3 : inB addr 40960 41023 = false := decide_eq_false (by simp at h; omega)
    go_enter Tryz.func107, Tryz.ntmps107
    go_wp2_with (go_at_call 36; refine (l1In_any _ _ _ _).mono ?_; rintro e w' ⟨rfl, rfl⟩)
    go_ret
    exact ⟨rfl, by repeat (with_reducible first | exact Below.refl _ _ | refine CartL.grow ?_ _ | refine below_drewN ?_ _ | refine Below.drew ?_)⟩

theorem ret_i {a b : Int} {w : World} {w' : World} {e : Ending} (h : a = b) (k : e = .returned (.int .i64 a) ∧ Below w.heap.size w w') : e = .returned (.int .i64 b) ∧ Below w.heap.size w w' := by rw [← h]; exact k

theorem implRead_right (rom : ByteArray) (kind bank : Int) (ram : ByteArray) (rb : Int) (on : Bool) (mode : Int) (addr : Int) (w : World) (h : okB rom kind bank ram rb on mode = true) (a0 : 0 ≤ addr) :
    Calls Tryz.prog 114 #[.agg #[.string rom, .int .i64 kind, .int .i64 bank, .string ram, .int .i64 rb, .bool on, .int .i64 mode], .int .i64 addr] w fun e w' => e = .returned (.int .i64 (rdV rom (bank % banks rom.size) ram (ramQ kind rb mode) on addr)) ∧ Below w.heap.size w w' := by
  obtain ⟨n, n0, n1, hn, hb, hm, b0, b1, r0, r1, m0, m1, hk⟩ := right rom kind bank ram rb on mode h
  rw [hb]
  have q0 : 0 ≤ bank % (n : Int) := Int.emod_nonneg _ (by omega)
  have q1 : bank % (n : Int) < n := Int.emod_lt_of_pos _ (by omega)
  by_cases h1 : addr < 256
  · exact (read1 rom kind bank ram rb on mode addr w (by omega) a0 h1).mono fun e w' k => ret_i (by unfold rdV; rw [if_pos h1]) k
  by_cases h2 : addr < 512
  · exact (read2 rom kind bank ram rb on mode addr _ w (by omega) q0 (by omega) (by omega) (by omega) h2 (fun w => bankSeen_any rom kind bank ram rb on mode w n n0 n1 hn b0 b1)).mono fun e w' k => ret_i (by unfold rdV; rw [if_neg h1, if_pos h2]) k
  by_cases h3 : on = true ∧ 40960 ≤ addr ∧ addr < 41024
  · obtain ⟨rfl, h4, h5⟩ := h3
    exact (read3 rom kind bank ram rb mode addr _ w hm r0 r1 m0 m1 (by simp at hk; omega) h4 h5 rfl).mono fun e w' k => ret_i (by unfold rdV; rw [if_neg h1, if_neg h2, if_pos ⟨rfl, h4, h5⟩]) k
  · exact (read4 rom kind bank ram rb on mode addr w (by omega) (by cases on <;> simp at h3 ⊢; omega)).mono fun e w' k => ret_i (by unfold rdV; rw [if_neg h1, if_neg h2, if_neg h3]) k
theorem specRead_right (rom : ByteArray) (kind bank : Int) (ram : ByteArray) (rb : Int) (on : Bool) (mode : Int) (addr : Int) (w : World) (hs : rom.size ≤ maxLen) (h : okB rom kind bank ram rb on mode = true) (a0 : 0 ≤ addr) :
    Calls Tryz.prog 107 #[.agg #[.string rom, .int .i64 kind, .int .i64 bank, .string ram, .int .i64 rb, .bool on, .int .i64 mode], .int .i64 addr] w fun e w' => e = .returned (.int .i64 (rdV rom (bank % banks rom.size) ram (ramQ kind rb mode) on addr)) ∧ Below w.heap.size w w' := by
  obtain ⟨n, n0, n1, hn, hb, hm, b0, b1, r0, r1, m0, m1, hk⟩ := right rom kind bank ram rb on mode h
  rw [hb]
  have q0 : 0 ≤ bank % (n : Int) := Int.emod_nonneg _ (by omega)
  have q1 : bank % (n : Int) < n := Int.emod_lt_of_pos _ (by omega)
  by_cases h1 : addr < 256
  · exact (sread1 rom kind bank ram rb on mode addr w (by omega) a0 h1).mono fun e w' k => ret_i (by unfold rdV; rw [if_pos h1]) k
  by_cases h2 : addr < 512
  · exact (sread2 rom kind bank ram rb on mode addr n _ w hs (by omega) hb (by omega) (by omega) b0 b1 rfl q0 (by omega) (by omega) (by omega) h2).mono fun e w' k => ret_i (by unfold rdV; rw [if_neg h1, if_pos h2]) k
  by_cases h3 : on = true ∧ 40960 ≤ addr ∧ addr < 41024
  · obtain ⟨rfl, h4, h5⟩ := h3
    exact (sread3 rom kind bank ram rb mode addr _ w hm r0 r1 h4 h5 rfl).mono fun e w' k => ret_i (by unfold rdV; rw [if_neg h1, if_neg h2, if_pos ⟨rfl, h4, h5⟩]) k
  · exact (sread4 rom kind bank ram rb on mode addr w (by omega) (by cases on <;> simp at h3 ⊢; omega)).mono fun e w' k => ret_i (by unfold rdV; rw [if_neg h1, if_neg h2, if_neg h3]) k

def readV (rom : ByteArray) (kind bank : Int) (ram : ByteArray) (rb : Int) (on : Bool) (mode : Int) (addr : Int) : Int := if okB rom kind bank ram rb on mode = true ∧ inB addr 0 65535 = true then rdV rom (bank % banks rom.size) ram (ramQ kind rb mode) on addr else -1
end Go.Proofs.YtkfehdkjeodbmaaGreatDoor.CartS
