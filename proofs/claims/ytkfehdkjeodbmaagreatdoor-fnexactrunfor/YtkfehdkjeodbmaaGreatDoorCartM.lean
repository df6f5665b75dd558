/-
  Contracts of ours for both MappedBank, at every argument.
-/
import Derived.Test.YtkfehdkjeodbmaaGreatDoorCartL
namespace Go.Proofs.YtkfehdkjeodbmaaGreatDoor.CartM
set_option maxRecDepth 20000
open Go.ChangeShapes Go.WideShapes Go.ChangeAt Go.RowKit Go.Deep
open Signed (inB ret_int ret_bool isByte_any l1In_any)
open Carts CartK CartL

/-- What is known of a right cart. -/
theorem right (rom : ByteArray) (kind bank : Int) (ram : ByteArray) (rb : Int) (on : Bool) (mode : Int) (h : okB rom kind bank ram rb on mode = true) :
    ∃ n : Nat, 2 ≤ n ∧ n ≤ 16 ∧ rom.size = 256 * n ∧ banks rom.size = n ∧ ram.size = 256 ∧ 0 ≤ bank ∧ bank ≤ 255 ∧ 0 ≤ rb ∧ rb ≤ 3 ∧ 0 ≤ mode ∧ mode ≤ 1 ∧ (kind = 0 ∧ on = false ∨ kind = 1 ∨ kind = 2 ∧ mode = 0) := by
  simp only [okB, Bool.and_eq_true, beq_iff_eq] at h
  obtain ⟨⟨h1, h2⟩, h3⟩ := h
  obtain ⟨z0, z1, z2, z3⟩ := banks_yes h2
  refine ⟨rom.size / 256, by omega, by omega, z3, by omega, h3, ?_⟩
  unfold heldB inB at h1
  by_cases k0 : kind = 0
  · rw [if_pos k0] at h1
    simp at h1
    obtain ⟨h4, h5, h6, h7⟩ := h1
    exact ⟨by omega, by omega, by omega, by omega, by omega, by omega, .inl ⟨k0, h7⟩⟩
  rw [if_neg k0] at h1
  by_cases k1 : kind = 1
  · rw [if_pos k1] at h1
    simp at h1
    omega
  rw [if_neg k1] at h1
  by_cases k2 : kind = 2
  · rw [if_pos k2] at h1
    simp at h1
    omega
  rw [if_neg k2] at h1
  cases h1

theorem bankSeen_any (rom : ByteArray) (kind bank : Int) (ram : ByteArray) (rb : Int) (on : Bool) (mode : Int) (w : World) (n : Nat) (n0 : 2 ≤ n) (n1 : n ≤ 16) (hn : rom.size = 256 * n) (b0 : 0 ≤ bank) (b1 : bank ≤ 255) :
    Calls Tryz.prog 68 #[.agg #[.string rom, .int .i64 kind, .int .i64 bank, .string ram, .int .i64 rb, .bool on, .int .i64 mode]] w fun e w' => e = .returned (.int .i64 (bank % n)) ∧ w' = w.alloc (.cells #[.string rom, .int .i64 kind, .int .i64 bank, .string ram, .int .i64 rb, .bool on, .int .i64 mode] 31) := by
  have q : (rom.size : Int) / 256 = n := by omega
  go_enter Tryz.func68, Tryz.ntmps68
  go_wp2
  go_ret
  exact ⟨rfl, rfl⟩
theorem specMapped_yes (rom : ByteArray) (kind bank : Int) (ram : ByteArray) (rb : Int) (on : Bool) (mode : Int) (w : World) (hs : rom.size ≤ maxLen) (hr : ram.size ≤ maxLen) (h : okB rom kind bank ram rb on mode = true) (n : Nat) (hn : banks rom.size = n) (n0 : 2 ≤ n) (n1 : n ≤ 16) (b0 : 0 ≤ bank) (b1 : bank ≤ 255) :
    Calls Tryz.prog 65 #[.agg #[.string rom, .int .i64 kind, .int .i64 bank, .string ram, .int .i64 rb, .bool on, .int .i64 mode]] w fun e w' => e = .returned (.int .i64 (bank % n)) ∧ ∃ k, w' = ((w.alloc (.cells #[.string rom, .int .i64 kind, .int .i64 bank, .string ram, .int .i64 rb, .bool on, .int .i64 mode] 31)).alloc (.cells #[.string rom, .int .i64 kind, .int .i64 bank, .string ram, .int .i64 rb, .bool on, .int .i64 mode] 31)).drewN k := by
  have c1 := fun w => specOk_any rom kind bank ram rb on mode w hs hr
  have c2 := fun w => l5Banks_any rom w hs
  rw [h] at c1
  rw [hn] at c2
  clear h hn
  go_enter Tryz.func65, Tryz.ntmps65
  go_wp2_with (go_at_call 46; refine (c1 _).mono ?_; rintro e w' ⟨rfl, rfl⟩)
  go_quiet ((go_at_call 69; exact Calls.quiet_of_same (c2 _)))
  go_wp2
  go_ret
  exact ⟨rfl, _, rfl⟩
theorem specMapped_no (rom : ByteArray) (kind bank : Int) (ram : ByteArray) (rb : Int) (on : Bool) (mode : Int) (w : World) (hs : rom.size ≤ maxLen) (hr : ram.size ≤ maxLen) (h : okB rom kind bank ram rb on mode = false) :
    Calls Tryz.prog 65 #[.agg #[.string rom, .int .i64 kind, .int .i64 bank, .string ram, .int .i64 rb, .bool on, .int .i64 mode]] w fun e w' => e = .returned (.int .i64 (-1)) ∧ ∃ k, w' = ((w.alloc (.cells #[.string rom, .int .i64 kind, .int .i64 bank, .string ram, .int .i64 rb, .bool on, .int .i64 mode] 31)).alloc (.cells #[.string rom, .int .i64 kind, .int .i64 bank, .string ram, .int .i64 rb, .bool on, .int .i64 mode] 31)).drewN k := by
  have c1 := fun w => specOk_any rom kind bank ram rb on mode w hs hr
  rw [h] at c1
  clear h
  go_enter Tryz.func65, Tryz.ntmps65
  go_wp2_with (go_at_call 46; refine (c1 _).mono ?_; rintro e w' ⟨rfl, rfl⟩)
  go_ret
  exact ⟨rfl, 0, rfl⟩
def mappedV (rom : ByteArray) (kind bank : Int) (ram : ByteArray) (rb : Int) (on : Bool) (mode : Int) : Int := if okB rom kind bank ram rb on mode = true then bank % banks rom.size else -1
theorem specMapped_any (rom : ByteArray) (kind bank : Int) (ram : ByteArray) (rb : Int) (on : Bool) (mode : Int) (w : World) (hs : rom.size ≤ maxLen) (hr : ram.size ≤ maxLen) :
    Calls Tryz.prog 65 #[.agg #[.string rom, .int .i64 kind, .int .i64 bank, .string ram, .int .i64 rb, .bool on, .int .i64 mode]] w fun e w' => e = .returned (.int .i64 (mappedV rom kind bank ram rb on mode)) ∧ ∃ k, w' = ((w.alloc (.cells #[.string rom, .int .i64 kind, .int .i64 bank, .string ram, .int .i64 rb, .bool on, .int .i64 mode] 31)).alloc (.cells #[.string rom, .int .i64 kind, .int .i64 bank, .string ram, .int .i64 rb, .bool on, .int .i64 mode] 31)).drewN k := by
  unfold mappedV
  cases h : okB rom kind bank ram rb on mode with
  | false => simpa using specMapped_no rom kind bank ram rb on mode w hs hr h
  | true =>
    obtain ⟨n, n0, n1, hn, hb, _, b0, b1, _⟩ := right rom kind bank ram rb on mode h
    simpa [hb] using specMapped_yes rom kind bank ram rb on mode w hs hr h n hb n0 n1 b0 b1
end Go.Proofs.YtkfehdkjeodbmaaGreatDoor.CartM
