/-
  Contracts of ours for the laws' own helpers over machines: sizes, the mirror's machine as the program's, equality; a machine that came in, opened.
-/
import Derived.Test.YtkfehdkjeodbmaaGreatDoorOuts
namespace Go.Proofs.YtkfehdkjeodbmaaGreatDoor.Mach
set_option maxRecDepth 20000
open Go.ChangeShapes Go.WideShapes Go.ChangeAt Go.RowKit Go.Deep
set_option linter.unusedVariables false
open Signed (inB ret_int ret_bool isByte_any l1In_any)
open CartL Outs

set_option maxHeartbeats 1000000 in
theorem toCpu_any (ra rf rB rC rD rE rH rL sp pc : Int) (ime hal : Bool) (w : World) :
    Calls Tryz.prog 25 #[.agg #[.int .i64 ra, .int .i64 rf, .int .i64 rB, .int .i64 rC, .int .i64 rD, .int .i64 rE, .int .i64 rH, .int .i64 rL, .int .i64 sp, .int .i64 pc, .bool ime, .bool hal]] w fun e w' => e = .returned (.agg #[.int .i64 ra, .int .i64 rf, .int .i64 rB, .int .i64 rC, .int .i64 rD, .int .i64 rE, .int .i64 rH, .int .i64 rL, .int .i64 sp, .int .i64 pc, .bool ime, .bool hal]) ∧ w' = ((w.alloc (.cells #[.int .i64 ra, .int .i64 rf, .int .i64 rB, .int .i64 rC, .int .i64 rD, .int .i64 rE, .int .i64 rH, .int .i64 rL, .int .i64 sp, .int .i64 pc, .bool ime, .bool hal] 23)).alloc (.cells #[.int .i64 ra, .int .i64 rf, .int .i64 rB, .int .i64 rC, .int .i64 rD, .int .i64 rE, .int .i64 rH, .int .i64 rL, .int .i64 sp, .int .i64 pc, .bool ime, .bool hal] 30)).alloc (.cells #[.int .i64 ra, .int .i64 rf, .int .i64 rB, .int .i64 rC, .int .i64 rD, .int .i64 rE, .int .i64 rH, .int .i64 rL, .int .i64 sp, .int .i64 pc, .bool ime, .bool hal] 30) := by
  go_enter Tryz.func25, Tryz.ntmps25
  go_wp2
  exact bodyPost_ret (v := .agg #[.int .i64 ra, .int .i64 rf, .int .i64 rB, .int .i64 rC, .int .i64 rD, .int .i64 rE, .int .i64 rH, .int .i64 rL, .int .i64 sp, .int .i64 pc, .bool ime, .bool hal]) (by simp [results, Tryz.results25, go_sem]) rfl ⟨rfl, rfl⟩
set_option maxHeartbeats 1000000 in
theorem eqCpu_any (ra rf rB rC rD rE rH rL sp pc : Int) (ime hal : Bool) (w : World) :
    Calls Tryz.prog 31 #[.agg #[.int .i64 ra, .int .i64 rf, .int .i64 rB, .int .i64 rC, .int .i64 rD, .int .i64 rE, .int .i64 rH, .int .i64 rL, .int .i64 sp, .int .i64 pc, .bool ime, .bool hal], .agg #[.int .i64 ra, .int .i64 rf, .int .i64 rB, .int .i64 rC, .int .i64 rD, .int .i64 rE, .int .i64 rH, .int .i64 rL, .int .i64 sp, .int .i64 pc, .bool ime, .bool hal]] w fun e w' => e = .returned (.bool true) ∧ w' = (w.alloc (.cells #[.int .i64 ra, .int .i64 rf, .int .i64 rB, .int .i64 rC, .int .i64 rD, .int .i64 rE, .int .i64 rH, .int .i64 rL, .int .i64 sp, .int .i64 pc, .bool ime, .bool hal] 30)).alloc (.cells #[.int .i64 ra, .int .i64 rf, .int .i64 rB, .int .i64 rC, .int .i64 rD, .int .i64 rE, .int .i64 rH, .int .i64 rL, .int .i64 sp, .int .i64 pc, .bool ime, .bool hal] 30) := by
  go_enter Tryz.func31, Tryz.ntmps31
  go_wp2
  go_ret
  exact ⟨rfl, rfl⟩
/-- What is left of the bytes that the law allows. -/
def sizeB (rom ram work high : Nat) (n : Nat) : Bool := decide (rom + ram + work + high + n ≤ 1048576)
set_option maxHeartbeats 2000000 in
theorem szMachine_any (ra rf rB rC rD rE rH rL sp pc : Int) (ime hal : Bool) (rom : ByteArray) (kind bank : Int) (ram : ByteArray) (rb : Int) (on : Bool) (mode : Int) (work high : ByteArray) (po : Option Addr) (L : List Int) (cap : Nat) (cyc : Int) (w : World) (z1 : rom.size ≤ maxLen) (z2 : ram.size ≤ maxLen) (z3 : work.size ≤ maxLen) (z4 : high.size ≤ maxLen) (z5 : L.length ≤ maxLen) :
    Calls Tryz.prog 6 #[.agg #[.int .i64 ra, .int .i64 rf, .int .i64 rB, .int .i64 rC, .int .i64 rD, .int .i64 rE, .int .i64 rH, .int .i64 rL, .int .i64 sp, .int .i64 pc, .bool ime, .bool hal, .string rom, .int .i64 kind, .int .i64 bank, .string ram, .int .i64 rb, .bool on, .int .i64 mode, .string work, .string high, .slice po L.length cap, .int .i64 cyc], .int .i64 1048576] w fun e w' => (∃ q : Int, e = .returned (.int .i64 q) ∧ -1 ≤ q ∧ q ≤ 1048576 ∧ (0 ≤ q → rom.size ≤ 1048576 ∧ ram.size ≤ 1048576 ∧ work.size ≤ 1048576 ∧ high.size ≤ 1048576 ∧ L.length ≤ 1048576)) ∧ ∃ o1 o2, w' = (w.alloc o1).alloc o2 := by
  have cz := fun w => szCart_any rom kind bank ram rb on mode 1048576 w z1 z2 (by decide) (by decide)
  unfold maxLen at z1 z2 z3 z4
  obtain ⟨q, hq⟩ : ∃ q, q = left2 1048576 rom.size ram.size := ⟨_, rfl⟩
  have bq : q = -1 ∨ (0 ≤ q ∧ q ≤ 1048576 ∧ rom.size ≤ 1048576 ∧ ram.size ≤ 1048576) := by
    rw [hq]
    unfold left2
    split
    · exact .inl rfl
    split
    · exact .inl rfl
    · right; omega
  rw [← hq] at cz
  clear hq z1 z2
  rcases bq with rfl | ⟨q0, q1, s1, s2⟩
  · go_enter Tryz.func6, Tryz.ntmps6
    go_wp2_with (go_at_call 21; refine (cz _).mono ?_; rintro e w' ⟨rfl, rfl⟩)
    go_ret
    exact ⟨⟨-1, rfl, by decide, by decide, fun h => absurd h (by decide)⟩, _, _, rfl⟩
  by_cases h3 : q - work.size < 0
  · go_enter Tryz.func6, Tryz.ntmps6
    go_wp2_with (go_at_call 21; refine (cz _).mono ?_; rintro e w' ⟨rfl, rfl⟩)
    go_ret
    exact ⟨⟨-1, rfl, by decide, by decide, fun h => absurd h (by decide)⟩, _, _, rfl⟩
  by_cases h4 : q - work.size - high.size < 0
  · go_enter Tryz.func6, Tryz.ntmps6
    go_wp2_with (go_at_call 21; refine (cz _).mono ?_; rintro e w' ⟨rfl, rfl⟩)
    go_ret
    exact ⟨⟨-1, rfl, by decide, by decide, fun h => absurd h (by decide)⟩, _, _, rfl⟩
  have c5 := fun w => szInt64S_any po cap L.length (q - work.size - high.size) w (by omega) (by omega) z5 _ rfl
  by_cases h5 : q - work.size - high.size - L.length < 0
  · rw [if_pos h5] at c5
    clear z5
    go_enter Tryz.func6, Tryz.ntmps6
    go_wp2_with first | (go_at_call 21; refine (cz _).mono ?_; rintro e w' ⟨rfl, rfl⟩) | (go_at_call 22; refine (c5 _).mono ?_; rintro e w' ⟨rfl, rfl⟩)
    go_ret
    exact ⟨⟨-1, rfl, by decide, by decide, fun h => absurd h (by decide)⟩, _, _, rfl⟩
  · rw [if_neg h5] at c5
    obtain ⟨r, hr⟩ : ∃ r, r = q - work.size - high.size - (L.length : Int) := ⟨_, rfl⟩
    rw [← hr] at c5
    have r0 : 0 ≤ r := by omega
    have HR : Hid (r ≤ 1048576 ∧ work.size ≤ 1048576 ∧ high.size ≤ 1048576 ∧ L.length ≤ 1048576) := ⟨by omega, by omega, by omega, by omega⟩
    clear z5 hr h5
    go_enter Tryz.func6, Tryz.ntmps6
    go_wp2_with first | (go_at_call 21; refine (cz _).mono ?_; rintro e w' ⟨rfl, rfl⟩) | (go_at_call 22; refine (c5 _).mono ?_; rintro e w' ⟨rfl, rfl⟩)
    go_ret
    exact ⟨⟨r, rfl, by omega, HR.out.1, fun _ => ⟨s1, s2, HR.out.2⟩⟩, _, _, rfl⟩
end Go.Proofs.YtkfehdkjeodbmaaGreatDoor.Mach
