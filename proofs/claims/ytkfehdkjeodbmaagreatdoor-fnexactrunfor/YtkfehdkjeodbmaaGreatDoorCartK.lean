/-
  Contracts of ours for both CartOk, at every argument.
-/
import Derived.Test.YtkfehdkjeodbmaaGreatDoorCarts
namespace Go.Proofs.YtkfehdkjeodbmaaGreatDoor.CartK
set_option maxRecDepth 20000
open Go.ChangeShapes Go.WideShapes Go.ChangeAt Go.RowKit
open Signed (inB ret_int ret_bool isByte_any l1In_any)
open Carts

theorem mapperOf_0 (w : World) : Calls Tryz.prog 92 #[.int .i64 0] w fun e w' => e = .returned (.iface 141 (.agg #[])) ∧ w' = w := mapperOf_any 0 w
set_option maxHeartbeats 1000000 in
theorem cartOk_0 (rom : ByteArray) (bank : Int) (ram : ByteArray) (rb : Int) (on : Bool) (mode : Int) (w : World) (hs : rom.size ≤ maxLen) (hr : ram.size ≤ maxLen) (b1 b2 : Bool) (h1 : (decide (bank = 1 ∧ rb = 0 ∧ mode = 0 ∧ on = false)) = b1) (h2 : romB rom.size = b2) :
    Calls Tryz.prog 56 #[.agg #[.string rom, .int .i64 0, .int .i64 bank, .string ram, .int .i64 rb, .bool on, .int .i64 mode]] w fun e w' => e = .returned (.bool (b1 && b2 && ram.size == 256)) ∧ w' = ((w.alloc (.cells #[.string rom, .int .i64 0, .int .i64 bank, .string ram, .int .i64 rb, .bool on, .int .i64 mode] 31)).alloc (.cells #[] 141)).alloc (.cells #[.string rom, .int .i64 0, .int .i64 bank, .string ram, .int .i64 rb, .bool on, .int .i64 mode] 31) := by
  have c1 := fun w => plainHolds_any rom 0 bank ram rb on mode w
  have c2 := fun w => romOk_any rom w hs
  rw [h1] at c1
  rw [h2] at c2
  have m := m0
  have e3 : decide ((ram.size : Int) = 256) = (ram.size == 256) := by rw [Bool.eq_iff_iff]; simp; try omega
  have hr' : ram.size ≤ 9223372036854775807 := by unfold maxLen at hr; omega
  clear h1 h2 hr hs
  cases b1 <;> cases b2
  all_goals
    go_enter Tryz.func56, Tryz.ntmps56
    go_wp2_with first | (go_at_call 92; refine (mapperOf_0 _).mono ?_; rintro e w' ⟨rfl, rfl⟩) | (go_at_call 249; refine (c1 _).mono ?_; rintro e w' ⟨rfl, rfl⟩) | (go_at_call 93; refine (c2 _).mono ?_; rintro e w' ⟨rfl, rfl⟩)
    all_goals go_ret
    all_goals first | exact ⟨rfl, rfl⟩ | exact ⟨ret_bool e3, rfl⟩ | exact ⟨ret_bool (by rw [Bool.eq_iff_iff]; simp; try omega), rfl⟩

theorem mapperOf_1 (w : World) : Calls Tryz.prog 92 #[.int .i64 1] w fun e w' => e = .returned (.iface 142 (.agg #[])) ∧ w' = w := mapperOf_any 1 w
set_option maxHeartbeats 1000000 in
theorem cartOk_1 (rom : ByteArray) (bank : Int) (ram : ByteArray) (rb : Int) (on : Bool) (mode : Int) (w : World) (hs : rom.size ≤ maxLen) (hr : ram.size ≤ maxLen) (b1 b2 : Bool) (h1 : (inB bank 1 31 && inB rb 0 3 && inB mode 0 1) = b1) (h2 : romB rom.size = b2) :
    Calls Tryz.prog 56 #[.agg #[.string rom, .int .i64 1, .int .i64 bank, .string ram, .int .i64 rb, .bool on, .int .i64 mode]] w fun e w' => e = .returned (.bool (b1 && b2 && ram.size == 256)) ∧ w' = ((w.alloc (.cells #[.string rom, .int .i64 1, .int .i64 bank, .string ram, .int .i64 rb, .bool on, .int .i64 mode] 31)).alloc (.cells #[] 142)).alloc (.cells #[.string rom, .int .i64 1, .int .i64 bank, .string ram, .int .i64 rb, .bool on, .int .i64 mode] 31) := by
  have c1 := fun w => oneHolds_any rom 1 bank ram rb on mode w
  have c2 := fun w => romOk_any rom w hs
  rw [h1] at c1
  rw [h2] at c2
  have m := m1
  have e3 : decide ((ram.size : Int) = 256) = (ram.size == 256) := by rw [Bool.eq_iff_iff]; simp; try omega
  have hr' : ram.size ≤ 9223372036854775807 := by unfold maxLen at hr; omega
  clear h1 h2 hr hs
  cases b1 <;> cases b2
  all_goals
    go_enter Tryz.func56, Tryz.ntmps56
    go_wp2_with first | (go_at_call 92; refine (mapperOf_1 _).mono ?_; rintro e w' ⟨rfl, rfl⟩) | (go_at_call 250; refine (c1 _).mono ?_; rintro e w' ⟨rfl, rfl⟩) | (go_at_call 93; refine (c2 _).mono ?_; rintro e w' ⟨rfl, rfl⟩)
    all_goals go_ret
    all_goals first | exact ⟨rfl, rfl⟩ | exact ⟨ret_bool e3, rfl⟩ | exact ⟨ret_bool (by rw [Bool.eq_iff_iff]; simp; try omega), rfl⟩

theorem mapperOf_2 (w : World) : Calls Tryz.prog 92 #[.int .i64 2] w fun e w' => e = .returned (.iface 143 (.agg #[])) ∧ w' = w := mapperOf_any 2 w
set_option maxHeartbeats 1000000 in
theorem cartOk_2 (rom : ByteArray) (bank : Int) (ram : ByteArray) (rb : Int) (on : Bool) (mode : Int) (w : World) (hs : rom.size ≤ maxLen) (hr : ram.size ≤ maxLen) (b1 b2 : Bool) (h1 : (inB bank 0 255 && inB rb 0 3 && mode == 0) = b1) (h2 : romB rom.size = b2) :
    Calls Tryz.prog 56 #[.agg #[.string rom, .int .i64 2, .int .i64 bank, .string ram, .int .i64 rb, .bool on, .int .i64 mode]] w fun e w' => e = .returned (.bool (b1 && b2 && ram.size == 256)) ∧ w' = ((w.alloc (.cells #[.string rom, .int .i64 2, .int .i64 bank, .string ram, .int .i64 rb, .bool on, .int .i64 mode] 31)).alloc (.cells #[] 143)).alloc (.cells #[.string rom, .int .i64 2, .int .i64 bank, .string ram, .int .i64 rb, .bool on, .int .i64 mode] 31) := by
  have c1 := fun w => fiveHolds_any rom 2 bank ram rb on mode w
  have c2 := fun w => romOk_any rom w hs
  rw [h1] at c1
  rw [h2] at c2
  have m := m2
  have e3 : decide ((ram.size : Int) = 256) = (ram.size == 256) := by rw [Bool.eq_iff_iff]; simp; try omega
  have hr' : ram.size ≤ 9223372036854775807 := by unfold maxLen at hr; omega
  clear h1 h2 hr hs
  cases b1 <;> cases b2
  all_goals
    go_enter Tryz.func56, Tryz.ntmps56
    go_wp2_with first | (go_at_call 92; refine (mapperOf_2 _).mono ?_; rintro e w' ⟨rfl, rfl⟩) | (go_at_call 252; refine (c1 _).mono ?_; rintro e w' ⟨rfl, rfl⟩) | (go_at_call 93; refine (c2 _).mono ?_; rintro e w' ⟨rfl, rfl⟩)
    all_goals go_ret
    all_goals first | exact ⟨rfl, rfl⟩ | exact ⟨ret_bool e3, rfl⟩ | exact ⟨ret_bool (by rw [Bool.eq_iff_iff]; simp; try omega), rfl⟩

set_option maxHeartbeats 1000000 in
theorem cartOk_no (rom : ByteArray) (kind bank : Int) (ram : ByteArray) (rb : Int) (on : Bool) (mode : Int) (w : World) (h0 : ¬ kind = 0) (h1 : ¬ kind = 1) (h2 : ¬ kind = 2) :
    Calls Tryz.prog 56 #[.agg #[.string rom, .int .i64 kind, .int .i64 bank, .string ram, .int .i64 rb, .bool on, .int .i64 mode]] w fun e w' => e = .returned (.bool false) ∧ w' = w.alloc (.cells #[.string rom, .int .i64 kind, .int .i64 bank, .string ram, .int .i64 rb, .bool on, .int .i64 mode] 31) := by
  have c := fun w => mapperOf_any kind w
  have e : mapV kind = .nilIface := by unfold mapV; simp [h0, h1, h2]
  rw [e] at c
  go_enter Tryz.func56, Tryz.ntmps56
  go_wp2_with (go_at_call 92; refine (c _).mono ?_; rintro e w' ⟨rfl, rfl⟩)
  go_ret
  exact ⟨rfl, rfl⟩
theorem banks_no {n : Nat} (h : romB n = false) : banks n = 0 := by
  unfold romB at h; unfold banks; rw [if_neg (of_decide_eq_false h)]
theorem banks_yes {n : Nat} (h : romB n = true) : 2 ≤ banks n ∧ banks n ≤ 16 ∧ banks n = n / 256 ∧ n = 256 * (n / 256) := by
  unfold romB at h; have h := of_decide_eq_true h; unfold banks; rw [if_pos h]; omega
set_option maxHeartbeats 1000000 in
theorem specNot1 (rom : ByteArray) (kind bank : Int) (ram : ByteArray) (rb : Int) (on : Bool) (mode : Int) (w : World) (hs : rom.size ≤ maxLen) (h : romB rom.size = false) :
    Calls Tryz.prog 46 #[.agg #[.string rom, .int .i64 kind, .int .i64 bank, .string ram, .int .i64 rb, .bool on, .int .i64 mode]] w fun e w' => e = .returned (.bool false) ∧ w' = w.alloc (.cells #[.string rom, .int .i64 kind, .int .i64 bank, .string ram, .int .i64 rb, .bool on, .int .i64 mode] 31) := by
  have c := fun w => l5Banks_any rom w hs
  rw [banks_no h] at c
  go_enter Tryz.func46, Tryz.ntmps46
  go_wp2_with (go_at_call 69; refine (c _).mono ?_; rintro e w' ⟨rfl, rfl⟩)
  go_ret
  exact ⟨rfl, rfl⟩
set_option maxHeartbeats 1000000 in
theorem specNot2 (rom : ByteArray) (kind bank : Int) (ram : ByteArray) (rb : Int) (on : Bool) (mode : Int) (w : World) (hs : rom.size ≤ maxLen) (hr : ram.size ≤ maxLen) (h : romB rom.size = true) (h2 : ¬ ram.size = 256) :
    Calls Tryz.prog 46 #[.agg #[.string rom, .int .i64 kind, .int .i64 bank, .string ram, .int .i64 rb, .bool on, .int .i64 mode]] w fun e w' => e = .returned (.bool false) ∧ w' = w.alloc (.cells #[.string rom, .int .i64 kind, .int .i64 bank, .string ram, .int .i64 rb, .bool on, .int .i64 mode] 31) := by
  have c := fun w => l5Banks_any rom w hs
  obtain ⟨z0, z1, -, -⟩ := banks_yes h
  obtain ⟨z, hz⟩ : ∃ z, z = banks rom.size := ⟨_, rfl⟩
  rw [← hz] at c z0 z1
  have hr' : ram.size ≤ 9223372036854775807 := by unfold maxLen at hr; omega
  have d0 : (z == 0) = false := by simp; omega
  have d1 : ((ram.size : Int) != 256) = true := by simp; omega
  clear hz h hs hr
  go_enter Tryz.func46, Tryz.ntmps46
  go_wp2_with (go_at_call 69; refine (c _).mono ?_; rintro e w' ⟨rfl, rfl⟩)
  all_goals go_ret
  all_goals exact ⟨rfl, rfl⟩
set_option maxHeartbeats 2000000 in
theorem specYes (rom : ByteArray) (kind bank : Int) (ram : ByteArray) (rb : Int) (on : Bool) (mode : Int) (w : World) (hs : rom.size ≤ maxLen) (h : romB rom.size = true) (h2 : ram.size = 256) :
    Calls Tryz.prog 46 #[.agg #[.string rom, .int .i64 kind, .int .i64 bank, .string ram, .int .i64 rb, .bool on, .int .i64 mode]] w fun e w' => e = .returned (.bool (heldB kind bank rb on mode)) ∧ w' = w.alloc (.cells #[.string rom, .int .i64 kind, .int .i64 bank, .string ram, .int .i64 rb, .bool on, .int .i64 mode] 31) := by
  have c := fun w => l5Banks_any rom w hs
  obtain ⟨z0, z1, -, -⟩ := banks_yes h
  obtain ⟨z, hz⟩ : ∃ z, z = banks rom.size := ⟨_, rfl⟩
  rw [← hz] at c z0 z1
  have d0 : (z == 0) = false := by simp; omega
  have d1 : ((ram.size : Int) != 256) = false := by simp; omega
  clear hz h
  go_enter Tryz.func46, Tryz.ntmps46
  go_wp2_with first | (go_at_call 69; refine (c _).mono ?_; rintro e w' ⟨rfl, rfl⟩) | (go_at_call 36; refine (l1In_any _ _ _ _).mono ?_; rintro e w' ⟨rfl, rfl⟩)
  all_goals clear c h2 hs
  all_goals go_ret
  all_goals exact ⟨ret_bool (by rw [Bool.eq_iff_iff]; simp_all [heldB, inB] <;> omega), by first | rfl | simp_all⟩
theorem specOk_any (rom : ByteArray) (kind bank : Int) (ram : ByteArray) (rb : Int) (on : Bool) (mode : Int) (w : World) (hs : rom.size ≤ maxLen) (hr : ram.size ≤ maxLen) :
    Calls Tryz.prog 46 #[.agg #[.string rom, .int .i64 kind, .int .i64 bank, .string ram, .int .i64 rb, .bool on, .int .i64 mode]] w fun e w' => e = .returned (.bool (okB rom kind bank ram rb on mode)) ∧ w' = w.alloc (.cells #[.string rom, .int .i64 kind, .int .i64 bank, .string ram, .int .i64 rb, .bool on, .int .i64 mode] 31) := by
  cases h : romB rom.size with
  | false =>
    refine (specNot1 rom kind bank ram rb on mode w hs h).mono ?_
    rintro e w' ⟨rfl, rfl⟩
    exact ⟨ret_bool (by simp [okB, h]), rfl⟩
  | true =>
    by_cases h2 : ram.size = 256
    · refine (specYes rom kind bank ram rb on mode w hs h h2).mono ?_
      rintro e w' ⟨rfl, rfl⟩
      exact ⟨ret_bool (by simp [okB, h, h2]), rfl⟩
    · refine (specNot2 rom kind bank ram rb on mode w hs hr h h2).mono ?_
      rintro e w' ⟨rfl, rfl⟩
      exact ⟨ret_bool (by simp [okB, h, h2]), rfl⟩

end Go.Proofs.YtkfehdkjeodbmaaGreatDoor.CartK
