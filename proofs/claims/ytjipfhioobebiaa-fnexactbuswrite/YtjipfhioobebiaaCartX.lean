/-
  Contracts of ours for both CartWrite, at every argument.
-/
import Derived.Test.YtjipfhioobebiaaCartV
namespace Go.Proofs.Ytjipfhioobebiaa.CartX
open Go.ChangeShapes Go.WideShapes Go.ChangeAt Go.RowKit Go.Deep
set_option linter.unusedVariables false
open Signed (inB ret_int ret_bool isByte_any l1In_any)
open Carts CartK CartL CartM CartN CartP CartR CartW CartV


theorem l4Byte_any (n : Int) (w : World) :
    Calls Try.prog 52 #[.int .i64 n] w fun e w' => e = .returned (.bool (inB n 0 255)) ∧ w' = w := by
  go_enter Try.func52, Try.ntmps52
  go_wp2_with (go_at_call 43; refine (l1In_any _ _ _ _).mono ?_; rintro e w' ⟨rfl, rfl⟩)
  go_ret
  exact ⟨rfl, rfl⟩

set_option maxHeartbeats 1000000 in
theorem implNo1 (rom : ByteArray) (kind bank : Int) (ram : ByteArray) (rb : Int) (on : Bool) (mode : Int) (addr v : Int) (w : World) (hs : rom.size ≤ maxLen) (hr : ram.size ≤ maxLen) (h : okB rom kind bank ram rb on mode = false) (hk : kind = 0 ∨ kind = 1 ∨ kind = 2) :
    Calls Try.prog 25 #[.agg #[.string rom, .int .i64 kind, .int .i64 bank, .string ram, .int .i64 rb, .bool on, .int .i64 mode], .int .i64 addr, .int .i64 v] w fun e w' => e = .returned (.tuple #[.agg #[.string ⟨#[]⟩, .int .i64 0, .int .i64 0, .string ⟨#[]⟩, .int .i64 0, .bool false, .int .i64 0], .bool false]) ∧ Below w.heap.size w w' := by
  have c1 := fun w => implOk_kind rom kind bank ram rb on mode w hs hr hk
  rw [h] at c1
  go_enter Try.func25, Try.ntmps25
  go_wp2_with first | (go_at_call 16; refine (c1 _).mono ?_; rintro e w' ⟨rfl, T, rfl⟩)
  all_goals exact bodyPost_ret (v := .tuple #[.agg #[.string ⟨#[]⟩, .int .i64 0, .int .i64 0, .string ⟨#[]⟩, .int .i64 0, .bool false, .int .i64 0], .bool false]) (by simp [results, Try.results25, go_sem]) rfl ⟨rfl, by repeat (first | exact Below.refl _ _ | refine CartL.grow ?_ _ | refine below_drewN ?_ _ | refine Below.drew ?_)⟩

set_option maxHeartbeats 1000000 in
theorem implNo2 (rom : ByteArray) (kind bank : Int) (ram : ByteArray) (rb : Int) (on : Bool) (mode : Int) (addr v : Int) (w : World) (hs : rom.size ≤ maxLen) (hr : ram.size ≤ maxLen) (k0 : ¬ kind = 0) (k1 : ¬ kind = 1) (k2 : ¬ kind = 2) :
    Calls Try.prog 25 #[.agg #[.string rom, .int .i64 kind, .int .i64 bank, .string ram, .int .i64 rb, .bool on, .int .i64 mode], .int .i64 addr, .int .i64 v] w fun e w' => e = .returned (.tuple #[.agg #[.string ⟨#[]⟩, .int .i64 0, .int .i64 0, .string ⟨#[]⟩, .int .i64 0, .bool false, .int .i64 0], .bool false]) ∧ Below w.heap.size w w' := by
  have c1 := fun w => cartOk_no rom kind bank ram rb on mode w k0 k1 k2
  go_enter Try.func25, Try.ntmps25
  go_wp2_with first | (go_at_call 16; refine (c1 _).mono ?_; rintro e w' ⟨rfl, rfl⟩)
  all_goals exact bodyPost_ret (v := .tuple #[.agg #[.string ⟨#[]⟩, .int .i64 0, .int .i64 0, .string ⟨#[]⟩, .int .i64 0, .bool false, .int .i64 0], .bool false]) (by simp [results, Try.results25, go_sem]) rfl ⟨rfl, by repeat (first | exact Below.refl _ _ | refine CartL.grow ?_ _ | refine below_drewN ?_ _ | refine Below.drew ?_)⟩

set_option maxHeartbeats 1000000 in
theorem implNo3 (rom : ByteArray) (kind bank : Int) (ram : ByteArray) (rb : Int) (on : Bool) (mode : Int) (addr v : Int) (w : World) (hs : rom.size ≤ maxLen) (hr : ram.size ≤ maxLen) (h : okB rom kind bank ram rb on mode = true) (hw : inB addr 0 65535 = false) :
    Calls Try.prog 25 #[.agg #[.string rom, .int .i64 kind, .int .i64 bank, .string ram, .int .i64 rb, .bool on, .int .i64 mode], .int .i64 addr, .int .i64 v] w fun e w' => e = .returned (.tuple #[.agg #[.string ⟨#[]⟩, .int .i64 0, .int .i64 0, .string ⟨#[]⟩, .int .i64 0, .bool false, .int .i64 0], .bool false]) ∧ Below w.heap.size w w' := by
  have c1 := fun w => implOk_yes rom kind bank ram rb on mode w hs hr h
  have c2 := fun w => isWord_any addr w
  rw [hw] at c2
  clear hw h
  go_enter Try.func25, Try.ntmps25
  go_wp2_with first | (go_at_call 16; refine (c1 _).mono ?_; rintro e w' ⟨rfl, T, rfl⟩) | (go_at_call 50; refine (c2 _).mono ?_; rintro e w' ⟨rfl, rfl⟩)
  all_goals exact bodyPost_ret (v := .tuple #[.agg #[.string ⟨#[]⟩, .int .i64 0, .int .i64 0, .string ⟨#[]⟩, .int .i64 0, .bool false, .int .i64 0], .bool false]) (by simp [results, Try.results25, go_sem]) rfl ⟨rfl, by repeat (first | exact Below.refl _ _ | refine CartL.grow ?_ _ | refine below_drewN ?_ _ | refine Below.drew ?_)⟩

set_option maxHeartbeats 1000000 in
theorem implNo4 (rom : ByteArray) (kind bank : Int) (ram : ByteArray) (rb : Int) (on : Bool) (mode : Int) (addr v : Int) (w : World) (hs : rom.size ≤ maxLen) (hr : ram.size ≤ maxLen) (h : okB rom kind bank ram rb on mode = true) (hw : inB addr 0 65535 = true) (hb : inB v 0 255 = false) :
    Calls Try.prog 25 #[.agg #[.string rom, .int .i64 kind, .int .i64 bank, .string ram, .int .i64 rb, .bool on, .int .i64 mode], .int .i64 addr, .int .i64 v] w fun e w' => e = .returned (.tuple #[.agg #[.string ⟨#[]⟩, .int .i64 0, .int .i64 0, .string ⟨#[]⟩, .int .i64 0, .bool false, .int .i64 0], .bool false]) ∧ Below w.heap.size w w' := by
  have c1 := fun w => implOk_yes rom kind bank ram rb on mode w hs hr h
  have c2 := fun w => isWord_any addr w
  rw [hw] at c2
  have c3 := fun w => isByte_any v w
  rw [hb] at c3
  clear hw h hb
  go_enter Try.func25, Try.ntmps25
  go_wp2_with first | (go_at_call 16; refine (c1 _).mono ?_; rintro e w' ⟨rfl, T, rfl⟩) | (go_at_call 50; refine (c2 _).mono ?_; rintro e w' ⟨rfl, rfl⟩) | (go_at_call 54; refine (c3 _).mono ?_; rintro e w' ⟨rfl, rfl⟩)
  all_goals exact bodyPost_ret (v := .tuple #[.agg #[.string ⟨#[]⟩, .int .i64 0, .int .i64 0, .string ⟨#[]⟩, .int .i64 0, .bool false, .int .i64 0], .bool false]) (by simp [results, Try.results25, go_sem]) rfl ⟨rfl, by repeat (first | exact Below.refl _ _ | refine CartL.grow ?_ _ | refine below_drewN ?_ _ | refine Below.drew ?_)⟩

set_option maxHeartbeats 1000000 in
theorem implYes_n3 (rom : ByteArray) (kind bank : Int) (ram : ByteArray) (rb : Int) (on : Bool) (mode : Int) (rom' : ByteArray) (kind' bank' : Int) (ram' : ByteArray) (rb' : Int) (on' : Bool) (mode' : Int) (addr v : Int) (w : World) (hs : rom.size ≤ maxLen) (hr : ram.size ≤ maxLen) (h : okB rom kind bank ram rb on mode = true) (hw : inB addr 0 65535 = true) (hb : inB v 0 255 = true)
    (c4 : ∀ w, Calls Try.prog 55 #[.agg #[.string rom, .int .i64 kind, .int .i64 bank, .string ram, .int .i64 rb, .bool on, .int .i64 mode], .int .i64 addr, .int .i64 v] w fun e w' => e = .returned (.agg #[.string rom', .int .i64 kind', .int .i64 bank', .string ram', .int .i64 rb', .bool on', .int .i64 mode']) ∧ ∃ o1 o2 o3, w' = (((w.alloc o1).alloc o2).alloc o3)) :
    Calls Try.prog 25 #[.agg #[.string rom, .int .i64 kind, .int .i64 bank, .string ram, .int .i64 rb, .bool on, .int .i64 mode], .int .i64 addr, .int .i64 v] w fun e w' => e = .returned (.tuple #[.agg #[.string rom', .int .i64 kind', .int .i64 bank', .string ram', .int .i64 rb', .bool on', .int .i64 mode'], .bool true]) ∧ Below w.heap.size w w' := by
  have c1 := fun w => implOk_yes rom kind bank ram rb on mode w hs hr h
  have c2 := fun w => isWord_any addr w
  rw [hw] at c2
  have c3 := fun w => isByte_any v w
  rw [hb] at c3
  clear hw h hb
  go_enter Try.func25, Try.ntmps25
  go_wp2_with first | (go_at_call 16; refine (c1 _).mono ?_; rintro e w' ⟨rfl, T, rfl⟩) | (go_at_call 50; refine (c2 _).mono ?_; rintro e w' ⟨rfl, rfl⟩) | (go_at_call 54; refine (c3 _).mono ?_; rintro e w' ⟨rfl, rfl⟩) | (go_at_call 55; refine (c4 _).mono ?_; rintro e w' ⟨rfl, p1, p2, p3, rfl⟩)
  all_goals exact bodyPost_ret (v := .tuple #[.agg #[.string rom', .int .i64 kind', .int .i64 bank', .string ram', .int .i64 rb', .bool on', .int .i64 mode'], .bool true]) (by simp [results, Try.results25, go_sem]) rfl ⟨rfl, by repeat (first | exact Below.refl _ _ | refine CartL.grow ?_ _ | refine below_drewN ?_ _ | refine Below.drew ?_)⟩

set_option maxHeartbeats 1000000 in
theorem implYes_n4 (rom : ByteArray) (kind bank : Int) (ram : ByteArray) (rb : Int) (on : Bool) (mode : Int) (rom' : ByteArray) (kind' bank' : Int) (ram' : ByteArray) (rb' : Int) (on' : Bool) (mode' : Int) (addr v : Int) (w : World) (hs : rom.size ≤ maxLen) (hr : ram.size ≤ maxLen) (h : okB rom kind bank ram rb on mode = true) (hw : inB addr 0 65535 = true) (hb : inB v 0 255 = true)
    (c4 : ∀ w, Calls Try.prog 55 #[.agg #[.string rom, .int .i64 kind, .int .i64 bank, .string ram, .int .i64 rb, .bool on, .int .i64 mode], .int .i64 addr, .int .i64 v] w fun e w' => e = .returned (.agg #[.string rom', .int .i64 kind', .int .i64 bank', .string ram', .int .i64 rb', .bool on', .int .i64 mode']) ∧ ∃ o1 o2 o3 o4, w' = ((((w.alloc o1).alloc o2).alloc o3).alloc o4)) :
    Calls Try.prog 25 #[.agg #[.string rom, .int .i64 kind, .int .i64 bank, .string ram, .int .i64 rb, .bool on, .int .i64 mode], .int .i64 addr, .int .i64 v] w fun e w' => e = .returned (.tuple #[.agg #[.string rom', .int .i64 kind', .int .i64 bank', .string ram', .int .i64 rb', .bool on', .int .i64 mode'], .bool true]) ∧ Below w.heap.size w w' := by
  have c1 := fun w => implOk_yes rom kind bank ram rb on mode w hs hr h
  have c2 := fun w => isWord_any addr w
  rw [hw] at c2
  have c3 := fun w => isByte_any v w
  rw [hb] at c3
  clear hw h hb
  go_enter Try.func25, Try.ntmps25
  go_wp2_with first | (go_at_call 16; refine (c1 _).mono ?_; rintro e w' ⟨rfl, T, rfl⟩) | (go_at_call 50; refine (c2 _).mono ?_; rintro e w' ⟨rfl, rfl⟩) | (go_at_call 54; refine (c3 _).mono ?_; rintro e w' ⟨rfl, rfl⟩) | (go_at_call 55; refine (c4 _).mono ?_; rintro e w' ⟨rfl, p1, p2, p3, p4, rfl⟩)
  all_goals exact bodyPost_ret (v := .tuple #[.agg #[.string rom', .int .i64 kind', .int .i64 bank', .string ram', .int .i64 rb', .bool on', .int .i64 mode'], .bool true]) (by simp [results, Try.results25, go_sem]) rfl ⟨rfl, by repeat (first | exact Below.refl _ _ | refine CartL.grow ?_ _ | refine below_drewN ?_ _ | refine Below.drew ?_)⟩

set_option maxHeartbeats 1000000 in
theorem implYes_n6 (rom : ByteArray) (kind bank : Int) (ram : ByteArray) (rb : Int) (on : Bool) (mode : Int) (rom' : ByteArray) (kind' bank' : Int) (ram' : ByteArray) (rb' : Int) (on' : Bool) (mode' : Int) (addr v : Int) (w : World) (hs : rom.size ≤ maxLen) (hr : ram.size ≤ maxLen) (h : okB rom kind bank ram rb on mode = true) (hw : inB addr 0 65535 = true) (hb : inB v 0 255 = true)
    (c4 : ∀ w, Calls Try.prog 55 #[.agg #[.string rom, .int .i64 kind, .int .i64 bank, .string ram, .int .i64 rb, .bool on, .int .i64 mode], .int .i64 addr, .int .i64 v] w fun e w' => e = .returned (.agg #[.string rom', .int .i64 kind', .int .i64 bank', .string ram', .int .i64 rb', .bool on', .int .i64 mode']) ∧ ∃ o1 o2 o3 o4 o5 o6, w' = ((((((w.alloc o1).alloc o2).alloc o3).alloc o4).alloc o5).alloc o6)) :
    Calls Try.prog 25 #[.agg #[.string rom, .int .i64 kind, .int .i64 bank, .string ram, .int .i64 rb, .bool on, .int .i64 mode], .int .i64 addr, .int .i64 v] w fun e w' => e = .returned (.tuple #[.agg #[.string rom', .int .i64 kind', .int .i64 bank', .string ram', .int .i64 rb', .bool on', .int .i64 mode'], .bool true]) ∧ Below w.heap.size w w' := by
  have c1 := fun w => implOk_yes rom kind bank ram rb on mode w hs hr h
  have c2 := fun w => isWord_any addr w
  rw [hw] at c2
  have c3 := fun w => isByte_any v w
  rw [hb] at c3
  clear hw h hb
  go_enter Try.func25, Try.ntmps25
  go_wp2_with first | (go_at_call 16; refine (c1 _).mono ?_; rintro e w' ⟨rfl, T, rfl⟩) | (go_at_call 50; refine (c2 _).mono ?_; rintro e w' ⟨rfl, rfl⟩) | (go_at_call 54; refine (c3 _).mono ?_; rintro e w' ⟨rfl, rfl⟩) | (go_at_call 55; refine (c4 _).mono ?_; rintro e w' ⟨rfl, p1, p2, p3, p4, p5, p6, rfl⟩)
  all_goals exact bodyPost_ret (v := .tuple #[.agg #[.string rom', .int .i64 kind', .int .i64 bank', .string ram', .int .i64 rb', .bool on', .int .i64 mode'], .bool true]) (by simp [results, Try.results25, go_sem]) rfl ⟨rfl, by repeat (first | exact Below.refl _ _ | refine CartL.grow ?_ _ | refine below_drewN ?_ _ | refine Below.drew ?_)⟩

set_option maxHeartbeats 1000000 in
theorem implYes_n8 (rom : ByteArray) (kind bank : Int) (ram : ByteArray) (rb : Int) (on : Bool) (mode : Int) (rom' : ByteArray) (kind' bank' : Int) (ram' : ByteArray) (rb' : Int) (on' : Bool) (mode' : Int) (addr v : Int) (w : World) (hs : rom.size ≤ maxLen) (hr : ram.size ≤ maxLen) (h : okB rom kind bank ram rb on mode = true) (hw : inB addr 0 65535 = true) (hb : inB v 0 255 = true)
    (c4 : ∀ w, Calls Try.prog 55 #[.agg #[.string rom, .int .i64 kind, .int .i64 bank, .string ram, .int .i64 rb, .bool on, .int .i64 mode], .int .i64 addr, .int .i64 v] w fun e w' => e = .returned (.agg #[.string rom', .int .i64 kind', .int .i64 bank', .string ram', .int .i64 rb', .bool on', .int .i64 mode']) ∧ ∃ o1 o2 o3 o4 o5 o6 o7 o8, w' = ((((((((w.alloc o1).alloc o2).alloc o3).alloc o4).alloc o5).alloc o6).alloc o7).alloc o8)) :
    Calls Try.prog 25 #[.agg #[.string rom, .int .i64 kind, .int .i64 bank, .string ram, .int .i64 rb, .bool on, .int .i64 mode], .int .i64 addr, .int .i64 v] w fun e w' => e = .returned (.tuple #[.agg #[.string rom', .int .i64 kind', .int .i64 bank', .string ram', .int .i64 rb', .bool on', .int .i64 mode'], .bool true]) ∧ Below w.heap.size w w' := by
  have c1 := fun w => implOk_yes rom kind bank ram rb on mode w hs hr h
  have c2 := fun w => isWord_any addr w
  rw [hw] at c2
  have c3 := fun w => isByte_any v w
  rw [hb] at c3
  clear hw h hb
  go_enter Try.func25, Try.ntmps25
  go_wp2_with first | (go_at_call 16; refine (c1 _).mono ?_; rintro e w' ⟨rfl, T, rfl⟩) | (go_at_call 50; refine (c2 _).mono ?_; rintro e w' ⟨rfl, rfl⟩) | (go_at_call 54; refine (c3 _).mono ?_; rintro e w' ⟨rfl, rfl⟩) | (go_at_call 55; refine (c4 _).mono ?_; rintro e w' ⟨rfl, p1, p2, p3, p4, p5, p6, p7, p8, rfl⟩)
  all_goals exact bodyPost_ret (v := .tuple #[.agg #[.string rom', .int .i64 kind', .int .i64 bank', .string ram', .int .i64 rb', .bool on', .int .i64 mode'], .bool true]) (by simp [results, Try.results25, go_sem]) rfl ⟨rfl, by repeat (first | exact Below.refl _ _ | refine CartL.grow ?_ _ | refine below_drewN ?_ _ | refine Below.drew ?_)⟩

set_option maxHeartbeats 1000000 in
theorem implYes_ram (rom : ByteArray) (kind bank : Int) (ram : ByteArray) (rb : Int) (on : Bool) (mode : Int) (rom' : ByteArray) (kind' bank' : Int) (ram' : ByteArray) (rb' : Int) (on' : Bool) (mode' : Int) (addr v : Int) (w : World) (hs : rom.size ≤ maxLen) (hr : ram.size ≤ maxLen) (h : okB rom kind bank ram rb on mode = true) (hw : inB addr 0 65535 = true) (hb : inB v 0 255 = true)
    (c4 : ∀ w, Calls Try.prog 55 #[.agg #[.string rom, .int .i64 kind, .int .i64 bank, .string ram, .int .i64 rb, .bool on, .int .i64 mode], .int .i64 addr, .int .i64 v] w fun e w' => e = .returned (.agg #[.string rom', .int .i64 kind', .int .i64 bank', .string ram', .int .i64 rb', .bool on', .int .i64 mode']) ∧ ∃ o1 o2 o3 o4 o5, w' = ((((w.alloc o1).alloc o2).alloc o3).alloc o4).drew.alloc o5) :
    Calls Try.prog 25 #[.agg #[.string rom, .int .i64 kind, .int .i64 bank, .string ram, .int .i64 rb, .bool on, .int .i64 mode], .int .i64 addr, .int .i64 v] w fun e w' => e = .returned (.tuple #[.agg #[.string rom', .int .i64 kind', .int .i64 bank', .string ram', .int .i64 rb', .bool on', .int .i64 mode'], .bool true]) ∧ Below w.heap.size w w' := by
  have c1 := fun w => implOk_yes rom kind bank ram rb on mode w hs hr h
  have c2 := fun w => isWord_any addr w
  rw [hw] at c2
  have c3 := fun w => isByte_any v w
  rw [hb] at c3
  clear hw h hb
  go_enter Try.func25, Try.ntmps25
  go_wp2_with first | (go_at_call 16; refine (c1 _).mono ?_; rintro e w' ⟨rfl, T, rfl⟩) | (go_at_call 50; refine (c2 _).mono ?_; rintro e w' ⟨rfl, rfl⟩) | (go_at_call 54; refine (c3 _).mono ?_; rintro e w' ⟨rfl, rfl⟩) | (go_at_call 55; refine (c4 _).mono ?_; rintro e w' ⟨rfl, p1, p2, p3, p4, p5, rfl⟩)
  all_goals exact bodyPost_ret (v := .tuple #[.agg #[.string rom', .int .i64 kind', .int .i64 bank', .string ram', .int .i64 rb', .bool on', .int .i64 mode'], .bool true]) (by simp [results, Try.results25, go_sem]) rfl ⟨rfl, by repeat (first | exact Below.refl _ _ | refine CartL.grow ?_ _ | refine below_drewN ?_ _ | refine Below.drew ?_)⟩

set_option maxHeartbeats 1000000 in
theorem specNo1 (rom : ByteArray) (kind bank : Int) (ram : ByteArray) (rb : Int) (on : Bool) (mode : Int) (addr v : Int) (w : World) (hs : rom.size ≤ maxLen) (hr : ram.size ≤ maxLen) (h : okB rom kind bank ram rb on mode = false) :
    Calls Try.prog 24 #[.agg #[.string rom, .int .i64 kind, .int .i64 bank, .string ram, .int .i64 rb, .bool on, .int .i64 mode], .int .i64 addr, .int .i64 v] w fun e w' => e = .returned (.tuple #[.agg #[.string ⟨#[]⟩, .int .i64 0, .int .i64 0, .string ⟨#[]⟩, .int .i64 0, .bool false, .int .i64 0], .bool false]) ∧ Below w.heap.size w w' := by
  have c1 := fun w => specOk_any rom kind bank ram rb on mode w hs hr
  rw [h] at c1
  go_enter Try.func24, Try.ntmps24
  go_wp2_with first | (go_at_call 14; refine (c1 _).mono ?_; rintro e w' ⟨rfl, rfl⟩)
  all_goals exact bodyPost_ret (v := .tuple #[.agg #[.string ⟨#[]⟩, .int .i64 0, .int .i64 0, .string ⟨#[]⟩, .int .i64 0, .bool false, .int .i64 0], .bool false]) (by simp [results, Try.results24, go_sem]) rfl ⟨rfl, by repeat (first | exact Below.refl _ _ | refine CartL.grow ?_ _ | refine below_drewN ?_ _ | refine Below.drew ?_)⟩

set_option maxHeartbeats 1000000 in
theorem specNo3 (rom : ByteArray) (kind bank : Int) (ram : ByteArray) (rb : Int) (on : Bool) (mode : Int) (addr v : Int) (w : World) (hs : rom.size ≤ maxLen) (hr : ram.size ≤ maxLen) (h : okB rom kind bank ram rb on mode = true) (hw : inB addr 0 65535 = false) :
    Calls Try.prog 24 #[.agg #[.string rom, .int .i64 kind, .int .i64 bank, .string ram, .int .i64 rb, .bool on, .int .i64 mode], .int .i64 addr, .int .i64 v] w fun e w' => e = .returned (.tuple #[.agg #[.string ⟨#[]⟩, .int .i64 0, .int .i64 0, .string ⟨#[]⟩, .int .i64 0, .bool false, .int .i64 0], .bool false]) ∧ Below w.heap.size w w' := by
  have c1 := fun w => specOk_any rom kind bank ram rb on mode w hs hr
  rw [h] at c1
  have c2 := fun w => l4Word_any addr w
  rw [hw] at c2
  clear hw h
  go_enter Try.func24, Try.ntmps24
  go_wp2_with first | (go_at_call 14; refine (c1 _).mono ?_; rintro e w' ⟨rfl, rfl⟩) | (go_at_call 48; refine (c2 _).mono ?_; rintro e w' ⟨rfl, rfl⟩)
  all_goals exact bodyPost_ret (v := .tuple #[.agg #[.string ⟨#[]⟩, .int .i64 0, .int .i64 0, .string ⟨#[]⟩, .int .i64 0, .bool false, .int .i64 0], .bool false]) (by simp [results, Try.results24, go_sem]) rfl ⟨rfl, by repeat (first | exact Below.refl _ _ | refine CartL.grow ?_ _ | refine below_drewN ?_ _ | refine Below.drew ?_)⟩

set_option maxHeartbeats 1000000 in
theorem specNo4 (rom : ByteArray) (kind bank : Int) (ram : ByteArray) (rb : Int) (on : Bool) (mode : Int) (addr v : Int) (w : World) (hs : rom.size ≤ maxLen) (hr : ram.size ≤ maxLen) (h : okB rom kind bank ram rb on mode = true) (hw : inB addr 0 65535 = true) (hb : inB v 0 255 = false) :
    Calls Try.prog 24 #[.agg #[.string rom, .int .i64 kind, .int .i64 bank, .string ram, .int .i64 rb, .bool on, .int .i64 mode], .int .i64 addr, .int .i64 v] w fun e w' => e = .returned (.tuple #[.agg #[.string ⟨#[]⟩, .int .i64 0, .int .i64 0, .string ⟨#[]⟩, .int .i64 0, .bool false, .int .i64 0], .bool false]) ∧ Below w.heap.size w w' := by
  have c1 := fun w => specOk_any rom kind bank ram rb on mode w hs hr
  rw [h] at c1
  have c2 := fun w => l4Word_any addr w
  rw [hw] at c2
  have c3 := fun w => l4Byte_any v w
  rw [hb] at c3
  clear hw h hb
  go_enter Try.func24, Try.ntmps24
  go_wp2_with first | (go_at_call 14; refine (c1 _).mono ?_; rintro e w' ⟨rfl, rfl⟩) | (go_at_call 48; refine (c2 _).mono ?_; rintro e w' ⟨rfl, rfl⟩) | (go_at_call 52; refine (c3 _).mono ?_; rintro e w' ⟨rfl, rfl⟩)
  all_goals exact bodyPost_ret (v := .tuple #[.agg #[.string ⟨#[]⟩, .int .i64 0, .int .i64 0, .string ⟨#[]⟩, .int .i64 0, .bool false, .int .i64 0], .bool false]) (by simp [results, Try.results24, go_sem]) rfl ⟨rfl, by repeat (first | exact Below.refl _ _ | refine CartL.grow ?_ _ | refine below_drewN ?_ _ | refine Below.drew ?_)⟩

set_option maxHeartbeats 1000000 in
theorem specYes_n2 (rom : ByteArray) (kind bank : Int) (ram : ByteArray) (rb : Int) (on : Bool) (mode : Int) (rom' : ByteArray) (kind' bank' : Int) (ram' : ByteArray) (rb' : Int) (on' : Bool) (mode' : Int) (addr v : Int) (w : World) (hs : rom.size ≤ maxLen) (hr : ram.size ≤ maxLen) (h : okB rom kind bank ram rb on mode = true) (hw : inB addr 0 65535 = true) (hb : inB v 0 255 = true)
    (c4 : ∀ w, Calls Try.prog 53 #[.agg #[.string rom, .int .i64 kind, .int .i64 bank, .string ram, .int .i64 rb, .bool on, .int .i64 mode], .int .i64 addr, .int .i64 v] w fun e w' => e = .returned (.agg #[.string rom', .int .i64 kind', .int .i64 bank', .string ram', .int .i64 rb', .bool on', .int .i64 mode']) ∧ ∃ o1 o2, w' = ((w.alloc o1).alloc o2)) :
    Calls Try.prog 24 #[.agg #[.string rom, .int .i64 kind, .int .i64 bank, .string ram, .int .i64 rb, .bool on, .int .i64 mode], .int .i64 addr, .int .i64 v] w fun e w' => e = .returned (.tuple #[.agg #[.string rom', .int .i64 kind', .int .i64 bank', .string ram', .int .i64 rb', .bool on', .int .i64 mode'], .bool true]) ∧ Below w.heap.size w w' := by
  have c1 := fun w => specOk_any rom kind bank ram rb on mode w hs hr
  rw [h] at c1
  have c2 := fun w => l4Word_any addr w
  rw [hw] at c2
  have c3 := fun w => l4Byte_any v w
  rw [hb] at c3
  clear hw h hb
  go_enter Try.func24, Try.ntmps24
  go_wp2_with first | (go_at_call 14; refine (c1 _).mono ?_; rintro e w' ⟨rfl, rfl⟩) | (go_at_call 48; refine (c2 _).mono ?_; rintro e w' ⟨rfl, rfl⟩) | (go_at_call 52; refine (c3 _).mono ?_; rintro e w' ⟨rfl, rfl⟩) | (go_at_call 53; refine (c4 _).mono ?_; rintro e w' ⟨rfl, p1, p2, rfl⟩)
  all_goals exact bodyPost_ret (v := .tuple #[.agg #[.string rom', .int .i64 kind', .int .i64 bank', .string ram', .int .i64 rb', .bool on', .int .i64 mode'], .bool true]) (by simp [results, Try.results24, go_sem]) rfl ⟨rfl, by repeat (first | exact Below.refl _ _ | refine CartL.grow ?_ _ | refine below_drewN ?_ _ | refine Below.drew ?_)⟩

set_option maxHeartbeats 1000000 in
theorem specYes_ram (rom : ByteArray) (kind bank : Int) (ram : ByteArray) (rb : Int) (on : Bool) (mode : Int) (rom' : ByteArray) (kind' bank' : Int) (ram' : ByteArray) (rb' : Int) (on' : Bool) (mode' : Int) (addr v : Int) (w : World) (hs : rom.size ≤ maxLen) (hr : ram.size ≤ maxLen) (h : okB rom kind bank ram rb on mode = true) (hw : inB addr 0 65535 = true) (hb : inB v 0 255 = true)
    (c4 : ∀ w, Calls Try.prog 53 #[.agg #[.string rom, .int .i64 kind, .int .i64 bank, .string ram, .int .i64 rb, .bool on, .int .i64 mode], .int .i64 addr, .int .i64 v] w fun e w' => e = .returned (.agg #[.string rom', .int .i64 kind', .int .i64 bank', .string ram', .int .i64 rb', .bool on', .int .i64 mode']) ∧ ∃ o1 o2 o3 o4, w' = ((((w.alloc o1).alloc o2).alloc o3).alloc o4).drew.drew) :
    Calls Try.prog 24 #[.agg #[.string rom, .int .i64 kind, .int .i64 bank, .string ram, .int .i64 rb, .bool on, .int .i64 mode], .int .i64 addr, .int .i64 v] w fun e w' => e = .returned (.tuple #[.agg #[.string rom', .int .i64 kind', .int .i64 bank', .string ram', .int .i64 rb', .bool on', .int .i64 mode'], .bool true]) ∧ Below w.heap.size w w' := by
  have c1 := fun w => specOk_any rom kind bank ram rb on mode w hs hr
  rw [h] at c1
  have c2 := fun w => l4Word_any addr w
  rw [hw] at c2
  have c3 := fun w => l4Byte_any v w
  rw [hb] at c3
  clear hw h hb
  go_enter Try.func24, Try.ntmps24
  go_wp2_with first | (go_at_call 14; refine (c1 _).mono ?_; rintro e w' ⟨rfl, rfl⟩) | (go_at_call 48; refine (c2 _).mono ?_; rintro e w' ⟨rfl, rfl⟩) | (go_at_call 52; refine (c3 _).mono ?_; rintro e w' ⟨rfl, rfl⟩) | (go_at_call 53; refine (c4 _).mono ?_; rintro e w' ⟨rfl, p1, p2, p3, p4, rfl⟩)
  all_goals exact bodyPost_ret (v := .tuple #[.agg #[.string rom', .int .i64 kind', .int .i64 bank', .string ram', .int .i64 rb', .bool on', .int .i64 mode'], .bool true]) (by simp [results, Try.results24, go_sem]) rfl ⟨rfl, by repeat (first | exact Below.refl _ _ | refine CartL.grow ?_ _ | refine below_drewN ?_ _ | refine Below.drew ?_)⟩

end Go.Proofs.Ytjipfhioobebiaa.CartX
