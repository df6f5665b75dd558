/-
  Contracts of ours for both BusRead, at every argument.
-/
import Derived.Test.YtkfehdkjeodbmaaGreatDoorMachK
import Derived.Deep.WholeRow
namespace Go.Proofs.YtkfehdkjeodbmaaGreatDoor.MachB
set_option maxRecDepth 20000
open Go.ChangeShapes Go.WideShapes Go.ChangeAt Go.RowKit Go.Deep
set_option linter.unusedVariables false
open Signed (inB ret_int ret_bool isByte_any l1In_any)
open Carts CartK CartL CartM CartN CartR CartS CartX Outs Mach MachT MachO MachK

theorem inWork_any (n : Int) (w : World) :
    Calls Tryz.prog 112 #[.int .i64 n] w fun e w' => e = .returned (.bool (inB n 49152 49407)) ∧ w' = w := by
  go_enter Tryz.func112, Tryz.ntmps112
  go_wp2
  all_goals go_ret
  all_goals exact ⟨ret_bool (by rw [Bool.eq_iff_iff]; simp [inB]; try omega), rfl⟩
theorem inHigh_any (n : Int) (w : World) :
    Calls Tryz.prog 113 #[.int .i64 n] w fun e w' => e = .returned (.bool (inB n 65408 65534)) ∧ w' = w := by
  go_enter Tryz.func113, Tryz.ntmps113
  go_wp2
  all_goals go_ret
  all_goals exact ⟨ret_bool (by rw [Bool.eq_iff_iff]; simp [inB]; try omega), rfl⟩
/-- What is read on the bus of a right machine. -/
def busV (rom : ByteArray) (kind bank : Int) (ram : ByteArray) (rb : Int) (on : Bool) (mode : Int) (work high : ByteArray) (addr : Int) : Int :=
  if inB addr 49152 49407 = true then byteAt work (addr - 49152) else if inB addr 65408 65534 = true then byteAt high (addr - 65408) else rdV rom (bank % banks rom.size) ram (ramQ kind rb mode) on addr
set_option maxHeartbeats 1000000 in
theorem readBus_any (ra rf rB rC rD rE rH rL sp pc : Int) (ime hal : Bool) (rom : ByteArray) (kind bank : Int) (ram : ByteArray) (rb : Int) (on : Bool) (mode : Int) (work high : ByteArray) (po : Option Addr) (L : List Int) (cap : Nat) (cyc : Int) (B : Nat) (addr : Int) (w : World) (kB : w.heap[B]? = some (.cells #[.int .i64 ra, .int .i64 rf, .int .i64 rB, .int .i64 rC, .int .i64 rD, .int .i64 rE, .int .i64 rH, .int .i64 rL, .int .i64 sp, .int .i64 pc, .bool ime, .bool hal, .string rom, .int .i64 kind, .int .i64 bank, .string ram, .int .i64 rb, .bool on, .int .i64 mode, .string work, .string high, .slice po L.length cap, .int .i64 cyc] 33)) (h : okB rom kind bank ram rb on mode = true) (hw : work.size = 256) (hh : high.size = 127) (a0 : 0 ≤ addr) :
    Calls Tryz.prog 95 #[.pointer (some ⟨B, 0, none⟩), .int .i64 addr] w fun e w' => e = .returned (.int .i64 (busV rom kind bank ram rb on mode work high addr)) ∧ Below w.heap.size w w' := by
  have m19 := cel kB 19 _ rfl
  have m20 := cel kB 20 _ rfl
  have m12 := cel kB 12 _ rfl
  have m13 := cel kB 13 _ rfl
  have m14 := cel kB 14 _ rfl
  have m15 := cel kB 15 _ rfl
  have m16 := cel kB 16 _ rfl
  have m17 := cel kB 17 _ rfl
  have m18 := cel kB 18 _ rfl
  have c1 := fun w => inWork_any addr w
  have c2 := fun w => inHigh_any addr w
  have c3 := fun w => implRead_right rom kind bank ram rb on mode addr w h a0
  unfold busV
  clear kB
  cases h1 : inB addr 49152 49407 with
  | true =>
    obtain ⟨q0, q1⟩ := of_decide_eq_true h1
    have hi : (addr - 49152).toNat < work.size := by omega
    have hb := byteAt_wrap hi
    have i0 : 0 ≤ addr - 49152 := by omega
    have i1 : addr - 49152 < (work.size : Int) := by omega
    rw [h1] at c1
    rw [if_pos rfl]
    clear h1 hw hh c3 h
    go_enter Tryz.func95, Tryz.ntmps95
    go_wp2_with (go_at_call 112; refine (c1 _).mono ?_; rintro e w' ⟨rfl, rfl⟩)
    go_ret
    exact ⟨ret_int hb, Below.refl _ _⟩
  | false =>
    rw [h1] at c1
    rw [if_neg (by decide)]
    cases h2 : inB addr 65408 65534 with
    | true =>
      obtain ⟨q0, q1⟩ := of_decide_eq_true h2
      have hi : (addr - 65408).toNat < high.size := by omega
      have hb := byteAt_wrap hi
      have i0 : 0 ≤ addr - 65408 := by omega
      have i1 : addr - 65408 < (high.size : Int) := by omega
      rw [h2] at c2
      rw [if_pos rfl]
      clear h1 h2 hw hh c3 h
      go_enter Tryz.func95, Tryz.ntmps95
      go_wp2_with first | (go_at_call 112; refine (c1 _).mono ?_; rintro e w' ⟨rfl, rfl⟩) | (go_at_call 113; refine (c2 _).mono ?_; rintro e w' ⟨rfl, rfl⟩)
      go_ret
      exact ⟨ret_int hb, Below.refl _ _⟩
    | false =>
      rw [h2] at c2
      rw [if_neg (by decide)]
      obtain ⟨v, hv⟩ : ∃ v, v = rdV rom (bank % banks rom.size) ram (ramQ kind rb mode) on addr := ⟨_, rfl⟩
      rw [← hv] at c3 ⊢
      clear h1 h2 hw hh h hv
      go_enter Tryz.func95, Tryz.ntmps95
      go_wp2_with first | (go_at_call 112; refine (c1 _).mono ?_; rintro e w' ⟨rfl, rfl⟩) | (go_at_call 113; refine (c2 _).mono ?_; rintro e w' ⟨rfl, rfl⟩) | (go_at_call 114; refine (c3 _).mono ?_; rintro e w' ⟨rfl, hb⟩)
      go_ret
      exact ⟨rfl, by assumption⟩
set_option maxHeartbeats 1000000 in
theorem l6Read_any (ra rf rB rC rD rE rH rL sp pc : Int) (ime hal : Bool) (rom : ByteArray) (kind bank : Int) (ram : ByteArray) (rb : Int) (on : Bool) (mode : Int) (work high : ByteArray) (po : Option Addr) (L : List Int) (cap : Nat) (cyc : Int) (addr : Int) (w : World) (z1 : rom.size ≤ maxLen) (h : okB rom kind bank ram rb on mode = true) (hw : work.size = 256) (hh : high.size = 127) (a0 : 0 ≤ addr) :
    Calls Tryz.prog 70 #[.agg #[.int .i64 ra, .int .i64 rf, .int .i64 rB, .int .i64 rC, .int .i64 rD, .int .i64 rE, .int .i64 rH, .int .i64 rL, .int .i64 sp, .int .i64 pc, .bool ime, .bool hal, .string rom, .int .i64 kind, .int .i64 bank, .string ram, .int .i64 rb, .bool on, .int .i64 mode, .string work, .string high, .slice po L.length cap, .int .i64 cyc], .int .i64 addr] w fun e w' => e = .returned (.int .i64 (busV rom kind bank ram rb on mode work high addr)) ∧ Below w.heap.size w w' := by
  have c3 := fun w => specRead_right rom kind bank ram rb on mode addr w z1 h a0
  unfold busV
  cases h1 : inB addr 49152 49407 with
  | true =>
    obtain ⟨q0, q1⟩ := of_decide_eq_true h1
    have hi : (addr - 49152).toNat < work.size := by omega
    have hb := byteAt_wrap hi
    have i0 : 0 ≤ addr - 49152 := by omega
    have i1 : addr - 49152 < (work.size : Int) := by omega
    rw [if_pos rfl]
    clear hw hh c3 h
    go_enter Tryz.func70, Tryz.ntmps70
    go_wp2_with (go_at_call 36; refine (l1In_any _ _ _ _).mono ?_; rintro e w' ⟨rfl, rfl⟩)
    go_ret
    exact ⟨ret_int hb, by repeat (with_reducible first | exact Below.refl _ _ | refine CartL.grow ?_ _ | refine below_drewN ?_ _ | refine Below.drew ?_)⟩
  | false =>
    rw [if_neg (by decide)]
    cases h2 : inB addr 65408 65534 with
    | true =>
      obtain ⟨q0, q1⟩ := of_decide_eq_true h2
      have hi : (addr - 65408).toNat < high.size := by omega
      have hb := byteAt_wrap hi
      have i0 : 0 ≤ addr - 65408 := by omega
      have i1 : addr - 65408 < (high.size : Int) := by omega
      rw [if_pos rfl]
      clear hw hh c3 h
      go_enter Tryz.func70, Tryz.ntmps70
      go_wp2_with (go_at_call 36; refine (l1In_any _ _ _ _).mono ?_; rintro e w' ⟨rfl, rfl⟩)
      go_ret
      exact ⟨ret_int hb, by repeat (with_reducible first | exact Below.refl _ _ | refine CartL.grow ?_ _ | refine below_drewN ?_ _ | refine Below.drew ?_)⟩
    | false =>
      rw [if_neg (by decide)]
      obtain ⟨v, hv⟩ : ∃ v, v = rdV rom (bank % banks rom.size) ram (ramQ kind rb mode) on addr := ⟨_, rfl⟩
      rw [← hv] at c3 ⊢
      clear hw hh h hv
      go_enter Tryz.func70, Tryz.ntmps70
      go_wp2_with first | (go_at_call 36; refine (l1In_any _ _ _ _).mono ?_; rintro e w' ⟨rfl, rfl⟩) | (go_at_call 107; refine (c3 _).mono ?_; rintro e w' ⟨rfl, hb⟩)
      go_ret
      exact ⟨rfl, after (by repeat (with_reducible first | exact Below.refl _ _ | refine CartL.grow ?_ _ | refine below_drewN ?_ _ | refine Below.drew ?_)) hb⟩

theorem okM_parts {ra rf rB rC rD rE rH rL sp pc : Int} {cart : Bool} {work high : Nat} {L : List Int} {cyc : Int} (h : okM ra rf rB rC rD rE rH rL sp pc cart work high L cyc = true) : cart = true ∧ work = 256 ∧ high = 127 := by
  unfold okM at h
  simp only [Bool.and_eq_true, beq_iff_eq] at h
  exact ⟨h.1.1.1.1.1.1.2, h.1.1.1.1.1.2, h.1.1.1.1.2⟩
def readM (ra rf rB rC rD rE rH rL sp pc : Int) (ime hal : Bool) (rom : ByteArray) (kind bank : Int) (ram : ByteArray) (rb : Int) (on : Bool) (mode : Int) (work high : ByteArray) (po : Option Addr) (L : List Int) (cap : Nat) (cyc : Int) (addr : Int) : Int := if okM ra rf rB rC rD rE rH rL sp pc (okB rom kind bank ram rb on mode) work.size high.size L cyc = true ∧ inB addr 0 65535 = true then busV rom kind bank ram rb on mode work high addr else -1
theorem hi47 : (Tryz.prog.info? 33).map (·.size) = some 23 := by kernel_rfl
end Go.Proofs.YtkfehdkjeodbmaaGreatDoor.MachB
