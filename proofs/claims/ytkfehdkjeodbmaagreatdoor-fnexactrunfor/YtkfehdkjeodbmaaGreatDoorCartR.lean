/-
  Contracts of ours for what is read of a cart, both sides.
-/
import Derived.Test.YtkfehdkjeodbmaaGreatDoorCartM
namespace Go.Proofs.YtkfehdkjeodbmaaGreatDoor.CartR
set_option maxRecDepth 20000
open Go.ChangeShapes Go.WideShapes Go.ChangeAt Go.RowKit Go.Deep
set_option linter.unusedVariables false
open Signed (inB ret_int ret_bool isByte_any l1In_any)
open Carts CartK CartL CartM

def byteAt (s : ByteArray) (i : Int) : Int := if h : i.toNat < s.size then ((s[i.toNat]'h).toNat : Int) else 0
theorem byteAt_eq {s : ByteArray} {i : Int} (h : i.toNat < s.size) : ((s[i.toNat]'h).toNat : Int) = byteAt s i := by unfold byteAt; rw [dif_pos h]
theorem byteAt_bd (s : ByteArray) (i : Int) : 0 ≤ byteAt s i ∧ byteAt s i ≤ 255 := by
  unfold byteAt
  split
  · rename_i h
    have := (s[i.toNat]'h).toNat_lt
    omega
  · omega
theorem byteAt_wrap {s : ByteArray} {i : Int} (h : i.toNat < s.size) : wrap64 ((s[i.toNat]'h).toNat : Int) = byteAt s i := by
  rw [byteAt_eq h]
  have := byteAt_bd s i
  unfold wrap64
  omega
theorem byteAt_wrapk {s : ByteArray} {i : Int} (h : i.toNat < s.size) : IntKind.i64.wrap ((s[i.toNat]'h).toNat : Int) = byteAt s i := by
  rw [byteAt_eq h]
  have := byteAt_bd s i
  rw [IntKind.wrap_i64]
  omega
/-- The bank of ram that is seen. -/
def ramQ (kind rb mode : Int) : Int := if kind = 1 ∧ mode = 0 then 0 else rb
theorem ramQ_bd {kind rb mode : Int} (h0 : 0 ≤ rb) (h1 : rb ≤ 3) : 0 ≤ ramQ kind rb mode ∧ ramQ kind rb mode ≤ 3 := by unfold ramQ; split <;> omega
theorem l4Word_any (n : Int) (w : World) :
    Calls Tryz.prog 45 #[.int .i64 n] w fun e w' => e = .returned (.bool (inB n 0 65535)) ∧ w' = w := by
  go_enter Tryz.func45, Tryz.ntmps45
  go_wp2_with (go_at_call 36; refine (l1In_any _ _ _ _).mono ?_; rintro e w' ⟨rfl, rfl⟩)
  go_ret
  exact ⟨rfl, rfl⟩
theorem isWord_any (n : Int) (w : World) :
    Calls Tryz.prog 91 #[.int .i64 n] w fun e w' => e = .returned (.bool (inB n 0 65535)) ∧ w' = w := by
  go_enter Tryz.func91, Tryz.ntmps91
  go_wp2
  all_goals go_ret
  all_goals exact ⟨ret_bool (by rw [Bool.eq_iff_iff]; simp [inB]; try omega), rfl⟩

theorem as01 (w : World) : (Instr.typeAssert (.iface 141 (.agg #[])) 125 142 true).run Tryz.prog w = .ok (.tuple #[.agg #[], .bool false]) w := by kernel_rfl
theorem as02 (w : World) : (Instr.typeAssert (.iface 141 (.agg #[])) 125 143 true).run Tryz.prog w = .ok (.tuple #[.agg #[], .bool false]) w := by kernel_rfl
theorem as11 (w : World) : (Instr.typeAssert (.iface 142 (.agg #[])) 125 142 true).run Tryz.prog w = .ok (.tuple #[.agg #[], .bool true]) w := by kernel_rfl
theorem as12 (w : World) : (Instr.typeAssert (.iface 142 (.agg #[])) 125 143 true).run Tryz.prog w = .ok (.tuple #[.agg #[], .bool false]) w := by kernel_rfl
theorem as21 (w : World) : (Instr.typeAssert (.iface 143 (.agg #[])) 125 142 true).run Tryz.prog w = .ok (.tuple #[.agg #[], .bool false]) w := by kernel_rfl
theorem as22 (w : World) : (Instr.typeAssert (.iface 143 (.agg #[])) 125 143 true).run Tryz.prog w = .ok (.tuple #[.agg #[], .bool true]) w := by kernel_rfl
theorem seen_1 (rom : ByteArray) (bank : Int) (ram : ByteArray) (rb : Int) (on : Bool) (mode : Int) (w : World) (h0 : 0 ≤ rb) (h1 : rb ≤ 3) (m0 : 0 ≤ mode) (m1 : mode ≤ 1) :
    Calls Tryz.prog 197 #[.agg #[.string rom, .int .i64 1, .int .i64 bank, .string ram, .int .i64 rb, .bool on, .int .i64 mode]] w fun e w' => e = .returned (.int .i64 (ramQ 1 rb mode)) ∧ w' = w.alloc (.cells #[.string rom, .int .i64 1, .int .i64 bank, .string ram, .int .i64 rb, .bool on, .int .i64 mode] 31) := by
  have hm : mode = 0 ∨ mode = 1 := by omega
  have a1 := as11
  have a2 := as12
  rcases hm with rfl | rfl
  all_goals
    go_enter Tryz.func197, Tryz.ntmps197
    go_wp2_with (go_at_call 92; refine (mapperOf_1 _).mono ?_; rintro e w' ⟨rfl, rfl⟩)
    go_ret
    exact ⟨ret_int (by simp [ramQ]), rfl⟩

theorem seen_2 (rom : ByteArray) (bank : Int) (ram : ByteArray) (rb : Int) (on : Bool) (mode : Int) (w : World) :
    Calls Tryz.prog 197 #[.agg #[.string rom, .int .i64 2, .int .i64 bank, .string ram, .int .i64 rb, .bool on, .int .i64 mode]] w fun e w' => e = .returned (.int .i64 (ramQ 2 rb mode)) ∧ w' = w.alloc (.cells #[.string rom, .int .i64 2, .int .i64 bank, .string ram, .int .i64 rb, .bool on, .int .i64 mode] 31) := by
  have a1 := as21
  have a2 := as22
  go_enter Tryz.func197, Tryz.ntmps197
  go_wp2_with (go_at_call 92; refine (mapperOf_2 _).mono ?_; rintro e w' ⟨rfl, rfl⟩)
  go_ret
  exact ⟨ret_int (by simp [ramQ]), rfl⟩

theorem seen_any (rom : ByteArray) (kind bank : Int) (ram : ByteArray) (rb : Int) (on : Bool) (mode : Int) (w : World) (h0 : 0 ≤ rb) (h1 : rb ≤ 3) (m0 : 0 ≤ mode) (m1 : mode ≤ 1) (hk : kind = 1 ∨ kind = 2) :
    Calls Tryz.prog 197 #[.agg #[.string rom, .int .i64 kind, .int .i64 bank, .string ram, .int .i64 rb, .bool on, .int .i64 mode]] w fun e w' => e = .returned (.int .i64 (ramQ kind rb mode)) ∧ w' = w.alloc (.cells #[.string rom, .int .i64 kind, .int .i64 bank, .string ram, .int .i64 rb, .bool on, .int .i64 mode] 31) := by
  rcases hk with rfl | rfl
  · exact seen_1 rom bank ram rb on mode w h0 h1 m0 m1
  · exact seen_2 rom bank ram rb on mode w
theorem l5RamBank_any (rom : ByteArray) (kind bank : Int) (ram : ByteArray) (rb : Int) (on : Bool) (mode : Int) (w : World) :
    Calls Tryz.prog 173 #[.agg #[.string rom, .int .i64 kind, .int .i64 bank, .string ram, .int .i64 rb, .bool on, .int .i64 mode]] w fun e w' => e = .returned (.int .i64 (ramQ kind rb mode)) ∧ w' = w.alloc (.cells #[.string rom, .int .i64 kind, .int .i64 bank, .string ram, .int .i64 rb, .bool on, .int .i64 mode] 31) := by
  go_enter Tryz.func173, Tryz.ntmps173
  go_wp2
  all_goals go_ret
  all_goals exact ⟨ret_int (by simp_all [ramQ]), by first | rfl | simp_all⟩
theorem place_no (rom : ByteArray) (kind bank : Int) (ram : ByteArray) (rb : Int) (on : Bool) (mode : Int) (addr : Int) (w : World) (h : on = false ∨ addr < 40960 ∨ 41024 ≤ addr) :
    Calls Tryz.prog 178 #[.agg #[.string rom, .int .i64 kind, .int .i64 bank, .string ram, .int .i64 rb, .bool on, .int .i64 mode], .int .i64 addr] w fun e w' => e = .returned (.int .i64 (-1)) ∧ w' = w.alloc (.cells #[.string rom, .int .i64 kind, .int .i64 bank, .string ram, .int .i64 rb, .bool on, .int .i64 mode] 31) := by
  cases on with
  | false =>
    go_enter Tryz.func178, Tryz.ntmps178
    go_wp2
    go_ret
    exact ⟨rfl, rfl⟩
  | true =>
    have h' : addr < 40960 ∨ 41024 ≤ addr := by simpa using h
    rcases h' with h' | h'
    · go_enter Tryz.func178, Tryz.ntmps178
      go_wp2
      go_ret
      exact ⟨rfl, rfl⟩
    · have d : ¬ addr < 40960 := by omega
      have d2 : decide (addr < 40960) = false := decide_eq_false d
      go_enter Tryz.func178, Tryz.ntmps178
      go_wp2
      go_ret
      exact ⟨rfl, rfl⟩
theorem place_yes (rom : ByteArray) (kind bank : Int) (ram : ByteArray) (rb : Int) (mode : Int) (addr : Int) (w : World) (h0 : 0 ≤ rb) (h1 : rb ≤ 3) (m0 : 0 ≤ mode) (m1 : mode ≤ 1) (hk : kind = 1 ∨ kind = 2) (a0 : 40960 ≤ addr) (a1 : addr < 41024) (r : Int) (hr : ramQ kind rb mode = r) :
    Calls Tryz.prog 178 #[.agg #[.string rom, .int .i64 kind, .int .i64 bank, .string ram, .int .i64 rb, .bool true, .int .i64 mode], .int .i64 addr] w fun e w' => e = .returned (.int .i64 (r * 64 + addr - 40960)) ∧ w' = (w.alloc (.cells #[.string rom, .int .i64 kind, .int .i64 bank, .string ram, .int .i64 rb, .bool true, .int .i64 mode] 31)).alloc (.cells #[.string rom, .int .i64 kind, .int .i64 bank, .string ram, .int .i64 rb, .bool true, .int .i64 mode] 31) := by
  have c := fun w => seen_any rom kind bank ram rb true mode w h0 h1 m0 m1 hk
  obtain ⟨r0, r1⟩ := ramQ_bd (kind := kind) (mode := mode) h0 h1
  rw [hr] at c r0 r1
  have d2 : decide (addr < 40960) = false := decide_eq_false (by omega)
  have d3 : decide (41024 ≤ addr) = false := decide_eq_false (by omega)
  clear hr hk h0 h1 m0 m1
  go_enter Tryz.func178, Tryz.ntmps178
  go_wp2_with (go_at_call 197; refine (c _).mono ?_; rintro e w' ⟨rfl, rfl⟩)
  go_ret
  exact ⟨rfl, rfl⟩

def rdV (rom : ByteArray) (q : Int) (ram : ByteArray) (r : Int) (on : Bool) (addr : Int) : Int :=
  if addr < 256 then byteAt rom addr else if addr < 512 then byteAt rom (q * 256 + addr - 256) else if on = true ∧ 40960 ≤ addr ∧ addr < 41024 then byteAt ram (r * 64 + addr - 40960) else 255
theorem rdV_bd (rom : ByteArray) (q : Int) (ram : ByteArray) (r : Int) (on : Bool) (addr : Int) : 0 ≤ rdV rom q ram r on addr ∧ rdV rom q ram r on addr ≤ 255 := by
  unfold rdV
  split; exact byteAt_bd _ _
  split; exact byteAt_bd _ _
  split; exact byteAt_bd _ _
  omega
theorem read1 (rom : ByteArray) (kind bank : Int) (ram : ByteArray) (rb : Int) (on : Bool) (mode : Int) (addr : Int) (w : World) (s0 : 512 ≤ rom.size) (a0 : 0 ≤ addr) (a1 : addr < 256) :
    Calls Tryz.prog 114 #[.agg #[.string rom, .int .i64 kind, .int .i64 bank, .string ram, .int .i64 rb, .bool on, .int .i64 mode], .int .i64 addr] w fun e w' => e = .returned (.int .i64 (byteAt rom addr)) ∧ Below w.heap.size w w' := by
  have h : addr.toNat < rom.size := by omega
  have hb := byteAt_wrap h
  go_enter Tryz.func114, Tryz.ntmps114
  go_wp2
  go_ret
  exact ⟨ret_int hb, by repeat (with_reducible first | exact Below.refl _ _ | refine CartL.grow ?_ _ | refine below_drewN ?_ _ | refine Below.drew ?_)⟩
set_option maxHeartbeats 1000000 in
theorem read2 (rom : ByteArray) (kind bank : Int) (ram : ByteArray) (rb : Int) (on : Bool) (mode : Int) (addr q : Int) (w : World) (s1 : rom.size ≤ 4096) (q0 : 0 ≤ q) (q1 : q ≤ 15) (q2 : q * 256 + 256 ≤ rom.size) (a0 : 256 ≤ addr) (a1 : addr < 512)
    (c2 : ∀ w, Calls Tryz.prog 68 #[.agg #[.string rom, .int .i64 kind, .int .i64 bank, .string ram, .int .i64 rb, .bool on, .int .i64 mode]] w fun e w' => e = .returned (.int .i64 q) ∧ w' = w.alloc (.cells #[.string rom, .int .i64 kind, .int .i64 bank, .string ram, .int .i64 rb, .bool on, .int .i64 mode] 31)) :
    Calls Tryz.prog 114 #[.agg #[.string rom, .int .i64 kind, .int .i64 bank, .string ram, .int .i64 rb, .bool on, .int .i64 mode], .int .i64 addr] w fun e w' => e = .returned (.int .i64 (byteAt rom (q * 256 + addr - 256))) ∧ Below w.heap.size w w' := by
  have i0 : 0 ≤ q * 256 + addr - 256 := by omega
  have i1 : q * 256 + addr - 256 < (rom.size : Int) := by omega
  have h : (q * 256 + addr - 256).toNat < rom.size := by omega
  have hb := byteAt_wrap h
  have e1 : IntKind.i64.wrap (q * 256) = q * 256 := by rw [IntKind.wrap_i64]; omega
  have e2 : IntKind.i64.wrap (q * 256 + addr) = q * 256 + addr := by rw [IntKind.wrap_i64]; omega
  have e3 : IntKind.i64.wrap (q * 256 + addr - 256) = q * 256 + addr - 256 := by rw [IntKind.wrap_i64]; omega
  go_enter Tryz.func114, Tryz.ntmps114
  go_wp2
  go_region_with (go_at_call 68; refine (c2 _).mono ?_; rintro e w' ⟨rfl, rfl⟩)
  all_goals go_wp2
  all_goals go_ret
  all_goals exact ⟨ret_int (byteAt_wrapk h), by repeat (with_reducible first | exact Below.refl _ _ | refine CartL.grow ?_ _ | refine below_drewN ?_ _ | refine Below.drew ?_)⟩
theorem read4 (rom : ByteArray) (kind bank : Int) (ram : ByteArray) (rb : Int) (on : Bool) (mode : Int) (addr : Int) (w : World) (a0 : 512 ≤ addr) (h : on = false ∨ addr < 40960 ∨ 41024 ≤ addr) :
    Calls Tryz.prog 114 #[.agg #[.string rom, .int .i64 kind, .int .i64 bank, .string ram, .int .i64 rb, .bool on, .int .i64 mode], .int .i64 addr] w fun e w' => e = .returned (.int .i64 255) ∧ Below w.heap.size w w' := by
  have c := fun w => place_no rom kind bank ram rb on mode addr w h
  clear h
  go_enter Tryz.func114, Tryz.ntmps114
  go_wp2_with (go_at_call 178; refine (c _).mono ?_; rintro e w' ⟨rfl, rfl⟩)
  go_ret
  exact ⟨rfl, by repeat (with_reducible first | exact Below.refl _ _ | refine CartL.grow ?_ _ | refine below_drewN ?_ _ | refine Below.drew ?_)⟩
theorem read3 (rom : ByteArray) (kind bank : Int) (ram : ByteArray) (rb : Int) (mode : Int) (addr r : Int) (w : World) (sr : ram.size = 256) (h0 : 0 ≤ rb) (h1 : rb ≤ 3) (m0 : 0 ≤ mode) (m1 : mode ≤ 1) (hk : kind = 1 ∨ kind = 2) (a0 : 40960 ≤ addr) (a1 : addr < 41024) (hr : ramQ kind rb mode = r) :
    Calls Tryz.prog 114 #[.agg #[.string rom, .int .i64 kind, .int .i64 bank, .string ram, .int .i64 rb, .bool true, .int .i64 mode], .int .i64 addr] w fun e w' => e = .returned (.int .i64 (byteAt ram (r * 64 + addr - 40960))) ∧ Below w.heap.size w w' := by
  have c := fun w => place_yes rom kind bank ram rb mode addr w h0 h1 m0 m1 hk a0 a1 r hr
  obtain ⟨r0, r1⟩ := ramQ_bd (kind := kind) (mode := mode) h0 h1
  rw [hr] at r0 r1
  clear hr hk h0 h1 m0 m1
  have i0 : 0 ≤ r * 64 + addr - 40960 := by omega
  have i1 : r * 64 + addr - 40960 < (ram.size : Int) := by omega
  have h : (r * 64 + addr - 40960).toNat < ram.size := by omega
  clear sr
  have hb := byteAt_wrap h
  go_enter Tryz.func114, Tryz.ntmps114
  go_wp2_with (go_at_call 178; refine (c _).mono ?_; rintro e w' ⟨rfl, rfl⟩)
  go_ret
  exact ⟨ret_int hb, by repeat (with_reducible first | exact Below.refl _ _ | refine CartL.grow ?_ _ | refine below_drewN ?_ _ | refine Below.drew ?_)⟩
theorem sread1 (rom : ByteArray) (kind bank : Int) (ram : ByteArray) (rb : Int) (on : Bool) (mode : Int) (addr : Int) (w : World) (s0 : 512 ≤ rom.size) (a0 : 0 ≤ addr) (a1 : addr < 256) :
    Calls Tryz.prog 107 #[.agg #[.string rom, .int .i64 kind, .int .i64 bank, .string ram, .int .i64 rb, .bool on, .int .i64 mode], .int .i64 addr] w fun e w' => e = .returned (.int .i64 (byteAt rom addr)) ∧ Below w.heap.size w w' := by
  have h : addr.toNat < rom.size := by omega
  have hb := byteAt_wrap h
  have b1 : inB addr 0 255 = true := decide_eq_true (by omega)
  have c := fun w => l1In_any addr 0 255 w
  rw [b1] at c
  go_enter Tryz.func107, Tryz.ntmps107
  go_wp2_with (go_at_call 36; refine (c _).mono ?_; rintro e w' ⟨rfl, rfl⟩)
  go_ret
  exact ⟨ret_int hb, by repeat (with_reducible first | exact Below.refl _ _ | refine CartL.grow ?_ _ | refine below_drewN ?_ _ | refine Below.drew ?_)⟩
end Go.Proofs.YtkfehdkjeodbmaaGreatDoor.CartR
