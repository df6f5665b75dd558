/-
  A contract of ours for impl.reckoned: what a step tells of the numbers that it takes, among symbols.
-/
import Derived.Test.YtlobkgohenebmaaDoorSymn
import Derived.Test.YtlobkgohenebmaaDoorReke
import Derived.Test.YtlobkgohenebmaaDoorStepx
namespace Go.Proofs.YtlobkgohenebmaaDoor.Rekn
open Go.ChangeShapes Go.WideShapes Go.ChangeAt Go.RowKit Go.Deep
open Symr (Sym Syms)
open Reke Symn
set_option linter.unusedVariables false
set_option maxRecDepth 20000
theorem as00 (n : Int) (w : World) : (Instr.typeAssert (.iface 85 (.agg #[.int .i64 n])) 55 85 true).run Tryd.prog w = .ok (.tuple #[.agg #[.int .i64 n], .bool true]) w := by kernel_rfl
theorem as10 (s : ByteArray) (w : World) : (Instr.typeAssert (.iface 87 (.agg #[.string s])) 55 85 true).run Tryd.prog w = .ok (.tuple #[.agg #[.int .i64 0], .bool false]) w := by kernel_rfl
theorem as11 (s : ByteArray) (w : World) : (Instr.typeAssert (.iface 87 (.agg #[.string s])) 55 87 true).run Tryd.prog w = .ok (.tuple #[.agg #[.string s], .bool true]) w := by kernel_rfl
theorem as20 (s : ByteArray) (w : World) : (Instr.typeAssert (.iface 90 (.agg #[.string s])) 55 85 true).run Tryd.prog w = .ok (.tuple #[.agg #[.int .i64 0], .bool false]) w := by kernel_rfl
theorem as21 (s : ByteArray) (w : World) : (Instr.typeAssert (.iface 90 (.agg #[.string s])) 55 87 true).run Tryd.prog w = .ok (.tuple #[.agg #[.string ⟨#[]⟩], .bool false]) w := by kernel_rfl
theorem as22 (s : ByteArray) (w : World) : (Instr.typeAssert (.iface 90 (.agg #[.string s])) 55 90 true).run Tryd.prog w = .ok (.tuple #[.agg #[.string s], .bool true]) w := by kernel_rfl
theorem as30 (n : Int) (w : World) : (Instr.typeAssert (.iface 92 (.agg #[.int .i64 n])) 55 85 true).run Tryd.prog w = .ok (.tuple #[.agg #[.int .i64 0], .bool false]) w := by kernel_rfl
theorem as31 (n : Int) (w : World) : (Instr.typeAssert (.iface 92 (.agg #[.int .i64 n])) 55 87 true).run Tryd.prog w = .ok (.tuple #[.agg #[.string ⟨#[]⟩], .bool false]) w := by kernel_rfl
theorem as32 (n : Int) (w : World) : (Instr.typeAssert (.iface 92 (.agg #[.int .i64 n])) 55 90 true).run Tryd.prog w = .ok (.tuple #[.agg #[.string ⟨#[]⟩], .bool false]) w := by kernel_rfl
theorem as33 (n : Int) (w : World) : (Instr.typeAssert (.iface 92 (.agg #[.int .i64 n])) 55 92 true).run Tryd.prog w = .ok (.tuple #[.agg #[.int .i64 n], .bool true]) w := by kernel_rfl
theorem as40 (n : Int) (w : World) : (Instr.typeAssert (.iface 94 (.agg #[.int .i64 n])) 55 85 true).run Tryd.prog w = .ok (.tuple #[.agg #[.int .i64 0], .bool false]) w := by kernel_rfl
theorem as41 (n : Int) (w : World) : (Instr.typeAssert (.iface 94 (.agg #[.int .i64 n])) 55 87 true).run Tryd.prog w = .ok (.tuple #[.agg #[.string ⟨#[]⟩], .bool false]) w := by kernel_rfl
theorem as42 (n : Int) (w : World) : (Instr.typeAssert (.iface 94 (.agg #[.int .i64 n])) 55 90 true).run Tryd.prog w = .ok (.tuple #[.agg #[.string ⟨#[]⟩], .bool false]) w := by kernel_rfl
theorem as43 (n : Int) (w : World) : (Instr.typeAssert (.iface 94 (.agg #[.int .i64 n])) 55 92 true).run Tryd.prog w = .ok (.tuple #[.agg #[.int .i64 0], .bool false]) w := by kernel_rfl
theorem as44 (n : Int) (w : World) : (Instr.typeAssert (.iface 94 (.agg #[.int .i64 n])) 55 94 true).run Tryd.prog w = .ok (.tuple #[.agg #[.int .i64 n], .bool true]) w := by kernel_rfl
theorem rek1 (n : Int) (tv yv : Value) (w : World) (h0 : 0 ≤ n) (h1 : n ≤ 65535) :
    Calls Tryd.prog 25 #[.iface 85 (.agg #[.int .i64 n]), tv, yv] w fun e w' => e = .returned (.tuple #[.int .i32 n, .int .i64 0]) ∧ Below w.heap.size w w' := by
  have a0 := as00 n
  go_enter Tryd.func25, Tryd.ntmps25
  go_wp2
  go_ret2
  exact ⟨ret_t (by first | rfl | (rw [Arith.wrap32_in (by omega) (by omega)]) | simp), (Below.refl _ _).alloc (Nat.le_refl _) _⟩
theorem drewN_below {B : Nat} {a b : World} (h : Below B a b) (n : Nat) : Below B a (b.drewN n) := ⟨h.os, h.tape, h.output, h.size, h.block⟩
def symR (kd : Int) (o : Option Sym) : Int × Int := match o with
  | none => (0, 2)
  | some y => (wrap32 (if kd = 2 then y.2.2 else y.2.1), 0)
set_option maxHeartbeats 1000000 in
theorem rek2 (s : ByteArray) (tv : Value) (a : Option Addr) (cap : Nat) (Y : List Sym) (w : World) (hN : Syms w a Y) (hlen : Y.length ≤ 1048576) :
    Calls Tryd.prog 25 #[.iface 87 (.agg #[.string s]), tv, .slice a Y.length cap] w fun e w' => e = .returned (.tuple #[.int .i32 (symR 2 (find Y s)).1, .int .i64 (symR 2 (find Y s)).2]) ∧ Below w.heap.size w w' := by
  have HN : Hid (Syms w a Y) := hN
  have cs := fun w hN => symNamed_any s a cap Y w hN hlen
  clear hN
  generalize Y.length = len at cs ⊢
  cases hf : find Y s with
  | none =>
    rw [hf] at cs
    have e1 : symR 2 none = (0, 2) := rfl
    rw [e1]
    have cs' : ∀ w, Syms w a Y → Calls Tryd.prog 42 #[.string s, .slice a len cap] w fun e w' => e = .returned (.tuple #[.agg #[.string ⟨#[]⟩, .int .i64 0, .int .i64 0], .int .i64 2]) ∧ Below w.heap.size w w' := cs
    clear cs hf e1
    have a0 := as10 s
    have a1 := as11 s
    go_enter Tryd.func25, Tryd.ntmps25
    go_wp2_with fail
    refine (cs' _ (HN.out.below ((Below.refl _ _).alloc (Nat.le_refl _) _))).mono ?_
    rintro e w1 ⟨rfl, b1⟩
    have B1 : Hid (Below w.heap.size w w1) := ((Below.refl w.heap.size w).alloc (Nat.le_refl _) _).trans (b1.mono (by simp))
    clear b1
    go_wp2
    go_ret2
    exact ⟨ret_t (by first | rfl | decide), B1.out.alloc B1.out.size _⟩
  | some y =>
    rw [hf] at cs
    obtain ⟨nm, bk, vl⟩ := y
    have e1 : symR 2 (some (nm, bk, vl)) = (wrap32 vl, 0) := rfl
    rw [e1]
    have cs' : ∀ w, Syms w a Y → Calls Tryd.prog 42 #[.string s, .slice a len cap] w fun e w' => e = .returned (.tuple #[.agg #[.string nm, .int .i64 bk, .int .i64 vl], .int .i64 0]) ∧ Below w.heap.size w w' := cs
    clear cs hf e1
    have a0 := as10 s
    have a1 := as11 s
    go_enter Tryd.func25, Tryd.ntmps25
    go_wp2_with fail
    refine (cs' _ (HN.out.below ((Below.refl _ _).alloc (Nat.le_refl _) _))).mono ?_
    rintro e w1 ⟨rfl, b1⟩
    have B1 : Hid (Below w.heap.size w w1) := ((Below.refl w.heap.size w).alloc (Nat.le_refl _) _).trans (b1.mono (by simp))
    clear b1
    go_wp2
    go_ret2
    exact ⟨rfl, B1.out.alloc B1.out.size _⟩
set_option maxHeartbeats 1000000 in
theorem rek3 (s : ByteArray) (tv : Value) (a : Option Addr) (cap : Nat) (Y : List Sym) (w : World) (hN : Syms w a Y) (hlen : Y.length ≤ 1048576) :
    Calls Tryd.prog 25 #[.iface 90 (.agg #[.string s]), tv, .slice a Y.length cap] w fun e w' => e = .returned (.tuple #[.int .i32 (symR 3 (find Y s)).1, .int .i64 (symR 3 (find Y s)).2]) ∧ Below w.heap.size w w' := by
  have HN : Hid (Syms w a Y) := hN
  have cs := fun w hN => symNamed_any s a cap Y w hN hlen
  clear hN
  generalize Y.length = len at cs ⊢
  cases hf : find Y s with
  | none =>
    rw [hf] at cs
    have e1 : symR 3 none = (0, 2) := rfl
    rw [e1]
    have cs' : ∀ w, Syms w a Y → Calls Tryd.prog 42 #[.string s, .slice a len cap] w fun e w' => e = .returned (.tuple #[.agg #[.string ⟨#[]⟩, .int .i64 0, .int .i64 0], .int .i64 2]) ∧ Below w.heap.size w w' := cs
    clear cs hf e1
    have a0 := as20 s
    have a1 := as21 s
    have a2 := as22 s
    go_enter Tryd.func25, Tryd.ntmps25
    go_wp2_with fail
    refine (cs' _ (HN.out.below ((Below.refl _ _).alloc (Nat.le_refl _) _))).mono ?_
    rintro e w1 ⟨rfl, b1⟩
    have B1 : Hid (Below w.heap.size w w1) := ((Below.refl w.heap.size w).alloc (Nat.le_refl _) _).trans (b1.mono (by simp))
    clear b1
    go_wp2
    go_ret2
    exact ⟨ret_t (by first | rfl | decide), B1.out.alloc B1.out.size _⟩
  | some y =>
    rw [hf] at cs
    obtain ⟨nm, bk, vl⟩ := y
    have e1 : symR 3 (some (nm, bk, vl)) = (wrap32 bk, 0) := rfl
    rw [e1]
    have cs' : ∀ w, Syms w a Y → Calls Tryd.prog 42 #[.string s, .slice a len cap] w fun e w' => e = .returned (.tuple #[.agg #[.string nm, .int .i64 bk, .int .i64 vl], .int .i64 0]) ∧ Below w.heap.size w w' := cs
    clear cs hf e1
    have a0 := as20 s
    have a1 := as21 s
    have a2 := as22 s
    go_enter Tryd.func25, Tryd.ntmps25
    go_wp2_with fail
    refine (cs' _ (HN.out.below ((Below.refl _ _).alloc (Nat.le_refl _) _))).mono ?_
    rintro e w1 ⟨rfl, b1⟩
    have B1 : Hid (Below w.heap.size w w1) := ((Below.refl w.heap.size w).alloc (Nat.le_refl _) _).trans (b1.mono (by simp))
    clear b1
    go_wp2
    go_ret2
    exact ⟨rfl, B1.out.alloc B1.out.size _⟩
set_option maxHeartbeats 1000000 in
theorem rekOne (n x : Int) (g off tc : Nat) (yv : Value) (w : World) (k0 : 4 ≤ n) (k1 : n ≤ 7) (hx : In x) (hc : w.cell? ⟨g, off, none⟩ = some (.int .i32 x)) :
    Calls Tryd.prog 25 #[.iface 92 (.agg #[.int .i64 n]), .slice (some ⟨g, off, none⟩) 1 tc, yv] w fun e w' => e = .returned (.tuple #[.int .i32 (f1 n x), .int .i64 0]) ∧ Below w.heap.size w w' := by
  have a0 := as30 n
  have a1 := as31 n
  have a2 := as32 n
  have a3 := as33 n
  have c := fun w => one_any n x w hx k0 k1
  generalize f1 n x = R at c ⊢
  have hgl : g < w.heap.size := World.block_lt_of_cell? w ⟨g, off, none⟩ hc
  have hc2 : ∀ o, (w.alloc o).cell? ⟨g, off, none⟩ = some (.int .i32 x) := fun o => (World.cell?_of_block (a := ⟨g, off, none⟩) (Below.heap_alloc _ _ _ hgl)).trans hc
  go_enter Tryd.func25, Tryd.ntmps25
  go_wp2_with fail
  go_quiet ((go_at_call 43; exact Calls.quiet_of_same (c _)))
  go_wp2
  go_ret2
  exact ⟨rfl, drewN_below ((Below.refl _ _).alloc (Nat.le_refl _) _) _⟩
set_option maxHeartbeats 1000000 in
theorem rekTwo (n x y : Int) (g off tc : Nat) (yv : Value) (w : World) (k0 : 8 ≤ n) (k1 : n ≤ 17) (hx : In x) (hy : In y) (hc : w.cell? ⟨g, off, none⟩ = some (.int .i32 x)) (hd : w.cell? ⟨g, off + 1, none⟩ = some (.int .i32 y)) :
    Calls Tryd.prog 25 #[.iface 94 (.agg #[.int .i64 n]), .slice (some ⟨g, off, none⟩) 2 tc, yv] w fun e w' => e = .returned (.tuple #[.int .i32 (v2 n x y).1, .int .i64 (v2 n x y).2]) ∧ Below w.heap.size w w' := by
  have a0 := as40 n
  have a1 := as41 n
  have a2 := as42 n
  have a3 := as43 n
  have a4 := as44 n
  have c := fun w => two_any n x y w hx hy k0 k1
  generalize (v2 n x y).1 = R at c ⊢
  generalize (v2 n x y).2 = S at c ⊢
  have hgl : g < w.heap.size := World.block_lt_of_cell? w ⟨g, off, none⟩ hc
  have hc2 : ∀ o, (w.alloc o).cell? ⟨g, off, none⟩ = some (.int .i32 x) := fun o => (World.cell?_of_block (a := ⟨g, off, none⟩) (Below.heap_alloc _ _ _ hgl)).trans hc
  have hd2 : ∀ o, (w.alloc o).cell? ⟨g, off + 1, none⟩ = some (.int .i32 y) := fun o => (World.cell?_of_block (a := ⟨g, off + 1, none⟩) (Below.heap_alloc _ _ _ hgl)).trans hd
  go_enter Tryd.func25, Tryd.ntmps25
  go_wp2_with fail
  go_quiet ((go_at_call 44; exact Calls.quiet_of_same (c _)))
  go_wp2
  go_ret2
  exact ⟨rfl, drewN_below ((Below.refl _ _).alloc (Nat.le_refl _) _) _⟩
end Go.Proofs.YtlobkgohenebmaaDoor.Rekn
