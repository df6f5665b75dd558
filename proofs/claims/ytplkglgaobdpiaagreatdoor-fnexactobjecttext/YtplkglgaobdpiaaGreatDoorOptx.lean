/-
  The words of an expression's text: tables, numbers, impl.stepText.
-/
import Derived.Test.YtplkglgaobdpiaaGreatDoorStepx
import Derived.Test.YtplkglgaobdpiaaGreatDoorShelf
import Derived.Deep.QuietTactic
import Derived.BigQuiet
import Derived.Lib.ItoaLen
import Derived.Lib.AppendIntMem
import Derived.Laws.BytesArg
import Derived.Lib.LaidTab
namespace Go.Proofs.YtplkglgaobdpiaaGreatDoor.Optx
open Go.ChangeShapes Go.WideShapes Go.ChangeAt Go.RowKit
open Go.Proofs.YtplkglgaobdpiaaGreatDoor.Steps (nodeB stepV)
set_option linter.unusedVariables false
set_option maxRecDepth 20000
def opTab : List ByteArray := [⟨#[110, 101, 103]⟩, ⟨#[110, 111, 116]⟩, ⟨#[104, 105, 103, 104]⟩, ⟨#[108, 111, 119]⟩, ⟨#[43]⟩, ⟨#[45]⟩, ⟨#[42]⟩, ⟨#[47]⟩, ⟨#[37]⟩, ⟨#[38]⟩, ⟨#[94]⟩, ⟨#[124]⟩, ⟨#[60, 60]⟩, ⟨#[62, 62]⟩]
def OpTab (w : World) : Prop := ∀ i, i < 14 → w.cell? ⟨1, i, none⟩ = some (.string (opTab.getD i ⟨#[]⟩))
def Pow (w : World) : Prop := Lib.TabIs Tryz.prog w "internal/strconv.uint64pow10" .u64 Lib.pow10Tab
theorem gPow : Tryz.prog.globalNamed "internal/strconv.uint64pow10" = some 3 := by kernel_rfl
theorem Pow.below {w w' : World} (h : Pow w) (b : Below w.heap.size w w') : Pow w' := by
  unfold Pow Lib.TabIs World.var? at *
  rw [gPow] at h ⊢
  simp only [Option.bind_some] at h ⊢
  have hlt : 3 < w.heap.size := by
    rcases Nat.lt_or_ge 3 w.heap.size with h' | h'
    · exact h'
    · rw [Array.getElem?_eq_none h'] at h; cases h
  rw [b.block _ hlt]
  exact h
theorem OpTab.below {w w' : World} (h : OpTab w) (b : Below w.heap.size w w') : OpTab w' := fun i hi =>
  (b.cell (p := ⟨1, i, none⟩) (World.block_lt_of_cell? w ⟨1, 0, none⟩ (h 0 (by decide)))).trans (h i hi)
def opW (kd : Int) : ByteArray := opTab.getD (kd - 4).toNat ⟨#[]⟩
def decW (n : Int) : ByteArray := ⟨(Lib.itoa n).toArray⟩
/-- The word of a node. -/
def wordB (x : Stepx.Node) : ByteArray := if x.1 = 1 then decW x.2.1 else if x.1 = 2 then x.2.2 else if x.1 = 3 then ⟨#[35]⟩ ++ x.2.2 else opW x.1
theorem as00 (n : Int) (w : World) : (Instr.typeAssert (.iface 163 (.agg #[.int .i64 n])) 123 163 true).run Tryz.prog w = .ok (.tuple #[.agg #[.int .i64 n], .bool true]) w := by kernel_rfl
theorem as10 (s : ByteArray) (w : World) : (Instr.typeAssert (.iface 165 (.agg #[.string s])) 123 163 true).run Tryz.prog w = .ok (.tuple #[.agg #[.int .i64 0], .bool false]) w := by kernel_rfl
theorem as11 (s : ByteArray) (w : World) : (Instr.typeAssert (.iface 165 (.agg #[.string s])) 123 165 true).run Tryz.prog w = .ok (.tuple #[.agg #[.string s], .bool true]) w := by kernel_rfl
theorem as20 (s : ByteArray) (w : World) : (Instr.typeAssert (.iface 166 (.agg #[.string s])) 123 163 true).run Tryz.prog w = .ok (.tuple #[.agg #[.int .i64 0], .bool false]) w := by kernel_rfl
theorem as21 (s : ByteArray) (w : World) : (Instr.typeAssert (.iface 166 (.agg #[.string s])) 123 165 true).run Tryz.prog w = .ok (.tuple #[.agg #[.string ⟨#[]⟩], .bool false]) w := by kernel_rfl
theorem as22 (s : ByteArray) (w : World) : (Instr.typeAssert (.iface 166 (.agg #[.string s])) 123 166 true).run Tryz.prog w = .ok (.tuple #[.agg #[.string s], .bool true]) w := by kernel_rfl
theorem as30 (n : Int) (w : World) : (Instr.typeAssert (.iface 168 (.agg #[.int .i64 n])) 123 163 true).run Tryz.prog w = .ok (.tuple #[.agg #[.int .i64 0], .bool false]) w := by kernel_rfl
theorem as31 (n : Int) (w : World) : (Instr.typeAssert (.iface 168 (.agg #[.int .i64 n])) 123 165 true).run Tryz.prog w = .ok (.tuple #[.agg #[.string ⟨#[]⟩], .bool false]) w := by kernel_rfl
theorem as32 (n : Int) (w : World) : (Instr.typeAssert (.iface 168 (.agg #[.int .i64 n])) 123 166 true).run Tryz.prog w = .ok (.tuple #[.agg #[.string ⟨#[]⟩], .bool false]) w := by kernel_rfl
theorem as33 (n : Int) (w : World) : (Instr.typeAssert (.iface 168 (.agg #[.int .i64 n])) 123 168 true).run Tryz.prog w = .ok (.tuple #[.agg #[.int .i64 n], .bool true]) w := by kernel_rfl
theorem as40 (n : Int) (w : World) : (Instr.typeAssert (.iface 170 (.agg #[.int .i64 n])) 123 163 true).run Tryz.prog w = .ok (.tuple #[.agg #[.int .i64 0], .bool false]) w := by kernel_rfl
theorem as41 (n : Int) (w : World) : (Instr.typeAssert (.iface 170 (.agg #[.int .i64 n])) 123 165 true).run Tryz.prog w = .ok (.tuple #[.agg #[.string ⟨#[]⟩], .bool false]) w := by kernel_rfl
theorem as42 (n : Int) (w : World) : (Instr.typeAssert (.iface 170 (.agg #[.int .i64 n])) 123 166 true).run Tryz.prog w = .ok (.tuple #[.agg #[.string ⟨#[]⟩], .bool false]) w := by kernel_rfl
theorem as43 (n : Int) (w : World) : (Instr.typeAssert (.iface 170 (.agg #[.int .i64 n])) 123 168 true).run Tryz.prog w = .ok (.tuple #[.agg #[.int .i64 0], .bool false]) w := by kernel_rfl
theorem as44 (n : Int) (w : World) : (Instr.typeAssert (.iface 170 (.agg #[.int .i64 n])) 123 170 true).run Tryz.prog w = .ok (.tuple #[.agg #[.int .i64 n], .bool true]) w := by kernel_rfl
theorem text1 (n : Int) (w : World) (h0 : 0 ≤ n) (h1 : n ≤ 65535) (hP : Pow w) :
    Calls Tryz.prog 83 #[.iface 163 (.agg #[.int .i64 n])] w fun e w' => e = .returned (.string (decW n)) ∧ Below w.heap.size w w' := by
  have HP : Hid (∀ o, Pow (w.alloc o)) := fun o => hP.below ((Below.refl _ _).alloc (Nat.le_refl _) _)
  have c : ∀ W, Pow W → Calls Tryz.prog 81 #[.int .i64 n, .int .i64 10] W fun e w' => e = .returned (.string (decW n)) ∧ Below W.heap.size W w' := fun W h =>
    (Tryz.strconv_FormatInt_10 n (by omega) (by omega) W h).mono (by
      rintro e w' ⟨rfl, k, os, rfl⟩
      exact ⟨rfl, Lib.below_grow _ _ (Nat.le_refl _) k os⟩)
  clear hP
  have a0 := as00 n
  go_enter Tryz.func83, Tryz.ntmps83
  go_wp2_with fail
  refine (c _ (HP.out _)).mono ?_
  rintro e w1 ⟨rfl, b1⟩
  have B1 : Hid (Below w.heap.size w w1) := ((Below.refl w.heap.size w).alloc (Nat.le_refl _) _).trans (b1.mono (by simp))
  clear b1
  go_wp2
  go_ret
  exact ⟨rfl, B1.out⟩
theorem text2 (s : ByteArray) (w : World) :
    Calls Tryz.prog 83 #[.iface 165 (.agg #[.string s])] w fun e w' => e = .returned (.string s) ∧ Below w.heap.size w w' := by
  have a0 := as10 s
  have a1 := as11 s
  go_enter Tryz.func83, Tryz.ntmps83
  go_wp2
  go_ret
  exact ⟨rfl, (Below.refl _ _).alloc (Nat.le_refl _) _⟩
theorem text3 (s : ByteArray) (w : World) (hs : s.size ≤ 100) :
    Calls Tryz.prog 83 #[.iface 166 (.agg #[.string s])] w fun e w' => e = .returned (.string (⟨#[35]⟩ ++ s)) ∧ Below w.heap.size w w' := by
  have a0 := as20 s
  have a1 := as21 s
  have a2 := as22 s
  go_enter Tryz.func83, Tryz.ntmps83
  go_wp2
  go_ret
  exact ⟨rfl, (Below.refl _ _).alloc (Nat.le_refl _) _⟩
set_option maxHeartbeats 1000000 in
theorem textOne (n : Int) (w : World) (k0 : 4 ≤ n) (k1 : n ≤ 7) (hT : OpTab w) :
    Calls Tryz.prog 83 #[.iface 168 (.agg #[.int .i64 n])] w fun e w' => e = .returned (.string (opW n)) ∧ Below w.heap.size w w' := by
  obtain ⟨j, hj⟩ : ∃ j : Nat, n - 4 = (j : Int) := ⟨(n - 4).toNat, by omega⟩
  have hj14 : j < 14 := by omega
  have hc0 := hT j hj14
  have hc : ∀ o, (w.alloc o).cell? ⟨1, j, none⟩ = some (.string (opW n)) := fun o => by
    have e : opW n = opTab.getD j ⟨#[]⟩ := by unfold opW; rw [hj]; rfl
    rw [e]
    exact (World.cell?_of_block (a := ⟨1, j, none⟩) (Below.heap_alloc _ _ _ (World.block_lt_of_cell? w ⟨1, j, none⟩ hc0))).trans hc0
  have j0 : (0 : Int) ≤ (j : Int) := by omega
  have j1 : (j : Int) < 14 := by omega
  generalize opW n = R at hc ⊢
  clear hT hc0
  have a0 := as30 n
  have a1 := as31 n
  have a2 := as32 n
  have a3 := as33 n
  go_enter Tryz.func83, Tryz.ntmps83
  go_wp2_with fail
  first
    | (go_ret; exact ⟨rfl, (Below.refl _ _).alloc (Nat.le_refl _) _⟩)
    | (go_quiet (fail); go_wp2; go_ret; exact ⟨rfl, ⟨rfl, rfl, rfl, by simp, fun k hk => Below.heap_alloc _ _ k hk⟩⟩)
set_option maxHeartbeats 1000000 in
theorem textTwo (n : Int) (w : World) (k0 : 8 ≤ n) (k1 : n ≤ 17) (hT : OpTab w) :
    Calls Tryz.prog 83 #[.iface 170 (.agg #[.int .i64 n])] w fun e w' => e = .returned (.string (opW n)) ∧ Below w.heap.size w w' := by
  obtain ⟨j, hj⟩ : ∃ j : Nat, n - 4 = (j : Int) := ⟨(n - 4).toNat, by omega⟩
  have hj14 : j < 14 := by omega
  have hc0 := hT j hj14
  have hc : ∀ o, (w.alloc o).cell? ⟨1, j, none⟩ = some (.string (opW n)) := fun o => by
    have e : opW n = opTab.getD j ⟨#[]⟩ := by unfold opW; rw [hj]; rfl
    rw [e]
    exact (World.cell?_of_block (a := ⟨1, j, none⟩) (Below.heap_alloc _ _ _ (World.block_lt_of_cell? w ⟨1, j, none⟩ hc0))).trans hc0
  have j0 : (0 : Int) ≤ (j : Int) := by omega
  have j1 : (j : Int) < 14 := by omega
  generalize opW n = R at hc ⊢
  clear hT hc0
  have a0 := as40 n
  have a1 := as41 n
  have a2 := as42 n
  have a3 := as43 n
  have a4 := as44 n
  go_enter Tryz.func83, Tryz.ntmps83
  go_wp2_with fail
  first
    | (go_ret; exact ⟨rfl, (Below.refl _ _).alloc (Nat.le_refl _) _⟩)
    | (go_quiet (fail); go_wp2; go_ret; exact ⟨rfl, ⟨rfl, rfl, rfl, by simp, fun k hk => Below.heap_alloc _ _ k hk⟩⟩)
end Go.Proofs.YtplkglgaobdpiaaGreatDoor.Optx
