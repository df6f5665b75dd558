/-
  The words of an expression's text: tables, numbers, impl.stepText.
-/
import Derived.Test.YtfgabgihdcokdaaDoorStepx
import Derived.Test.YtfgabgihdcokdaaDoorShelf
import Derived.Deep.QuietTactic
import Derived.BigQuiet
import Derived.Lib.ItoaLen
import Derived.Lib.AppendIntMem
import Derived.Laws.BytesArg
import Derived.Lib.LaidTab
namespace Go.Proofs.YtfgabgihdcokdaaDoor.Optx
open Go.ChangeShapes Go.WideShapes Go.ChangeAt Go.RowKit
open Go.Proofs.YtfgabgihdcokdaaDoor.Steps (nodeB stepV)
set_option linter.unusedVariables false
set_option maxRecDepth 20000
def opTab : List ByteArray := [⟨#[110, 101, 103]⟩, ⟨#[110, 111, 116]⟩, ⟨#[104, 105, 103, 104]⟩, ⟨#[108, 111, 119]⟩, ⟨#[43]⟩, ⟨#[45]⟩, ⟨#[42]⟩, ⟨#[47]⟩, ⟨#[37]⟩, ⟨#[38]⟩, ⟨#[94]⟩, ⟨#[124]⟩, ⟨#[60, 60]⟩, ⟨#[62, 62]⟩]
def OpTab (w : World) : Prop := ∀ i, i < 14 → w.cell? ⟨0, i, none⟩ = some (.string (opTab.getD i ⟨#[]⟩))
def Pow (w : World) : Prop := Lib.TabIs Tryd.prog w "internal/strconv.uint64pow10" .u64 Lib.pow10Tab
theorem gPow : Tryd.prog.globalNamed "internal/strconv.uint64pow10" = some 1 := by kernel_rfl
theorem Pow.below {w w' : World} (h : Pow w) (b : Below w.heap.size w w') : Pow w' := by
  unfold Pow Lib.TabIs World.var? at *
  rw [gPow] at h ⊢
  simp only [Option.bind_some] at h ⊢
  have hlt : 1 < w.heap.size := by
    rcases Nat.lt_or_ge 1 w.heap.size with h' | h'
    · exact h'
    · rw [Array.getElem?_eq_none h'] at h; cases h
  rw [b.block _ hlt]
  exact h
theorem OpTab.below {w w' : World} (h : OpTab w) (b : Below w.heap.size w w') : OpTab w' := fun i hi =>
  (b.cell (p := ⟨0, i, none⟩) (World.block_lt_of_cell? w ⟨0, 0, none⟩ (h 0 (by decide)))).trans (h i hi)
def opW (kd : Int) : ByteArray := opTab.getD (kd - 4).toNat ⟨#[]⟩
def decW (n : Int) : ByteArray := ⟨(Lib.itoa n).toArray⟩
/-- The word of a node. -/
def wordB (x : Stepx.Node) : ByteArray := if x.1 = 1 then decW x.2.1 else if x.1 = 2 then x.2.2 else if x.1 = 3 then ⟨#[35]⟩ ++ x.2.2 else opW x.1
theorem as00 (n : Int) (w : World) : (Instr.typeAssert (.iface 72 (.agg #[.int .i64 n])) 44 72 true).run Tryd.prog w = .ok (.tuple #[.agg #[.int .i64 n], .bool true]) w := by kernel_rfl
theorem as10 (s : ByteArray) (w : World) : (Instr.typeAssert (.iface 75 (.agg #[.string s])) 44 72 true).run Tryd.prog w = .ok (.tuple #[.agg #[.int .i64 0], .bool false]) w := by kernel_rfl
theorem as11 (s : ByteArray) (w : World) : (Instr.typeAssert (.iface 75 (.agg #[.string s])) 44 75 true).run Tryd.prog w = .ok (.tuple #[.agg #[.string s], .bool true]) w := by kernel_rfl
theorem as20 (s : ByteArray) (w : World) : (Instr.typeAssert (.iface 76 (.agg #[.string s])) 44 72 true).run Tryd.prog w = .ok (.tuple #[.agg #[.int .i64 0], .bool false]) w := by kernel_rfl
theorem as21 (s : ByteArray) (w : World) : (Instr.typeAssert (.iface 76 (.agg #[.string s])) 44 75 true).run Tryd.prog w = .ok (.tuple #[.agg #[.string ⟨#[]⟩], .bool false]) w := by kernel_rfl
theorem as22 (s : ByteArray) (w : World) : (Instr.typeAssert (.iface 76 (.agg #[.string s])) 44 76 true).run Tryd.prog w = .ok (.tuple #[.agg #[.string s], .bool true]) w := by kernel_rfl
theorem as30 (n : Int) (w : World) : (Instr.typeAssert (.iface 78 (.agg #[.int .i64 n])) 44 72 true).run Tryd.prog w = .ok (.tuple #[.agg #[.int .i64 0], .bool false]) w := by kernel_rfl
theorem as31 (n : Int) (w : World) : (Instr.typeAssert (.iface 78 (.agg #[.int .i64 n])) 44 75 true).run Tryd.prog w = .ok (.tuple #[.agg #[.string ⟨#[]⟩], .bool false]) w := by kernel_rfl
theorem as32 (n : Int) (w : World) : (Instr.typeAssert (.iface 78 (.agg #[.int .i64 n])) 44 76 true).run Tryd.prog w = .ok (.tuple #[.agg #[.string ⟨#[]⟩], .bool false]) w := by kernel_rfl
theorem as33 (n : Int) (w : World) : (Instr.typeAssert (.iface 78 (.agg #[.int .i64 n])) 44 78 true).run Tryd.prog w = .ok (.tuple #[.agg #[.int .i64 n], .bool true]) w := by kernel_rfl
theorem as40 (n : Int) (w : World) : (Instr.typeAssert (.iface 80 (.agg #[.int .i64 n])) 44 72 true).run Tryd.prog w = .ok (.tuple #[.agg #[.int .i64 0], .bool false]) w := by kernel_rfl
theorem as41 (n : Int) (w : World) : (Instr.typeAssert (.iface 80 (.agg #[.int .i64 n])) 44 75 true).run Tryd.prog w = .ok (.tuple #[.agg #[.string ⟨#[]⟩], .bool false]) w := by kernel_rfl
theorem as42 (n : Int) (w : World) : (Instr.typeAssert (.iface 80 (.agg #[.int .i64 n])) 44 76 true).run Tryd.prog w = .ok (.tuple #[.agg #[.string ⟨#[]⟩], .bool false]) w := by kernel_rfl
theorem as43 (n : Int) (w : World) : (Instr.typeAssert (.iface 80 (.agg #[.int .i64 n])) 44 78 true).run Tryd.prog w = .ok (.tuple #[.agg #[.int .i64 0], .bool false]) w := by kernel_rfl
theorem as44 (n : Int) (w : World) : (Instr.typeAssert (.iface 80 (.agg #[.int .i64 n])) 44 80 true).run Tryd.prog w = .ok (.tuple #[.agg #[.int .i64 n], .bool true]) w := by kernel_rfl
theorem text1 (n : Int) (w : World) (h0 : 0 ≤ n) (h1 : n ≤ 65535) (hP : Pow w) :
    Calls Tryd.prog 24 #[.iface 72 (.agg #[.int .i64 n])] w fun e w' => e = .returned (.string (decW n)) ∧ Below w.heap.size w w' := by
  have HP : Hid (∀ o, Pow (w.alloc o)) := fun o => hP.below ((Below.refl _ _).alloc (Nat.le_refl _) _)
  have c : ∀ W, Pow W → Calls Tryd.prog 45 #[.int .i64 n, .int .i64 10] W fun e w' => e = .returned (.string (decW n)) ∧ Below W.heap.size W w' := fun W h =>
    (Tryd.strconv_FormatInt_10 n (by omega) (by omega) W h).mono (by
      rintro e w' ⟨rfl, k, os, rfl⟩
      exact ⟨rfl, Lib.below_grow _ _ (Nat.le_refl _) k os⟩)
  clear hP
  have a0 := as00 n
  go_enter Tryd.func24, Tryd.ntmps24
  go_wp2_with fail
  refine (c _ (HP.out _)).mono ?_
  rintro e w1 ⟨rfl, b1⟩
  have B1 : Hid (Below w.heap.size w w1) := ((Below.refl w.heap.size w).alloc (Nat.le_refl _) _).trans (b1.mono (by simp))
  clear b1
  go_wp2
  go_ret
  exact ⟨rfl, B1.out⟩
theorem text2 (s : ByteArray) (w : World) :
    Calls Tryd.prog 24 #[.iface 75 (.agg #[.string s])] w fun e w' => e = .returned (.string s) ∧ Below w.heap.size w w' := by
  have a0 := as10 s
  have a1 := as11 s
  go_enter Tryd.func24, Tryd.ntmps24
  go_wp2
  go_ret
  exact ⟨rfl, (Below.refl _ _).alloc (Nat.le_refl _) _⟩
theorem text3 (s : ByteArray) (w : World) (hs : s.size ≤ 100) :
    Calls Tryd.prog 24 #[.iface 76 (.agg #[.string s])] w fun e w' => e = .returned (.string (⟨#[35]⟩ ++ s)) ∧ Below w.heap.size w w' := by
  have a0 := as20 s
  have a1 := as21 s
  have a2 := as22 s
  go_enter Tryd.func24, Tryd.ntmps24
  go_wp2
  go_ret
  exact ⟨rfl, (Below.refl _ _).alloc (Nat.le_refl _) _⟩
set_option maxHeartbeats 1000000 in
theorem textOne (n : Int) (w : World) (k0 : 4 ≤ n) (k1 : n ≤ 7) (hT : OpTab w) :
    Calls Tryd.prog 24 #[.iface 78 (.agg #[.int .i64 n])] w fun e w' => e = .returned (.string (opW n)) ∧ Below w.heap.size w w' := by
  obtain ⟨j, hj⟩ : ∃ j : Nat, n - 4 = (j : Int) := ⟨(n - 4).toNat, by omega⟩
  have hj14 : j < 14 := by omega
  have hc0 := hT j hj14
  have hc : ∀ o, (w.alloc o).cell? ⟨0, j, none⟩ = some (.string (opW n)) := fun o => by
    have e : opW n = opTab.getD j ⟨#[]⟩ := by unfold opW; rw [hj]; rfl
    rw [e]
    exact (World.cell?_of_block (a := ⟨0, j, none⟩) (Below.heap_alloc _ _ _ (World.block_lt_of_cell? w ⟨0, j, none⟩ hc0))).trans hc0
  have j0 : (0 : Int) ≤ (j : Int) := by omega
  have j1 : (j : Int) < 14 := by omega
  generalize opW n = R at hc ⊢
  clear hT hc0
  have a0 := as30 n
  have a1 := as31 n
  have a2 := as32 n
  have a3 := as33 n
  go_enter Tryd.func24, Tryd.ntmps24
  go_wp2_with fail
  first
    | (go_ret; exact ⟨rfl, (Below.refl _ _).alloc (Nat.le_refl _) _⟩)
    | (go_quiet (fail); go_wp2; go_ret; exact ⟨rfl, ⟨rfl, rfl, rfl, by simp, fun k hk => Below.heap_alloc _ _ k hk⟩⟩)
set_option maxHeartbeats 1000000 in
theorem textTwo (n : Int) (w : World) (k0 : 8 ≤ n) (k1 : n ≤ 17) (hT : OpTab w) :
    Calls Tryd.prog 24 #[.iface 80 (.agg #[.int .i64 n])] w fun e w' => e = .returned (.string (opW n)) ∧ Below w.heap.size w w' := by
  obtain ⟨j, hj⟩ : ∃ j : Nat, n - 4 = (j : Int) := ⟨(n - 4).toNat, by omega⟩
  have hj14 : j < 14 := by omega
  have hc0 := hT j hj14
  have hc : ∀ o, (w.alloc o).cell? ⟨0, j, none⟩ = some (.string (opW n)) := fun o => by
    have e : opW n = opTab.getD j ⟨#[]⟩ := by unfold opW; rw [hj]; rfl
    rw [e]
    exact (World.cell?_of_block (a := ⟨0, j, none⟩) (Below.heap_alloc _ _ _ (World.block_lt_of_cell? w ⟨0, j, none⟩ hc0))).trans hc0
  have j0 : (0 : Int) ≤ (j : Int) := by omega
  have j1 : (j : Int) < 14 := by omega
  generalize opW n = R at hc ⊢
  clear hT hc0
  have a0 := as40 n
  have a1 := as41 n
  have a2 := as42 n
  have a3 := as43 n
  have a4 := as44 n
  go_enter Tryd.func24, Tryd.ntmps24
  go_wp2_with fail
  first
    | (go_ret; exact ⟨rfl, (Below.refl _ _).alloc (Nat.le_refl _) _⟩)
    | (go_quiet (fail); go_wp2; go_ret; exact ⟨rfl, ⟨rfl, rfl, rfl, by simp, fun k hk => Below.heap_alloc _ _ k hk⟩⟩)
end Go.Proofs.YtfgabgihdcokdaaDoor.Optx
