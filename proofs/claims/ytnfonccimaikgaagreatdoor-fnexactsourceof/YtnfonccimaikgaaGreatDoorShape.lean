/-
  Contracts of ours for the shapes of codes: impl.partsOf, impl.lowShape, impl.highShape, impl.shapeOf, each at every argument.
-/
import Derived.Test.YtnfonccimaikgaaGreatDoorSigned
import Derived.Test.YtnfonccimaikgaaGreatDoorRows
import Derived.WalkKit
import Derived.ProofKit
import Derived.OpenShut
import Derived.ShutString
import Derived.Outline
import Derived.WalkLawsBesides
namespace Go.Proofs.YtnfonccimaikgaaGreatDoor.Shape
open Go.ChangeShapes Go.WideShapes Go.ChangeAt Go.RowKit
open Signed (isByte_any)
open Signed (inB)
set_option linter.unusedVariables false

def at8 (l : List ByteArray) (i : Int) : ByteArray := l.getD i.toNat ⟨#[]⟩
theorem cases8 {y : Int} (h0 : 0 ≤ y) (h1 : y ≤ 7) : y = 0 ∨ y = 1 ∨ y = 2 ∨ y = 3 ∨ y = 4 ∨ y = 5 ∨ y = 6 ∨ y = 7 := by omega
theorem cases2 {q : Int} (h0 : 0 ≤ q) (h1 : q ≤ 1) : q = 0 ∨ q = 1 := by omega
theorem ret_str {a b : ByteArray} (h : a = b) : Ending.returned (.string a) = .returned (.string b) := by rw [h]
theorem partsOf_any (code : Int) (w : World) (h0 : 0 ≤ code) (h1 : code ≤ 255) :
    Calls Tryz.prog 77 #[.int .i64 code] w fun e w' => e = .returned (.agg #[.int .i64 (code / 64), .int .i64 (code / 8 % 8), .int .i64 (code % 8), .int .i64 (code / 8 % 8 / 2), .int .i64 (code / 8 % 8 % 2)]) ∧ Below w.heap.size w w' := by
  go_enter Tryz.func77, Tryz.ntmps77
  go_wp2
  refine bodyPost_ret (v := .agg #[.int .i64 (code / 64), .int .i64 (code / 8 % 8), .int .i64 (code % 8), .int .i64 (code / 8 % 8 / 2), .int .i64 (code / 8 % 8 % 2)]) (by simp [results, Tryz.results77, go_sem]) rfl ⟨rfl, ?_⟩
  exact (Below.refl _ _).alloc (Nat.le_refl _) _
def low0 : List ByteArray := [⟨#[110, 111, 112]⟩, ⟨#[108, 100, 32, 91, 110, 49, 54, 93, 44, 115, 112]⟩, ⟨#[115, 116, 111, 112, 32, 110, 56]⟩, ⟨#[106, 114, 32, 101, 56]⟩, ⟨#[106, 114, 32, 67, 44, 101, 56]⟩, ⟨#[106, 114, 32, 67, 44, 101, 56]⟩, ⟨#[106, 114, 32, 67, 44, 101, 56]⟩, ⟨#[106, 114, 32, 67, 44, 101, 56]⟩]
theorem low0_at {i : Int} (h0 : 0 ≤ i) (h1 : i ≤ 7) (w : World) : (Instr.index 109 (.agg #[.string ⟨#[110, 111, 112]⟩, .string ⟨#[108, 100, 32, 91, 110, 49, 54, 93, 44, 115, 112]⟩, .string ⟨#[115, 116, 111, 112, 32, 110, 56]⟩, .string ⟨#[106, 114, 32, 101, 56]⟩, .string ⟨#[106, 114, 32, 67, 44, 101, 56]⟩, .string ⟨#[106, 114, 32, 67, 44, 101, 56]⟩, .string ⟨#[106, 114, 32, 67, 44, 101, 56]⟩, .string ⟨#[106, 114, 32, 67, 44, 101, 56]⟩]) (.int .i64 i)).run Tryz.prog w = .ok (.string (at8 low0 i)) w := by
  rcases cases8 h0 h1 with rfl | rfl | rfl | rfl | rfl | rfl | rfl | rfl
  all_goals kernel_rfl
def low1 : List ByteArray := [⟨#[108, 100, 32, 80, 44, 110, 49, 54]⟩, ⟨#[97, 100, 100, 32, 104, 108, 44, 80]⟩]
theorem low1_at {i : Int} (h0 : 0 ≤ i) (h1 : i ≤ 1) (w : World) : (Instr.index 120 (.agg #[.string ⟨#[108, 100, 32, 80, 44, 110, 49, 54]⟩, .string ⟨#[97, 100, 100, 32, 104, 108, 44, 80]⟩]) (.int .i64 i)).run Tryz.prog w = .ok (.string (at8 low1 i)) w := by
  rcases cases2 h0 h1 with rfl | rfl
  all_goals kernel_rfl
def low2 : List ByteArray := [⟨#[108, 100, 32, 77, 44, 97]⟩, ⟨#[108, 100, 32, 97, 44, 77]⟩]
theorem low2_at {i : Int} (h0 : 0 ≤ i) (h1 : i ≤ 1) (w : World) : (Instr.index 120 (.agg #[.string ⟨#[108, 100, 32, 77, 44, 97]⟩, .string ⟨#[108, 100, 32, 97, 44, 77]⟩]) (.int .i64 i)).run Tryz.prog w = .ok (.string (at8 low2 i)) w := by
  rcases cases2 h0 h1 with rfl | rfl
  all_goals kernel_rfl
def low3 : List ByteArray := [⟨#[105, 110, 99, 32, 80]⟩, ⟨#[100, 101, 99, 32, 80]⟩]
theorem low3_at {i : Int} (h0 : 0 ≤ i) (h1 : i ≤ 1) (w : World) : (Instr.index 120 (.agg #[.string ⟨#[105, 110, 99, 32, 80]⟩, .string ⟨#[100, 101, 99, 32, 80]⟩]) (.int .i64 i)).run Tryz.prog w = .ok (.string (at8 low3 i)) w := by
  rcases cases2 h0 h1 with rfl | rfl
  all_goals kernel_rfl
def low7 : List ByteArray := [⟨#[114, 108, 99, 97]⟩, ⟨#[114, 114, 99, 97]⟩, ⟨#[114, 108, 97]⟩, ⟨#[114, 114, 97]⟩, ⟨#[100, 97, 97]⟩, ⟨#[99, 112, 108]⟩, ⟨#[115, 99, 102]⟩, ⟨#[99, 99, 102]⟩]
theorem low7_at {i : Int} (h0 : 0 ≤ i) (h1 : i ≤ 7) (w : World) : (Instr.index 109 (.agg #[.string ⟨#[114, 108, 99, 97]⟩, .string ⟨#[114, 114, 99, 97]⟩, .string ⟨#[114, 108, 97]⟩, .string ⟨#[114, 114, 97]⟩, .string ⟨#[100, 97, 97]⟩, .string ⟨#[99, 112, 108]⟩, .string ⟨#[115, 99, 102]⟩, .string ⟨#[99, 99, 102]⟩]) (.int .i64 i)).run Tryz.prog w = .ok (.string (at8 low7 i)) w := by
  rcases cases8 h0 h1 with rfl | rfl | rfl | rfl | rfl | rfl | rfl | rfl
  all_goals kernel_rfl
def lowE : List ByteArray := [⟨#[105, 110, 99, 32, 82]⟩, ⟨#[100, 101, 99, 32, 82]⟩, ⟨#[108, 100, 32, 82, 44, 110, 56]⟩]
theorem lowE_0 (w : World) : (Instr.index 106 (.agg #[.string ⟨#[105, 110, 99, 32, 82]⟩, .string ⟨#[100, 101, 99, 32, 82]⟩, .string ⟨#[108, 100, 32, 82, 44, 110, 56]⟩]) (.int .i64 0)).run Tryz.prog w = .ok (.string (at8 lowE 0)) w := by kernel_rfl
theorem lowE_1 (w : World) : (Instr.index 106 (.agg #[.string ⟨#[105, 110, 99, 32, 82]⟩, .string ⟨#[100, 101, 99, 32, 82]⟩, .string ⟨#[108, 100, 32, 82, 44, 110, 56]⟩]) (.int .i64 1)).run Tryz.prog w = .ok (.string (at8 lowE 1)) w := by kernel_rfl
theorem lowE_2 (w : World) : (Instr.index 106 (.agg #[.string ⟨#[105, 110, 99, 32, 82]⟩, .string ⟨#[100, 101, 99, 32, 82]⟩, .string ⟨#[108, 100, 32, 82, 44, 110, 56]⟩]) (.int .i64 2)).run Tryz.prog w = .ok (.string (at8 lowE 2)) w := by kernel_rfl
def lowS (y z : Int) : ByteArray := if z = 0 then at8 low0 y else if z = 1 then at8 low1 (y % 2) else if z = 2 then at8 low2 (y % 2) else if z = 3 then at8 low3 (y % 2) else if z = 7 then at8 low7 y else at8 lowE (z - 4)
theorem lowShape_any (x y z p q : Int) (hq : q = y % 2) (w : World) (y0 : 0 ≤ y) (y1 : y ≤ 7) (z0 : 0 ≤ z) (z1 : z ≤ 7) :
    Calls Tryz.prog 91 #[.agg #[.int .i64 x, .int .i64 y, .int .i64 z, .int .i64 p, .int .i64 q]] w fun e w' => e = .returned (.string (lowS y z)) ∧ Below w.heap.size w w' := by
  subst hq
  have q0 : 0 ≤ y % 2 := by omega
  have q1 : y % 2 ≤ 1 := by omega
  rcases cases8 z0 z1 with rfl | rfl | rfl | rfl | rfl | rfl | rfl | rfl
  · have hi := fun w : World => low0_at (i := y) y0 y1 w
    go_enter Tryz.func91, Tryz.ntmps91
    go_wp2
    go_ret
    exact ⟨rfl, (Below.refl _ _).alloc (Nat.le_refl _) _⟩
  · have hi := fun w : World => low1_at (i := y % 2) q0 q1 w
    go_enter Tryz.func91, Tryz.ntmps91
    go_wp2
    go_ret
    exact ⟨rfl, (Below.refl _ _).alloc (Nat.le_refl _) _⟩
  · have hi := fun w : World => low2_at (i := y % 2) q0 q1 w
    go_enter Tryz.func91, Tryz.ntmps91
    go_wp2
    go_ret
    exact ⟨rfl, (Below.refl _ _).alloc (Nat.le_refl _) _⟩
  · have hi := fun w : World => low3_at (i := y % 2) q0 q1 w
    go_enter Tryz.func91, Tryz.ntmps91
    go_wp2
    go_ret
    exact ⟨rfl, (Below.refl _ _).alloc (Nat.le_refl _) _⟩
  · have hi := fun w : World => lowE_0 w
    go_enter Tryz.func91, Tryz.ntmps91
    go_wp2
    go_ret
    exact ⟨rfl, (Below.refl _ _).alloc (Nat.le_refl _) _⟩
  · have hi := fun w : World => lowE_1 w
    go_enter Tryz.func91, Tryz.ntmps91
    go_wp2
    go_ret
    exact ⟨rfl, (Below.refl _ _).alloc (Nat.le_refl _) _⟩
  · have hi := fun w : World => lowE_2 w
    go_enter Tryz.func91, Tryz.ntmps91
    go_wp2
    go_ret
    exact ⟨rfl, (Below.refl _ _).alloc (Nat.le_refl _) _⟩
  · have hi := fun w : World => low7_at (i := y) y0 y1 w
    go_enter Tryz.func91, Tryz.ntmps91
    go_wp2
    go_ret
    exact ⟨rfl, (Below.refl _ _).alloc (Nat.le_refl _) _⟩
def high0 : List ByteArray := [⟨#[114, 101, 116, 32, 67]⟩, ⟨#[114, 101, 116, 32, 67]⟩, ⟨#[114, 101, 116, 32, 67]⟩, ⟨#[114, 101, 116, 32, 67]⟩, ⟨#[108, 100, 104, 32, 91, 110, 56, 93, 44, 97]⟩, ⟨#[97, 100, 100, 32, 115, 112, 44, 101, 56]⟩, ⟨#[108, 100, 104, 32, 97, 44, 91, 110, 56, 93]⟩, ⟨#[108, 100, 32, 104, 108, 44, 115, 112, 43, 101, 56]⟩]
theorem high0_at {i : Int} (h0 : 0 ≤ i) (h1 : i ≤ 7) (w : World) : (Instr.index 109 (.agg #[.string ⟨#[114, 101, 116, 32, 67]⟩, .string ⟨#[114, 101, 116, 32, 67]⟩, .string ⟨#[114, 101, 116, 32, 67]⟩, .string ⟨#[114, 101, 116, 32, 67]⟩, .string ⟨#[108, 100, 104, 32, 91, 110, 56, 93, 44, 97]⟩, .string ⟨#[97, 100, 100, 32, 115, 112, 44, 101, 56]⟩, .string ⟨#[108, 100, 104, 32, 97, 44, 91, 110, 56, 93]⟩, .string ⟨#[108, 100, 32, 104, 108, 44, 115, 112, 43, 101, 56]⟩]) (.int .i64 i)).run Tryz.prog w = .ok (.string (at8 high0 i)) w := by
  rcases cases8 h0 h1 with rfl | rfl | rfl | rfl | rfl | rfl | rfl | rfl
  all_goals kernel_rfl
def high1 : List ByteArray := [⟨#[112, 111, 112, 32, 81]⟩, ⟨#[114, 101, 116]⟩, ⟨#[112, 111, 112, 32, 81]⟩, ⟨#[114, 101, 116, 105]⟩, ⟨#[112, 111, 112, 32, 81]⟩, ⟨#[106, 112, 32, 104, 108]⟩, ⟨#[112, 111, 112, 32, 81]⟩, ⟨#[108, 100, 32, 115, 112, 44, 104, 108]⟩]
theorem high1_at {i : Int} (h0 : 0 ≤ i) (h1 : i ≤ 7) (w : World) : (Instr.index 109 (.agg #[.string ⟨#[112, 111, 112, 32, 81]⟩, .string ⟨#[114, 101, 116]⟩, .string ⟨#[112, 111, 112, 32, 81]⟩, .string ⟨#[114, 101, 116, 105]⟩, .string ⟨#[112, 111, 112, 32, 81]⟩, .string ⟨#[106, 112, 32, 104, 108]⟩, .string ⟨#[112, 111, 112, 32, 81]⟩, .string ⟨#[108, 100, 32, 115, 112, 44, 104, 108]⟩]) (.int .i64 i)).run Tryz.prog w = .ok (.string (at8 high1 i)) w := by
  rcases cases8 h0 h1 with rfl | rfl | rfl | rfl | rfl | rfl | rfl | rfl
  all_goals kernel_rfl
def high2 : List ByteArray := [⟨#[106, 112, 32, 67, 44, 110, 49, 54]⟩, ⟨#[106, 112, 32, 67, 44, 110, 49, 54]⟩, ⟨#[106, 112, 32, 67, 44, 110, 49, 54]⟩, ⟨#[106, 112, 32, 67, 44, 110, 49, 54]⟩, ⟨#[108, 100, 104, 32, 91, 99, 93, 44, 97]⟩, ⟨#[108, 100, 32, 91, 110, 49, 54, 93, 44, 97]⟩, ⟨#[108, 100, 104, 32, 97, 44, 91, 99, 93]⟩, ⟨#[108, 100, 32, 97, 44, 91, 110, 49, 54, 93]⟩]
theorem high2_at {i : Int} (h0 : 0 ≤ i) (h1 : i ≤ 7) (w : World) : (Instr.index 109 (.agg #[.string ⟨#[106, 112, 32, 67, 44, 110, 49, 54]⟩, .string ⟨#[106, 112, 32, 67, 44, 110, 49, 54]⟩, .string ⟨#[106, 112, 32, 67, 44, 110, 49, 54]⟩, .string ⟨#[106, 112, 32, 67, 44, 110, 49, 54]⟩, .string ⟨#[108, 100, 104, 32, 91, 99, 93, 44, 97]⟩, .string ⟨#[108, 100, 32, 91, 110, 49, 54, 93, 44, 97]⟩, .string ⟨#[108, 100, 104, 32, 97, 44, 91, 99, 93]⟩, .string ⟨#[108, 100, 32, 97, 44, 91, 110, 49, 54, 93]⟩]) (.int .i64 i)).run Tryz.prog w = .ok (.string (at8 high2 i)) w := by
  rcases cases8 h0 h1 with rfl | rfl | rfl | rfl | rfl | rfl | rfl | rfl
  all_goals kernel_rfl
def high3 : List ByteArray := [⟨#[106, 112, 32, 110, 49, 54]⟩, ⟨#[]⟩, ⟨#[]⟩, ⟨#[]⟩, ⟨#[]⟩, ⟨#[]⟩, ⟨#[100, 105]⟩, ⟨#[101, 105]⟩]
theorem high3_at {i : Int} (h0 : 0 ≤ i) (h1 : i ≤ 7) (w : World) : (Instr.index 109 (.agg #[.string ⟨#[106, 112, 32, 110, 49, 54]⟩, .string ⟨#[]⟩, .string ⟨#[]⟩, .string ⟨#[]⟩, .string ⟨#[]⟩, .string ⟨#[]⟩, .string ⟨#[100, 105]⟩, .string ⟨#[101, 105]⟩]) (.int .i64 i)).run Tryz.prog w = .ok (.string (at8 high3 i)) w := by
  rcases cases8 h0 h1 with rfl | rfl | rfl | rfl | rfl | rfl | rfl | rfl
  all_goals kernel_rfl
def high4 : List ByteArray := [⟨#[99, 97, 108, 108, 32, 67, 44, 110, 49, 54]⟩, ⟨#[99, 97, 108, 108, 32, 67, 44, 110, 49, 54]⟩, ⟨#[99, 97, 108, 108, 32, 67, 44, 110, 49, 54]⟩, ⟨#[99, 97, 108, 108, 32, 67, 44, 110, 49, 54]⟩, ⟨#[]⟩, ⟨#[]⟩, ⟨#[]⟩, ⟨#[]⟩]
theorem high4_at {i : Int} (h0 : 0 ≤ i) (h1 : i ≤ 7) (w : World) : (Instr.index 109 (.agg #[.string ⟨#[99, 97, 108, 108, 32, 67, 44, 110, 49, 54]⟩, .string ⟨#[99, 97, 108, 108, 32, 67, 44, 110, 49, 54]⟩, .string ⟨#[99, 97, 108, 108, 32, 67, 44, 110, 49, 54]⟩, .string ⟨#[99, 97, 108, 108, 32, 67, 44, 110, 49, 54]⟩, .string ⟨#[]⟩, .string ⟨#[]⟩, .string ⟨#[]⟩, .string ⟨#[]⟩]) (.int .i64 i)).run Tryz.prog w = .ok (.string (at8 high4 i)) w := by
  rcases cases8 h0 h1 with rfl | rfl | rfl | rfl | rfl | rfl | rfl | rfl
  all_goals kernel_rfl
def high5 : List ByteArray := [⟨#[112, 117, 115, 104, 32, 81]⟩, ⟨#[99, 97, 108, 108, 32, 110, 49, 54]⟩, ⟨#[112, 117, 115, 104, 32, 81]⟩, ⟨#[]⟩, ⟨#[112, 117, 115, 104, 32, 81]⟩, ⟨#[]⟩, ⟨#[112, 117, 115, 104, 32, 81]⟩, ⟨#[]⟩]
theorem high5_at {i : Int} (h0 : 0 ≤ i) (h1 : i ≤ 7) (w : World) : (Instr.index 109 (.agg #[.string ⟨#[112, 117, 115, 104, 32, 81]⟩, .string ⟨#[99, 97, 108, 108, 32, 110, 49, 54]⟩, .string ⟨#[112, 117, 115, 104, 32, 81]⟩, .string ⟨#[]⟩, .string ⟨#[112, 117, 115, 104, 32, 81]⟩, .string ⟨#[]⟩, .string ⟨#[112, 117, 115, 104, 32, 81]⟩, .string ⟨#[]⟩]) (.int .i64 i)).run Tryz.prog w = .ok (.string (at8 high5 i)) w := by
  rcases cases8 h0 h1 with rfl | rfl | rfl | rfl | rfl | rfl | rfl | rfl
  all_goals kernel_rfl
def highE : List ByteArray := [⟨#[65, 32, 97, 44, 110, 56]⟩, ⟨#[114, 115, 116, 32, 72]⟩]
theorem highE_0 (w : World) : (Instr.index 120 (.agg #[.string ⟨#[65, 32, 97, 44, 110, 56]⟩, .string ⟨#[114, 115, 116, 32, 72]⟩]) (.int .i64 0)).run Tryz.prog w = .ok (.string (at8 highE 0)) w := by kernel_rfl
theorem highE_1 (w : World) : (Instr.index 120 (.agg #[.string ⟨#[65, 32, 97, 44, 110, 56]⟩, .string ⟨#[114, 115, 116, 32, 72]⟩]) (.int .i64 1)).run Tryz.prog w = .ok (.string (at8 highE 1)) w := by kernel_rfl
def highS (y z : Int) : ByteArray := if z = 0 then at8 high0 y else if z = 1 then at8 high1 y else if z = 2 then at8 high2 y else if z = 3 then at8 high3 y else if z = 4 then at8 high4 y else if z = 5 then at8 high5 y else at8 highE (z - 6)
theorem highShape_any (x y z p q : Int) (hq : q = y % 2) (w : World) (y0 : 0 ≤ y) (y1 : y ≤ 7) (z0 : 0 ≤ z) (z1 : z ≤ 7) :
    Calls Tryz.prog 92 #[.agg #[.int .i64 x, .int .i64 y, .int .i64 z, .int .i64 p, .int .i64 q]] w fun e w' => e = .returned (.string (highS y z)) ∧ Below w.heap.size w w' := by
  subst hq
  have q0 : 0 ≤ y % 2 := by omega
  have q1 : y % 2 ≤ 1 := by omega
  rcases cases8 z0 z1 with rfl | rfl | rfl | rfl | rfl | rfl | rfl | rfl
  · have hi := fun w : World => high0_at (i := y) y0 y1 w
    go_enter Tryz.func92, Tryz.ntmps92
    go_wp2
    go_ret
    exact ⟨rfl, (Below.refl _ _).alloc (Nat.le_refl _) _⟩
  · have hi := fun w : World => high1_at (i := y) y0 y1 w
    go_enter Tryz.func92, Tryz.ntmps92
    go_wp2
    go_ret
    exact ⟨rfl, (Below.refl _ _).alloc (Nat.le_refl _) _⟩
  · have hi := fun w : World => high2_at (i := y) y0 y1 w
    go_enter Tryz.func92, Tryz.ntmps92
    go_wp2
    go_ret
    exact ⟨rfl, (Below.refl _ _).alloc (Nat.le_refl _) _⟩
  · have hi := fun w : World => high3_at (i := y) y0 y1 w
    go_enter Tryz.func92, Tryz.ntmps92
    go_wp2
    go_ret
    exact ⟨rfl, (Below.refl _ _).alloc (Nat.le_refl _) _⟩
  · have hi := fun w : World => high4_at (i := y) y0 y1 w
    go_enter Tryz.func92, Tryz.ntmps92
    go_wp2
    go_ret
    exact ⟨rfl, (Below.refl _ _).alloc (Nat.le_refl _) _⟩
  · have hi := fun w : World => high5_at (i := y) y0 y1 w
    go_enter Tryz.func92, Tryz.ntmps92
    go_wp2
    go_ret
    exact ⟨rfl, (Below.refl _ _).alloc (Nat.le_refl _) _⟩
  · have hi := fun w : World => highE_0 w
    go_enter Tryz.func92, Tryz.ntmps92
    go_wp2
    go_ret
    exact ⟨rfl, (Below.refl _ _).alloc (Nat.le_refl _) _⟩
  · have hi := fun w : World => highE_1 w
    go_enter Tryz.func92, Tryz.ntmps92
    go_wp2
    go_ret
    exact ⟨rfl, (Below.refl _ _).alloc (Nat.le_refl _) _⟩
def shapeR (code : Int) (cb : Bool) : ByteArray :=
  if cb = true then (if code / 64 = 0 then ⟨#[84, 32, 83]⟩ else ⟨#[66, 32, 89, 44, 83]⟩)
  else if code / 64 = 0 then lowS (code / 8 % 8) (code % 8) else if code = 118 then ⟨#[104, 97, 108, 116]⟩ else if code / 64 = 1 then ⟨#[108, 100, 32, 82, 44, 83]⟩ else if code / 64 = 2 then ⟨#[65, 32, 97, 44, 83]⟩ else highS (code / 8 % 8) (code % 8)
def shape (code : Int) (cb : Bool) : ByteArray := if inB code 0 255 = true then shapeR code cb else ⟨#[]⟩
theorem shapeR_0 {code : Int} (h : code / 64 = 0) : shapeR code false = lowS (code / 8 % 8) (code % 8) := by unfold shapeR; rw [if_neg (by decide), if_pos h]
theorem shapeR_1 {code : Int} (h : code / 64 = 1) (hh : ¬ code = 118) : shapeR code false = ⟨#[108, 100, 32, 82, 44, 83]⟩ := by unfold shapeR; rw [if_neg (by decide), if_neg (by omega), if_neg hh, if_pos h]
theorem shapeR_2 {code : Int} (h : code / 64 = 2) (hh : ¬ code = 118) : shapeR code false = ⟨#[65, 32, 97, 44, 83]⟩ := by unfold shapeR; rw [if_neg (by decide), if_neg (by omega), if_neg hh, if_neg (by omega), if_pos h]
theorem shapeR_3 {code : Int} (h : code / 64 = 3) (hh : ¬ code = 118) : shapeR code false = highS (code / 8 % 8) (code % 8) := by unfold shapeR; rw [if_neg (by decide), if_neg (by omega), if_neg hh, if_neg (by omega), if_neg (by omega)]
theorem shapeR_c0 {code : Int} (h : code / 64 = 0) : shapeR code true = ⟨#[84, 32, 83]⟩ := by unfold shapeR; rw [if_pos rfl, if_pos h]
theorem shapeR_c1 {code : Int} (h : ¬ code / 64 = 0) : shapeR code true = ⟨#[66, 32, 89, 44, 83]⟩ := by unfold shapeR; rw [if_pos rfl, if_neg h]
theorem partsOf_x (code x : Int) (hx : code / 64 = x) (w : World) (h0 : 0 ≤ code) (h1 : code ≤ 255) :
    Calls Tryz.prog 77 #[.int .i64 code] w fun e w' => e = .returned (.agg #[.int .i64 x, .int .i64 (code / 8 % 8), .int .i64 (code % 8), .int .i64 (code / 8 % 8 / 2), .int .i64 (code / 8 % 8 % 2)]) ∧ Below w.heap.size w w' := by
  subst hx; exact partsOf_any code w h0 h1
set_option maxHeartbeats 4000000 in
theorem shapeOf_any (code : Int) (cb : Bool) (w : World) :
    Calls Tryz.prog 70 #[.int .i64 code, .bool cb] w fun e w' => e = .returned (.string (shape code cb)) ∧ Below w.heap.size w w' := by
  unfold shape
  cases hb : inB code 0 255
  · go_enter Tryz.func70, Tryz.ntmps70
    go_wp2_with (go_at_call 90; refine (isByte_any _ _).mono ?_; rintro e w' ⟨rfl, rfl⟩)
    go_ret
    exact ⟨rfl, Below.refl _ _⟩
  obtain ⟨h0, h1⟩ := of_decide_eq_true hb
  rw [if_pos rfl]
  have hx : code / 64 = 0 ∨ code / 64 = 1 ∨ code / 64 = 2 ∨ code / 64 = 3 := by omega
  have y0 : 0 ≤ code / 8 % 8 := by omega
  have y1 : code / 8 % 8 ≤ 7 := by omega
  have z0 : 0 ≤ code % 8 := by omega
  have z1 : code % 8 ≤ 7 := by omega
  by_cases hh : code = 118
  · subst hh
    cases cb
    all_goals
      go_enter Tryz.func70, Tryz.ntmps70
      go_wp2_with (first | (go_at_call 90; refine (isByte_any _ _).mono ?_; rintro e w' ⟨rfl, rfl⟩) | (go_at_call 77; refine (partsOf_any _ _ (by decide) (by decide)).mono ?_; rintro e w1 ⟨rfl, hB1⟩))
      go_ret
      exact ⟨ret_str rfl, hB1.alloc hB1.size _⟩
  have hh' : (code == 118) = false := by simpa using hh
  cases cb
  · rcases hx with hx | hx | hx | hx
    · rw [shapeR_0 hx]
      go_enter Tryz.func70, Tryz.ntmps70
      go_wp2_with (first | (go_at_call 90; refine (isByte_any _ _).mono ?_; rintro e w' ⟨rfl, rfl⟩) | (go_at_call 77; refine (partsOf_x _ _ hx _ h0 h1).mono ?_; rintro e w1 ⟨rfl, hB1⟩) | (go_at_call 91; refine (lowShape_any _ _ _ _ _ (by omega) _ y0 y1 z0 z1).mono ?_; rintro e w2 ⟨rfl, hB2⟩))
      go_ret
      exact ⟨rfl, (hB1.alloc hB1.size _).trans (hB2.mono (hB1.alloc hB1.size _).size)⟩
    · rw [shapeR_1 hx hh]
      go_enter Tryz.func70, Tryz.ntmps70
      go_wp2_with (first | (go_at_call 90; refine (isByte_any _ _).mono ?_; rintro e w' ⟨rfl, rfl⟩) | (go_at_call 77; refine (partsOf_x _ _ hx _ h0 h1).mono ?_; rintro e w1 ⟨rfl, hB1⟩))
      go_ret
      exact ⟨rfl, hB1.alloc hB1.size _⟩
    · rw [shapeR_2 hx hh]
      go_enter Tryz.func70, Tryz.ntmps70
      go_wp2_with (first | (go_at_call 90; refine (isByte_any _ _).mono ?_; rintro e w' ⟨rfl, rfl⟩) | (go_at_call 77; refine (partsOf_x _ _ hx _ h0 h1).mono ?_; rintro e w1 ⟨rfl, hB1⟩))
      go_ret
      exact ⟨rfl, hB1.alloc hB1.size _⟩
    · rw [shapeR_3 hx hh]
      go_enter Tryz.func70, Tryz.ntmps70
      go_wp2_with (first | (go_at_call 90; refine (isByte_any _ _).mono ?_; rintro e w' ⟨rfl, rfl⟩) | (go_at_call 77; refine (partsOf_x _ _ hx _ h0 h1).mono ?_; rintro e w1 ⟨rfl, hB1⟩) | (go_at_call 92; refine (highShape_any _ _ _ _ _ (by omega) _ y0 y1 z0 z1).mono ?_; rintro e w2 ⟨rfl, hB2⟩))
      go_ret
      exact ⟨rfl, (hB1.alloc hB1.size _).trans (hB2.mono (hB1.alloc hB1.size _).size)⟩
  · by_cases hx0 : code / 64 = 0
    · rw [shapeR_c0 hx0]
      go_enter Tryz.func70, Tryz.ntmps70
      go_wp2_with (first | (go_at_call 90; refine (isByte_any _ _).mono ?_; rintro e w' ⟨rfl, rfl⟩) | (go_at_call 77; refine (partsOf_x _ _ hx0 _ h0 h1).mono ?_; rintro e w1 ⟨rfl, hB1⟩))
      go_ret
      exact ⟨rfl, hB1.alloc hB1.size _⟩
    · rw [shapeR_c1 hx0]
      have hx1 : (code / 64 == 0) = false := by simpa using hx0
      go_enter Tryz.func70, Tryz.ntmps70
      go_wp2_with (first | (go_at_call 90; refine (isByte_any _ _).mono ?_; rintro e w' ⟨rfl, rfl⟩) | (go_at_call 77; refine (partsOf_any _ _ h0 h1).mono ?_; rintro e w1 ⟨rfl, hB1⟩))
      go_ret
      exact ⟨rfl, hB1.alloc hB1.size _⟩

end Go.Proofs.YtnfonccimaikgaaGreatDoor.Shape
