/-
  The contract of ours for spec.l3Template at every code.
-/
import Derived.Test.YtnfonccimaikgaaGreatDoorTmplA
import Derived.Test.YtnfonccimaikgaaGreatDoorLowT
import Derived.Test.YtnfonccimaikgaaGreatDoorTopT
namespace Go.Proofs.YtnfonccimaikgaaGreatDoor.Tmpl
open Go.ChangeShapes Go.WideShapes Go.ChangeAt Go.RowKit
open Tabs
set_option linter.unusedVariables false
set_option maxRecDepth 20000

def tmplS (code : Int) (cb : Bool) : ByteArray :=
  if cb = true then
    (if code / 64 = 0 then at8 turns (code / 8 % 8) ++ ⟨#[32]⟩ ++ at8 regs (code % 8)
     else at8 bitW (code / 64) ++ at8 decs (code / 8 % 8) ++ ⟨#[44]⟩ ++ at8 regs (code % 8))
  else if code / 64 = 0 then LowT.lowS (code / 8 % 8) (code % 8)
  else if code = 118 then ⟨#[104, 97, 108, 116]⟩
  else if code / 64 = 1 then ⟨#[108, 100, 32]⟩ ++ at8 regs (code / 8 % 8) ++ ⟨#[44]⟩ ++ at8 regs (code % 8)
  else if code / 64 = 2 then at8 alus (code / 8 % 8) ++ ⟨#[32, 97, 44]⟩ ++ at8 regs (code % 8)
  else TopT.topS (code / 8 % 8) (code % 8)
theorem low_t (code y z : Int) (w : World) (hx : code / 64 = 0) (hy : code / 8 % 8 = y) (hz : code % 8 = z) (h0 : 0 ≤ code) (h1 : code ≤ 255) :
    Calls Tryz.prog 34 #[.int .i64 code, .bool false] w fun e w' => e = .returned (.string (LowT.lowS y z)) ∧ Below w.heap.size w w' := by
  have c := fun w => LowT.low_any y z w (by omega) (by omega) (by omega) (by omega)
  generalize LowT.lowS y z = T at c ⊢
  go_enter Tryz.func34, Tryz.ntmps34
  go_wp2_with fail
  simp only [hy, hz]
  refine (c _).mono ?_
  rintro e w1 ⟨rfl, b1⟩
  have B1 : Hid (Below w.heap.size w w1) := b1
  clear b1
  go_wp2
  go_ret
  exact ⟨rfl, B1.out⟩
theorem top_t (code y z : Int) (w : World) (hx : code / 64 = 3) (hy : code / 8 % 8 = y) (hz : code % 8 = z) (h0 : 0 ≤ code) (h1 : code ≤ 255) :
    Calls Tryz.prog 34 #[.int .i64 code, .bool false] w fun e w' => e = .returned (.string (TopT.topS y z)) ∧ Below w.heap.size w w' := by
  have c := fun w => TopT.top_any y z w (by omega) (by omega) (by omega) (by omega)
  have hh : ¬ code = 118 := by omega
  generalize TopT.topS y z = T at c ⊢
  go_enter Tryz.func34, Tryz.ntmps34
  go_wp2_with fail
  simp only [hy, hz]
  refine (c _).mono ?_
  rintro e w1 ⟨rfl, b1⟩
  have B1 : Hid (Below w.heap.size w w1) := b1
  clear b1
  go_wp2
  go_ret
  exact ⟨rfl, B1.out⟩
theorem template_any (code : Int) (cb : Bool) (w : World) (h0 : 0 ≤ code) (h1 : code ≤ 255) :
    Calls Tryz.prog 34 #[.int .i64 code, .bool cb] w fun e w' => e = .returned (.string (tmplS code cb)) ∧ Below w.heap.size w w' := by
  unfold tmplS
  cases cb with
  | true =>
    rw [if_pos rfl]
    by_cases h : code / 64 = 0
    · rw [if_pos h]; exact TmplA.turn_any code _ _ w h rfl rfl h0 h1
    · rw [if_neg h]; exact TmplA.bit_x code _ _ w _ rfl (by omega) rfl rfl h0 h1
  | false =>
    rw [if_neg (by decide)]
    by_cases h : code / 64 = 0
    · rw [if_pos h]; exact low_t code _ _ w h rfl rfl h0 h1
    rw [if_neg h]
    by_cases h8 : code = 118
    · subst h8; rw [if_pos rfl]; exact TmplA.halt_any w
    rw [if_neg h8]
    by_cases h2 : code / 64 = 1
    · rw [if_pos h2]; exact TmplA.ld_any code _ _ w h2 h8 rfl rfl h0 h1
    rw [if_neg h2]
    by_cases h3 : code / 64 = 2
    · rw [if_pos h3]; exact TmplA.sum_any code _ _ w h3 rfl rfl h0 h1
    rw [if_neg h3]
    exact top_t code _ _ w (by omega) rfl rfl h0 h1
end Go.Proofs.YtnfonccimaikgaaGreatDoor.Tmpl
