/-
  Contracts of ours for both InsOk: told by the code's hole and what is in it.
-/
import Derived.Test.YtkfehdkjeodbmaaGreatDoorLenX
namespace Go.Proofs.YtkfehdkjeodbmaaGreatDoor.InsX
open Go.ChangeShapes Go.WideShapes Go.ChangeAt Go.RowKit
open Signed (isByte_any)
open Signed (inB l1In_any ret_bool)
open Leng (empty_yes empty_no tmpl_le)
open HoleX (n8 n16 e8 holeT holeP)
open HolI LenX
set_option linter.unusedVariables false
set_option maxRecDepth 20000

theorem isWord_any (n : Int) (w : World) :
    Calls Tryz.prog 91 #[.int .i64 n] w fun e w' => e = .returned (.bool (inB n 0 65535)) ∧ w' = w := by
  go_enter Tryz.func91, Tryz.ntmps91
  go_wp2
  all_goals
    go_ret
    exact ⟨ret_bool (by unfold inB; first | (simp; omega) | simp_all), rfl⟩
theorem lenV_ne (cb : Bool) (h : ByteArray) : ¬ lenV false cb h = 0 := by
  unfold lenV
  rw [if_neg (by decide)]
  by_cases h1 : cb = true
  · rw [if_pos h1]; decide
  rw [if_neg h1]
  by_cases h2 : h.size = 0
  · rw [if_pos h2]; decide
  rw [if_neg h2]
  by_cases h3 : h = n16
  · rw [if_pos h3]; decide
  · rw [if_neg h3]; decide
def okV (code : Int) (cb : Bool) (imm : Int) : Bool := if none? code cb = true then false else if (hole code cb).size = 0 then decide (imm = 0) else if hole code cb = n16 then inB imm 0 65535 else inB imm 0 255
theorem none_impl {code : Int} {cb : Bool} : none? code cb = true → (Shape.shape code cb).size = 0 := by
  intro h
  cases hb : inB code 0 255
  · rw [shape_out hb]; rfl
  · obtain ⟨h0, h1⟩ := of_decide_eq_true hb
    rw [shape_in hb]
    unfold none? at h
    rw [hb] at h
    exact (same_at code cb h0 h1).1.1 (by simpa using h)
theorem some_impl {code : Int} {cb : Bool} (h : none? code cb = false) : inB code 0 255 = true ∧ ¬ (Shape.shape code cb).size = 0 ∧ holeI (Shape.shape code cb) = hole code cb ∧ (Shape.shape code cb).size ≤ 40 := by
  unfold none? at h
  cases hb : inB code 0 255
  · rw [hb] at h; simp at h
  · rw [hb] at h
    obtain ⟨h0, h1⟩ := of_decide_eq_true hb
    obtain ⟨h2, h3, h4⟩ := same_at code cb h0 h1
    rw [shape_in hb]
    refine ⟨rfl, fun hz => ?_, h3, h4⟩
    have := h2.2 hz
    simp [this] at h
theorem hole_cases (code : Int) (cb : Bool) : hole code cb = ⟨#[110, 56]⟩ ∨ hole code cb = ⟨#[110, 49, 54]⟩ ∨ hole code cb = ⟨#[101, 56]⟩ ∨ hole code cb = ⟨#[]⟩ := holeT_cases _
theorem ok_n16 {code : Int} {cb : Bool} {imm : Int} (h : none? code cb = false) (hx : hole code cb = ⟨#[110, 49, 54]⟩) : okV code cb imm = inB imm 0 65535 := by unfold okV; rw [h, hx]; rfl
theorem ok_n8 {code : Int} {cb : Bool} {imm : Int} (h : none? code cb = false) (hx : hole code cb = ⟨#[110, 56]⟩) : okV code cb imm = inB imm 0 255 := by unfold okV; rw [h, hx]; rfl
theorem ok_e8 {code : Int} {cb : Bool} {imm : Int} (h : none? code cb = false) (hx : hole code cb = ⟨#[101, 56]⟩) : okV code cb imm = inB imm 0 255 := by unfold okV; rw [h, hx]; rfl
theorem ok_no {code : Int} {cb : Bool} {imm : Int} (h : none? code cb = false) (hx : hole code cb = ⟨#[]⟩) : okV code cb imm = decide (imm = 0) := by unfold okV; rw [h, hx]; rfl
end Go.Proofs.YtkfehdkjeodbmaaGreatDoor.InsX
