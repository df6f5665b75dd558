/-
  Contracts of ours for both CyclesOf as one number at every code, and what that number is.
-/
import Derived.Test.YtkfehdkjeodbmaaGreatDoorCycO
import Derived.Test.YtkfehdkjeodbmaaGreatDoorCycP
import Derived.Test.YtkfehdkjeodbmaaGreatDoorLenX
namespace Go.Proofs.YtkfehdkjeodbmaaGreatDoor.CycX
open Go.ChangeShapes Go.WideShapes Go.ChangeAt Go.RowKit
open Signed (inB)
set_option linter.unusedVariables false
set_option maxRecDepth 20000

theorem both_all : ∀ (c : Fin 256) (b : Bool), ((Tmpl.tmplS (c.val : Int) b).size = 0 ↔ (Shape.shapeR (c.val : Int) b).size = 0) ∧ ((Tmpl.tmplS (c.val : Int) b).size ≠ 0 → b = false → (c.val : Int) / 64 = 3 → ¬ CycD.goneB ((c.val : Int) / 8 % 8) ((c.val : Int) % 8) = true) := by decide +kernel
theorem both (code : Int) (cb : Bool) (h0 : 0 ≤ code) (h1 : code ≤ 255) : ((Tmpl.tmplS code cb).size = 0 ↔ (Shape.shapeR code cb).size = 0) ∧ ((Tmpl.tmplS code cb).size ≠ 0 → cb = false → code / 64 = 3 → ¬ CycD.goneB (code / 8 % 8) (code % 8) = true) := by
  have := both_all ⟨code.toNat, by omega⟩ cb
  rwa [show ((⟨code.toNat, by omega⟩ : Fin 256).val : Int) = code by show ((code.toNat : Nat) : Int) = code; omega] at this
theorem shape_in {code : Int} {cb : Bool} (h : inB code 0 255 = true) : Shape.shape code cb = Shape.shapeR code cb := by unfold Shape.shape; rw [if_pos h]
theorem shape_out {code : Int} {cb : Bool} (h : inB code 0 255 = false) : Shape.shape code cb = ⟨#[]⟩ := by unfold Shape.shape; rw [h]; rfl
def Sp (code : Int) (cb t : Bool) (v : Int) : Prop := ∀ w, Calls Tryz.prog 54 #[.int .i64 code, .bool cb, .bool t] w fun e w' => e = .returned (.int .i64 v) ∧ Below w.heap.size w w'
def Im (code : Int) (cb t : Bool) (v : Int) : Prop := ∀ w, Calls Tryz.prog 60 #[.int .i64 code, .bool cb, .bool t] w fun e w' => e = .returned (.int .i64 v) ∧ Below w.heap.size w w'
theorem spec_none (code : Int) (cb t : Bool) (hl : ∀ w, Calls Tryz.prog 88 #[.int .i64 code, .bool cb] w fun e w' => e = .returned (.int .i64 0) ∧ Below w.heap.size w w') : Sp code cb t 0 := fun w => by
  go_enter Tryz.func54, Tryz.ntmps54
  go_wp2_with fail
  refine (hl _).mono ?_
  rintro e w1 ⟨rfl, b1⟩
  have B1 : Hid (Below w.heap.size w w1) := b1
  clear b1 hl
  go_wp2
  go_ret
  exact ⟨rfl, B1.out⟩
theorem impl_none (code : Int) (cb t : Bool) (hs : (Shape.shape code cb).size = 0) : Im code cb t 0 := fun w => by
  have c := fun w => Shape.shapeOf_any code cb w
  have he := Leng.empty_yes hs
  generalize Shape.shape code cb = T at c he
  go_enter Tryz.func60, Tryz.ntmps60
  go_wp2_with fail
  refine (c _).mono ?_
  rintro e w1 ⟨rfl, b1⟩
  have B1 : Hid (Below w.heap.size w w1) := b1
  clear b1 c
  go_wp2
  go_ret
  exact ⟨rfl, B1.out⟩
def cyc (code : Int) (cb t : Bool) : Int := if LenX.none? code cb = true then 0 else CycQ.cycV code cb t
theorem same (code : Int) (cb t : Bool) : Sp code cb t (cyc code cb t) ∧ Im code cb t (cyc code cb t) := by
  cases hb : inB code 0 255
  · have hn : LenX.none? code cb = true := by unfold LenX.none?; rw [hb]; rfl
    have hc : cyc code cb t = 0 := by unfold cyc; rw [if_pos hn]
    rw [hc]
    refine ⟨spec_none code cb t (fun w => (Leng.lengthOf_out code cb w hb).mono ?_), impl_none code cb t ?_⟩
    · rintro e w' ⟨he, hw⟩
      exact ⟨he, by rw [hw]; exact Below.refl _ _⟩
    · rw [shape_out hb]; rfl
  obtain ⟨h0, h1⟩ := of_decide_eq_true hb
  obtain ⟨h2, h3⟩ := both code cb h0 h1
  by_cases hz : (Tmpl.tmplS code cb).size = 0
  · have hn : LenX.none? code cb = true := by unfold LenX.none?; rw [hz]; simp
    have hc : cyc code cb t = 0 := by unfold cyc; rw [if_pos hn]
    rw [hc]
    refine ⟨spec_none code cb t (fun w => (Leng.lengthOf_any code cb w h0 h1).mono ?_), impl_none code cb t ?_⟩
    · rintro e w' ⟨⟨n, rfl, hn, _⟩, hw⟩
      exact ⟨by rw [hn.2 hz], hw⟩
    · rw [shape_in hb]; exact h2.1 hz
  · have hn : LenX.none? code cb = false := by unfold LenX.none?; rw [hb]; simp [hz]
    have hc : cyc code cb t = CycQ.cycV code cb t := by unfold cyc; rw [hn]; rfl
    rw [hc]
    refine ⟨fun w => CycO.spec_any code cb t w h0 h1 (fun w => (Leng.lengthOf_any code cb w h0 h1).mono ?_), fun w => CycP.impl_any code cb t w h0 h1 (fun w => (Shape.shapeOf_any code cb w).mono ?_) (h3 hz)⟩
    · rintro e w' ⟨⟨n, rfl, hn, _⟩, hw⟩
      exact ⟨⟨n, rfl, fun h => hz (hn.1 h)⟩, hw⟩
    · rintro e w' ⟨rfl, hw⟩
      exact ⟨⟨_, rfl, fun h => hz (h2.2 (by rwa [shape_in hb] at h))⟩, hw⟩
theorem range_all : ∀ (c : Fin 256) (b t : Bool), LenX.none? (c.val : Int) b = false → 0 < CycQ.cycV (c.val : Int) b t ∧ CycQ.cycV (c.val : Int) b t < 7 ∧ CycQ.cycV (c.val : Int) b false ≤ CycQ.cycV (c.val : Int) b true := by decide +kernel
theorem range (code : Int) (cb t : Bool) (h0 : 0 ≤ code) (h1 : code ≤ 255) (h : LenX.none? code cb = false) : 0 < cyc code cb t ∧ cyc code cb t < 7 ∧ cyc code cb false ≤ cyc code cb true := by
  have := range_all ⟨code.toNat, by omega⟩ cb t
  rw [show ((⟨code.toNat, by omega⟩ : Fin 256).val : Int) = code by show ((code.toNat : Nat) : Int) = code; omega] at this
  unfold cyc
  rw [h]
  exact this h
theorem none_at (code : Int) (cb t : Bool) (h : LenX.none? code cb = true) : cyc code cb t = 0 := by unfold cyc; rw [if_pos h]
end Go.Proofs.YtkfehdkjeodbmaaGreatDoor.CycX
