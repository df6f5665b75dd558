/-
  Contracts of ours for both sides' lengths: impl.holeOf, impl.LengthOf, spec.l3Length, spec.LengthOf, told exactly by the shape's hole and the template's; that both are one at every code.
-/
import Derived.Test.YtnfonccimaikgaaGreatDoorHolI
import Derived.Test.YtnfonccimaikgaaGreatDoorLeng
import Derived.Test.YtnfonccimaikgaaGreatDoorShape
namespace Go.Proofs.YtnfonccimaikgaaGreatDoor.LenX
open Go.ChangeShapes Go.WideShapes Go.ChangeAt Go.RowKit
open Signed (inB l1In_any)
open Leng (empty_yes empty_no tmpl_le)
open HoleX (n8 n16 e8 holeT holeP)
open HolI
set_option linter.unusedVariables false
set_option maxRecDepth 20000

theorem holeT_cases (s : ByteArray) : holeT s = ⟨#[110, 56]⟩ ∨ holeT s = ⟨#[110, 49, 54]⟩ ∨ holeT s = ⟨#[101, 56]⟩ ∨ holeT s = ⟨#[]⟩ := by
  unfold holeT
  split
  · exact .inr (.inl rfl)
  split
  · exact .inl rfl
  split
  · exact .inr (.inr (.inl rfl))
  · exact .inr (.inr (.inr rfl))
theorem beqN (n : Nat) : (n == 0) = decide (n = 0) := by by_cases h : n = 0 <;> simp [h]
theorem beqZ (n : Int) : (n == 0) = decide (n = 0) := by by_cases h : n = 0 <;> simp [h]
def lenV (z : Bool) (cb : Bool) (h : ByteArray) : Int := if z = true then 0 else if cb = true then 2 else if h.size = 0 then 1 else if h = n16 then 3 else 2
/-- What both sides tell of a code: whether there is none, and its hole. -/
def none? (code : Int) (cb : Bool) : Bool := !inB code 0 255 || (Tmpl.tmplS code cb).size == 0
def hole (code : Int) (cb : Bool) : ByteArray := holeT (Tmpl.tmplS code cb)
theorem same_all : ∀ (c : Fin 256) (b : Bool), ((Tmpl.tmplS (c.val : Int) b).size = 0 ↔ (Shape.shapeR (c.val : Int) b).size = 0) ∧ holeI (Shape.shapeR (c.val : Int) b) = holeT (Tmpl.tmplS (c.val : Int) b) ∧ (Shape.shapeR (c.val : Int) b).size ≤ 40 := by decide +kernel
theorem same_at (code : Int) (cb : Bool) (h0 : 0 ≤ code) (h1 : code ≤ 255) : ((Tmpl.tmplS code cb).size = 0 ↔ (Shape.shapeR code cb).size = 0) ∧ holeI (Shape.shapeR code cb) = holeT (Tmpl.tmplS code cb) ∧ (Shape.shapeR code cb).size ≤ 40 := by
  have := same_all ⟨code.toNat, by omega⟩ cb
  rwa [show ((⟨code.toNat, by omega⟩ : Fin 256).val : Int) = code by show ((code.toNat : Nat) : Int) = code; omega] at this
theorem shape_in {code : Int} {cb : Bool} (h : inB code 0 255 = true) : Shape.shape code cb = Shape.shapeR code cb := by unfold Shape.shape; rw [if_pos h]
theorem shape_out {code : Int} {cb : Bool} (h : inB code 0 255 = false) : Shape.shape code cb = ⟨#[]⟩ := by unfold Shape.shape; rw [h]; rfl
set_option maxHeartbeats 1000000 in
theorem implLength_any (code : Int) (cb : Bool) (w : World) (hm : MaxL w) :
    Calls Tryz.prog 53 #[.int .i64 code, .bool cb] w fun e w' => e = .returned (.int .i64 (lenV (none? code cb) cb (hole code cb))) ∧ Below w.heap.size w w' := by
  have c := fun w => Shape.shapeOf_any code cb w
  cases hb : inB code 0 255
  · have hz : (Shape.shape code cb).size = 0 := by rw [shape_out hb]; rfl
    have he := empty_yes hz
    have hn : none? code cb = true := by unfold none?; rw [hb]; rfl
    rw [hn]
    generalize Shape.shape code cb = T at c he
    go_enter Tryz.func53, Tryz.ntmps53
    go_wp2_with fail
    refine (c _).mono ?_
    rintro e w1 ⟨rfl, b1⟩
    have B1 : Hid (Below w.heap.size w w1) := b1
    clear b1 c
    go_wp2
    go_ret
    exact ⟨rfl, B1.out⟩
  obtain ⟨h0, h1⟩ := of_decide_eq_true hb
  obtain ⟨h2, h3, h4⟩ := same_at code cb h0 h1
  have hn : none? code cb = (decide ((Shape.shapeR code cb).size = 0)) := by
    unfold none?; rw [hb]; show (_ == 0) = _; rw [beqN]; exact decide_eq_decide.2 h2
  have hh : hole code cb = holeI (Shape.shapeR code cb) := h3.symm
  rw [hn, hh]
  rw [shape_in hb] at c
  clear hn hh h2 h3 hb
  generalize Shape.shapeR code cb = T at c h4 ⊢
  by_cases hz : T.size = 0
  · have he := empty_yes hz
    rw [show decide (T.size = 0) = true from decide_eq_true hz]
    go_enter Tryz.func53, Tryz.ntmps53
    go_wp2_with fail
    refine (c _).mono ?_
    rintro e w1 ⟨rfl, b1⟩
    have B1 : Hid (Below w.heap.size w w1) := b1
    clear b1 c
    go_wp2
    go_ret
    exact ⟨rfl, B1.out⟩
  have he := empty_no hz
  rw [show decide (T.size = 0) = false from decide_eq_false hz]
  have ch := fun w hm => holeOf_any T w (by omega) hm
  have HM : Hid (MaxL w) := hm
  clear hm
  cases cb with
  | true =>
    go_enter Tryz.func53, Tryz.ntmps53
    go_wp2_with fail
    refine (c _).mono ?_
    rintro e w1 ⟨rfl, b1⟩
    have B1 : Hid (Below w.heap.size w w1) := b1
    clear b1 c
    go_wp2
    go_ret
    exact ⟨rfl, B1.out⟩
  | false =>
    rcases holeI_cases T with hx | hx | hx | hx
    all_goals
      rw [hx] at ch ⊢
      go_enter Tryz.func53, Tryz.ntmps53
      go_wp2_with fail
      refine (c _).mono ?_
      rintro e w1 ⟨rfl, b1⟩
      have B1 : Hid (Below w.heap.size w w1) := b1
      clear b1 c
      go_wp2_with fail
      refine (ch _ (HM.out.below B1.out)).mono ?_
      rintro e w2 ⟨rfl, b2⟩
      have B2 : Hid (Below w.heap.size w w2) := B1.out.trans (b2.mono B1.out.size)
      clear b2 ch B1
      go_wp2
      go_ret
      exact ⟨rfl, B2.out⟩
set_option maxHeartbeats 1000000 in
theorem length_any (code : Int) (cb : Bool) (w : World) (h0 : 0 ≤ code) (h1 : code ≤ 255) :
    Calls Tryz.prog 33 #[.int .i64 code, .bool cb] w fun e w' => e = .returned (.int .i64 (lenV (decide ((Tmpl.tmplS code cb).size = 0)) cb (hole code cb))) ∧ Below w.heap.size w w' := by
  have c := fun w => Tmpl.template_any code cb w h0 h1
  have hz := tmpl_le code cb h0 h1
  unfold hole
  generalize Tmpl.tmplS code cb = T at c hz ⊢
  by_cases he : T.size = 0
  · have h' := empty_yes he
    rw [show decide (T.size = 0) = true from decide_eq_true he]
    go_enter Tryz.func33, Tryz.ntmps33
    go_wp2_with fail
    refine (c _).mono ?_
    rintro e w1 ⟨rfl, b1⟩
    have B1 : Hid (Below w.heap.size w w1) := b1
    clear b1 c
    go_wp2
    go_ret
    exact ⟨rfl, B1.out⟩
  have h' := empty_no he
  rw [show decide (T.size = 0) = false from decide_eq_false he]
  have ch := fun w => HoleX.hole_any T w (by omega)
  cases cb with
  | true =>
    go_enter Tryz.func33, Tryz.ntmps33
    go_wp2_with fail
    refine (c _).mono ?_
    rintro e w1 ⟨rfl, b1⟩
    have B1 : Hid (Below w.heap.size w w1) := b1
    clear b1 c
    go_wp2
    go_ret
    exact ⟨rfl, B1.out⟩
  | false =>
    unfold HoleX.ret at ch
    rcases holeT_cases T with hx | hx | hx | hx
    all_goals
      rw [hx] at ch ⊢
      go_enter Tryz.func33, Tryz.ntmps33
      go_wp2_with fail
      refine (c _).mono ?_
      rintro e w1 ⟨rfl, b1⟩
      have B1 : Hid (Below w.heap.size w w1) := b1
      clear b1 c
      go_wp2_with fail
      refine (ch _).mono ?_
      rintro e w2 ⟨rfl, b2⟩
      have B2 : Hid (Below w.heap.size w w2) := B1.out.trans (b2.mono B1.out.size)
      clear b2 ch B1
      go_wp2
      go_ret
      exact ⟨rfl, B2.out⟩
theorem specLength_any (code : Int) (cb : Bool) (w : World) :
    Calls Tryz.prog 65 #[.int .i64 code, .bool cb] w fun e w' => e = .returned (.int .i64 (lenV (none? code cb) cb (hole code cb))) ∧ Below w.heap.size w w' := by
  cases hb : inB code 0 255
  · have hn : none? code cb = true := by unfold none?; rw [hb]; rfl
    rw [hn]
    refine (Leng.lengthOf_out code cb w hb).mono ?_
    rintro e w' ⟨rfl, rfl⟩
    exact ⟨rfl, Below.refl _ _⟩
  obtain ⟨h0, h1⟩ := of_decide_eq_true hb
  have c := fun w => length_any code cb w h0 h1
  have ci := fun w => l1In_any code 0 255 w
  rw [hb] at ci
  have hn : none? code cb = decide ((Tmpl.tmplS code cb).size = 0) := by unfold none?; rw [hb]; show (_ == 0) = _; rw [beqN]
  rw [hn]
  generalize lenV (decide ((Tmpl.tmplS code cb).size = 0)) cb (hole code cb) = V at c ⊢
  go_enter Tryz.func65, Tryz.ntmps65
  go_wp2_with (first | (go_at_call 12; refine (ci _).mono ?_; rintro e w' ⟨rfl, hw'⟩; have hw' := hw'.symm; subst hw') | fail)
  refine (c _).mono ?_
  rintro e w1 ⟨rfl, b1⟩
  have B1 : Hid (Below w.heap.size w w1) := b1
  clear b1
  go_wp2
  go_ret
  exact ⟨rfl, B1.out⟩
end Go.Proofs.YtnfonccimaikgaaGreatDoor.LenX
