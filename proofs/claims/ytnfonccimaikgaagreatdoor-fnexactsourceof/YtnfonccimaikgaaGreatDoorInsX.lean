/-
  Contracts of ours for both InsOk: told by the code's hole and what is in it.
-/
import Derived.Test.YtnfonccimaikgaaGreatDoorLenX
namespace Go.Proofs.YtnfonccimaikgaaGreatDoor.InsX
open Go.ChangeShapes Go.WideShapes Go.ChangeAt Go.RowKit
open Signed (isByte_any)
open Signed (inB l1In_any ret_bool)
open Leng (empty_yes empty_no tmpl_le)
open HoleX (n8 n16 e8 holeT holeP)
open HolI LenX
set_option linter.unusedVariables false
set_option maxRecDepth 20000

theorem isWord_any (n : Int) (w : World) :
    Calls Tryz.prog 57 #[.int .i64 n] w fun e w' => e = .returned (.bool (inB n 0 65535)) ∧ w' = w := by
  go_enter Tryz.func57, Tryz.ntmps57
  go_wp2
  all_goals
    go_ret
    exact ⟨ret_bool (by unfold inB; first | (simp; omega) | simp_all), rfl⟩
theorem lenV_ne (cb : Bool) (h : ByteArray) : ¬ lenV false cb h = 0 := by
  unfold lenV
  rw [if_neg (by decide)]
  by_cases h1 : cb = true
  · rw [if_pos h1]; decide
  rw [if_neg h1]
  by_cases h2 : h.size = 0
  · rw [if_pos h2]; decide
  rw [if_neg h2]
  by_cases h3 : h = n16
  · rw [if_pos h3]; decide
  · rw [if_neg h3]; decide
def okV (code : Int) (cb : Bool) (imm : Int) : Bool := if none? code cb = true then false else if (hole code cb).size = 0 then decide (imm = 0) else if hole code cb = n16 then inB imm 0 65535 else inB imm 0 255
theorem none_impl {code : Int} {cb : Bool} : none? code cb = true → (Shape.shape code cb).size = 0 := by
  intro h
  cases hb : inB code 0 255
  · rw [shape_out hb]; rfl
  · obtain ⟨h0, h1⟩ := of_decide_eq_true hb
    rw [shape_in hb]
    unfold none? at h
    rw [hb] at h
    exact (same_at code cb h0 h1).1.1 (by simpa using h)
theorem some_impl {code : Int} {cb : Bool} (h : none? code cb = false) : inB code 0 255 = true ∧ ¬ (Shape.shape code cb).size = 0 ∧ holeI (Shape.shape code cb) = hole code cb ∧ (Shape.shape code cb).size ≤ 40 := by
  unfold none? at h
  cases hb : inB code 0 255
  · rw [hb] at h; simp at h
  · rw [hb] at h
    obtain ⟨h0, h1⟩ := of_decide_eq_true hb
    obtain ⟨h2, h3, h4⟩ := same_at code cb h0 h1
    rw [shape_in hb]
    refine ⟨rfl, fun hz => ?_, h3, h4⟩
    have := h2.2 hz
    simp [this] at h
theorem hole_cases (code : Int) (cb : Bool) : hole code cb = ⟨#[110, 56]⟩ ∨ hole code cb = ⟨#[110, 49, 54]⟩ ∨ hole code cb = ⟨#[101, 56]⟩ ∨ hole code cb = ⟨#[]⟩ := holeT_cases _
theorem ok_n16 {code : Int} {cb : Bool} {imm : Int} (h : none? code cb = false) (hx : hole code cb = ⟨#[110, 49, 54]⟩) : okV code cb imm = inB imm 0 65535 := by unfold okV; rw [h, hx]; rfl
theorem ok_n8 {code : Int} {cb : Bool} {imm : Int} (h : none? code cb = false) (hx : hole code cb = ⟨#[110, 56]⟩) : okV code cb imm = inB imm 0 255 := by unfold okV; rw [h, hx]; rfl
theorem ok_e8 {code : Int} {cb : Bool} {imm : Int} (h : none? code cb = false) (hx : hole code cb = ⟨#[101, 56]⟩) : okV code cb imm = inB imm 0 255 := by unfold okV; rw [h, hx]; rfl
theorem ok_no {code : Int} {cb : Bool} {imm : Int} (h : none? code cb = false) (hx : hole code cb = ⟨#[]⟩) : okV code cb imm = decide (imm = 0) := by unfold okV; rw [h, hx]; rfl
set_option maxHeartbeats 1000000 in
theorem implOk_any (code : Int) (cb : Bool) (imm : Int) (w : World) (hm : MaxL w) :
    Calls Tryz.prog 73 #[.agg #[.int .i64 code, .bool cb, .int .i64 imm]] w fun e w' => e = .returned (.bool (okV code cb imm)) ∧ Below w.heap.size w w' := by
  have c := fun w => Shape.shapeOf_any code cb w
  have HM : Hid (MaxL w) := hm
  clear hm
  cases hn : none? code cb
  · obtain ⟨_, hz, hh, h4⟩ := some_impl hn
    have he := empty_no hz
    have ch := fun w hm => holeOf_any (Shape.shape code cb) w (by omega) hm
    rw [hh] at ch
    clear hz hh h4
    generalize Shape.shape code cb = T at c ch he
    have ib := fun w => isByte_any imm w
    have iw := fun w => isWord_any imm w
    rcases hole_cases code cb with hx | hx | hx | hx
    all_goals
      first | rw [ok_n8 hn hx] | rw [ok_n16 hn hx] | rw [ok_e8 hn hx] | rw [ok_no hn hx]
      rw [hx] at ch
      clear hx hn
      go_enter Tryz.func73, Tryz.ntmps73
      go_wp2_with fail
      refine (c _).mono ?_
      rintro e w1 ⟨rfl, b1⟩
      have B1 : Hid (Below _ _ w1) := b1
      have k1 := box b1 2 _ rfl
      clear b1 c
      go_wp2_with fail
      refine (ch _ (HM.out.below (unbox B1.out))).mono ?_
      rintro e w2 ⟨rfl, b2⟩
      have B2 : Hid (Below _ _ w2) := after B1.out b2
      have k2 := box B2.out 2 _ rfl
      clear b2 ch B1 k1
      go_wp2_with first | (go_at_call 90; refine (ib _).mono ?_; rintro e w' ⟨rfl, hw⟩; subst hw) | (go_at_call 57; refine (iw _).mono ?_; rintro e w' ⟨rfl, hw⟩; subst hw)
      go_ret
      exact ⟨by first | rfl | (rw [← beqZ]), unbox B2.out⟩
  · have he := empty_yes (none_impl hn)
    have hv : okV code cb imm = false := by unfold okV; rw [hn]; rfl
    rw [hv]
    generalize Shape.shape code cb = T at c he
    go_enter Tryz.func73, Tryz.ntmps73
    go_wp2_with fail
    refine (c _).mono ?_
    rintro e w1 ⟨rfl, b1⟩
    have B1 : Hid (Below _ _ w1) := b1
    clear b1 c
    go_wp2
    go_ret
    exact ⟨rfl, unbox B1.out⟩
set_option maxHeartbeats 1000000 in
theorem specOk_any (code : Int) (cb : Bool) (imm : Int) (w : World) :
    Calls Tryz.prog 51 #[.agg #[.int .i64 code, .bool cb, .int .i64 imm]] w fun e w' => e = .returned (.bool (okV code cb imm)) ∧ Below w.heap.size w w' := by
  have c := fun w => specLength_any code cb w
  cases hn : none? code cb
  · obtain ⟨hb, _, _, _⟩ := some_impl hn
    obtain ⟨h0, h1⟩ := of_decide_eq_true hb
    have ct := fun w => Tmpl.template_any code cb w h0 h1
    have hz := tmpl_le code cb h0 h1
    have ch := fun w => HoleX.hole_any (Tmpl.tmplS code cb) w (by omega)
    unfold HoleX.ret at ch
    rw [hn] at c
    have hl : ¬ lenV false cb (hole code cb) = 0 := lenV_ne _ _
    generalize lenV false cb (hole code cb) = V at c hl
    rcases hole_cases code cb with hx | hx | hx | hx
    all_goals
      first | rw [ok_n8 hn hx] | rw [ok_n16 hn hx] | rw [ok_e8 hn hx] | rw [ok_no hn hx]
      unfold hole at hx
      rw [hx] at ch
      clear hx hn hz hb
      generalize holeP (Tmpl.tmplS code cb) = Q at ch
      generalize Tmpl.tmplS code cb = T at ct ch
      go_enter Tryz.func51, Tryz.ntmps51
      go_wp2_with fail
      refine (c _).mono ?_
      rintro e w1 ⟨rfl, b1⟩
      have B1 : Hid (Below _ _ w1) := b1
      have k0 := box b1 0 _ rfl
      have k1 := box b1 1 _ rfl
      have k2 := box b1 2 _ rfl
      clear b1 c
      go_wp2_with fail
      refine (ct _).mono ?_
      rintro e w2 ⟨rfl, b2⟩
      have B2 : Hid (Below _ _ w2) := after B1.out b2
      clear b2 ct B1 k0 k1 k2
      have k2 := box B2.out 2 _ rfl
      go_wp2_with fail
      refine (ch _).mono ?_
      rintro e w3 ⟨rfl, b3⟩
      have B3 : Hid (Below _ _ w3) := after B2.out b3
      clear b3 ch B2 k2
      have k2 := box B3.out 2 _ rfl
      go_wp2_with (go_at_call 12; refine (l1In_any _ _ _ _).mono ?_; rintro e w' ⟨rfl, hw⟩; subst hw)
      go_ret
      exact ⟨by first | rfl | (rw [← beqZ]), unbox B3.out⟩
  · have hv : okV code cb imm = false := by unfold okV; rw [hn]; rfl
    rw [hv]
    rw [hn] at c
    have hl : lenV true cb (hole code cb) = 0 := rfl
    rw [hl] at c
    go_enter Tryz.func51, Tryz.ntmps51
    go_wp2_with fail
    refine (c _).mono ?_
    rintro e w1 ⟨rfl, b1⟩
    have B1 : Hid (Below _ _ w1) := b1
    clear b1 c
    go_wp2
    go_ret
    exact ⟨rfl, unbox B1.out⟩
end Go.Proofs.YtnfonccimaikgaaGreatDoor.InsX
