/-
  Contracts of ours for spec.l3Length and spec.LengthOf: a number that is nothing just where there is no template.
-/
import Derived.Test.YtnfonccimaikgaaGreatDoorTmpl
import Derived.Test.YtnfonccimaikgaaGreatDoorHole
namespace Go.Proofs.YtnfonccimaikgaaGreatDoor.Leng
open Go.ChangeShapes Go.WideShapes Go.ChangeAt Go.RowKit
open Signed (inB l1In_any)
open Tmpl Hole
set_option linter.unusedVariables false
set_option maxRecDepth 20000

theorem empty_yes {s : ByteArray} (h : s.size = 0) : s.toList.isEmpty = true := by
  rw [ByteArray.toList_eq, List.isEmpty_iff_length_eq_zero, Array.length_toList]; exact h
theorem empty_no {s : ByteArray} (h : ¬ s.size = 0) : s.toList.isEmpty = false := by
  rw [ByteArray.toList_eq]; cases e : s.data.toList with
  | nil => exact absurd (by have := congrArg List.length e; rw [Array.length_toList] at this; exact this) h
  | cons _ _ => rfl
theorem tmpl_all : ∀ (c : Fin 256) (b : Bool), (tmplS (c.val : Int) b).size ≤ 40 := by decide +kernel
theorem tmpl_le (code : Int) (cb : Bool) (h0 : 0 ≤ code) (h1 : code ≤ 255) : (tmplS code cb).size ≤ 40 := by
  have := tmpl_all ⟨code.toNat, by omega⟩ cb
  rwa [show ((⟨code.toNat, by omega⟩ : Fin 256).val : Int) = code by show ((code.toNat : Nat) : Int) = code; omega] at this
def NumOf (T : ByteArray) (e : Ending) : Prop := ∃ n : Int, e = .returned (.int .i64 n) ∧ (n = 0 ↔ T.size = 0) ∧ 0 ≤ n ∧ n ≤ 3
set_option maxHeartbeats 1000000 in
theorem length_any (code : Int) (cb : Bool) (w : World) (h0 : 0 ≤ code) (h1 : code ≤ 255) :
    Calls Tryz.prog 33 #[.int .i64 code, .bool cb] w fun e w' => NumOf (tmplS code cb) e ∧ Below w.heap.size w w' := by
  have c := fun w => template_any code cb w h0 h1
  have hz := tmpl_le code cb h0 h1
  generalize tmplS code cb = T at c hz ⊢
  go_enter Tryz.func33, Tryz.ntmps33
  go_wp2_with fail
  refine (c _).mono ?_
  rintro e w1 ⟨rfl, b1⟩
  have B1 : Hid (Below w.heap.size w w1) := b1
  clear b1 c
  by_cases he : T.size = 0
  · have h' := empty_yes he
    go_wp2
    go_ret
    exact ⟨⟨0, rfl, by omega, by omega, by omega⟩, B1.out⟩
  have h' := empty_no he
  cases cb with
  | true =>
    go_wp2
    go_ret
    exact ⟨⟨2, rfl, by omega, by omega, by omega⟩, B1.out⟩
  | false =>
    go_wp2_with fail
    refine (hole_any T _ (by omega)).mono ?_
    rintro e w2 ⟨⟨i, h, rfl⟩, b2⟩
    have B2 : Hid (Below w.heap.size w w2) := B1.out.trans (b2.mono B1.out.size)
    clear b2 B1
    go_wp2
    all_goals
      go_ret
      exact ⟨⟨_, rfl, by omega, by omega, by omega⟩, B2.out⟩
theorem lengthOf_any (code : Int) (cb : Bool) (w : World) (h0 : 0 ≤ code) (h1 : code ≤ 255) :
    Calls Tryz.prog 65 #[.int .i64 code, .bool cb] w fun e w' => NumOf (tmplS code cb) e ∧ Below w.heap.size w w' := by
  have c := fun w => length_any code cb w h0 h1
  have hin : inB code 0 255 = true := by unfold inB; simp; omega
  have ci := fun w => l1In_any code 0 255 w
  rw [hin] at ci
  generalize tmplS code cb = T at c ⊢
  go_enter Tryz.func65, Tryz.ntmps65
  go_wp2_with (first | (go_at_call 12; refine (ci _).mono ?_; rintro e w' ⟨rfl, hw'⟩; have hw' := hw'.symm; subst hw') | fail)
  refine (c _).mono ?_
  rintro e w1 ⟨⟨n, rfl, hn⟩, b1⟩
  have HN : Hid _ := hn
  have B1 : Hid (Below w.heap.size w w1) := b1
  clear hn b1
  go_wp2
  go_ret
  exact ⟨⟨n, rfl, HN.out⟩, B1.out⟩
theorem lengthOf_out (code : Int) (cb : Bool) (w : World) (h : inB code 0 255 = false) :
    Calls Tryz.prog 65 #[.int .i64 code, .bool cb] w fun e w' => e = .returned (.int .i64 0) ∧ w' = w := by
  have ci := fun w => l1In_any code 0 255 w
  rw [h] at ci
  go_enter Tryz.func65, Tryz.ntmps65
  go_wp2_with (go_at_call 12; refine (ci _).mono ?_; rintro e w' ⟨rfl, hw'⟩; have hw' := hw'.symm; subst hw')
  go_ret
  exact ⟨rfl, rfl⟩
end Go.Proofs.YtnfonccimaikgaaGreatDoor.Leng
