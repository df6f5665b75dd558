/- For every code, prefix or none, taken or not, the law FnExactCyclesOf answers true, that is, impl.CyclesOf answers as spec.CyclesOf does. -/
import Derived.Test.YtimnngkjggipbaaRows
import Derived.WalkKit
import Derived.ProofKit
import Derived.OpenShut
import Derived.ShutString
import Derived.ChangeOld
import Derived.Below
import Derived.Test.YtimnngkjggipbaaCycO
import Derived.Test.YtimnngkjggipbaaCycP
namespace Go.Proofs.Ytimnngkjggipbaa.fnExactCyclesOf
open Go.ChangeShapes Go.WideShapes Go.ChangeAt Go.RowKit
open Go.ChangeMaps (open_string shut_string)
set_option linter.unusedVariables false

theorem own : ownKnob Try.prog.godebug = none := by kernel_rfl
theorem laidOut : laidOutB Try.prog = true := by kernel_rfl
set_option maxRecDepth 20000
open Signed (inB)
theorem both_all : ∀ (c : Fin 256) (b : Bool), ((Tmpl.tmplS (c.val : Int) b).size = 0 ↔ (Shape.shapeR (c.val : Int) b).size = 0) ∧ ((Tmpl.tmplS (c.val : Int) b).size ≠ 0 → b = false → (c.val : Int) / 64 = 3 → ¬ CycD.goneB ((c.val : Int) / 8 % 8) ((c.val : Int) % 8) = true) := by decide +kernel
theorem both (code : Int) (cb : Bool) (h0 : 0 ≤ code) (h1 : code ≤ 255) : ((Tmpl.tmplS code cb).size = 0 ↔ (Shape.shapeR code cb).size = 0) ∧ ((Tmpl.tmplS code cb).size ≠ 0 → cb = false → code / 64 = 3 → ¬ CycD.goneB (code / 8 % 8) (code % 8) = true) := by
  have := both_all ⟨code.toNat, by omega⟩ cb
  rwa [show ((⟨code.toNat, by omega⟩ : Fin 256).val : Int) = code by show ((code.toNat : Nat) : Int) = code; omega] at this
theorem shape_in {code : Int} {cb : Bool} (h : inB code 0 255 = true) : Shape.shape code cb = Shape.shapeR code cb := by unfold Shape.shape; rw [if_pos h]
theorem shape_out {code : Int} {cb : Bool} (h : inB code 0 255 = false) : Shape.shape code cb = ⟨#[]⟩ := by unfold Shape.shape; rw [h]; rfl
def Sp (code : Int) (cb t : Bool) (v : Int) : Prop := ∀ w, Calls Try.prog 10 #[.int .i64 code, .bool cb, .bool t] w fun e w' => e = .returned (.int .i64 v) ∧ Below w.heap.size w w'
def Im (code : Int) (cb t : Bool) (v : Int) : Prop := ∀ w, Calls Try.prog 11 #[.int .i64 code, .bool cb, .bool t] w fun e w' => e = .returned (.int .i64 v) ∧ Below w.heap.size w w'
theorem spec_none (code : Int) (cb t : Bool) (hl : ∀ w, Calls Try.prog 8 #[.int .i64 code, .bool cb] w fun e w' => e = .returned (.int .i64 0) ∧ Below w.heap.size w w') : Sp code cb t 0 := fun w => by
  go_enter Try.func10, Try.ntmps10
  go_wp2_with fail
  refine (hl _).mono ?_
  rintro e w1 ⟨rfl, b1⟩
  have B1 : Hid (Below w.heap.size w w1) := b1
  clear b1 hl
  go_wp2
  go_ret
  exact ⟨rfl, B1.out⟩
theorem impl_none (code : Int) (cb t : Bool) (hs : (Shape.shape code cb).size = 0) : Im code cb t 0 := fun w => by
  have c := fun w => Shape.shapeOf_any code cb w
  have he := Leng.empty_yes hs
  generalize Shape.shape code cb = T at c he
  go_enter Try.func11, Try.ntmps11
  go_wp2_with fail
  refine (c _).mono ?_
  rintro e w1 ⟨rfl, b1⟩
  have B1 : Hid (Below w.heap.size w w1) := b1
  clear b1 c
  go_wp2
  go_ret
  exact ⟨rfl, B1.out⟩
theorem same (code : Int) (cb t : Bool) : ∃ v, Sp code cb t v ∧ Im code cb t v := by
  cases hb : inB code 0 255
  · refine ⟨0, spec_none code cb t (fun w => (Leng.lengthOf_out code cb w hb).mono ?_), impl_none code cb t ?_⟩
    · rintro e w' ⟨he, hw⟩
      exact ⟨he, by rw [hw]; exact Below.refl _ _⟩
    · rw [shape_out hb]; rfl
  obtain ⟨h0, h1⟩ := of_decide_eq_true hb
  obtain ⟨h2, h3⟩ := both code cb h0 h1
  by_cases hz : (Tmpl.tmplS code cb).size = 0
  · refine ⟨0, spec_none code cb t (fun w => (Leng.lengthOf_any code cb w h0 h1).mono ?_), impl_none code cb t ?_⟩
    · rintro e w' ⟨⟨n, rfl, hn, _⟩, hw⟩
      exact ⟨by rw [hn.2 hz], hw⟩
    · rw [shape_in hb]; exact h2.1 hz
  · refine ⟨CycQ.cycV code cb t, fun w => CycO.spec_any code cb t w h0 h1 (fun w => (Leng.lengthOf_any code cb w h0 h1).mono ?_), fun w => CycP.impl_any code cb t w h0 h1 (fun w => (Shape.shapeOf_any code cb w).mono ?_) (h3 hz)⟩
    · rintro e w' ⟨⟨n, rfl, hn, _⟩, hw⟩
      exact ⟨⟨n, rfl, fun h => hz (hn.1 h)⟩, hw⟩
    · rintro e w' ⟨rfl, hw⟩
      exact ⟨⟨_, rfl, fun h => hz (h2.2 (by rwa [shape_in hb] at h))⟩, hw⟩

set_option maxHeartbeats 2000000 in
theorem walk (w : World) (a0 : Int) (w0 : (Lit.int .i64 a0).wf = true) (a1 : Bool) (a2 : Bool) :
    Calls Try.prog 4 #[.int .i64 a0, .bool a1, .bool a2] w fun e w' => e = .returned (.bool true) ∧ Below w.heap.size w w' := by
  obtain ⟨v, cs, ci⟩ := same a0 a1 a2
  clear w0
  go_enter Try.func4, Try.ntmps4
  go_wp2_with fail
  refine (cs _).mono ?_
  rintro e w1 ⟨rfl, b1⟩
  have B1 : Hid (Below w.heap.size w w1) := b1
  clear b1 cs
  go_wp2_with fail
  refine (ci _).mono ?_
  rintro e w2 ⟨rfl, b2⟩
  have B2 : Hid (Below w.heap.size w w2) := B1.out.trans (b2.mono B1.out.size)
  clear b2 ci B1
  go_wp2
  go_ret
  exact ⟨rfl, B2.out⟩

set_option maxRecDepth 100000 in
theorem lifted (os : Os) (started : os.Started) (H : Type) (enc : TypeId × Value → H) :
    ReturnsInHanded {} Try.checked os 4 .any (Rows.fnExactCyclesOfSpec.pre6 enc Try.prog Try.f4 Rows.fnExactCyclesOfRow.domain false) (Rows.fnExactCyclesOfSpec.post enc Try.prog Try.f4 false true false false) := by
  refine returnsInHanded_of_change (C := Try.checked) own started (by kernel_rfl) Try.func4
    (ChangeSpec.witness6 (enc := enc) (C := Try.checked) false ⟨#[], #[.int .i64 0, .bool false, .bool false], []⟩ 8 (by kernel_rfl) (by kernel_rfl) (by kernel_rfl) (by kernel_rfl)) ?_
  intro W base args ds gs before hval0 hW hcnd _
  have hval : ∀ (j : Nat) t v, Try.f4.params[j]? = some t → args[j]? = some v → Value.okWide Try.prog W .any base t v := hval0
  have hW' := hW
  obtain ⟨p, q, hA0, hV, rfl, hfz, hnd⟩ := hW
  have hA : DataW.TrodAll enc Try.prog W 0 (fun _ => true) true Try.f4.params.toList args.toList ds p := hA0
  rw [Try.params4] at hA hval
  obtain ⟨v0, vs0, d0, ds0, p0, q0, hargs, rfl, rfl, h0, r0⟩ := trodAll_cons hA
  obtain ⟨v1, vs1, d1, ds1, p1, q1, rfl, rfl, rfl, h1, r1⟩ := trodAll_cons r0
  obtain ⟨v2, vs2, d2, ds2, p2, q2, rfl, rfl, rfl, h2, r2⟩ := trodAll_cons r1
  obtain ⟨rfl, rfl, rfl⟩ := trodAll_nil r2
  obtain rfl : args = #[v0, v1, v2] := by cases args; simp_all
  obtain ⟨rfl, rfl⟩ := trodVars_none hV
  obtain ⟨a0, rfl, rfl, rfl, w0⟩ := open_int Try.underlying2 (hval 0 2 v0 rfl rfl) h0
  obtain ⟨a1, rfl, rfl, rfl⟩ := open_bool Try.underlying4 (hval 1 4 v1 rfl rfl) h1
  obtain ⟨a2, rfl, rfl, rfl⟩ := open_bool Try.underlying4 (hval 2 4 v2 rfl rfl) h2
  clear hA0 hval0
  refine (walk W a0 w0 a1 a2).mono fun e W' ⟨he, bel⟩ => ?_
  subst he
  exact ⟨_, rfl, _, _, _, [], _, [], hW', trodAll_mk1 (shut_bool Try.underlying4 _), (trodAll_cons_mk (shut_int Try.underlying2 w0) (trodAll_cons_mk (shut_bool Try.underlying4 _) (trodAll_cons_mk (shut_bool Try.underlying4 _) trodAll_mk0))), rfl, bel.frame _, fun h => by cases h⟩

theorem over : Rows.fnExactCyclesOfRow.holds Try.pinned (OpenSpec.ofChange Rows.fnExactCyclesOfSpec) :=
  OpenClaim.holds_of_wide 4 Try.f4 rfl rfl rfl rfl rfl rfl rfl ⟨rfl, rfl, rfl, rfl, rfl⟩ rfl rfl rfl rfl rfl (by kernel_rfl) Try.func4 (by kernel_rfl)
    (of_decide_eq_true (by kernel_rfl)) (by unfold Func.isWrapper; first | (rw [if_pos (by decide +kernel)]; kernel_rfl) | (rw [if_neg (by decide +kernel)]; exact ⟨rfl, rfl⟩))
    (fun os started H enc _ => lifted os started H enc)
end Go.Proofs.Ytimnngkjggipbaa.fnExactCyclesOf
namespace Go.Proofs.Ytimnngkjggipbaa
theorem fnExactCyclesOf_holds : Rows.FnExactCyclesOfSaid := fnExactCyclesOf.over
end Go.Proofs.Ytimnngkjggipbaa
