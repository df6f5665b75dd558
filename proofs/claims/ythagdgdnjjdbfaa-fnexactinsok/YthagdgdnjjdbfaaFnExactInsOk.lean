/- For every instruction, right or not, the law FnExactInsOk answers true, that is, impl.InsOk answers as spec.InsOk does. -/
import Derived.Test.YthagdgdnjjdbfaaRows
import Derived.WalkKit
import Derived.ProofKit
import Derived.OpenShut
import Derived.ShutString
import Derived.ChangeOld
import Derived.Below
import Derived.Test.YthagdgdnjjdbfaaInsX
import Derived.Test.YthagdgdnjjdbfaaInsp
import Derived.HandedShaped
namespace Go.Proofs.Ythagdgdnjjdbfaa.fnExactInsOk
open Go.ChangeShapes Go.WideShapes Go.ChangeAt Go.RowKit
open Go.ChangeMaps (open_string shut_string)
set_option linter.unusedVariables false

theorem own : ownKnob Try.prog.godebug = none := by kernel_rfl
theorem laidOut : laidOutB Try.prog = true := by kernel_rfl

set_option maxHeartbeats 2000000 in
theorem walk (w : World) (c0 : Int) (b0 : Bool) (m0 : Int) (hm : HolI.MaxL w) :
    Calls Try.prog 5 #[.agg #[.int .i64 c0, .bool b0, .int .i64 m0]] w fun e w' => e = .returned (.bool true) ∧ Below w.heap.size w w' := by
  have cs := fun w => InsX.specOk_any c0 b0 m0 w
  have ci := fun w hm => InsX.implOk_any c0 b0 m0 w hm
  have ct := fun w => Insp.toIns_any c0 b0 m0 w
  generalize InsX.okV c0 b0 m0 = v at cs ci
  have HM : Hid (HolI.MaxL w) := hm
  clear hm
  go_enter Try.func5, Try.ntmps5
  go_wp2_with fail
  refine (ct _).mono ?_
  rintro e w1 ⟨rfl, b1⟩
  have B1 : Hid (Below _ _ w1) := b1
  clear b1
  go_wp2_with fail
  refine (cs _).mono ?_
  rintro e w2 ⟨rfl, b2⟩
  have B2 : Hid (Below _ _ w2) := HolI.after B1.out b2
  clear b2 cs B1
  have k0 := HolI.box B2.out 0 _ rfl
  have k1 := HolI.box B2.out 1 _ rfl
  have k2 := HolI.box B2.out 2 _ rfl
  go_wp2_with fail
  refine (ct _).mono ?_
  rintro e w3 ⟨rfl, b3⟩
  have B3 : Hid (Below _ _ w3) := HolI.after B2.out b3
  clear b3 B2 k0 k1 k2
  go_wp2_with fail
  refine (ci _ (HM.out.below (HolI.unbox B3.out))).mono ?_
  rintro e w4 ⟨rfl, b4⟩
  have B4 : Hid (Below _ _ w4) := HolI.after B3.out b4
  clear b4 ci B3
  go_wp2
  go_ret
  exact ⟨rfl, HolI.unbox B4.out⟩

set_option maxRecDepth 100000 in
theorem lifted (os : Os) (started : os.Started) (H : Type) (enc : TypeId × Value → H) :
    ReturnsInHanded {} Try.checked os 5 .any (Rows.fnExactInsOkSpec.pre6 enc Try.prog Try.f5 Rows.fnExactInsOkRow.domain false) (Rows.fnExactInsOkSpec.post enc Try.prog Try.f5 false true false false) := by
  refine returnsInHanded_of_change_shaped (C := Try.checked) own started (by kernel_rfl) Try.func5
    (ChangeSpec.witness6 (enc := enc) (C := Try.checked) false ⟨#[], #[.agg #[.int .i64 0, .bool false, .int .i64 0]], []⟩ 8 (by kernel_rfl) (by kernel_rfl) (by kernel_rfl) (by kernel_rfl)) ?_
  intro W base args ds gs before hval0 hW hcnd _ hsh _
  have hval : ∀ (j : Nat) t v, Try.f5.params[j]? = some t → args[j]? = some v → Value.okWide Try.prog W .any base t v := hval0
  have hW' := hW
  obtain ⟨p, q, hA0, hV, rfl, hfz, hnd⟩ := hW
  have hA : DataW.TrodAll enc Try.prog W 0 (fun _ => true) true Try.f5.params.toList args.toList ds p := hA0
  rw [Try.params5] at hA hval
  obtain ⟨v0, vs0, d0, ds0, p0, q0, hargs, rfl, rfl, h0, r0⟩ := trodAll_cons hA
  obtain ⟨rfl, rfl, rfl⟩ := trodAll_nil r0
  obtain rfl : args = #[v0] := by cases args; simp_all
  obtain ⟨rfl, rfl⟩ := trodVars_none hV
  obtain ⟨cs0, rfl, _⟩ := okWide_struct Try.underlying27 (hval 0 27 v0 rfl rfl)
  have kk0 := h0
  have lt0 : ∀ x ∈ p0, x.block < W.heap.size := by obtain ⟨m, hm⟩ := kk0; exact DataW.trod_lt m _ _ _ hm
  obtain ⟨c0, b0, m0, e0⟩ : ∃ (c : Int) (b : Bool) (m : Int), cs0 = #[.int .i64 c, .bool b, .int .i64 m] := by
    obtain ⟨fuel, hf⟩ := h0
    obtain ⟨c, b, m, hcs⟩ := Insp.ins_of hf
    simp [Value.cells] at hcs
    exact ⟨c, b, m, by cases cs0; simp_all⟩
  subst e0
  clear hA0 hval0
  refine (walk W c0 b0 m0 (Try.laysM144.s1_3 W hsh)).mono fun e W' ⟨he, bel⟩ => ?_
  subst he
  exact ⟨_, rfl, _, _, _, [], _, [], hW', trodAll_mk1 (shut_bool Try.underlying4 _), (trodAll_cons_mk (Below.trod laidOut (by kernel_rfl) (of_decide_eq_true (by kernel_rfl)) kk0 bel lt0) trodAll_mk0), rfl, bel.frame _, fun h => by cases h⟩

theorem over : Rows.fnExactInsOkRow.holds Try.pinned (OpenSpec.ofChange Rows.fnExactInsOkSpec) :=
  OpenClaim.holds_of_wide 5 Try.f5 rfl rfl rfl rfl rfl rfl rfl ⟨rfl, rfl, rfl, rfl, rfl⟩ rfl rfl rfl rfl rfl (by kernel_rfl) Try.func5 (by kernel_rfl)
    (of_decide_eq_true (by kernel_rfl)) (by unfold Func.isWrapper; first | (rw [if_pos (by decide +kernel)]; kernel_rfl) | (rw [if_neg (by decide +kernel)]; exact ⟨rfl, rfl⟩))
    (fun os started H enc _ => lifted os started H enc)
end Go.Proofs.Ythagdgdnjjdbfaa.fnExactInsOk
namespace Go.Proofs.Ythagdgdnjjdbfaa
theorem fnExactInsOk_holds : Rows.FnExactInsOkSaid := fnExactInsOk.over
end Go.Proofs.Ythagdgdnjjdbfaa
