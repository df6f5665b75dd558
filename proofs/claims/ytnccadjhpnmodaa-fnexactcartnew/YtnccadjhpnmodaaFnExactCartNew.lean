/- For every text and number the law FnExactCartNew answers true, that is, impl.CartNew answers as spec.CartNew does, field by field; no condition. -/
import Derived.Test.YtnccadjhpnmodaaRows
import Derived.WalkKit
import Derived.ProofKit
import Derived.OpenShut
import Derived.ShutString
import Derived.ChangeOld
import Derived.Below
import Derived.Test.YtnccadjhpnmodaaCartN
namespace Go.Proofs.Ytnccadjhpnmodaa.fnExactCartNew
open Go.ChangeShapes Go.WideShapes Go.ChangeAt Go.RowKit
open Go.ChangeMaps (open_string shut_string)
set_option linter.unusedVariables false

theorem own : ownKnob Try.prog.godebug = none := by kernel_rfl
theorem laidOut : laidOutB Try.prog = true := by kernel_rfl

set_option maxHeartbeats 2000000 in
theorem walk (w : World) (a0 : ByteArray) (w0 : a0.size ≤ maxLen) (a1 : Int) (w1 : (Lit.int .i64 a1).wf = true) :
    Calls Try.prog 4 #[.string a0, .int .i64 a1] w fun e w' => e = .returned (.bool true) ∧ Below w.heap.size w w' := by
  obtain ⟨b, hb⟩ : ∃ b, CartN.newB a0 a1 = b := ⟨_, rfl⟩
  have cs := fun w => CartN.specNew_any a0 a1 w w0 b hb
  have ci := fun w => CartN.implNew_any a0 a1 w w0 b hb
  have ce := CartN.eqNo
  have cn := fun w => CartN.eqNew a0 a1 w
  unfold maxLen at w0
  clear hb w1
  by_cases hl : 1048576 < a0.size
  · go_enter Try.func4, Try.ntmps4
    go_wp2
    go_ret
    exact ⟨rfl, by repeat (first | exact Below.refl _ _ | refine CartL.grow ?_ _ | refine below_drewN ?_ _ | refine Below.drew ?_)⟩
  cases b
  · simp only [Bool.false_eq_true, if_false, CartN.noCart] at cs ci ce
    clear cn
    go_enter Try.func4, Try.ntmps4
    go_wp2_with (go_at_call 16; refine (cs _).mono ?_; rintro e w' ⟨rfl, o1, o2, o3, o4, rfl⟩)
    refine (ci _).mono ?_
    rintro e w' ⟨rfl, o5, o6, o7, o8, rfl | ⟨o9, o10, rfl⟩⟩
    all_goals go_wp2_with (go_at_call 18; refine (ce _).mono ?_; rintro e w' ⟨rfl, p1, p2, rfl⟩)
    all_goals go_ret
    all_goals exact ⟨rfl, by repeat (first | exact Below.refl _ _ | refine CartL.grow ?_ _ | refine below_drewN ?_ _ | refine Below.drew ?_)⟩
  · simp only [if_true, CartN.newCart] at cs ci cn
    clear ce
    go_enter Try.func4, Try.ntmps4
    go_wp2_with (go_at_call 16; refine (cs _).mono ?_; rintro e w' ⟨rfl, o1, o2, o3, o4, rfl⟩)
    refine (ci _).mono ?_
    rintro e w' ⟨rfl, o5, o6, o7, o8, rfl | ⟨o9, o10, rfl⟩⟩
    all_goals go_wp2_with (go_at_call 18; refine (cn _).mono ?_; rintro e w' ⟨rfl, p1, p2, rfl⟩)
    all_goals go_ret
    all_goals exact ⟨rfl, by repeat (first | exact Below.refl _ _ | refine CartL.grow ?_ _ | refine below_drewN ?_ _ | refine Below.drew ?_)⟩

set_option maxRecDepth 100000 in
theorem lifted (os : Os) (started : os.Started) (H : Type) (enc : TypeId × Value → H) :
    ReturnsInHanded {} Try.checked os 4 .any (Rows.fnExactCartNewSpec.pre6 enc Try.prog Try.f4 Rows.fnExactCartNewRow.domain false) (Rows.fnExactCartNewSpec.post enc Try.prog Try.f4 false true false false) := by
  refine returnsInHanded_of_change (C := Try.checked) own started (by kernel_rfl) Try.func4
    (ChangeSpec.witness6 (enc := enc) (C := Try.checked) false ⟨#[], #[.string ByteArray.empty, .int .i64 0], []⟩ 8 (by kernel_rfl) (by kernel_rfl) (by kernel_rfl) (by kernel_rfl)) ?_
  intro W base args ds gs before hval0 hW hcnd _
  have hval : ∀ (j : Nat) t v, Try.f4.params[j]? = some t → args[j]? = some v → Value.okWide Try.prog W .any base t v := hval0
  have hW' := hW
  obtain ⟨p, q, hA0, hV, rfl, hfz, hnd⟩ := hW
  have hA : DataW.TrodAll enc Try.prog W 0 (fun _ => true) true Try.f4.params.toList args.toList ds p := hA0
  rw [Try.params4] at hA hval
  obtain ⟨v0, vs0, d0, ds0, p0, q0, hargs, rfl, rfl, h0, r0⟩ := trodAll_cons hA
  obtain ⟨v1, vs1, d1, ds1, p1, q1, rfl, rfl, rfl, h1, r1⟩ := trodAll_cons r0
  obtain ⟨rfl, rfl, rfl⟩ := trodAll_nil r1
  obtain rfl : args = #[v0, v1] := by cases args; simp_all
  obtain ⟨rfl, rfl⟩ := trodVars_none hV
  obtain ⟨a0, rfl, rfl, rfl, w0⟩ := open_string Try.underlying9 (hval 0 9 v0 rfl rfl) h0
  obtain ⟨a1, rfl, rfl, rfl, w1⟩ := open_int Try.underlying2 (hval 1 2 v1 rfl rfl) h1
  clear hA0 hval0
  refine (walk W a0 w0 a1 w1).mono fun e W' ⟨he, bel⟩ => ?_
  subst he
  exact ⟨_, rfl, _, _, _, [], _, [], hW', trodAll_mk1 (shut_bool Try.underlying4 _), (trodAll_cons_mk (shut_string Try.underlying9 w0) (trodAll_cons_mk (shut_int Try.underlying2 w1) trodAll_mk0)), rfl, bel.frame _, fun h => by cases h⟩

theorem over : Rows.fnExactCartNewRow.holds Try.pinned (OpenSpec.ofChange Rows.fnExactCartNewSpec) :=
  OpenClaim.holds_of_wide 4 Try.f4 rfl rfl rfl rfl rfl rfl rfl ⟨rfl, rfl, rfl, rfl, rfl⟩ rfl rfl rfl rfl rfl (by kernel_rfl) Try.func4 (by kernel_rfl)
    (of_decide_eq_true (by kernel_rfl)) (by unfold Func.isWrapper; first | (rw [if_pos (by decide +kernel)]; kernel_rfl) | (rw [if_neg (by decide +kernel)]; exact ⟨rfl, rfl⟩))
    (fun os started H enc _ => lifted os started H enc)
end Go.Proofs.Ytnccadjhpnmodaa.fnExactCartNew
namespace Go.Proofs.Ytnccadjhpnmodaa
theorem fnExactCartNew_holds : Rows.FnExactCartNewSaid := fnExactCartNew.over
end Go.Proofs.Ytnccadjhpnmodaa
