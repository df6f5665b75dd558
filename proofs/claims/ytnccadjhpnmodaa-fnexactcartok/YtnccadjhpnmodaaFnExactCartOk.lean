/- For every cart the law FnExactCartOk answers true, that is, impl.CartOk answers as spec.CartOk does; the argument reads afterwards as it read before; no condition. -/
import Derived.Test.YtnccadjhpnmodaaRows
import Derived.WalkKit
import Derived.ProofKit
import Derived.OpenShut
import Derived.ShutString
import Derived.ChangeOld
import Derived.Below
import Derived.Test.YtnccadjhpnmodaaCartL
namespace Go.Proofs.Ytnccadjhpnmodaa.fnExactCartOk
open Go.ChangeShapes Go.WideShapes Go.ChangeAt Go.RowKit
open Go.ChangeMaps (open_string shut_string)
set_option linter.unusedVariables false

theorem own : ownKnob Try.prog.godebug = none := by kernel_rfl
theorem laidOut : laidOutB Try.prog = true := by kernel_rfl

set_option maxHeartbeats 2000000 in
theorem walk (w : World) (rom0 : ByteArray) (kind0 bank0 : Int) (ram0 : ByteArray) (rb0 : Int) (on0 : Bool) (mode0 : Int) (zr0 : rom0.size ≤ maxLen) (zm0 : ram0.size ≤ maxLen) :
    Calls Try.prog 3 #[.agg #[.string rom0, .int .i64 kind0, .int .i64 bank0, .string ram0, .int .i64 rb0, .bool on0, .int .i64 mode0]] w fun e w' => e = .returned (.bool true) ∧ Below w.heap.size w w' := by
  have cz := fun w => CartL.szCart_any rom0 kind0 bank0 ram0 rb0 on0 mode0 1048576 w zr0 zm0 (by decide) (by decide)
  have cs := fun w => CartK.specOk_any rom0 kind0 bank0 ram0 rb0 on0 mode0 w zr0 zm0
  have ci := fun w => CartL.implOk_any rom0 kind0 bank0 ram0 rb0 on0 mode0 w zr0 zm0
  obtain ⟨q, hq⟩ : ∃ q, q = CartL.left2 1048576 rom0.size ram0.size := ⟨_, rfl⟩
  have bq : -1 ≤ q ∧ q ≤ 1048576 := by rw [hq]; unfold CartL.left2; split; omega; split <;> omega
  obtain ⟨b0, b1⟩ := bq
  obtain ⟨b, hb⟩ : ∃ b, b = Carts.okB rom0 kind0 bank0 ram0 rb0 on0 mode0 := ⟨_, rfl⟩
  rw [← hq] at cz
  rw [← hb] at cs ci
  clear hq hb zr0 zm0
  cases b
  all_goals
    go_enter Try.func3, Try.ntmps3
    go_wp2_with first | (go_at_call 12; refine (cz _).mono ?_; rintro e w' ⟨rfl, rfl⟩) | (go_at_call 14; refine (CartL.toCart_any _ _ _ _ _ _ _ _).mono ?_; rintro e w' ⟨rfl, rfl⟩) | (go_at_call 13; refine (cs _).mono ?_; rintro e w' ⟨rfl, rfl⟩) | (go_at_call 15; refine (ci _).mono ?_; rintro e w' ⟨rfl, hbel⟩)
    all_goals go_ret
    all_goals refine ⟨rfl, ?_⟩
    all_goals first | (refine Below.trans ?_ (Below.mono (by assumption) (by simp; try omega)); repeat (first | exact Below.refl _ _ | refine Below.alloc ?_ (by simp; try omega) _)) | (repeat (first | exact Below.refl _ _ | refine Below.alloc ?_ (by simp; try omega) _))

set_option maxRecDepth 100000 in
theorem lifted (os : Os) (started : os.Started) (H : Type) (enc : TypeId × Value → H) :
    ReturnsInHanded {} Try.checked os 3 .any (Rows.fnExactCartOkSpec.pre6 enc Try.prog Try.f3 Rows.fnExactCartOkRow.domain false) (Rows.fnExactCartOkSpec.post enc Try.prog Try.f3 false true false false) := by
  refine returnsInHanded_of_change (C := Try.checked) own started (by kernel_rfl) Try.func3
    (ChangeSpec.witness6 (enc := enc) (C := Try.checked) false ⟨#[], #[.agg #[.string ByteArray.empty, .int .i64 0, .int .i64 0, .string ByteArray.empty, .int .i64 0, .bool false, .int .i64 0]], []⟩ 8 (by kernel_rfl) (by kernel_rfl) (by kernel_rfl) (by kernel_rfl)) ?_
  intro W base args ds gs before hval0 hW hcnd _
  have hval : ∀ (j : Nat) t v, Try.f3.params[j]? = some t → args[j]? = some v → Value.okWide Try.prog W .any base t v := hval0
  have hW' := hW
  obtain ⟨p, q, hA0, hV, rfl, hfz, hnd⟩ := hW
  have hA : DataW.TrodAll enc Try.prog W 0 (fun _ => true) true Try.f3.params.toList args.toList ds p := hA0
  rw [Try.params3] at hA hval
  obtain ⟨v0, vs0, d0, ds0, p0, q0, hargs, rfl, rfl, h0, r0⟩ := trodAll_cons hA
  obtain ⟨rfl, rfl, rfl⟩ := trodAll_nil r0
  obtain rfl : args = #[v0] := by cases args; simp_all
  obtain ⟨rfl, rfl⟩ := trodVars_none hV
  obtain ⟨cs0, rfl, _⟩ := okWide_struct Try.underlying23 (hval 0 23 v0 rfl rfl)
  have kk0 := h0
  have lt0 : ∀ x ∈ p0, x.block < W.heap.size := by obtain ⟨m, hm⟩ := kk0; exact DataW.trod_lt m _ _ _ hm
  obtain ⟨rom0, kind0, bank0, ram0, rb0, on0, mode0, e0, zr0, zm0⟩ : ∃ (rom : ByteArray) (kind bank : Int) (ram : ByteArray) (rb : Int) (on : Bool) (mode : Int), cs0 = #[.string rom, .int .i64 kind, .int .i64 bank, .string ram, .int .i64 rb, .bool on, .int .i64 mode] ∧ rom.size ≤ maxLen ∧ ram.size ≤ maxLen := by
    obtain ⟨fuel, hf⟩ := h0
    obtain ⟨rom, kind, bank, ram, rb, on, mode, hcs, h1, h2⟩ := CartL.cart_of hf
    simp [Value.cells] at hcs
    exact ⟨rom, kind, bank, ram, rb, on, mode, by cases cs0; simp_all, h1, h2⟩
  subst e0
  clear hA0 hval0
  refine (walk W rom0 kind0 bank0 ram0 rb0 on0 mode0 zr0 zm0).mono fun e W' ⟨he, bel⟩ => ?_
  subst he
  exact ⟨_, rfl, _, _, _, [], _, [], hW', trodAll_mk1 (shut_bool Try.underlying4 _), (trodAll_cons_mk (Below.trod laidOut (by kernel_rfl) (of_decide_eq_true (by kernel_rfl)) kk0 bel lt0) trodAll_mk0), rfl, bel.frame _, fun h => by cases h⟩

theorem over : Rows.fnExactCartOkRow.holds Try.pinned (OpenSpec.ofChange Rows.fnExactCartOkSpec) :=
  OpenClaim.holds_of_wide 3 Try.f3 rfl rfl rfl rfl rfl rfl rfl ⟨rfl, rfl, rfl, rfl, rfl⟩ rfl rfl rfl rfl rfl (by kernel_rfl) Try.func3 (by kernel_rfl)
    (of_decide_eq_true (by kernel_rfl)) (by unfold Func.isWrapper; first | (rw [if_pos (by decide +kernel)]; kernel_rfl) | (rw [if_neg (by decide +kernel)]; exact ⟨rfl, rfl⟩))
    (fun os started H enc _ => lifted os started H enc)
end Go.Proofs.Ytnccadjhpnmodaa.fnExactCartOk
namespace Go.Proofs.Ytnccadjhpnmodaa
theorem fnExactCartOk_holds : Rows.FnExactCartOkSaid := fnExactCartOk.over
end Go.Proofs.Ytnccadjhpnmodaa
