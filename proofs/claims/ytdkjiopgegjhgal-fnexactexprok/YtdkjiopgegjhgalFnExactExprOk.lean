/- For every list of nodes the law FnExactExprOk answers true, that is, impl.ExprOk answers as spec.ExprOk does and writes into no node; the nodes read afterwards as they read before; no condition. -/
import Derived.Test.YtdkjiopgegjhgalRows
import Derived.WalkKit
import Derived.ProofKit
import Derived.OpenShut
import Derived.ShutString
import Derived.ChangeOld
import Derived.Below
import Derived.Test.YtdkjiopgegjhgalMirror
namespace Go.Proofs.Ytdkjiopgegjhgal.fnExactExprOk
open Go.ChangeShapes Go.WideShapes Go.ChangeAt Go.RowKit
open Go.ChangeMaps (open_string shut_string)
set_option linter.unusedVariables false

theorem own : ownKnob Try.prog.godebug = none := by kernel_rfl
theorem laidOut : laidOutB Try.prog = true := by kernel_rfl
open Go.Proofs.Ytdkjiopgegjhgal.Stepx (Nodes exprB)
theorem implOk_any (a : Option Addr) (cap : Nat) (L : List Stepx.Node) (w : World) (hN : Nodes w a L) (hlen : L.length ≤ 1048576) :
    Calls Try.prog 13 #[.slice a L.length cap] w fun e w' => e = .returned (.bool (exprB L)) ∧ Below w.heap.size w w' := by
  have c := Stepx.stepsOf_any a cap L w hN hlen
  clear hN hlen
  go_enter Try.func13, Try.ntmps13
  go_wp2_with fail
  refine c.mono ?_
  rintro e w1 ⟨⟨v, rfl⟩, hb⟩
  go_wp2
  go_ret
  exact ⟨rfl, hb⟩

set_option maxHeartbeats 2000000 in
theorem walk (w : World) (a0 : Option Addr) (cap0 : Nat) (L0 : List Stepx.Node) (w0 : Stepx.Nodes w a0 L0) (l0 : L0.length ≤ maxLen) :
    Calls Try.prog 5 #[.slice a0 L0.length cap0] w fun e w' => e = .returned (.bool true) ∧ Below w.heap.size w w' := by
  have H : Hid (Nodes w a0 L0) := w0
  clear w0
  go_enter Try.func5, Try.ntmps5
  go_wp2_with fail
  refine (Mirror.szENodeS_any _ _ _ _ H.out l0).mono ?_
  rintro e w1 ⟨⟨x, rfl, hx⟩, hb1⟩
  rcases hx with hx | ⟨hx, hlen⟩
  · go_wp2
    go_ret
    exact ⟨rfl, hb1⟩
  have H1 : Hid (Nodes w1 a0 L0) := Mirror.Nodes.below H.out hb1
  have B1 : Hid (Below w.heap.size w w1) := hb1
  clear hb1 H l0
  go_wp2_with fail
  refine (Mirror.toENodeS_any _ _ _ _ H1.out hlen).mono ?_
  rintro e w2 ⟨⟨c2, rfl, hN2⟩, hb2⟩
  have H2 : Hid (Nodes w2 a0 L0) := Mirror.Nodes.below H1.out hb2
  have N2 : Hid (Nodes w2 (some ⟨w1.heap.size, 0, none⟩) L0) := hN2
  have B2 : Hid (Below w.heap.size w w2) := B1.out.trans (hb2.mono B1.out.size)
  clear hb2 hN2 H1 B1
  go_wp2_with fail
  refine (Specx.exprOk_any _ _ _ _ N2.out hlen).mono ?_
  rintro e w3 ⟨rfl, hb3⟩
  have H3 : Hid (Nodes w3 a0 L0) := Mirror.Nodes.below H2.out hb3
  have B3 : Hid (Below w.heap.size w w3) := B2.out.trans (hb3.mono B2.out.size)
  clear hb3 H2 B2 N2
  go_wp2_with fail
  refine (Mirror.toENodeS_any _ _ _ _ H3.out hlen).mono ?_
  rintro e w4 ⟨⟨c4, rfl, hN4⟩, hb4⟩
  have H4 : Hid (Nodes w4 a0 L0) := Mirror.Nodes.below H3.out hb4
  have N4 : Hid (Nodes w4 (some ⟨w3.heap.size, 0, none⟩) L0) := hN4
  have B4 : Hid (Below w.heap.size w w4) := B3.out.trans (hb4.mono B3.out.size)
  clear hb4 hN4 H3 B3
  go_wp2_with fail
  refine (implOk_any _ _ _ _ N4.out hlen).mono ?_
  rintro e w5 ⟨rfl, hb5⟩
  have H5 : Hid (Nodes w5 a0 L0) := Mirror.Nodes.below H4.out hb5
  have N5 : Hid (Nodes w5 (some ⟨w3.heap.size, 0, none⟩) L0) := Mirror.Nodes.below N4.out hb5
  have B5 : Hid (Below w.heap.size w w5) := B4.out.trans (hb5.mono B4.out.size)
  clear hb5 H4 N4 B4
  go_wp2_with fail
  refine (Mirror.toENodeS_any _ _ _ _ H5.out hlen).mono ?_
  rintro e w6 ⟨⟨c6, rfl, hN6⟩, hb6⟩
  have N6 : Hid (Nodes w6 (some ⟨w3.heap.size, 0, none⟩) L0) := Mirror.Nodes.below N5.out hb6
  have B6 : Hid (Below w.heap.size w w6) := B5.out.trans (hb6.mono B5.out.size)
  clear hb6 H5 N5 B5
  go_wp2_with fail
  refine (Mirror.eqENodeS_any _ _ _ _ _ _ N6.out hN6 hlen).mono ?_
  rintro e w7 ⟨rfl, hb7⟩
  go_wp2
  go_ret
  exact ⟨rfl, B6.out.trans (hb7.mono B6.out.size)⟩

set_option maxRecDepth 100000 in
theorem lifted (os : Os) (started : os.Started) (H : Type) (enc : TypeId × Value → H) :
    ReturnsInHanded {} Try.checked os 5 .any (Rows.fnExactExprOkSpec.pre6 enc Try.prog Try.f5 Rows.fnExactExprOkRow.domain false) (Rows.fnExactExprOkSpec.post enc Try.prog Try.f5 false true false false) := by
  refine returnsInHanded_of_change (C := Try.checked) own started (by kernel_rfl) Try.func5
    (ChangeSpec.witness6 (enc := enc) (C := Try.checked) false ⟨#[], #[.slice none 0 0], []⟩ 8 (by kernel_rfl) (by kernel_rfl) (by kernel_rfl) (by kernel_rfl)) ?_
  intro W base args ds gs before hval0 hW hcnd _
  have hval : ∀ (j : Nat) t v, Try.f5.params[j]? = some t → args[j]? = some v → Value.okWide Try.prog W .any base t v := hval0
  have hW' := hW
  obtain ⟨p, q, hA0, hV, rfl, hfz, hnd⟩ := hW
  have hA : DataW.TrodAll enc Try.prog W 0 (fun _ => true) true Try.f5.params.toList args.toList ds p := hA0
  rw [Try.params5] at hA hval
  obtain ⟨v0, vs0, d0, ds0, p0, q0, hargs, rfl, rfl, h0, r0⟩ := trodAll_cons hA
  obtain ⟨rfl, rfl, rfl⟩ := trodAll_nil r0
  obtain rfl : args = #[v0] := by cases args; simp_all
  obtain ⟨rfl, rfl⟩ := trodVars_none hV
  obtain ⟨a0, len0, cap0, rfl⟩ := okWide_slice Try.underlying25 (hval 0 25 v0 rfl rfl)
  have k0 := h0
  have lt0 : ∀ x ∈ p0, x.block < W.heap.size := by obtain ⟨m, hm⟩ := k0; exact DataW.trod_lt m _ _ _ hm
  obtain ⟨L0, e0, l0, w0⟩ : ∃ L : List Stepx.Node, L.length = len0 ∧ L.length ≤ maxLen ∧ Stepx.Nodes W a0 L := by
    obtain ⟨fuel, hf⟩ := h0
    obtain ⟨a, len, cap, L, hcs, h1, h2, h3⟩ := Mirror.nodes_of hf
    simp [Value.cells] at hcs
    obtain ⟨rfl, rfl, rfl⟩ := hcs
    exact ⟨L, h1, by rw [h1]; exact h2, h3⟩
  subst e0
  clear hA0 hval0
  refine (walk W a0 cap0 L0 w0 l0).mono fun e W' ⟨he, bel⟩ => ?_
  subst he
  exact ⟨_, rfl, _, _, _, [], _, [], hW', trodAll_mk1 (shut_bool Try.underlying4 _), (trodAll_cons_mk (Below.trod laidOut (by kernel_rfl) (of_decide_eq_true (by kernel_rfl)) k0 bel lt0) trodAll_mk0), rfl, bel.frame _, fun h => by cases h⟩

theorem over : Rows.fnExactExprOkRow.holds Try.pinned (OpenSpec.ofChange Rows.fnExactExprOkSpec) :=
  OpenClaim.holds_of_wide 5 Try.f5 rfl rfl rfl rfl rfl rfl rfl ⟨rfl, rfl, rfl, rfl, rfl⟩ rfl rfl rfl rfl rfl (by kernel_rfl) Try.func5 (by kernel_rfl)
    (of_decide_eq_true (by kernel_rfl)) (by unfold Func.isWrapper; first | (rw [if_pos (by decide +kernel)]; kernel_rfl) | (rw [if_neg (by decide +kernel)]; exact ⟨rfl, rfl⟩))
    (fun os started H enc _ => lifted os started H enc)
end Go.Proofs.Ytdkjiopgegjhgal.fnExactExprOk
namespace Go.Proofs.Ytdkjiopgegjhgal
theorem fnExactExprOk_holds : Rows.FnExactExprOkSaid := fnExactExprOk.over
end Go.Proofs.Ytdkjiopgegjhgal
