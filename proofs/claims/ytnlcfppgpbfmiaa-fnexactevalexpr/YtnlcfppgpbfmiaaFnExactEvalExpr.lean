/- For every list of nodes and every row of symbols the law FnExactEvalExpr answers true, that is, impl.EvalExpr answers as spec.EvalExpr does, number and code, and writes into no node and no symbol; the nodes and the symbols read afterwards as they read before; no condition. -/
import Derived.Test.YtnlcfppgpbfmiaaRows
import Derived.WalkKit
import Derived.ProofKit
import Derived.OpenShut
import Derived.ShutString
import Derived.ChangeOld
import Derived.Below
import Derived.Test.YtnlcfppgpbfmiaaEvat
import Derived.Test.YtnlcfppgpbfmiaaSzes
namespace Go.Proofs.Ytnlcfppgpbfmiaa.fnExactEvalExpr
open Go.ChangeShapes Go.WideShapes Go.ChangeAt Go.RowKit
open Go.ChangeMaps (open_string shut_string)
set_option linter.unusedVariables false

theorem own : ownKnob Try.prog.godebug = none := by kernel_rfl
theorem laidOut : laidOutB Try.prog = true := by kernel_rfl
open Go.Proofs.Ytnlcfppgpbfmiaa.Stepx (Nodes)
open Symr (Syms)

set_option maxHeartbeats 2000000 in
theorem walk (w : World) (a0 : Option Addr) (cap0 : Nat) (L0 : List Stepx.Node) (w0 : Stepx.Nodes w a0 L0) (l0 : L0.length ≤ maxLen) (a1 : Option Addr) (cap1 : Nat) (L1 : List Symr.Sym) (w1 : Symr.Syms w a1 L1) (l1 : L1.length ≤ maxLen) :
    Calls Try.prog 3 #[.slice a0 L0.length cap0, .slice a1 L1.length cap1] w fun e w' => e = .returned (.bool true) ∧ Below w.heap.size w w' := by
  have H : Hid (Nodes w a0 L0) := w0
  have G : Hid (Syms w a1 L1) := w1
  clear w0 w1
  go_enter Try.func3, Try.ntmps3
  go_wp2_with fail
  refine (Szes.szENodeS_top _ _ _ _ H.out l0).mono ?_
  rintro e v1 ⟨⟨x, rfl, hx⟩, hb1⟩
  rcases hx with hx | ⟨hx, hx1, hlen⟩
  · go_wp2
    go_ret
    exact ⟨rfl, hb1⟩
  have B1 : Hid (Below w.heap.size w v1) := hb1
  clear hb1 l0
  go_wp2_with fail
  refine (Szes.szSymS_from _ hx hx1 _ _ _ _ (G.out.below B1.out) l1).mono ?_
  rintro e v2 ⟨⟨y, rfl, hy⟩, hb2⟩
  have B2 : Hid (Below w.heap.size w v2) := B1.out.trans (hb2.mono B1.out.size)
  clear hb2 B1 l1 hx hx1
  rcases hy with hy | ⟨hy, hlen1⟩
  · go_wp2
    go_ret
    exact ⟨rfl, B2.out⟩
  have cs := fun a cap a' cap' w h h' => Evat.specEval_any a cap L0 a' cap' L1 w h hlen h' hlen1
  have ci := fun a cap a' cap' w h h' => Evai.implEval_any a cap L0 a' cap' L1 w h hlen h' hlen1
  obtain ⟨r1, r2, hr⟩ : ∃ r1 r2, Evai.evV L0 L1 = (r1, r2) := ⟨_, _, rfl⟩
  rw [hr] at cs ci
  simp only at cs ci
  clear hr
  have tN := fun a cap w h => Mirror.toENodeS_any a cap L0 w h hlen
  have tY := fun a cap w h => Symr.toSymS_any a cap L1 w h hlen1
  have eN := fun a a' cap cap' w h h' => Mirror.eqENodeS_any a a' cap cap' L0 w h h' hlen
  have eY := fun a a' cap cap' w h h' => Symr.eqSymS_any a a' cap cap' L1 w h h' hlen1
  have HL0 : Hid (L0.length ≤ 1048576) := hlen
  generalize L0.length = n0 at *
  generalize L1.length = n1 at *
  go_wp2_with fail
  refine (tN _ _ _ (Mirror.Nodes.below H.out B2.out)).mono ?_
  rintro e v3 ⟨⟨c3, rfl, h3⟩, b3⟩
  have B3 : Hid (Below w.heap.size w v3) := B2.out.trans (b3.mono B2.out.size)
  have N3 : Hid (Nodes v3 (some ⟨v2.heap.size, 0, none⟩) L0) := h3
  clear b3 h3 B2
  go_wp2_with fail
  refine (tY _ _ _ (G.out.below B3.out)).mono ?_
  rintro e v4 ⟨⟨c4, rfl, h4⟩, b4⟩
  have B4 : Hid (Below w.heap.size w v4) := B3.out.trans (b4.mono B3.out.size)
  have N4 : Hid (Nodes v4 (some ⟨v2.heap.size, 0, none⟩) L0) := Mirror.Nodes.below N3.out b4
  have Y4 : Hid (Syms v4 (some ⟨v3.heap.size, 0, none⟩) L1) := h4
  clear b4 h4 B3 N3
  go_wp2_with fail
  refine (cs _ _ _ _ _ N4.out Y4.out).mono ?_
  rintro e v5 ⟨rfl, b5⟩
  have B5 : Hid (Below w.heap.size w v5) := B4.out.trans (b5.mono B4.out.size)
  clear b5 B4 N4 Y4 cs
  go_wp2_with fail
  refine (tN _ _ _ (Mirror.Nodes.below H.out B5.out)).mono ?_
  rintro e v6 ⟨⟨c6, rfl, h6⟩, b6⟩
  have B6 : Hid (Below w.heap.size w v6) := B5.out.trans (b6.mono B5.out.size)
  have N6 : Hid (Nodes v6 (some ⟨v5.heap.size, 0, none⟩) L0) := h6
  clear b6 h6 B5
  go_wp2_with fail
  refine (tY _ _ _ (G.out.below B6.out)).mono ?_
  rintro e v7 ⟨⟨c7, rfl, h7⟩, b7⟩
  have B7 : Hid (Below w.heap.size w v7) := B6.out.trans (b7.mono B6.out.size)
  have N7 : Hid (Nodes v7 (some ⟨v5.heap.size, 0, none⟩) L0) := Mirror.Nodes.below N6.out b7
  have Y7 : Hid (Syms v7 (some ⟨v6.heap.size, 0, none⟩) L1) := h7
  clear b7 h7 B6 N6
  go_wp2_with fail
  refine (ci _ _ _ _ _ N7.out Y7.out).mono ?_
  rintro e v8 ⟨rfl, b8⟩
  have B8 : Hid (Below w.heap.size w v8) := B7.out.trans (b8.mono B7.out.size)
  have N8 : Hid (Nodes v8 (some ⟨v5.heap.size, 0, none⟩) L0) := Mirror.Nodes.below N7.out b8
  have Y8 : Hid (Syms v8 (some ⟨v6.heap.size, 0, none⟩) L1) := Y7.out.below b8
  clear b8 B7 N7 Y7 ci
  go_wp2_with fail
  refine (tN _ _ _ (Mirror.Nodes.below H.out B8.out)).mono ?_
  rintro e v9 ⟨⟨c9, rfl, h9⟩, b9⟩
  have B9 : Hid (Below w.heap.size w v9) := B8.out.trans (b9.mono B8.out.size)
  have N9 : Hid (Nodes v9 (some ⟨v5.heap.size, 0, none⟩) L0) := Mirror.Nodes.below N8.out b9
  have Y9 : Hid (Syms v9 (some ⟨v6.heap.size, 0, none⟩) L1) := Y8.out.below b9
  have M9 : Hid (Nodes v9 (some ⟨v8.heap.size, 0, none⟩) L0) := h9
  clear b9 h9 B8 N8 Y8
  go_wp2_with fail
  refine (eN _ _ _ _ _ N9.out M9.out).mono ?_
  rintro e va ⟨rfl, ba⟩
  have Ba : Hid (Below w.heap.size w va) := B9.out.trans (ba.mono B9.out.size)
  have Ya : Hid (Syms va (some ⟨v6.heap.size, 0, none⟩) L1) := Y9.out.below ba
  clear ba B9 N9 Y9 M9
  go_wp2_with fail
  refine (tY _ _ _ (G.out.below Ba.out)).mono ?_
  rintro e vb ⟨⟨cb, rfl, hb⟩, bb⟩
  have Bb : Hid (Below w.heap.size w vb) := Ba.out.trans (bb.mono Ba.out.size)
  have Yb : Hid (Syms vb (some ⟨v6.heap.size, 0, none⟩) L1) := Ya.out.below bb
  have Zb : Hid (Syms vb (some ⟨va.heap.size, 0, none⟩) L1) := hb
  clear bb hb Ba Ya
  go_wp2_with fail
  refine (eY _ _ _ _ _ Yb.out Zb.out).mono ?_
  rintro e vc ⟨rfl, bc⟩
  have Bc : Hid (Below w.heap.size w vc) := Bb.out.trans (bc.mono Bb.out.size)
  clear bc
  go_wp2
  go_ret
  exact ⟨rfl, Bc.out⟩

set_option maxRecDepth 100000 in
theorem lifted (os : Os) (started : os.Started) (H : Type) (enc : TypeId × Value → H) :
    ReturnsInHanded {} Try.checked os 3 .any (Rows.fnExactEvalExprSpec.pre6 enc Try.prog Try.f3 Rows.fnExactEvalExprRow.domain false) (Rows.fnExactEvalExprSpec.post enc Try.prog Try.f3 false true false false) := by
  refine returnsInHanded_of_change (C := Try.checked) own started (by kernel_rfl) Try.func3
    (ChangeSpec.witness6 (enc := enc) (C := Try.checked) false ⟨#[], #[.slice none 0 0, .slice none 0 0], []⟩ 8 (by kernel_rfl) (by kernel_rfl) (by kernel_rfl) (by kernel_rfl)) ?_
  intro W base args ds gs before hval0 hW hcnd _
  have hval : ∀ (j : Nat) t v, Try.f3.params[j]? = some t → args[j]? = some v → Value.okWide Try.prog W .any base t v := hval0
  have hW' := hW
  obtain ⟨p, q, hA0, hV, rfl, hfz, hnd⟩ := hW
  have hA : DataW.TrodAll enc Try.prog W 0 (fun _ => true) true Try.f3.params.toList args.toList ds p := hA0
  rw [Try.params3] at hA hval
  obtain ⟨v0, vs0, d0, ds0, p0, q0, hargs, rfl, rfl, h0, r0⟩ := trodAll_cons hA
  obtain ⟨v1, vs1, d1, ds1, p1, q1, rfl, rfl, rfl, h1, r1⟩ := trodAll_cons r0
  obtain ⟨rfl, rfl, rfl⟩ := trodAll_nil r1
  obtain rfl : args = #[v0, v1] := by cases args; simp_all
  obtain ⟨rfl, rfl⟩ := trodVars_none hV
  obtain ⟨a0, len0, cap0, rfl⟩ := okWide_slice Try.underlying22 (hval 0 22 v0 rfl rfl)
  have k0 := h0
  have lt0 : ∀ x ∈ p0, x.block < W.heap.size := by obtain ⟨m, hm⟩ := k0; exact DataW.trod_lt m _ _ _ hm
  obtain ⟨L0, e0, l0, w0⟩ : ∃ L : List Stepx.Node, L.length = len0 ∧ L.length ≤ maxLen ∧ Stepx.Nodes W a0 L := by
    obtain ⟨fuel, hf⟩ := h0
    obtain ⟨a, len, cap, L, hcs, h1, h2, h3⟩ := Mirror.nodes_of hf
    simp [Value.cells] at hcs
    obtain ⟨rfl, rfl, rfl⟩ := hcs
    exact ⟨L, h1, by rw [h1]; exact h2, h3⟩
  subst e0
  obtain ⟨a1, len1, cap1, rfl⟩ := okWide_slice Try.underlying23 (hval 1 23 v1 rfl rfl)
  have k1 := h1
  have lt1 : ∀ x ∈ p1, x.block < W.heap.size := by obtain ⟨m, hm⟩ := k1; exact DataW.trod_lt m _ _ _ hm
  obtain ⟨L1, e1, l1, w1⟩ : ∃ L : List Symr.Sym, L.length = len1 ∧ L.length ≤ maxLen ∧ Symr.Syms W a1 L := by
    obtain ⟨fuel, hf⟩ := h1
    obtain ⟨a, len, cap, L, hcs, h1, h2, h3⟩ := Symr.syms_of hf
    simp [Value.cells] at hcs
    obtain ⟨rfl, rfl, rfl⟩ := hcs
    exact ⟨L, h1, by rw [h1]; exact h2, h3⟩
  subst e1
  clear hA0 hval0
  refine (walk W a0 cap0 L0 w0 l0 a1 cap1 L1 w1 l1).mono fun e W' ⟨he, bel⟩ => ?_
  subst he
  exact ⟨_, rfl, _, _, _, [], _, [], hW', trodAll_mk1 (shut_bool Try.underlying4 _), (trodAll_cons_mk (Below.trod laidOut (by kernel_rfl) (of_decide_eq_true (by kernel_rfl)) k0 bel lt0) (trodAll_cons_mk (Below.trod laidOut (by kernel_rfl) (of_decide_eq_true (by kernel_rfl)) k1 bel lt1) trodAll_mk0)), rfl, bel.frame _, fun h => by cases h⟩

theorem over : Rows.fnExactEvalExprRow.holds Try.pinned (OpenSpec.ofChange Rows.fnExactEvalExprSpec) :=
  OpenClaim.holds_of_wide 3 Try.f3 rfl rfl rfl rfl rfl rfl rfl ⟨rfl, rfl, rfl, rfl, rfl⟩ rfl rfl rfl rfl rfl (by kernel_rfl) Try.func3 (by kernel_rfl)
    (of_decide_eq_true (by kernel_rfl)) (by unfold Func.isWrapper; first | (rw [if_pos (by decide +kernel)]; kernel_rfl) | (rw [if_neg (by decide +kernel)]; exact ⟨rfl, rfl⟩))
    (fun os started H enc _ => lifted os started H enc)
end Go.Proofs.Ytnlcfppgpbfmiaa.fnExactEvalExpr
namespace Go.Proofs.Ytnlcfppgpbfmiaa
theorem fnExactEvalExpr_holds : Rows.FnExactEvalExprSaid := fnExactEvalExpr.over
end Go.Proofs.Ytnlcfppgpbfmiaa
