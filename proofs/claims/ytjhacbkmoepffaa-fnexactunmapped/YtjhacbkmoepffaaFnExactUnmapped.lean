/- For every row of pairs and every text the law FnExactUnmapped answers true, that is, impl.Unmapped answers as spec.Unmapped does, bytes and flag, and writes into no pair; the pairs and the text read afterwards as they read before; no condition. -/
import Derived.Test.YtjhacbkmoepffaaRows
import Derived.WalkKit
import Derived.ProofKit
import Derived.OpenShut
import Derived.ShutString
import Derived.ChangeOld
import Derived.Below
import Derived.Test.YtjhacbkmoepffaaUnms
import Derived.Test.YtjhacbkmoepffaaUnmk
namespace Go.Proofs.Ytjhacbkmoepffaa.fnExactUnmapped
open Go.ChangeShapes Go.WideShapes Go.ChangeAt Go.RowKit
open Go.ChangeMaps (open_string shut_string)
set_option linter.unusedVariables false

theorem own : ownKnob Try.prog.godebug = none := by kernel_rfl
theorem laidOut : laidOutB Try.prog = true := by kernel_rfl
open Pairr (Pairs)

set_option maxHeartbeats 2000000 in
theorem walk (w : World) (a0 : Option Addr) (cap0 : Nat) (L0 : List Pairr.Pair) (w0 : Pairr.Pairs w a0 L0) (l0 : L0.length ≤ maxLen) (a1 : ByteArray) (w1 : a1.size ≤ maxLen) :
    Calls Try.prog 3 #[.slice a0 L0.length cap0, .string a1] w fun e w' => e = .returned (.bool true) ∧ Below w.heap.size w w' := by
  have H : Hid (Pairs w a0 L0) := w0
  clear w0
  unfold maxLen at w1
  by_cases hbig : 1048576 < a1.size
  · go_enter Try.func3, Try.ntmps3
    go_wp2
    go_ret
    exact ⟨rfl, Below.refl _ _⟩
  go_enter Try.func3, Try.ntmps3
  go_wp2_with fail
  refine (Pairr.szPairS_any _ _ _ _ H.out l0).mono ?_
  rintro e v1 ⟨⟨x, rfl, hx⟩, hb1⟩
  rcases hx with hx | ⟨hx, hlen⟩
  · go_wp2
    go_ret
    exact ⟨rfl, hb1⟩
  have B1 : Hid (Below w.heap.size w v1) := hb1
  clear hb1 l0
  have cs := fun a cap w h => Unms.unmapped_any a cap L0 a1 w h hlen (by omega)
  have ci := fun a cap w h => Unmk.unmapped_any a cap L0 a1 w h hlen (by omega)
  generalize Unmp.outV L0 a1 = pv at cs ci
  generalize Unmp.outB L0 a1 = pb at cs ci
  have tP := fun a cap w h => Pairr.toPairS_any a cap L0 w h hlen
  have eP := fun a a' cap cap' w h h' => Pairr.eqPairS_any a a' cap cap' L0 w h h' hlen
  generalize L0.length = n0 at *
  go_wp2_with fail
  refine (tP _ _ _ (H.out.below B1.out)).mono ?_
  rintro e v2 ⟨⟨c2, rfl, h2⟩, b2⟩
  have B2 : Hid (Below w.heap.size w v2) := B1.out.trans (b2.mono B1.out.size)
  have N2 : Hid (Pairs v2 (some ⟨v1.heap.size, 0, none⟩) L0) := h2
  clear b2 h2 B1
  go_wp2_with fail
  refine (cs _ _ _ N2.out).mono ?_
  rintro e v3 ⟨rfl, b3⟩
  have B3 : Hid (Below w.heap.size w v3) := B2.out.trans (b3.mono B2.out.size)
  clear b3 B2 N2 cs
  go_wp2_with fail
  refine (tP _ _ _ (H.out.below B3.out)).mono ?_
  rintro e v4 ⟨⟨c4, rfl, h4⟩, b4⟩
  have B4 : Hid (Below w.heap.size w v4) := B3.out.trans (b4.mono B3.out.size)
  have N4 : Hid (Pairs v4 (some ⟨v3.heap.size, 0, none⟩) L0) := h4
  clear b4 h4 B3
  go_wp2_with fail
  refine (ci _ _ _ N4.out).mono ?_
  rintro e v5 ⟨rfl, b5⟩
  have B5 : Hid (Below w.heap.size w v5) := B4.out.trans (b5.mono B4.out.size)
  have N5 : Hid (Pairs v5 (some ⟨v3.heap.size, 0, none⟩) L0) := N4.out.below b5
  clear b5 B4 N4 ci
  go_wp2_with fail
  refine (tP _ _ _ (H.out.below B5.out)).mono ?_
  rintro e v6 ⟨⟨c6, rfl, h6⟩, b6⟩
  have B6 : Hid (Below w.heap.size w v6) := B5.out.trans (b6.mono B5.out.size)
  have N6 : Hid (Pairs v6 (some ⟨v3.heap.size, 0, none⟩) L0) := N5.out.below b6
  have M6 : Hid (Pairs v6 (some ⟨v5.heap.size, 0, none⟩) L0) := h6
  clear b6 h6 B5 N5
  go_wp2_with fail
  refine (eP _ _ _ _ _ N6.out M6.out).mono ?_
  rintro e v7 ⟨rfl, b7⟩
  have B7 : Hid (Below w.heap.size w v7) := B6.out.trans (b7.mono B6.out.size)
  clear b7
  go_wp2
  go_ret
  exact ⟨rfl, B7.out⟩

set_option maxRecDepth 100000 in
theorem lifted (os : Os) (started : os.Started) (H : Type) (enc : TypeId × Value → H) :
    ReturnsInHanded {} Try.checked os 3 .any (Rows.fnExactUnmappedSpec.pre6 enc Try.prog Try.f3 Rows.fnExactUnmappedRow.domain false) (Rows.fnExactUnmappedSpec.post enc Try.prog Try.f3 false true false false) := by
  refine returnsInHanded_of_change (C := Try.checked) own started (by kernel_rfl) Try.func3
    (ChangeSpec.witness6 (enc := enc) (C := Try.checked) false ⟨#[], #[.slice none 0 0, .string ByteArray.empty], []⟩ 8 (by kernel_rfl) (by kernel_rfl) (by kernel_rfl) (by kernel_rfl)) ?_
  intro W base args ds gs before hval0 hW hcnd _
  have hval : ∀ (j : Nat) t v, Try.f3.params[j]? = some t → args[j]? = some v → Value.okWide Try.prog W .any base t v := hval0
  have hW' := hW
  obtain ⟨p, q, hA0, hV, rfl, hfz, hnd⟩ := hW
  have hA : DataW.TrodAll enc Try.prog W 0 (fun _ => true) true Try.f3.params.toList args.toList ds p := hA0
  rw [Try.params3] at hA hval
  obtain ⟨v0, vs0, d0, ds0, p0, q0, hargs, rfl, rfl, h0, r0⟩ := trodAll_cons hA
  obtain ⟨v1, vs1, d1, ds1, p1, q1, rfl, rfl, rfl, h1, r1⟩ := trodAll_cons r0
  obtain ⟨rfl, rfl, rfl⟩ := trodAll_nil r1
  obtain rfl : args = #[v0, v1] := by cases args; simp_all
  obtain ⟨rfl, rfl⟩ := trodVars_none hV
  obtain ⟨a0, len0, cap0, rfl⟩ := okWide_slice Try.underlying22 (hval 0 22 v0 rfl rfl)
  have k0 := h0
  have lt0 : ∀ x ∈ p0, x.block < W.heap.size := by obtain ⟨m, hm⟩ := k0; exact DataW.trod_lt m _ _ _ hm
  obtain ⟨L0, e0, l0, w0⟩ : ∃ L : List Pairr.Pair, L.length = len0 ∧ L.length ≤ maxLen ∧ Pairr.Pairs W a0 L := by
    obtain ⟨fuel, hf⟩ := h0
    obtain ⟨a, len, cap, L, hcs, h1, h2, h3⟩ := Pairr.pairs_of hf
    simp [Value.cells] at hcs
    obtain ⟨rfl, rfl, rfl⟩ := hcs
    exact ⟨L, h1, by rw [h1]; exact h2, h3⟩
  subst e0
  obtain ⟨a1, rfl, rfl, rfl, w1⟩ := open_string Try.underlying9 (hval 1 9 v1 rfl rfl) h1
  clear hA0 hval0
  refine (walk W a0 cap0 L0 w0 l0 a1 w1).mono fun e W' ⟨he, bel⟩ => ?_
  subst he
  exact ⟨_, rfl, _, _, _, [], _, [], hW', trodAll_mk1 (shut_bool Try.underlying4 _), (trodAll_cons_mk (Below.trod laidOut (by kernel_rfl) (of_decide_eq_true (by kernel_rfl)) k0 bel lt0) (trodAll_cons_mk (shut_string Try.underlying9 w1) trodAll_mk0)), rfl, bel.frame _, fun h => by cases h⟩

theorem over : Rows.fnExactUnmappedRow.holds Try.pinned (OpenSpec.ofChange Rows.fnExactUnmappedSpec) :=
  OpenClaim.holds_of_wide 3 Try.f3 rfl rfl rfl rfl rfl rfl rfl ⟨rfl, rfl, rfl, rfl, rfl⟩ rfl rfl rfl rfl rfl (by kernel_rfl) Try.func3 (by kernel_rfl)
    (of_decide_eq_true (by kernel_rfl)) (by unfold Func.isWrapper; first | (rw [if_pos (by decide +kernel)]; kernel_rfl) | (rw [if_neg (by decide +kernel)]; exact ⟨rfl, rfl⟩))
    (fun os started H enc _ => lifted os started H enc)
end Go.Proofs.Ytjhacbkmoepffaa.fnExactUnmapped
namespace Go.Proofs.Ytjhacbkmoepffaa
theorem fnExactUnmapped_holds : Rows.FnExactUnmappedSaid := fnExactUnmapped.over
end Go.Proofs.Ytjhacbkmoepffaa
