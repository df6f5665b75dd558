/- For every text and every row of texts the law FnExactFilled answers true, that is, impl.Filled answers as spec.Filled does, and the texts read afterwards as they read before; no condition. -/
import Derived.Test.YtgnjaglkmfcfpaaRows
import Derived.WalkKit
import Derived.ProofKit
import Derived.OpenShut
import Derived.ShutString
import Derived.ChangeOld
import Derived.Below
import Derived.Test.YtgnjaglkmfcfpaaFild
namespace Go.Proofs.Ytgnjaglkmfcfpaa.fnExactFilled
open Go.ChangeShapes Go.WideShapes Go.ChangeAt Go.RowKit
open Go.ChangeMaps (open_string shut_string)
set_option linter.unusedVariables false

theorem own : ownKnob Try.prog.godebug = none := by kernel_rfl
theorem laidOut : laidOutB Try.prog = true := by kernel_rfl

set_option maxHeartbeats 2000000 in
theorem walk (w : World) (a0 : ByteArray) (w0 : a0.size ≤ maxLen) (a1 : Option Addr) (cap1 : Nat) (L1 : List ByteArray) (w1 : Txts.Texts w a1 L1) (l1 : L1.length ≤ maxLen) (z1 : ∀ i (h : i < L1.length), L1[i].size ≤ maxLen) :
    Calls Try.prog 6 #[.string a0, .slice a1 L1.length cap1] w fun e w' => e = .returned (.bool true) ∧ Below w.heap.size w w' := by
  by_cases hbig : 1048576 < a0.size
  · unfold maxLen at w0
    clear w1 z1
    unfold maxLen at l1
    go_enter Try.func6, Try.ntmps6
    go_wp2
    go_ret
    exact ⟨rfl, Below.refl _ _⟩
  have cz := Txts.szStringS_any a1 cap1 L1 w w1 z1 l1
  have HN : Hid (Txts.Texts w a1 L1) := w1
  have HZ := (show Hid _ from z1)
  clear w1 z1
  unfold maxLen at w0 l1
  go_enter Try.func6, Try.ntmps6
  go_wp2_with fail
  refine cz.mono ?_
  rintro e w' ⟨⟨x, rfl, hx⟩, hw⟩
  have hw := hw.symm
  subst hw
  rcases hx with hx | ⟨hx, hlen, hz⟩
  · go_wp2
    go_ret
    exact ⟨rfl, Below.refl _ _⟩
  have HZ' := (show Hid _ from hz)
  clear hz HZ cz
  go_wp2_with fail
  refine (Txts.toStringS_any a1 cap1 L1 _ HN.out hlen).mono ?_
  rintro e w1 ⟨rfl, hw1⟩
  have b1 : Hid (Below w.heap.size w w1) := by rw [hw1]; exact (Below.refl _ _).alloc (Nat.le_refl _) _
  have T1 : Hid (Txts.Texts w1 (some ⟨w.heap.size, 0, none⟩) L1) := by rw [hw1]; exact Txts.rowO_row w L1
  clear hw1
  go_wp2_with fail
  refine (Fild.spec_any a0 _ _ L1 _ T1.out (by omega) HZ'.out hlen).mono ?_
  rintro e w2 ⟨rfl, hw⟩
  have hw := hw.symm
  subst hw
  clear T1
  go_wp2_with fail
  refine (Txts.toStringS_any a1 cap1 L1 _ (HN.out.below b1.out) hlen).mono ?_
  rintro e w3 ⟨rfl, hw3⟩
  have T3 : Hid (Txts.Texts w3 (some ⟨w1.heap.size, 0, none⟩) L1) := by rw [hw3]; exact Txts.rowO_row _ L1
  have b3 : Hid (Below w.heap.size w w3) := by rw [hw3]; exact b1.out.alloc b1.out.size _
  clear hw3 b1
  go_wp2_with fail
  refine (Fild.impl_any a0 _ _ L1 _ T3.out (by omega) HZ'.out hlen).mono ?_
  rintro e w4 ⟨rfl, hb4⟩
  have T4 : Hid (Txts.Texts w4 (some ⟨w1.heap.size, 0, none⟩) L1) := T3.out.below hb4
  have b4 : Hid (Below w.heap.size w w4) := b3.out.trans (hb4.mono b3.out.size)
  clear hb4 b3 T3
  go_wp2_with fail
  refine (Txts.toStringS_any a1 cap1 L1 _ (HN.out.below b4.out) hlen).mono ?_
  rintro e w5 ⟨rfl, hw5⟩
  have b5 : Hid (Below w.heap.size w w5) := by rw [hw5]; exact b4.out.alloc b4.out.size _
  have T5 : Hid (Txts.Texts w5 (some ⟨w4.heap.size, 0, none⟩) L1) := by rw [hw5]; exact Txts.rowO_row _ L1
  have T5' : Hid (Txts.Texts w5 (some ⟨w1.heap.size, 0, none⟩) L1) := by rw [hw5]; exact T4.out.below ((Below.refl _ _).alloc (Nat.le_refl _) _)
  clear hw5
  go_wp2_with fail
  refine (Txts.eqStringS_any _ _ _ _ L1 _ T5'.out T5.out (by omega)).mono ?_
  rintro e w6 ⟨rfl, n, rfl⟩
  go_wp2
  go_ret
  exact ⟨rfl, below_drewN b5.out _⟩

set_option maxRecDepth 100000 in
theorem lifted (os : Os) (started : os.Started) (H : Type) (enc : TypeId × Value → H) :
    ReturnsInHanded {} Try.checked os 6 .any (Rows.fnExactFilledSpec.pre6 enc Try.prog Try.f6 Rows.fnExactFilledRow.domain false) (Rows.fnExactFilledSpec.post enc Try.prog Try.f6 false true false false) := by
  refine returnsInHanded_of_change (C := Try.checked) own started (by kernel_rfl) Try.func6
    (ChangeSpec.witness6 (enc := enc) (C := Try.checked) false ⟨#[], #[.string ByteArray.empty, .slice none 0 0], []⟩ 8 (by kernel_rfl) (by kernel_rfl) (by kernel_rfl) (by kernel_rfl)) ?_
  intro W base args ds gs before hval0 hW hcnd _
  have hval : ∀ (j : Nat) t v, Try.f6.params[j]? = some t → args[j]? = some v → Value.okWide Try.prog W .any base t v := hval0
  have hW' := hW
  obtain ⟨p, q, hA0, hV, rfl, hfz, hnd⟩ := hW
  have hA : DataW.TrodAll enc Try.prog W 0 (fun _ => true) true Try.f6.params.toList args.toList ds p := hA0
  rw [Try.params6] at hA hval
  obtain ⟨v0, vs0, d0, ds0, p0, q0, hargs, rfl, rfl, h0, r0⟩ := trodAll_cons hA
  obtain ⟨v1, vs1, d1, ds1, p1, q1, rfl, rfl, rfl, h1, r1⟩ := trodAll_cons r0
  obtain ⟨rfl, rfl, rfl⟩ := trodAll_nil r1
  obtain rfl : args = #[v0, v1] := by cases args; simp_all
  obtain ⟨rfl, rfl⟩ := trodVars_none hV
  obtain ⟨a0, rfl, rfl, rfl, w0⟩ := open_string Try.underlying9 (hval 0 9 v0 rfl rfl) h0
  obtain ⟨a1, len1, cap1, rfl⟩ := okWide_slice Try.underlying30 (hval 1 30 v1 rfl rfl)
  have k1 := h1
  have lt1 : ∀ x ∈ p1, x.block < W.heap.size := by obtain ⟨m, hm⟩ := k1; exact DataW.trod_lt m _ _ _ hm
  obtain ⟨L1, e1, l1, w1, z1⟩ : ∃ L : List ByteArray, L.length = len1 ∧ L.length ≤ maxLen ∧ Txts.Texts W a1 L ∧ ∀ i (h : i < L.length), L[i].size ≤ maxLen := by
    obtain ⟨fuel, hf⟩ := h1
    obtain ⟨a, len, cap, L, hcs, h1, h2, h3, h4⟩ := Txts.texts_of hf
    simp [Value.cells] at hcs
    obtain ⟨rfl, rfl, rfl⟩ := hcs
    exact ⟨L, h1, by rw [h1]; exact h2, h3, h4⟩
  subst e1
  clear hA0 hval0
  refine (walk W a0 w0 a1 cap1 L1 w1 l1 z1).mono fun e W' ⟨he, bel⟩ => ?_
  subst he
  exact ⟨_, rfl, _, _, _, [], _, [], hW', trodAll_mk1 (shut_bool Try.underlying4 _), (trodAll_cons_mk (shut_string Try.underlying9 w0) (trodAll_cons_mk (Below.trod laidOut (by kernel_rfl) (of_decide_eq_true (by kernel_rfl)) k1 bel lt1) trodAll_mk0)), rfl, bel.frame _, fun h => by cases h⟩

theorem over : Rows.fnExactFilledRow.holds Try.pinned (OpenSpec.ofChange Rows.fnExactFilledSpec) :=
  OpenClaim.holds_of_wide 6 Try.f6 rfl rfl rfl rfl rfl rfl rfl ⟨rfl, rfl, rfl, rfl, rfl⟩ rfl rfl rfl rfl rfl (by kernel_rfl) Try.func6 (by kernel_rfl)
    (of_decide_eq_true (by kernel_rfl)) (by unfold Func.isWrapper; first | (rw [if_pos (by decide +kernel)]; kernel_rfl) | (rw [if_neg (by decide +kernel)]; exact ⟨rfl, rfl⟩))
    (fun os started H enc _ => lifted os started H enc)
end Go.Proofs.Ytgnjaglkmfcfpaa.fnExactFilled
namespace Go.Proofs.Ytgnjaglkmfcfpaa
theorem fnExactFilled_holds : Rows.FnExactFilledSaid := fnExactFilled.over
end Go.Proofs.Ytgnjaglkmfcfpaa
