/- For every line the law FnExactLineOk answers true, that is, impl.LineOk answers as spec.LineOk does, and the line reads afterwards as it read before; no condition. -/
import Derived.Test.YtgnjaglkmfcfpaaRows
import Derived.WalkKit
import Derived.ProofKit
import Derived.OpenShut
import Derived.ShutString
import Derived.ChangeOld
import Derived.Below
import Derived.Test.YtgnjaglkmfcfpaaLino
import Derived.Test.YtgnjaglkmfcfpaaLinp
namespace Go.Proofs.Ytgnjaglkmfcfpaa.fnExactLineOk
open Go.ChangeShapes Go.WideShapes Go.ChangeAt Go.RowKit
open Go.ChangeMaps (open_string shut_string)
set_option linter.unusedVariables false

theorem own : ownKnob Try.prog.godebug = none := by kernel_rfl
theorem laidOut : laidOutB Try.prog = true := by kernel_rfl

set_option maxHeartbeats 2000000 in
theorem walk (w : World) (l0 o0 x0 : ByteArray) (zl0 : l0.size ≤ maxLen) (zo0 : o0.size ≤ maxLen) (zx0 : x0.size ≤ maxLen) :
    Calls Try.prog 3 #[.agg #[.string l0, .string o0, .string x0]] w fun e w' => e = .returned (.bool true) ∧ Below w.heap.size w w' := by
  have cz := fun w => Linp.szLine_any l0 o0 x0 w zl0 zo0 zx0
  unfold maxLen at zl0 zo0 zx0
  have bx : ∀ i, (w.alloc (.cells #[.string l0, .string o0, .string x0] 23)).cell? ⟨w.heap.size, i, none⟩ = (#[.string l0, .string o0, .string x0] : Array Value)[i]? := fun i => World.cell?_alloc_new _ _ _ _
  have BX := (show Hid _ from bx)
  clear bx
  have keep : ∀ w1 : World, Below (w.alloc (.cells #[.string l0, .string o0, .string x0] 23)).heap.size (w.alloc (.cells #[.string l0, .string o0, .string x0] 23)) w1 → w1.cell? ⟨w.heap.size, 0, none⟩ = some (.string l0) ∧ w1.cell? ⟨w.heap.size, 1, none⟩ = some (.string o0) ∧ w1.cell? ⟨w.heap.size, 2, none⟩ = some (.string x0) := fun w1 hb =>
    ⟨(hb.cell (p := ⟨w.heap.size, 0, none⟩) (by simp)).trans (BX.out 0), (hb.cell (p := ⟨w.heap.size, 1, none⟩) (by simp)).trans (BX.out 1), (hb.cell (p := ⟨w.heap.size, 2, none⟩) (by simp)).trans (BX.out 2)⟩
  have KP := (show Hid _ from keep)
  clear keep BX
  go_enter Try.func3, Try.ntmps3
  go_wp2_with fail
  refine (cz _).mono ?_
  rintro e w1 ⟨⟨x, rfl, hx⟩, hw1⟩
  have B1 : Hid (Below (w.alloc (.cells #[.string l0, .string o0, .string x0] 23)).heap.size (w.alloc (.cells #[.string l0, .string o0, .string x0] 23)) w1) := by rw [hw1]; exact Lines.grow (Below.refl _ _) _
  clear hw1 cz
  rcases hx with hx | ⟨hx, hlen⟩
  · go_wp2
    go_ret
    exact ⟨rfl, (Lines.grow (Below.refl _ _) _).trans (B1.out.mono (by simp))⟩
  obtain ⟨c0, c1, c2⟩ := KP.out w1 B1.out
  have cs := fun w => Lino.specOk_any l0 o0 x0 w (by omega) (by omega) (by omega)
  have ci := fun w => Lino.implOk_any l0 o0 x0 w (by omega) (by omega) (by omega)
  generalize Lino.lineB l0 o0 x0 = r at cs ci
  go_wp2_with fail
  refine (Linp.toLine_any _ _ _ _).mono ?_
  rintro e w2 ⟨rfl, hw2⟩
  have b2 : Hid (Below w1.heap.size w1 w2) := by rw [hw2]; exact Lines.grow (Lines.grow (Lines.grow (Below.refl _ _) _) _) _
  have B2 := (show Hid _ from B1.out.trans (b2.out.mono B1.out.size))
  clear hw2 b2 c0 c1 c2
  go_wp2_with fail
  refine (cs _).mono ?_
  rintro e w3 ⟨rfl, b3⟩
  have B3 := (show Hid _ from B2.out.trans (b3.mono B2.out.size))
  clear b3 B2
  obtain ⟨c0, c1, c2⟩ := KP.out w3 B3.out
  go_wp2_with fail
  refine (Linp.toLine_any _ _ _ _).mono ?_
  rintro e w4 ⟨rfl, hw4⟩
  have b4 : Hid (Below w3.heap.size w3 w4) := by rw [hw4]; exact Lines.grow (Lines.grow (Lines.grow (Below.refl _ _) _) _) _
  have B4 := (show Hid _ from B3.out.trans (b4.out.mono B3.out.size))
  clear hw4 b4 c0 c1 c2
  go_wp2_with fail
  refine (ci _).mono ?_
  rintro e w5 ⟨rfl, b5⟩
  have B5 := (show Hid _ from B4.out.trans (b5.mono B4.out.size))
  clear b5 B4 B3 B1 cs ci KP
  cases r <;> go_wp2
  all_goals go_ret
  all_goals exact ⟨rfl, (Lines.grow (Below.refl _ _) _).trans (B5.out.mono (by simp))⟩

set_option maxRecDepth 100000 in
theorem lifted (os : Os) (started : os.Started) (H : Type) (enc : TypeId × Value → H) :
    ReturnsInHanded {} Try.checked os 3 .any (Rows.fnExactLineOkSpec.pre6 enc Try.prog Try.f3 Rows.fnExactLineOkRow.domain false) (Rows.fnExactLineOkSpec.post enc Try.prog Try.f3 false true false false) := by
  refine returnsInHanded_of_change (C := Try.checked) own started (by kernel_rfl) Try.func3
    (ChangeSpec.witness6 (enc := enc) (C := Try.checked) false ⟨#[], #[.agg #[.string ByteArray.empty, .string ByteArray.empty, .string ByteArray.empty]], []⟩ 8 (by kernel_rfl) (by kernel_rfl) (by kernel_rfl) (by kernel_rfl)) ?_
  intro W base args ds gs before hval0 hW hcnd _
  have hval : ∀ (j : Nat) t v, Try.f3.params[j]? = some t → args[j]? = some v → Value.okWide Try.prog W .any base t v := hval0
  have hW' := hW
  obtain ⟨p, q, hA0, hV, rfl, hfz, hnd⟩ := hW
  have hA : DataW.TrodAll enc Try.prog W 0 (fun _ => true) true Try.f3.params.toList args.toList ds p := hA0
  rw [Try.params3] at hA hval
  obtain ⟨v0, vs0, d0, ds0, p0, q0, hargs, rfl, rfl, h0, r0⟩ := trodAll_cons hA
  obtain ⟨rfl, rfl, rfl⟩ := trodAll_nil r0
  obtain rfl : args = #[v0] := by cases args; simp_all
  obtain ⟨rfl, rfl⟩ := trodVars_none hV
  obtain ⟨cs0, rfl, _⟩ := okWide_struct Try.underlying23 (hval 0 23 v0 rfl rfl)
  have kk0 := h0
  have lt0 : ∀ x ∈ p0, x.block < W.heap.size := by obtain ⟨m, hm⟩ := kk0; exact DataW.trod_lt m _ _ _ hm
  obtain ⟨l0, o0, x0, e0, zl0, zo0, zx0⟩ : ∃ (l o a : ByteArray), cs0 = #[.string l, .string o, .string a] ∧ l.size ≤ maxLen ∧ o.size ≤ maxLen ∧ a.size ≤ maxLen := by
    obtain ⟨fuel, hf⟩ := h0
    obtain ⟨l, o, a, hcs, h1, h2, h3⟩ := Linp.line_of hf
    simp [Value.cells] at hcs
    exact ⟨l, o, a, by cases cs0; simp_all, h1, h2, h3⟩
  subst e0
  clear hA0 hval0
  refine (walk W l0 o0 x0 zl0 zo0 zx0).mono fun e W' ⟨he, bel⟩ => ?_
  subst he
  exact ⟨_, rfl, _, _, _, [], _, [], hW', trodAll_mk1 (shut_bool Try.underlying4 _), (trodAll_cons_mk (Below.trod laidOut (by kernel_rfl) (of_decide_eq_true (by kernel_rfl)) kk0 bel lt0) trodAll_mk0), rfl, bel.frame _, fun h => by cases h⟩

theorem over : Rows.fnExactLineOkRow.holds Try.pinned (OpenSpec.ofChange Rows.fnExactLineOkSpec) :=
  OpenClaim.holds_of_wide 3 Try.f3 rfl rfl rfl rfl rfl rfl rfl ⟨rfl, rfl, rfl, rfl, rfl⟩ rfl rfl rfl rfl rfl (by kernel_rfl) Try.func3 (by kernel_rfl)
    (of_decide_eq_true (by kernel_rfl)) (by unfold Func.isWrapper; first | (rw [if_pos (by decide +kernel)]; kernel_rfl) | (rw [if_neg (by decide +kernel)]; exact ⟨rfl, rfl⟩))
    (fun os started H enc _ => lifted os started H enc)
end Go.Proofs.Ytgnjaglkmfcfpaa.fnExactLineOk
namespace Go.Proofs.Ytgnjaglkmfcfpaa
theorem fnExactLineOk_holds : Rows.FnExactLineOkSaid := fnExactLineOk.over
end Go.Proofs.Ytgnjaglkmfcfpaa
