/-
  Contracts of ours for the laws' own helpers over lines: a line that came in, opened; szLine, toLine, eqLine.
-/
import Derived.Test.YtgnjaglkmfcfpaaTxts
namespace Go.Proofs.Ytgnjaglkmfcfpaa.Linp
open Go.ChangeShapes Go.WideShapes Go.ChangeAt Go.RowKit Go.Deep
set_option linter.unusedVariables false

theorem cellsN : Try.prog.cellsOf 23 = 3 := by kernel_rfl
theorem fieldsN : ∃ f0 f1 f2 : Field, Try.prog.underlying 23 = some (.struct #[f0, f1, f2]) ∧ f0.type = 9 ∧ f0.offset = 0 ∧ f1.type = 9 ∧ f1.offset = 1 ∧ f2.type = 9 ∧ f2.offset = 2 := ⟨_, _, _, Try.underlying23, rfl, rfl, rfl, rfl, rfl, rfl⟩
theorem line_of {H : Type} {enc : TypeId × Value → H} {w : World} {base : Nat} {spare : Nat → Bool} {held : Bool} {fuel : Nat} {cs : List Value} {x : DataW H × List MemPlace}
    (h : DataW.trod enc Try.prog w base spare held fuel 23 cs = some x) :
    ∃ (l o a : ByteArray), cs = [.string l, .string o, .string a] ∧ l.size ≤ maxLen ∧ o.size ≤ maxLen ∧ a.size ≤ maxLen := by
  obtain ⟨f0, f1, f2, hf, t0, o0, t1, o1, t2, o2⟩ := fieldsN
  obtain ⟨y0, y1, y2, k, _, hl, g0, g1, g2⟩ := trod_struct3 hf h
  rw [cellsN] at hl
  match cs, hl with
  | [v0, v1, v2], _ =>
    rw [t0, o0, Txts.cells9] at g0
    rw [t1, o1, Txts.cells9] at g1
    rw [t2, o2, Txts.cells9] at g2
    obtain ⟨s0, e0, _, z0⟩ := DataW.trod_string Try.underlying9 g0
    obtain ⟨s1, e1, _, z1⟩ := DataW.trod_string Try.underlying9 g1
    obtain ⟨s2, e2, _, z2⟩ := DataW.trod_string Try.underlying9 g2
    simp at e0 e1 e2
    subst e0 e1 e2
    exact ⟨s0, s1, s2, rfl, z0, z1, z2⟩

set_option maxHeartbeats 400000 in
theorem szLine_any (l o a : ByteArray) (w : World) (zl : l.size ≤ maxLen) (zo : o.size ≤ maxLen) (za : a.size ≤ maxLen) :
    Calls Try.prog 7 #[.agg #[.string l, .string o, .string a], .int .i64 1048576] w fun e w' => (∃ x : Int, e = .returned (.int .i64 x) ∧ (x < 0 ∨ (0 ≤ x ∧ l.size + o.size + a.size ≤ 1048576))) ∧ w' = w.alloc (.cells #[.string l, .string o, .string a] 23) := by
  unfold maxLen at zl zo za
  by_cases h1 : 1048576 - (l.size : Int) < 0
  · go_enter Try.func7, Try.ntmps7
    go_wp2
    go_ret
    exact ⟨⟨_, rfl, .inl (by decide)⟩, rfl⟩
  by_cases h2 : 1048576 - (l.size : Int) - (o.size : Int) < 0
  · go_enter Try.func7, Try.ntmps7
    go_wp2
    go_ret
    exact ⟨⟨_, rfl, .inl (by decide)⟩, rfl⟩
  by_cases h3 : 1048576 - (l.size : Int) - (o.size : Int) - (a.size : Int) < 0
  · go_enter Try.func7, Try.ntmps7
    go_wp2
    go_ret
    exact ⟨⟨_, rfl, .inl (by decide)⟩, rfl⟩
  · go_enter Try.func7, Try.ntmps7
    go_wp2
    go_ret
    exact ⟨⟨_, rfl, .inr (by omega)⟩, rfl⟩
theorem toLine_any (l o a : ByteArray) (w : World) :
    Calls Try.prog 9 #[.agg #[.string l, .string o, .string a]] w fun e w' => e = .returned (.agg #[.string l, .string o, .string a]) ∧ w' = ((w.alloc (.cells #[.string l, .string o, .string a] 23)).alloc (.cells #[.string l, .string o, .string a] 26)).alloc (.cells #[.string l, .string o, .string a] 26) := by
  go_enter Try.func9, Try.ntmps9
  go_wp2
  exact bodyPost_ret (v := .agg #[.string l, .string o, .string a]) (by simp [results, Try.results9, go_sem]) rfl ⟨rfl, rfl⟩
end Go.Proofs.Ytgnjaglkmfcfpaa.Linp
