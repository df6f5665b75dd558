/-
  Of ours: an instruction that came in, opened; contracts for the laws' toIns and eqIns.
-/
import Derived.Test.YthagdgdnjjdbfaaDoorSigned
import Derived.OpenShut
import Derived.ProofKit
import Derived.Below
namespace Go.Proofs.YthagdgdnjjdbfaaDoor.Insp
open Go.ChangeShapes Go.WideShapes Go.ChangeAt Go.RowKit
set_option linter.unusedVariables false
set_option maxRecDepth 20000
theorem grow {a w : World} (h : Below a.heap.size a w) (o : Obj) : Below a.heap.size a (w.alloc o) := h.alloc h.size o
theorem cellsN : Tryd.prog.cellsOf 25 = 3 := by kernel_rfl
theorem cells2 : Tryd.prog.cellsOf 2 = 1 := by kernel_rfl
theorem cells4 : Tryd.prog.cellsOf 4 = 1 := by kernel_rfl
theorem fieldsN : ∃ f0 f1 f2 : Field, Tryd.prog.underlying 25 = some (.struct #[f0, f1, f2]) ∧ f0.type = 2 ∧ f0.offset = 0 ∧ f1.type = 4 ∧ f1.offset = 1 ∧ f2.type = 2 ∧ f2.offset = 2 := ⟨_, _, _, Tryd.underlying25, rfl, rfl, rfl, rfl, rfl, rfl⟩
theorem ins_of {H : Type} {enc : TypeId × Value → H} {w : World} {base : Nat} {spare : Nat → Bool} {held : Bool} {fuel : Nat} {cs : List Value} {x : DataW H × List MemPlace}
    (h : DataW.trod enc Tryd.prog w base spare held fuel 25 cs = some x) :
    ∃ (c : Int) (b : Bool) (m : Int), cs = [.int .i64 c, .bool b, .int .i64 m] := by
  obtain ⟨f0, f1, f2, hf, t0, o0, t1, o1, t2, o2⟩ := fieldsN
  obtain ⟨xs, n, _, _, hl, hlen, g⟩ := DataW.trod_struct hf h
  rw [cellsN] at hl
  match cs, hl, xs, hlen with
  | [v0, v1, v2], _, [y0, y1, y2], _ =>
    have g0 := g 0 f0 rfl
    have g1 := g 1 f1 rfl
    have g2 := g 2 f2 rfl
    rw [t0, o0, cells2] at g0
    rw [t1, o1, cells4] at g1
    rw [t2, o2, cells2] at g2
    obtain ⟨n0, e0, _⟩ := DataW.trod_int Tryd.underlying2 g0
    obtain ⟨n1, e1, _⟩ := DataW.trod_bool Tryd.underlying4 g1
    obtain ⟨n2, e2, _⟩ := DataW.trod_int Tryd.underlying2 g2
    simp at e0 e1 e2
    subst e0 e1 e2
    exact ⟨n0, n1, n2, rfl⟩
theorem toIns_any (c : Int) (b : Bool) (m : Int) (w : World) :
    Calls Tryd.prog 9 #[.agg #[.int .i64 c, .bool b, .int .i64 m]] w fun e w' => e = .returned (.agg #[.int .i64 c, .bool b, .int .i64 m]) ∧ Below w.heap.size w w' := by
  go_enter Tryd.func9, Tryd.ntmps9
  go_wp2
  exact bodyPost_ret (v := .agg #[.int .i64 c, .bool b, .int .i64 m]) (by simp [results, Tryd.results9, go_sem]) rfl ⟨rfl, grow (grow (grow (Below.refl _ _) _) _) _⟩
theorem eqIns_same (c : Int) (b : Bool) (m : Int) (w : World) :
    Calls Tryd.prog 13 #[.agg #[.int .i64 c, .bool b, .int .i64 m], .agg #[.int .i64 c, .bool b, .int .i64 m]] w fun e w' => e = .returned (.bool true) ∧ Below w.heap.size w w' := by
  go_enter Tryd.func13, Tryd.ntmps13
  go_wp2
  go_ret
  exact ⟨rfl, grow (grow (Below.refl _ _) _) _⟩
end Go.Proofs.YthagdgdnjjdbfaaDoor.Insp
