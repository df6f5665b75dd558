/-
  A contract of ours for impl.holeOf: the first of n8, n16, e8 that a text holds (strings.Contains off the shelf).
-/
import Derived.Test.YtpnaohonadoofaaDoorHoleX
import Derived.Lib.IndexMore
import Derived.Deep.QuietTactic
namespace Go.Proofs.YtpnaohonadoofaaDoor.HolI
open Go.ChangeShapes Go.WideShapes Go.ChangeAt Go.RowKit
open HoleX (n8 n16 e8)
set_option linter.unusedVariables false
set_option maxRecDepth 20000

/-- The library's variable MaxLen holds some number. -/
def MaxL (w : World) : Prop := ∃ m : Int, w.cell? ⟨2, 0, none⟩ = some (.int .i64 m)
theorem cell_lt {w : World} {p : Addr} {v : Value} (h : w.cell? p = some v) : p.block < w.heap.size := by
  by_cases hlt : p.block < w.heap.size
  · exact hlt
  · exfalso
    simp [World.cell?, Array.getElem?_eq_none (Nat.not_lt.mp hlt)] at h
theorem MaxL.below {w w' : World} (h : MaxL w) (b : Below w.heap.size w w') : MaxL w' := by
  obtain ⟨m, hm⟩ := h
  exact ⟨m, by rw [b.cell (cell_lt hm)]; exact hm⟩
/-- What was laid first reads on, whatever was laid behind it. -/
theorem box {w w' : World} {vs : Array Value} {T : TypeId} (h : Below (w.alloc (.cells vs T)).heap.size (w.alloc (.cells vs T)) w') (i : Nat) (v : Value) (hv : vs[i]? = some v) : w'.cell? ⟨w.heap.size, i, none⟩ = some v := by
  rw [h.cell (p := ⟨w.heap.size, i, none⟩) (by simp), World.cell?_alloc_new]
  exact hv
theorem unbox {w w' : World} {o : Obj} (h : Below (w.alloc o).heap.size (w.alloc o) w') : Below w.heap.size w w' := ((Below.refl _ _).alloc (Nat.le_refl _) _).trans (h.mono (by simp))
theorem after {a w w' : World} (h : Below a.heap.size a w) (k : Below w.heap.size w w') : Below a.heap.size a w' := h.trans (k.mono h.size)
def holeI (s : ByteArray) : ByteArray := if Lib.contains s.data.toList n8.data.toList = true then n8 else if Lib.contains s.data.toList n16.data.toList = true then n16 else if Lib.contains s.data.toList e8.data.toList = true then e8 else ⟨#[]⟩
theorem holeI_cases (s : ByteArray) : holeI s = ⟨#[110, 56]⟩ ∨ holeI s = ⟨#[110, 49, 54]⟩ ∨ holeI s = ⟨#[101, 56]⟩ ∨ holeI s = ⟨#[]⟩ := by
  unfold holeI
  split
  · exact .inl rfl
  split
  · exact .inr (.inl rfl)
  split
  · exact .inr (.inr (.inl rfl))
  · exact .inr (.inr (.inr rfl))
def No (s : ByteArray) (i : Nat) : Prop := (1 ≤ i → Lib.contains s.data.toList n8.data.toList = false) ∧ (2 ≤ i → Lib.contains s.data.toList n16.data.toList = false) ∧ (3 ≤ i → Lib.contains s.data.toList e8.data.toList = false)
end Go.Proofs.YtpnaohonadoofaaDoor.HolI
