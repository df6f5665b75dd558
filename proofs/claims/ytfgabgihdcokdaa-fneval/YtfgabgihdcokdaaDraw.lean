/-
  Contracts of ours for what makes drawn texts: spec.l1Dec, and the reader's hurt.
-/
import Derived.Test.YtfgabgihdcokdaaRd
import Derived.Laws.BytesArg
import Derived.Deep.RegionWith
namespace Go.Proofs.Ytfgabgihdcokdaa.Draw
open Go.ChangeShapes Go.WideShapes Go.ChangeAt Go.RowKit
open Rdr (Rd Post)


/-- A row that was laid ahead of a call of the reader reads behind it as it was laid. -/
theorem row_cell {W w1 w2 : World} {rb : Nat} {C : Array Value} {T : TypeId} (hp : Post W rb w2) (hW : W.heap = (w1.alloc (.cells C T)).heap) (hl : rb < w1.heap.size) (i : Nat) : w2.cell? ⟨w1.heap.size, i, none⟩ = C[i]? := by
  have e : w2.heap[w1.heap.size]? = (w1.alloc (.cells C T)).heap[w1.heap.size]? := by
    rw [hp.2.block _ (by rw [hW]; simp) (fun e => by have : w1.heap.size = rb := Option.some.inj e; omega), hW]
  exact (World.cell?_of_block (a := ⟨w1.heap.size, i, none⟩) e).trans (World.cell?_alloc_new _ _ _ _)
/-- One of a row of texts of at most k bytes. -/
theorem row_text {W w1 w2 : World} {rb : Nat} {T : TypeId} {C : List ByteArray} (k : Nat) (hp : Post W rb w2) (hW : W.heap = (w1.alloc (.cells (C.map Value.string).toArray T)).heap) (hl : rb < w1.heap.size) (hk : ∀ t ∈ C, t.size ≤ k) {y : Int} (y0 : 0 ≤ y) (y1 : y < C.length) :
    ∃ t : ByteArray, t.size ≤ k ∧ w2.cell? ⟨w1.heap.size, y.toNat, none⟩ = some (.string t) := by
  have h : y.toNat < C.length := by omega
  refine ⟨C[y.toNat], hk _ (List.getElem_mem h), (row_cell hp hW hl y.toNat).trans ?_⟩
  simp [h]

theorem row_get {C : List ByteArray} (k : Nat) (hk : ∀ t ∈ C, t.size ≤ k) {y : Int} (y0 : 0 ≤ y) (y1 : y < C.length) : ∃ t : ByteArray, t.size ≤ k ∧ ∀ h, (C.map Value.string)[y.toNat]'h = .string t := by
  have h : y.toNat < C.length := by omega
  exact ⟨C[y.toNat], hk _ (List.getElem_mem h), fun h => by simp⟩


end Go.Proofs.Ytfgabgihdcokdaa.Draw
