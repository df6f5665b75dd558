/-
  Contracts of ours for the laws' own helpers over nodes: sizes, the mirror's nodes as the program's, equality; and a row of nodes that came in, opened.
-/
import Derived.Test.YtlobkgohenebmaaDoorSpecx
import Derived.Deep.Strs
import Derived.Deep.RegionWith
namespace Go.Proofs.YtlobkgohenebmaaDoor.Mirror
open Go.ChangeShapes Go.WideShapes Go.ChangeAt Go.RowKit Go.Deep
set_option maxRecDepth 20000
open Go.Proofs.YtlobkgohenebmaaDoor.Stepx (Nodes)

theorem cells2 : Tryd.prog.cellsOf 2 = 1 := by kernel_rfl
theorem cells9 : Tryd.prog.cellsOf 9 = 1 := by kernel_rfl
theorem Nodes.below {w w' : World} {a : Option Addr} {L : List Stepx.Node} (h : Nodes w a L) (hb : Below w.heap.size w w') : Nodes w' a L := by
  rcases h with h | ⟨b, off, ha, hl, hc⟩
  · exact .inl h
  · refine .inr ⟨b, off, ha, Nat.lt_of_lt_of_le hl hb.size, fun i hi => ?_⟩
    obtain ⟨d0, d1, d2, d3⟩ := hc i hi
    exact ⟨(hb.cell (p := ⟨b, _, none⟩) hl).trans d0, (hb.cell (p := ⟨b, _, none⟩) hl).trans d1, (hb.cell (p := ⟨b, _, none⟩) hl).trans d2, d3⟩

def left (m : Int) (s : ByteArray) : Int := if m - s.size < 0 then -1 else m - s.size
/-- The first k nodes lie in the new block; the rest of it can be written. -/
def Part (W : World) (B len : Nat) (L : List Stepx.Node) (k : Nat) : Prop :=
  (∀ i (h : i < L.length), i < k → W.cell? ⟨B, i * 3, none⟩ = some (.int .i64 L[i].1) ∧ W.cell? ⟨B, i * 3 + 1, none⟩ = some (.int .i64 L[i].2.1) ∧ W.cell? ⟨B, i * 3 + 2, none⟩ = some (.string L[i].2.2)) ∧
  (∀ j, j < len * 3 → ∃ u, W.cell? ⟨B, j, none⟩ = some u) ∧ (∀ j, W.frozen? ⟨B, j, none⟩ = false) ∧ B < W.heap.size
theorem Part.kept {W W' : World} {B len k : Nat} {L : List Stepx.Node} (h : Part W B len L k) (hb : W'.heap[B]? = W.heap[B]?) (hs : W.heap.size ≤ W'.heap.size) : Part W' B len L k := by
  have e : ∀ o, W'.cell? ⟨B, o, none⟩ = W.cell? ⟨B, o, none⟩ := fun o => World.cell?_of_block (a := ⟨B, o, none⟩) hb
  have f : ∀ o, W'.frozen? ⟨B, o, none⟩ = W.frozen? ⟨B, o, none⟩ := fun o => World.frozen?_of_block (a := ⟨B, o, none⟩) hb
  refine ⟨fun i hi hk => ?_, fun j hj => ?_, fun j => ?_, Nat.lt_of_lt_of_le h.2.2.2 hs⟩
  · rw [e, e, e]; exact h.1 i hi hk
  · rw [e]; exact h.2.1 j hj
  · rw [f]; exact h.2.2.1 j
theorem Part.set {W : World} {B len k o : Nat} {L : List Stepx.Node} (h : Part W B len L k) (ho : k * 3 ≤ o) (v : Value) : Part (W.setCell ⟨B, o, none⟩ v) B len L k := by
  have ne : ∀ i, i ≠ o → (W.setCell ⟨B, o, none⟩ v).cell? ⟨B, i, none⟩ = W.cell? ⟨B, i, none⟩ := fun i hi => World.cell?_setCell_other W _ _ _ (fun e => hi (by have := congrArg Addr.off e; exact this.symm))
  refine ⟨fun i hi hk => ?_, fun j hj => ?_, fun j => ?_, ?_⟩
  · rw [ne _ (by omega), ne _ (by omega), ne _ (by omega)]; exact h.1 i hi hk
  · by_cases e : j = o
    · subst e
      obtain ⟨u, hu⟩ := h.2.1 j hj
      exact ⟨v, World.cell?_setCell_same W _ _ hu⟩
    · rw [ne j e]; exact h.2.1 j hj
  · rw [World.frozen?_setCell]; exact h.2.2.1 j
  · have := h.2.2.2; simpa [World.setCell] using this
theorem Part.store {W : World} {B len k : Nat} {L : List Stepx.Node} (h : Part W B len L k) (hk : k < len) (hl : len = L.length) (hkL : k < L.length) :
    Part (((W.setCell ⟨B, k * 3, none⟩ (.int .i64 L[k].1)).setCell ⟨B, k * 3 + 1, none⟩ (.int .i64 L[k].2.1)).setCell ⟨B, k * 3 + 2, none⟩ (.string L[k].2.2)) B len L (k + 1) := by
  have h1 := h.set (o := k * 3) (Nat.le_refl _) (.int .i64 L[k].1)
  have h2 := h1.set (o := k * 3 + 1) (by omega) (.int .i64 L[k].2.1)
  have h3 := h2.set (o := k * 3 + 2) (by omega) (.string L[k].2.2)
  refine ⟨fun i hi hik => ?_, h3.2.1, h3.2.2.1, h3.2.2.2⟩
  by_cases e : i = k
  · subst e
    obtain ⟨u0, hu0⟩ := h.2.1 (i * 3) (by omega)
    obtain ⟨u1, hu1⟩ := h1.2.1 (i * 3 + 1) (by omega)
    obtain ⟨u2, hu2⟩ := h2.2.1 (i * 3 + 2) (by omega)
    refine ⟨?_, ?_, World.cell?_setCell_same _ _ _ hu2⟩
    · rw [World.cell?_setCell_other _ _ _ _ (by simp), World.cell?_setCell_other _ _ _ _ (by simp)]
      exact World.cell?_setCell_same _ _ _ hu0
    · rw [World.cell?_setCell_other _ _ _ _ (by simp)]
      exact World.cell?_setCell_same _ _ _ hu1
  · exact h3.1 i hi (by omega)

theorem infoN : (Tryd.prog.info? 36).map (fun i => (i.zero, i.size, i.bytes)) = some (some (.agg #[.int .i64 0, .int .i64 0, .string ⟨#[]⟩]), 3, 32) := by kernel_rfl
theorem Part.made (w : World) (len : Nat) (L : List Stepx.Node) (z : Array Value) (t : TypeId) : Part (w.alloc (.cells (madeCells z (len * 3)) t)) w.heap.size len L 0 := by
  refine ⟨fun i _ h => absurd h (Nat.not_lt_zero _), fun j hj => ?_, fun j => ?_, by simp⟩
  · rw [World.cell?_alloc_new]
    exact ⟨_, Array.getElem?_eq_getElem (by rw [size_madeCells]; exact hj)⟩
  · exact World.frozen?_alloc_at _ _ _ _ rfl

theorem below_of_drew {w w' : World} (h : Below w.drew.heap.size w.drew w') : Below w.heap.size w w' := ⟨h.os, h.tape, h.output, h.size, h.block⟩
end Go.Proofs.YtlobkgohenebmaaDoor.Mirror
