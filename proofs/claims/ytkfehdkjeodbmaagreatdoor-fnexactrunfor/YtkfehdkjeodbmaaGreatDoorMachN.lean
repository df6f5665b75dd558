/-
  Contracts of ours for both MachineNew, at every argument.
-/
import Derived.Test.YtkfehdkjeodbmaaGreatDoorMachP
import Derived.Test.YtkfehdkjeodbmaaGreatDoorMachO
import Derived.Deep.WholeRow
namespace Go.Proofs.YtkfehdkjeodbmaaGreatDoor.MachN
set_option maxRecDepth 20000
open Go.ChangeShapes Go.WideShapes Go.ChangeAt Go.RowKit Go.Deep
set_option linter.unusedVariables false
open CartL CartN Outs Mach MachT

theorem results_two {P : Program} {fn : Func} {p q : Tmp} {ty : TypeId} (h : fn.results = #[.cell p ty, .tmp q]) (tmps : Array Value) (w : World) (g : Nat) (t : TypeId) (cs : Array Value) (fr : Nat × Nat) (d : TypeDesc) (v : Value)
    (hp : tmps.getD p undef = .pointer (some ⟨g, 0, none⟩)) (hq : tmps.getD q undef = v) (hg : w.heap[g]? = some (.cells cs t fr))
    (hu : P.underlying ty = some d) (hd : (match d with | .struct _ | .array _ _ => true | _ => false) = true) (hi : (P.info? ty).map (·.size) = some cs.size) :
    (results fn tmps).run P w = .ok (.tuple #[.agg cs, v]) w := by
  have hp' : tmps[p]?.getD undef = .pointer (some ⟨g, 0, none⟩) := by simpa using hp
  have hq' : tmps[q]?.getD undef = v := by simpa using hq
  simp [results, h, hp', hq', asAddr, run_loadVar_row w g t ty cs fr d hg hu hd hi]
theorem keep {W : World} {B : Nat} {x : Obj} (h : W.heap[B]? = some x) (o : Obj) : (W.alloc o).heap[B]? = some x := by
  have hlt : B < W.heap.size := (Array.getElem?_eq_some_iff.1 h).1
  exact (Below.heap_alloc W o B hlt).trans h
theorem made2 (n : Nat) (hn : n ≤ 1000) : ∃ o : Obj, (∀ u : World, (Instr.makeSlice 109 (.int .i64 (n : Int)) (.int .i64 (n : Int))).run Tryz.prog u = .ok (.slice (some ⟨u.heap.size, 0, none⟩) n n) (u.alloc o)) ∧
    ∀ (W : World) (B : Nat), W.heap[B]? = some o → (convert 109 9 (.slice (some ⟨B, 0, none⟩) n n)).run Tryz.prog W = .ok (.string (Z n)) W := by
  obtain ⟨i0, hi, hz0, hz1, hz2⟩ := info_parts infoB
  refine ⟨.cells (madeCells #[.int .u8 0] n) 5, fun u => ?_, fun W B hB => ?_⟩
  · have h := run_make (P := Tryz.prog) u 109 5 i0 (.int .u8 0) Tryz.underlying109 hi hz0 .i64 .i64 (n : Int) (n : Int) (by omega) (Int.le_refl _) (by rw [hz2]; omega) (by omega)
    simpa [hz1, Value.cells] using h
  · have h := run_convert_bytes_back (P := Tryz.prog) W 109 9 5 ⟨B, 0, none⟩ n (List.replicate n 0) Tryz.underlying109 Tryz.underlying5 Tryz.underlying9 (fun j hj => by
      have hj' : j < n := by simpa using hj
      have ea : (⟨B, 0, none⟩ : Addr).add j = ⟨B, j, none⟩ := by unfold Addr.add; split <;> simp_all
      rw [ea]
      refine cel hB j _ ?_
      rw [← Array.getElem?_toList, toList_madeCells_one]
      simp [hj'])
    simpa [Z] using h
end Go.Proofs.YtkfehdkjeodbmaaGreatDoor.MachN
