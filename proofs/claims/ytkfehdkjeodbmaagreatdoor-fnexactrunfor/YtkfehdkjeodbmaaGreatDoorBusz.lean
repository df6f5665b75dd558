/-
  A contract of ours for spec.BusWrite.
-/
import Derived.Test.YtkfehdkjeodbmaaGreatDoorBusy
namespace Go.Proofs.YtkfehdkjeodbmaaGreatDoor.Busz
open Go.ChangeShapes Go.WideShapes Go.ChangeAt Go.RowKit Go.Deep
set_option linter.unusedVariables false
set_option linter.unusedSimpArgs false
set_option maxRecDepth 20000
open Signed (inB ret_int ret_bool isByte_any l1In_any)
open Carts CartK CartL CartM CartN CartP CartR CartW CartX CartY Outs Mach MachT MachO MachK MachB Busw Busx Busy
theorem wrM_len {m m' : M} {addr v : Int} (hr : Rt m) (h : wrM m addr v = some m') : m'.out.length ≤ 1048576 := by
  have ho := hr.out
  unfold wrM at h
  split at h
  · cases h; show m.out.length ≤ _; omega
  · split at h
    · cases h; show m.out.length ≤ _; omega
    · split at h
      · split at h
        · cases h
        · cases h; show (m.out ++ [v]).length ≤ _; rw [List.length_append]; simp; omega
      · cases h; show m.out.length ≤ _; omega
end Go.Proofs.YtkfehdkjeodbmaaGreatDoor.Busz
