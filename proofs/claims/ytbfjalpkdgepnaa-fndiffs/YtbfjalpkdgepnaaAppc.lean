/-
  Of ours: a text copied into a row of bytes that may be shorter; a slice of that row.
-/
import Derived.Test.YtbfjalpkdgepnaaAppp
namespace Go.Proofs.Ytbfjalpkdgepnaa.Appc
open Go.RowKit
open Rowb
set_option linter.unusedVariables false
set_option linter.unusedSimpArgs false
theorem run_copy_cut {P : Program} (w : World) (dT sT ty elem : TypeId) (b o dLen dCap : Nat) (t : ByteArray)
    (hu : P.underlying dT = some (.slice elem)) (hz : ∀ w, (Go.sizeOf elem).run P w = .ok 1 w) (hle : dLen ≤ t.size)
    (hc : ∀ j, j < dLen → (w.cell? ⟨b, o + j, none⟩).isSome = true) (hf : ∀ j, j < dLen → w.frozen? ⟨b, o + j, none⟩ = false) :
    (Builtin.copy_ #[dT, sT] ty #[.slice (some ⟨b, o, none⟩) dLen dCap, .string t]).run P w = .ok (goInt dLen) (w.setCells b o ((t.data.toList.map fun x => Value.int .u8 (x.toNat : Int)).take dLen)) := by
  have hmin : Nat.min t.size dLen = dLen := Nat.min_eq_right hle
  have hl : ((t.data.toList.map fun x => Value.int .u8 (x.toNat : Int)).take dLen).length = dLen := by rw [List.length_take, List.length_map, ← Lib.size_eq]; omega
  have hst := run_storeCells_cells (P := P) b o ((t.data.toList.map fun x => Value.int .u8 (x.toNat : Int)).take dLen) 0 w (by rw [hl]; simpa using hc) (by rw [hl]; simpa using hf) (by
    intro v hv
    obtain ⟨x, _, rfl⟩ := List.mem_map.1 (List.mem_of_mem_take hv)
    rfl)
  simp [Builtin.copy_, run_underlying hu, Builtin.lenOf, Builtin.firstCells, hz, hmin] at hst ⊢
  rw [hst]
  rfl
theorem copy_min {w : World} {B : Nat} {l : List UInt8} (h : Row w B l) (s : ByteArray) (n cap : Nat) (hn : l.length = n) :
    ∃ (w' : World) (m : Nat), (∀ ty, (Builtin.copy_ #[25, 9] ty #[.slice (some ⟨B, 0, none⟩) n cap, .string s]).run Try.prog w = .ok (goInt m) w') ∧ Row w' B (over l 0 (s.data.toList.take n)) ∧ ∀ (Q : Nat) (w0 : World), Q ≤ B → Below Q w0 w → Below Q w0 w' := by
  have hl : s.data.toList.length = s.size := Array.length_toList
  by_cases hle : s.size ≤ n
  · obtain ⟨w', h1, h2, h3⟩ := copy_at h 0 n cap s hle (by omega)
    rw [List.take_of_length_le (by omega)]
    exact ⟨w', _, h1, h2, h3⟩
  · have e : (s.data.toList.map fun x => Value.int .u8 (x.toNat : Int)).take n = cellsOf (s.data.toList.take n) := by unfold cellsOf; rw [List.map_take]
    refine ⟨w.setCells B 0 (cellsOf (s.data.toList.take n)), n, fun ty => ?_, cells_at _ _ _ _ h (by rw [List.length_take]; omega), fun Q w0 hQ b => below_setCells hQ _ _ _ b⟩
    rw [← e]
    exact run_copy_cut w 25 9 ty 5 B 0 n cap s Try.underlying25 hsz (by omega) (fun j hj => by rw [Nat.zero_add, cell_at h j (by omega)]; rfl) (fun j hj => free_at h _)
end Go.Proofs.Ytbfjalpkdgepnaa.Appc
