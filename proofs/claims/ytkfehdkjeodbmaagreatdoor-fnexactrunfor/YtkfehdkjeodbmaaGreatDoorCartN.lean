/-
  Contracts of ours for both CartNew, at every argument.
-/
import Derived.Test.YtkfehdkjeodbmaaGreatDoorCartM
import Derived.Laws.IdiomStrings
import Derived.Laws.OwnMore
namespace Go.Proofs.YtkfehdkjeodbmaaGreatDoor.CartN
set_option maxRecDepth 20000
open Go.ChangeShapes Go.WideShapes Go.ChangeAt Go.RowKit Go.Deep
set_option linter.unusedVariables false
open Signed (inB ret_int ret_bool isByte_any l1In_any)
open Carts CartK CartL CartM

theorem infoB : (Tryz.prog.info? 5).map (fun i => (i.zero, i.size, i.bytes)) = some (some (.int .u8 0), 1, 1) := by kernel_rfl
theorem info_parts {P : Program} {t : TypeId} {z : Value} {s b : Nat} (h : (P.info? t).map (fun i => (i.zero, i.size, i.bytes)) = some (some z, s, b)) : ∃ i, P.info? t = some i ∧ i.zero = some z ∧ i.size = s ∧ i.bytes = b := by
  cases e : P.info? t with
  | none => rw [e] at h; cases h
  | some i =>
    rw [e] at h
    simp only [Option.map_some, Option.some.injEq, Prod.mk.injEq] at h
    exact ⟨i, rfl, h.1, h.2.1, h.2.2⟩
/-- So many noughts. -/
def Z (n : Nat) : ByteArray := ⟨(List.replicate n (0 : UInt8)).toArray⟩
theorem Z_size (n : Nat) : (Z n).size = n := by simp [Z, ByteArray.size]
theorem made (n : Nat) (hn : n ≤ 1000) : ∃ o : Obj, ∀ u : World, (Instr.makeSlice 109 (.int .i64 (n : Int)) (.int .i64 (n : Int))).run Tryz.prog u = .ok (.slice (some ⟨u.heap.size, 0, none⟩) n n) (u.alloc o) ∧
    (convert 109 9 (.slice (some ⟨u.heap.size, 0, none⟩) n n)).run Tryz.prog (u.alloc o) = .ok (.string (Z n)) (u.alloc o) := by
  obtain ⟨i0, hi, hz0, hz1, hz2⟩ := info_parts infoB
  refine ⟨.cells (madeCells #[.int .u8 0] n) 5, fun u => ⟨?_, ?_⟩⟩
  · have h := run_make (P := Tryz.prog) u 109 5 i0 (.int .u8 0) Tryz.underlying109 hi hz0 .i64 .i64 (n : Int) (n : Int) (by omega) (Int.le_refl _) (by rw [hz2]; omega) (by omega)
    simpa [hz1, Value.cells] using h
  · have h := run_convert_bytes_back (P := Tryz.prog) (u.alloc (.cells (madeCells #[.int .u8 0] n) 5)) 109 9 5 ⟨u.heap.size, 0, none⟩ n (List.replicate n 0) Tryz.underlying109 Tryz.underlying5 Tryz.underlying9 (fun j hj => by
      have hj' : j < n := by simpa using hj
      have ea : (⟨u.heap.size, 0, none⟩ : Addr).add j = ⟨u.heap.size, j, none⟩ := by unfold Addr.add; split <;> simp_all
      rw [ea, World.cell?_alloc_new, ← Array.getElem?_toList, toList_madeCells_one]
      simp [hj'])
    simpa [Z] using h
theorem implOk_kind (rom : ByteArray) (kind bank : Int) (ram : ByteArray) (rb : Int) (on : Bool) (mode : Int) (w : World) (hs : rom.size ≤ maxLen) (hr : ram.size ≤ maxLen) (hk : kind = 0 ∨ kind = 1 ∨ kind = 2) :
    Calls Tryz.prog 56 #[.agg #[.string rom, .int .i64 kind, .int .i64 bank, .string ram, .int .i64 rb, .bool on, .int .i64 mode]] w fun e w' => e = .returned (.bool (okB rom kind bank ram rb on mode)) ∧ ∃ T : TypeId, w' = ((w.alloc (.cells #[.string rom, .int .i64 kind, .int .i64 bank, .string ram, .int .i64 rb, .bool on, .int .i64 mode] 31)).alloc (.cells #[] T)).alloc (.cells #[.string rom, .int .i64 kind, .int .i64 bank, .string ram, .int .i64 rb, .bool on, .int .i64 mode] 31) := by
  rcases hk with rfl | rfl | rfl
  · refine (cartOk_0 rom bank ram rb on mode w hs hr _ _ rfl rfl).mono ?_
    rintro e w' ⟨rfl, rfl⟩
    exact ⟨rfl, _, rfl⟩
  · refine (cartOk_1 rom bank ram rb on mode w hs hr _ _ rfl rfl).mono ?_
    rintro e w' ⟨rfl, rfl⟩
    exact ⟨rfl, _, rfl⟩
  · refine (cartOk_2 rom bank ram rb on mode w hs hr _ _ rfl rfl).mono ?_
    rintro e w' ⟨rfl, rfl⟩
    exact ⟨rfl, _, rfl⟩
def newB (rom : ByteArray) (kind : Int) : Bool := okB rom kind 1 (Z 256) 0 false 0
def noCart : Value := .agg #[.string ⟨#[]⟩, .int .i64 0, .int .i64 0, .string ⟨#[]⟩, .int .i64 0, .bool false, .int .i64 0]
def newCart (rom : ByteArray) (kind : Int) : Value := .agg #[.string rom, .int .i64 kind, .int .i64 1, .string (Z 256), .int .i64 0, .bool false, .int .i64 0]
theorem zmax : (Z 256).size ≤ maxLen := by rw [Z_size]; decide
theorem eqNo (w : World) : Calls Tryz.prog 32 #[noCart, noCart] w fun e w' => e = .returned (.bool true) ∧ ∃ o1 o2, w' = (w.alloc o1).alloc o2 := by
  refine (eqCart_any ⟨#[]⟩ 0 0 ⟨#[]⟩ 0 false 0 w).mono ?_
  rintro e w' ⟨rfl, rfl⟩
  exact ⟨rfl, _, _, rfl⟩
theorem eqNew (rom : ByteArray) (kind : Int) (w : World) : Calls Tryz.prog 32 #[newCart rom kind, newCart rom kind] w fun e w' => e = .returned (.bool true) ∧ ∃ o1 o2, w' = (w.alloc o1).alloc o2 := by
  refine (eqCart_any rom kind 1 (Z 256) 0 false 0 w).mono ?_
  rintro e w' ⟨rfl, rfl⟩
  exact ⟨rfl, _, _, rfl⟩
end Go.Proofs.YtkfehdkjeodbmaaGreatDoor.CartN
