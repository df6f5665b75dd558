/-
  Contracts of ours for the laws' own helpers over carts (sizes, the mirror's cart as the program's, equality), a cart that came in, opened, and both CartOk.
-/
import Derived.Test.YtllpkidfldmbnaaCartK
import Derived.Deep.Strs
import Derived.WalkSmall
namespace Go.Proofs.Ytllpkidfldmbnaa.CartL
open Go.ChangeShapes Go.WideShapes Go.ChangeAt Go.RowKit Go.Deep
open Signed (inB ret_int ret_bool isByte_any l1In_any)
open Carts CartK

theorem grow {a w : World} (h : Below a.heap.size a w) (o : Obj) : Below a.heap.size a (w.alloc o) := h.alloc h.size o
theorem after {a w w' : World} (h : Below a.heap.size a w) (k : Below w.heap.size w w') : Below a.heap.size a w' := h.trans (k.mono h.size)
/-- What was laid first reads on, whatever was laid behind it. -/
theorem box {w w' : World} {vs : Array Value} {T : TypeId} (h : Below (w.alloc (.cells vs T)).heap.size (w.alloc (.cells vs T)) w') (i : Nat) (v : Value) (hv : vs[i]? = some v) : w'.cell? ⟨w.heap.size, i, none⟩ = some v := by
  rw [h.cell (p := ⟨w.heap.size, i, none⟩) (by simp), World.cell?_alloc_new]
  exact hv
theorem cells2 : Try.prog.cellsOf 2 = 1 := by kernel_rfl
theorem cells4 : Try.prog.cellsOf 4 = 1 := by kernel_rfl
theorem cells9 : Try.prog.cellsOf 9 = 1 := by kernel_rfl
def left2 (m : Int) (a b : Nat) : Int := if m - a < 0 then -1 else if m - a - b < 0 then -1 else m - a - b
theorem implOk_yes (rom : ByteArray) (kind bank : Int) (ram : ByteArray) (rb : Int) (on : Bool) (mode : Int) (w : World) (hs : rom.size ≤ maxLen) (hr : ram.size ≤ maxLen) (h : okB rom kind bank ram rb on mode = true) :
    Calls Try.prog 13 #[.agg #[.string rom, .int .i64 kind, .int .i64 bank, .string ram, .int .i64 rb, .bool on, .int .i64 mode]] w fun e w' => e = .returned (.bool true) ∧ ∃ T : TypeId, w' = ((w.alloc (.cells #[.string rom, .int .i64 kind, .int .i64 bank, .string ram, .int .i64 rb, .bool on, .int .i64 mode] 27)).alloc (.cells #[] T)).alloc (.cells #[.string rom, .int .i64 kind, .int .i64 bank, .string ram, .int .i64 rb, .bool on, .int .i64 mode] 27) := by
  have hh := h
  simp only [okB, Bool.and_eq_true] at hh
  obtain ⟨⟨h1, h2⟩, h3⟩ := hh
  by_cases k0 : kind = 0
  · subst k0
    refine (cartOk_0 rom bank ram rb on mode w hs hr true true (by simpa [heldB] using h1) h2).mono ?_
    rintro e w' ⟨rfl, rfl⟩
    exact ⟨ret_bool (by simpa using h3), _, rfl⟩
  by_cases k1 : kind = 1
  · subst k1
    refine (cartOk_1 rom bank ram rb on mode w hs hr true true (by simpa [heldB] using h1) h2).mono ?_
    rintro e w' ⟨rfl, rfl⟩
    exact ⟨ret_bool (by simpa using h3), _, rfl⟩
  by_cases k2 : kind = 2
  · subst k2
    refine (cartOk_2 rom bank ram rb on mode w hs hr true true (by simpa [heldB] using h1) h2).mono ?_
    rintro e w' ⟨rfl, rfl⟩
    exact ⟨ret_bool (by simpa using h3), _, rfl⟩
  exfalso
  simp [heldB, k0, k1, k2] at h1
theorem implOk_any (rom : ByteArray) (kind bank : Int) (ram : ByteArray) (rb : Int) (on : Bool) (mode : Int) (w : World) (hs : rom.size ≤ maxLen) (hr : ram.size ≤ maxLen) :
    Calls Try.prog 13 #[.agg #[.string rom, .int .i64 kind, .int .i64 bank, .string ram, .int .i64 rb, .bool on, .int .i64 mode]] w fun e w' => e = .returned (.bool (okB rom kind bank ram rb on mode)) ∧ Below w.heap.size w w' := by
  by_cases k0 : kind = 0
  · subst k0
    refine (cartOk_0 rom bank ram rb on mode w hs hr _ _ rfl rfl).mono ?_
    rintro e w' ⟨rfl, rfl⟩
    exact ⟨rfl, (((Below.refl _ _).alloc (by simp) _).alloc (by simp) _).alloc (by simp; try omega) _⟩
  by_cases k1 : kind = 1
  · subst k1
    refine (cartOk_1 rom bank ram rb on mode w hs hr _ _ rfl rfl).mono ?_
    rintro e w' ⟨rfl, rfl⟩
    exact ⟨rfl, (((Below.refl _ _).alloc (by simp) _).alloc (by simp) _).alloc (by simp; try omega) _⟩
  by_cases k2 : kind = 2
  · subst k2
    refine (cartOk_2 rom bank ram rb on mode w hs hr _ _ rfl rfl).mono ?_
    rintro e w' ⟨rfl, rfl⟩
    exact ⟨rfl, (((Below.refl _ _).alloc (by simp) _).alloc (by simp) _).alloc (by simp; try omega) _⟩
  refine (cartOk_no rom kind bank ram rb on mode w k0 k1 k2).mono ?_
  rintro e w' ⟨rfl, rfl⟩
  exact ⟨ret_bool (by simp [okB, heldB, k0, k1, k2]), (Below.refl _ _).alloc (by simp) _⟩
end Go.Proofs.Ytllpkidfldmbnaa.CartL
