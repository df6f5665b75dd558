/-
  Contracts of ours for the laws' own helpers over carts (sizes, the mirror's cart as the program's, equality), a cart that came in, opened, and both CartOk.
-/
import Derived.Test.YtkfehdkjeodbmaaGreatDoorCartK
import Derived.Deep.Strs
import Derived.WalkSmall
namespace Go.Proofs.YtkfehdkjeodbmaaGreatDoor.CartL
set_option maxRecDepth 20000
open Go.ChangeShapes Go.WideShapes Go.ChangeAt Go.RowKit Go.Deep
open Signed (inB ret_int ret_bool isByte_any l1In_any)
open Carts CartK

theorem grow {a w : World} (h : Below a.heap.size a w) (o : Obj) : Below a.heap.size a (w.alloc o) := h.alloc h.size o
theorem after {a w w' : World} (h : Below a.heap.size a w) (k : Below w.heap.size w w') : Below a.heap.size a w' := h.trans (k.mono h.size)
/-- What was laid first reads on, whatever was laid behind it. -/
theorem box {w w' : World} {vs : Array Value} {T : TypeId} (h : Below (w.alloc (.cells vs T)).heap.size (w.alloc (.cells vs T)) w') (i : Nat) (v : Value) (hv : vs[i]? = some v) : w'.cell? ⟨w.heap.size, i, none⟩ = some v := by
  rw [h.cell (p := ⟨w.heap.size, i, none⟩) (by simp), World.cell?_alloc_new]
  exact hv
theorem cellsC : Tryz.prog.cellsOf 25 = 7 := by kernel_rfl
theorem cells2 : Tryz.prog.cellsOf 2 = 1 := by kernel_rfl
theorem cells4 : Tryz.prog.cellsOf 4 = 1 := by kernel_rfl
theorem cells9 : Tryz.prog.cellsOf 9 = 1 := by kernel_rfl
theorem fieldsC : ∃ f0 f1 f2 f3 f4 f5 f6 : Field, Tryz.prog.underlying 25 = some (.struct #[f0, f1, f2, f3, f4, f5, f6]) ∧ (f0.type = 9 ∧ f0.offset = 0) ∧ (f1.type = 2 ∧ f1.offset = 1) ∧ (f2.type = 2 ∧ f2.offset = 2) ∧ (f3.type = 9 ∧ f3.offset = 3) ∧ (f4.type = 2 ∧ f4.offset = 4) ∧ (f5.type = 4 ∧ f5.offset = 5) ∧ (f6.type = 2 ∧ f6.offset = 6) :=
  ⟨_, _, _, _, _, _, _, Tryz.underlying25, ⟨rfl, rfl⟩, ⟨rfl, rfl⟩, ⟨rfl, rfl⟩, ⟨rfl, rfl⟩, ⟨rfl, rfl⟩, ⟨rfl, rfl⟩, ⟨rfl, rfl⟩⟩

theorem cart_of {H : Type} {enc : TypeId × Value → H} {w : World} {base : Nat} {spare : Nat → Bool} {held : Bool} {fuel : Nat} {cs : List Value} {x : DataW H × List MemPlace}
    (h : DataW.trod enc Tryz.prog w base spare held fuel 25 cs = some x) :
    ∃ (rom : ByteArray) (kind bank : Int) (ram : ByteArray) (rb : Int) (on : Bool) (mode : Int), cs = [.string rom, .int .i64 kind, .int .i64 bank, .string ram, .int .i64 rb, .bool on, .int .i64 mode] ∧ rom.size ≤ maxLen ∧ ram.size ≤ maxLen := by
  obtain ⟨f0, f1, f2, f3, f4, f5, f6, hf, ⟨t0, o0⟩, ⟨t1, o1⟩, ⟨t2, o2⟩, ⟨t3, o3⟩, ⟨t4, o4⟩, ⟨t5, o5⟩, ⟨t6, o6⟩⟩ := fieldsC
  obtain ⟨xs, n, _, _, hl, hlen, g⟩ := DataW.trod_struct hf h
  rw [cellsC] at hl
  match cs, hl, xs, hlen with
  | [v0, v1, v2, v3, v4, v5, v6], _, [y0, y1, y2, y3, y4, y5, y6], _ =>
    have g0 := g 0 f0 rfl
    have g1 := g 1 f1 rfl
    have g2 := g 2 f2 rfl
    have g3 := g 3 f3 rfl
    have g4 := g 4 f4 rfl
    have g5 := g 5 f5 rfl
    have g6 := g 6 f6 rfl
    rw [t0, o0, cells9] at g0
    rw [t1, o1, cells2] at g1
    rw [t2, o2, cells2] at g2
    rw [t3, o3, cells9] at g3
    rw [t4, o4, cells2] at g4
    rw [t5, o5, cells4] at g5
    rw [t6, o6, cells2] at g6
    obtain ⟨s0, e0, _, z0⟩ := DataW.trod_string Tryz.underlying9 g0
    obtain ⟨n1, e1, _⟩ := DataW.trod_int Tryz.underlying2 g1
    obtain ⟨n2, e2, _⟩ := DataW.trod_int Tryz.underlying2 g2
    obtain ⟨s3, e3, _, z3⟩ := DataW.trod_string Tryz.underlying9 g3
    obtain ⟨n4, e4, _⟩ := DataW.trod_int Tryz.underlying2 g4
    obtain ⟨b5, e5, _⟩ := DataW.trod_bool Tryz.underlying4 g5
    obtain ⟨n6, e6, _⟩ := DataW.trod_int Tryz.underlying2 g6
    simp at e0 e1 e2 e3 e4 e5 e6
    subst e0 e1 e2 e3 e4 e5 e6
    exact ⟨s0, n1, n2, s3, n4, b5, n6, rfl, z0, z3⟩

def left2 (m : Int) (a b : Nat) : Int := if m - a < 0 then -1 else if m - a - b < 0 then -1 else m - a - b
theorem szCart_any (rom : ByteArray) (kind bank : Int) (ram : ByteArray) (rb : Int) (on : Bool) (mode : Int) (m : Int) (w : World) (hs : rom.size ≤ maxLen) (hr : ram.size ≤ maxLen) (h0 : 0 ≤ m) (h1 : m ≤ 1048576) :
    Calls Tryz.prog 21 #[.agg #[.string rom, .int .i64 kind, .int .i64 bank, .string ram, .int .i64 rb, .bool on, .int .i64 mode], .int .i64 m] w fun e w' => e = .returned (.int .i64 (left2 m rom.size ram.size)) ∧ w' = w.alloc (.cells #[.string rom, .int .i64 kind, .int .i64 bank, .string ram, .int .i64 rb, .bool on, .int .i64 mode] 25) := by
  unfold maxLen at hs hr
  by_cases h : m - rom.size < 0
  · have e : left2 m rom.size ram.size = -1 := by unfold left2; rw [if_pos h]
    rw [e]
    clear e
    go_enter Tryz.func21, Tryz.ntmps21
    go_wp2
    go_ret
    exact ⟨rfl, rfl⟩
  by_cases h2 : m - rom.size - ram.size < 0
  · have e : left2 m rom.size ram.size = -1 := by unfold left2; rw [if_neg h, if_pos h2]
    rw [e]
    clear e
    go_enter Tryz.func21, Tryz.ntmps21
    go_wp2
    go_ret
    exact ⟨rfl, rfl⟩
  have e : left2 m rom.size ram.size = m - rom.size - ram.size := by unfold left2; rw [if_neg h, if_neg h2]
  rw [e]
  clear e
  go_enter Tryz.func21, Tryz.ntmps21
  go_wp2
  go_ret
  exact ⟨rfl, rfl⟩
theorem toCart_any (rom : ByteArray) (kind bank : Int) (ram : ByteArray) (rb : Int) (on : Bool) (mode : Int) (w : World) :
    Calls Tryz.prog 26 #[.agg #[.string rom, .int .i64 kind, .int .i64 bank, .string ram, .int .i64 rb, .bool on, .int .i64 mode]] w fun e w' => e = .returned (.agg #[.string rom, .int .i64 kind, .int .i64 bank, .string ram, .int .i64 rb, .bool on, .int .i64 mode]) ∧ w' = ((w.alloc (.cells #[.string rom, .int .i64 kind, .int .i64 bank, .string ram, .int .i64 rb, .bool on, .int .i64 mode] 25)).alloc (.cells #[.string rom, .int .i64 kind, .int .i64 bank, .string ram, .int .i64 rb, .bool on, .int .i64 mode] 31)).alloc (.cells #[.string rom, .int .i64 kind, .int .i64 bank, .string ram, .int .i64 rb, .bool on, .int .i64 mode] 31) := by
  go_enter Tryz.func26, Tryz.ntmps26
  go_wp2
  exact bodyPost_ret (v := .agg #[.string rom, .int .i64 kind, .int .i64 bank, .string ram, .int .i64 rb, .bool on, .int .i64 mode]) (by simp [results, Tryz.results26, go_sem]) rfl ⟨rfl, rfl⟩
theorem eqCart_any (rom : ByteArray) (kind bank : Int) (ram : ByteArray) (rb : Int) (on : Bool) (mode : Int) (w : World) :
    Calls Tryz.prog 32 #[.agg #[.string rom, .int .i64 kind, .int .i64 bank, .string ram, .int .i64 rb, .bool on, .int .i64 mode], .agg #[.string rom, .int .i64 kind, .int .i64 bank, .string ram, .int .i64 rb, .bool on, .int .i64 mode]] w fun e w' => e = .returned (.bool true) ∧ w' = (w.alloc (.cells #[.string rom, .int .i64 kind, .int .i64 bank, .string ram, .int .i64 rb, .bool on, .int .i64 mode] 31)).alloc (.cells #[.string rom, .int .i64 kind, .int .i64 bank, .string ram, .int .i64 rb, .bool on, .int .i64 mode] 31) := by
  go_enter Tryz.func32, Tryz.ntmps32
  go_wp2
  go_ret
  exact ⟨rfl, rfl⟩
theorem implOk_yes (rom : ByteArray) (kind bank : Int) (ram : ByteArray) (rb : Int) (on : Bool) (mode : Int) (w : World) (hs : rom.size ≤ maxLen) (hr : ram.size ≤ maxLen) (h : okB rom kind bank ram rb on mode = true) :
    Calls Tryz.prog 56 #[.agg #[.string rom, .int .i64 kind, .int .i64 bank, .string ram, .int .i64 rb, .bool on, .int .i64 mode]] w fun e w' => e = .returned (.bool true) ∧ ∃ T : TypeId, w' = ((w.alloc (.cells #[.string rom, .int .i64 kind, .int .i64 bank, .string ram, .int .i64 rb, .bool on, .int .i64 mode] 31)).alloc (.cells #[] T)).alloc (.cells #[.string rom, .int .i64 kind, .int .i64 bank, .string ram, .int .i64 rb, .bool on, .int .i64 mode] 31) := by
  have hh := h
  simp only [okB, Bool.and_eq_true] at hh
  obtain ⟨⟨h1, h2⟩, h3⟩ := hh
  by_cases k0 : kind = 0
  · subst k0
    refine (cartOk_0 rom bank ram rb on mode w hs hr true true (by simpa [heldB] using h1) h2).mono ?_
    rintro e w' ⟨rfl, rfl⟩
    exact ⟨ret_bool (by simpa using h3), _, rfl⟩
  by_cases k1 : kind = 1
  · subst k1
    refine (cartOk_1 rom bank ram rb on mode w hs hr true true (by simpa [heldB] using h1) h2).mono ?_
    rintro e w' ⟨rfl, rfl⟩
    exact ⟨ret_bool (by simpa using h3), _, rfl⟩
  by_cases k2 : kind = 2
  · subst k2
    refine (cartOk_2 rom bank ram rb on mode w hs hr true true (by simpa [heldB] using h1) h2).mono ?_
    rintro e w' ⟨rfl, rfl⟩
    exact ⟨ret_bool (by simpa using h3), _, rfl⟩
  exfalso
  simp [heldB, k0, k1, k2] at h1
theorem implOk_any (rom : ByteArray) (kind bank : Int) (ram : ByteArray) (rb : Int) (on : Bool) (mode : Int) (w : World) (hs : rom.size ≤ maxLen) (hr : ram.size ≤ maxLen) :
    Calls Tryz.prog 56 #[.agg #[.string rom, .int .i64 kind, .int .i64 bank, .string ram, .int .i64 rb, .bool on, .int .i64 mode]] w fun e w' => e = .returned (.bool (okB rom kind bank ram rb on mode)) ∧ Below w.heap.size w w' := by
  by_cases k0 : kind = 0
  · subst k0
    refine (cartOk_0 rom bank ram rb on mode w hs hr _ _ rfl rfl).mono ?_
    rintro e w' ⟨rfl, rfl⟩
    exact ⟨rfl, (((Below.refl _ _).alloc (by simp) _).alloc (by simp) _).alloc (by simp; try omega) _⟩
  by_cases k1 : kind = 1
  · subst k1
    refine (cartOk_1 rom bank ram rb on mode w hs hr _ _ rfl rfl).mono ?_
    rintro e w' ⟨rfl, rfl⟩
    exact ⟨rfl, (((Below.refl _ _).alloc (by simp) _).alloc (by simp) _).alloc (by simp; try omega) _⟩
  by_cases k2 : kind = 2
  · subst k2
    refine (cartOk_2 rom bank ram rb on mode w hs hr _ _ rfl rfl).mono ?_
    rintro e w' ⟨rfl, rfl⟩
    exact ⟨rfl, (((Below.refl _ _).alloc (by simp) _).alloc (by simp) _).alloc (by simp; try omega) _⟩
  refine (cartOk_no rom kind bank ram rb on mode w k0 k1 k2).mono ?_
  rintro e w' ⟨rfl, rfl⟩
  exact ⟨ret_bool (by simp [okB, heldB, k0, k1, k2]), (Below.refl _ _).alloc (by simp) _⟩
end Go.Proofs.YtkfehdkjeodbmaaGreatDoor.CartL
