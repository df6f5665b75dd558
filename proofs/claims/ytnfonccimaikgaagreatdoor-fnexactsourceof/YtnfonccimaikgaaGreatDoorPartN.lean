/-
  A contract of ours for impl.partNamed: what a great letter of a shape stands for, by the code's parts, where the tables hold what the program's text lays.
-/
import Derived.Test.YtnfonccimaikgaaGreatDoorShelf
import Derived.Test.YtnfonccimaikgaaGreatDoorShape
import Derived.Test.YtnfonccimaikgaaGreatDoorTabs
import Derived.Test.YtnfonccimaikgaaGreatDoorHex
namespace Go.Proofs.YtnfonccimaikgaaGreatDoor.PartN
open Go.ChangeShapes Go.WideShapes Go.ChangeAt Go.RowKit
open Tabs (at8 regs pairs conds alus turns decs hex8)
set_option linter.unusedVariables false
set_option maxRecDepth 20000

def bits : List ByteArray := [⟨#[]⟩, ⟨#[98, 105, 116]⟩, ⟨#[114, 101, 115]⟩, ⟨#[115, 101, 116]⟩]
def stacks : List ByteArray := [⟨#[98, 99]⟩, ⟨#[100, 101]⟩, ⟨#[104, 108]⟩, ⟨#[97, 102]⟩]
def places : List ByteArray := [⟨#[91, 98, 99, 93]⟩, ⟨#[91, 100, 101, 93]⟩, ⟨#[91, 104, 108, 43, 93]⟩, ⟨#[91, 104, 108, 45, 93]⟩]
def Row (w : World) (g : Nat) (l : List ByteArray) : Prop := ∀ i, i < l.length → w.cell? ⟨g, i, none⟩ = some (.string (l.getD i ⟨#[]⟩))
structure Tables (w : World) : Prop where
  alu : Row w 2 alus
  bit : Row w 3 bits
  cond : Row w 4 conds
  place : Row w 5 places
  pair : Row w 6 pairs
  stack : Row w 7 stacks
  reg : Row w 8 regs
  turn : Row w 9 turns
  hex : Nums.Tab w
theorem Row.at {w : World} {g : Nat} {l : List ByteArray} (h : Row w g l) {i : Int} (h0 : 0 ≤ i) (h1 : i.toNat < l.length) : w.cell? ⟨g, i.toNat, none⟩ = some (.string (at8 l i)) := h i.toNat h1
theorem Row.below {w w' : World} {g : Nat} {l : List ByteArray} (h : Row w g l) (hl : 0 < l.length) (b : Below w.heap.size w w') : Row w' g l := by
  have hlt : g < w.heap.size := World.block_lt_of_cell? w ⟨g, 0, none⟩ (h 0 hl)
  intro i hi
  rw [b.cell (p := ⟨g, i, none⟩) hlt]
  exact h i hi
theorem Tables.below {w w' : World} (h : Tables w) (b : Below w.heap.size w w') : Tables w' :=
  ⟨h.alu.below (by decide) b, h.bit.below (by decide) b, h.cond.below (by decide) b, h.place.below (by decide) b, h.pair.below (by decide) b, h.stack.below (by decide) b, h.reg.below (by decide) b, h.turn.below (by decide) b, fun i hi => by
    rw [b.cell (p := ⟨0, i, none⟩) (World.block_lt_of_cell? w ⟨0, i, none⟩ (h.hex i hi))]
    exact h.hex i hi⟩
def partS (l x y z p : Int) : ByteArray :=
  if l = 65 then at8 alus y else if l = 66 then at8 bits x else if l = 67 then at8 conds (y % 4) else if l = 72 then at8 hex8 y else if l = 77 then at8 places p
  else if l = 80 then at8 pairs p else if l = 81 then at8 stacks p else if l = 82 then at8 regs y else if l = 83 then at8 regs z else if l = 84 then at8 turns y else at8 decs y
set_option maxHeartbeats 1000000 in
theorem part_A (x y z p q : Int) (w : World) (hT : Tables w) (x0 : 0 ≤ x) (x1 : x ≤ 3) (y0 : 0 ≤ y) (y1 : y ≤ 7) (z0 : 0 ≤ z) (z1 : z ≤ 7) (p0 : 0 ≤ p) (p1 : p ≤ 3) :
    Calls Tryz.prog 82 #[.int .u8 65, .agg #[.int .i64 x, .int .i64 y, .int .i64 z, .int .i64 p, .int .i64 q]] w fun e w' => e = .returned (.string (at8 alus y)) ∧ Below w.heap.size w w' := by
  have t := hT.alu.at (i := y) (by omega) (by show (y : Int).toNat < 8; omega)
  have g0 : 2 < w.heap.size := World.block_lt_of_cell? w _ t
  have k0 : 0 ≤ y := by omega
  have k1 : y < 8 := by omega
  clear hT
  go_enter Tryz.func82, Tryz.ntmps82
  go_wp2
  go_ret
  exact ⟨rfl, (Below.refl _ _).alloc (Nat.le_refl _) _⟩
set_option maxHeartbeats 1000000 in
theorem part_B (x y z p q : Int) (w : World) (hT : Tables w) (x0 : 0 ≤ x) (x1 : x ≤ 3) (y0 : 0 ≤ y) (y1 : y ≤ 7) (z0 : 0 ≤ z) (z1 : z ≤ 7) (p0 : 0 ≤ p) (p1 : p ≤ 3) :
    Calls Tryz.prog 82 #[.int .u8 66, .agg #[.int .i64 x, .int .i64 y, .int .i64 z, .int .i64 p, .int .i64 q]] w fun e w' => e = .returned (.string (at8 bits x)) ∧ Below w.heap.size w w' := by
  have t := hT.bit.at (i := x) (by omega) (by show (x : Int).toNat < 4; omega)
  have g0 : 3 < w.heap.size := World.block_lt_of_cell? w _ t
  have k0 : 0 ≤ x := by omega
  have k1 : x < 4 := by omega
  clear hT
  go_enter Tryz.func82, Tryz.ntmps82
  go_wp2
  go_ret
  exact ⟨rfl, (Below.refl _ _).alloc (Nat.le_refl _) _⟩
set_option maxHeartbeats 1000000 in
theorem part_C (x y z p q : Int) (w : World) (hT : Tables w) (x0 : 0 ≤ x) (x1 : x ≤ 3) (y0 : 0 ≤ y) (y1 : y ≤ 7) (z0 : 0 ≤ z) (z1 : z ≤ 7) (p0 : 0 ≤ p) (p1 : p ≤ 3) :
    Calls Tryz.prog 82 #[.int .u8 67, .agg #[.int .i64 x, .int .i64 y, .int .i64 z, .int .i64 p, .int .i64 q]] w fun e w' => e = .returned (.string (at8 conds (y % 4))) ∧ Below w.heap.size w w' := by
  have t := hT.cond.at (i := (y % 4)) (by omega) (by show ((y % 4) : Int).toNat < 4; omega)
  have g0 : 4 < w.heap.size := World.block_lt_of_cell? w _ t
  have k0 : 0 ≤ (y % 4) := by omega
  have k1 : (y % 4) < 4 := by omega
  clear hT
  go_enter Tryz.func82, Tryz.ntmps82
  go_wp2
  go_ret
  exact ⟨rfl, (Below.refl _ _).alloc (Nat.le_refl _) _⟩
set_option maxHeartbeats 1000000 in
theorem part_M (x y z p q : Int) (w : World) (hT : Tables w) (x0 : 0 ≤ x) (x1 : x ≤ 3) (y0 : 0 ≤ y) (y1 : y ≤ 7) (z0 : 0 ≤ z) (z1 : z ≤ 7) (p0 : 0 ≤ p) (p1 : p ≤ 3) :
    Calls Tryz.prog 82 #[.int .u8 77, .agg #[.int .i64 x, .int .i64 y, .int .i64 z, .int .i64 p, .int .i64 q]] w fun e w' => e = .returned (.string (at8 places p)) ∧ Below w.heap.size w w' := by
  have t := hT.place.at (i := p) (by omega) (by show (p : Int).toNat < 4; omega)
  have g0 : 5 < w.heap.size := World.block_lt_of_cell? w _ t
  have k0 : 0 ≤ p := by omega
  have k1 : p < 4 := by omega
  clear hT
  go_enter Tryz.func82, Tryz.ntmps82
  go_wp2
  go_ret
  exact ⟨rfl, (Below.refl _ _).alloc (Nat.le_refl _) _⟩
set_option maxHeartbeats 1000000 in
theorem part_P (x y z p q : Int) (w : World) (hT : Tables w) (x0 : 0 ≤ x) (x1 : x ≤ 3) (y0 : 0 ≤ y) (y1 : y ≤ 7) (z0 : 0 ≤ z) (z1 : z ≤ 7) (p0 : 0 ≤ p) (p1 : p ≤ 3) :
    Calls Tryz.prog 82 #[.int .u8 80, .agg #[.int .i64 x, .int .i64 y, .int .i64 z, .int .i64 p, .int .i64 q]] w fun e w' => e = .returned (.string (at8 pairs p)) ∧ Below w.heap.size w w' := by
  have t := hT.pair.at (i := p) (by omega) (by show (p : Int).toNat < 4; omega)
  have g0 : 6 < w.heap.size := World.block_lt_of_cell? w _ t
  have k0 : 0 ≤ p := by omega
  have k1 : p < 4 := by omega
  clear hT
  go_enter Tryz.func82, Tryz.ntmps82
  go_wp2
  go_ret
  exact ⟨rfl, (Below.refl _ _).alloc (Nat.le_refl _) _⟩
set_option maxHeartbeats 1000000 in
theorem part_Q (x y z p q : Int) (w : World) (hT : Tables w) (x0 : 0 ≤ x) (x1 : x ≤ 3) (y0 : 0 ≤ y) (y1 : y ≤ 7) (z0 : 0 ≤ z) (z1 : z ≤ 7) (p0 : 0 ≤ p) (p1 : p ≤ 3) :
    Calls Tryz.prog 82 #[.int .u8 81, .agg #[.int .i64 x, .int .i64 y, .int .i64 z, .int .i64 p, .int .i64 q]] w fun e w' => e = .returned (.string (at8 stacks p)) ∧ Below w.heap.size w w' := by
  have t := hT.stack.at (i := p) (by omega) (by show (p : Int).toNat < 4; omega)
  have g0 : 7 < w.heap.size := World.block_lt_of_cell? w _ t
  have k0 : 0 ≤ p := by omega
  have k1 : p < 4 := by omega
  clear hT
  go_enter Tryz.func82, Tryz.ntmps82
  go_wp2
  go_ret
  exact ⟨rfl, (Below.refl _ _).alloc (Nat.le_refl _) _⟩
set_option maxHeartbeats 1000000 in
theorem part_R (x y z p q : Int) (w : World) (hT : Tables w) (x0 : 0 ≤ x) (x1 : x ≤ 3) (y0 : 0 ≤ y) (y1 : y ≤ 7) (z0 : 0 ≤ z) (z1 : z ≤ 7) (p0 : 0 ≤ p) (p1 : p ≤ 3) :
    Calls Tryz.prog 82 #[.int .u8 82, .agg #[.int .i64 x, .int .i64 y, .int .i64 z, .int .i64 p, .int .i64 q]] w fun e w' => e = .returned (.string (at8 regs y)) ∧ Below w.heap.size w w' := by
  have t := hT.reg.at (i := y) (by omega) (by show (y : Int).toNat < 8; omega)
  have g0 : 8 < w.heap.size := World.block_lt_of_cell? w _ t
  have k0 : 0 ≤ y := by omega
  have k1 : y < 8 := by omega
  clear hT
  go_enter Tryz.func82, Tryz.ntmps82
  go_wp2
  go_ret
  exact ⟨rfl, (Below.refl _ _).alloc (Nat.le_refl _) _⟩
set_option maxHeartbeats 1000000 in
theorem part_S (x y z p q : Int) (w : World) (hT : Tables w) (x0 : 0 ≤ x) (x1 : x ≤ 3) (y0 : 0 ≤ y) (y1 : y ≤ 7) (z0 : 0 ≤ z) (z1 : z ≤ 7) (p0 : 0 ≤ p) (p1 : p ≤ 3) :
    Calls Tryz.prog 82 #[.int .u8 83, .agg #[.int .i64 x, .int .i64 y, .int .i64 z, .int .i64 p, .int .i64 q]] w fun e w' => e = .returned (.string (at8 regs z)) ∧ Below w.heap.size w w' := by
  have t := hT.reg.at (i := z) (by omega) (by show (z : Int).toNat < 8; omega)
  have g0 : 8 < w.heap.size := World.block_lt_of_cell? w _ t
  have k0 : 0 ≤ z := by omega
  have k1 : z < 8 := by omega
  clear hT
  go_enter Tryz.func82, Tryz.ntmps82
  go_wp2
  go_ret
  exact ⟨rfl, (Below.refl _ _).alloc (Nat.le_refl _) _⟩
set_option maxHeartbeats 1000000 in
theorem part_T (x y z p q : Int) (w : World) (hT : Tables w) (x0 : 0 ≤ x) (x1 : x ≤ 3) (y0 : 0 ≤ y) (y1 : y ≤ 7) (z0 : 0 ≤ z) (z1 : z ≤ 7) (p0 : 0 ≤ p) (p1 : p ≤ 3) :
    Calls Tryz.prog 82 #[.int .u8 84, .agg #[.int .i64 x, .int .i64 y, .int .i64 z, .int .i64 p, .int .i64 q]] w fun e w' => e = .returned (.string (at8 turns y)) ∧ Below w.heap.size w w' := by
  have t := hT.turn.at (i := y) (by omega) (by show (y : Int).toNat < 8; omega)
  have g0 : 9 < w.heap.size := World.block_lt_of_cell? w _ t
  have k0 : 0 ≤ y := by omega
  have k1 : y < 8 := by omega
  clear hT
  go_enter Tryz.func82, Tryz.ntmps82
  go_wp2
  go_ret
  exact ⟨rfl, (Below.refl _ _).alloc (Nat.le_refl _) _⟩
theorem hex_all : ∀ y : Fin 8, Hex.hexS (8 * (y.val : Int)) 2 = at8 hex8 (y.val : Int) := by decide +kernel
theorem hex_at {y : Int} (y0 : 0 ≤ y) (y1 : y ≤ 7) : Hex.hexS (8 * y) 2 = at8 hex8 y := by
  have := hex_all ⟨y.toNat, by omega⟩
  rwa [show ((⟨y.toNat, by omega⟩ : Fin 8).val : Int) = y by show ((y.toNat : Nat) : Int) = y; omega] at this
theorem dec_all : ∀ y : Fin 8, (⟨(Lib.decDigits y.val).toArray⟩ : ByteArray) = at8 decs (y.val : Int) := by decide +kernel
theorem dec_at {y : Int} (y0 : 0 ≤ y) (y1 : y ≤ 7) : (⟨(Lib.decDigits y.toNat).toArray⟩ : ByteArray) = at8 decs y := by
  have := dec_all ⟨y.toNat, by omega⟩
  rwa [show ((⟨y.toNat, by omega⟩ : Fin 8).val : Int) = y by show ((y.toNat : Nat) : Int) = y; omega] at this
set_option maxHeartbeats 1000000 in
theorem part_H (x y z p q : Int) (w : World) (hT : Tables w) (x0 : 0 ≤ x) (x1 : x ≤ 3) (y0 : 0 ≤ y) (y1 : y ≤ 7) (z0 : 0 ≤ z) (z1 : z ≤ 7) (p0 : 0 ≤ p) (p1 : p ≤ 3) :
    Calls Tryz.prog 82 #[.int .u8 72, .agg #[.int .i64 x, .int .i64 y, .int .i64 z, .int .i64 p, .int .i64 q]] w fun e w' => e = .returned (.string (at8 hex8 y)) ∧ Below w.heap.size w w' := by
  have c := fun w hT => Hex.implHex_any (8 * y) 2 w hT
  rw [hex_at y0 y1] at c
  have HT : Hid (Tables w) := hT
  have hk : wrap64 (8 * y) = 8 * y := by unfold wrap64; omega
  clear hT
  go_enter Tryz.func82, Tryz.ntmps82
  go_wp2_with fail
  refine (c _ (HT.out.below ((Below.refl _ _).alloc (Nat.le_refl _) _)).hex).mono ?_
  rintro e w1 ⟨rfl, b1⟩
  have B1 : Hid (Below _ _ w1) := b1
  clear b1
  go_wp2
  go_ret
  exact ⟨rfl, ((Below.refl _ _).alloc (Nat.le_refl _) _).trans (B1.out.mono (by simp))⟩
set_option maxHeartbeats 1000000 in
theorem part_Y (x y z p q : Int) (w : World) (hT : Tables w) (x0 : 0 ≤ x) (x1 : x ≤ 3) (y0 : 0 ≤ y) (y1 : y ≤ 7) (z0 : 0 ≤ z) (z1 : z ≤ 7) (p0 : 0 ≤ p) (p1 : p ≤ 3) :
    Calls Tryz.prog 82 #[.int .u8 89, .agg #[.int .i64 x, .int .i64 y, .int .i64 z, .int .i64 p, .int .i64 q]] w fun e w' => e = .returned (.string (at8 decs y)) ∧ Below w.heap.size w w' := by
  have c := fun w => Tryz.strconv_FormatInt_10_small y.toNat (by omega) w
  rw [dec_at y0 y1, show ((y.toNat : Nat) : Int) = y by omega] at c
  clear hT
  go_enter Tryz.func82, Tryz.ntmps82
  go_wp2_with fail
  refine (c _).mono ?_
  rintro e w1 ⟨rfl, rfl⟩
  go_wp2
  go_ret
  exact ⟨rfl, (Below.refl _ _).alloc (Nat.le_refl _) _⟩
def letters : List Int := [65, 66, 67, 72, 77, 80, 81, 82, 83, 84, 89]
theorem part_any (l x y z p q : Int) (w : World) (hT : Tables w) (x0 : 0 ≤ x) (x1 : x ≤ 3) (y0 : 0 ≤ y) (y1 : y ≤ 7) (z0 : 0 ≤ z) (z1 : z ≤ 7) (p0 : 0 ≤ p) (p1 : p ≤ 3) (hl : l ∈ letters) :
    Calls Tryz.prog 82 #[.int .u8 l, .agg #[.int .i64 x, .int .i64 y, .int .i64 z, .int .i64 p, .int .i64 q]] w fun e w' => e = .returned (.string (partS l x y z p)) ∧ Below w.heap.size w w' := by
  simp only [letters, List.mem_cons, List.mem_nil_iff, or_false] at hl
  rcases hl with rfl | rfl | rfl | rfl | rfl | rfl | rfl | rfl | rfl | rfl | rfl
  · exact part_A x y z p q w hT x0 x1 y0 y1 z0 z1 p0 p1
  · exact part_B x y z p q w hT x0 x1 y0 y1 z0 z1 p0 p1
  · exact part_C x y z p q w hT x0 x1 y0 y1 z0 z1 p0 p1
  · exact part_H x y z p q w hT x0 x1 y0 y1 z0 z1 p0 p1
  · exact part_M x y z p q w hT x0 x1 y0 y1 z0 z1 p0 p1
  · exact part_P x y z p q w hT x0 x1 y0 y1 z0 z1 p0 p1
  · exact part_Q x y z p q w hT x0 x1 y0 y1 z0 z1 p0 p1
  · exact part_R x y z p q w hT x0 x1 y0 y1 z0 z1 p0 p1
  · exact part_S x y z p q w hT x0 x1 y0 y1 z0 z1 p0 p1
  · exact part_T x y z p q w hT x0 x1 y0 y1 z0 z1 p0 p1
  · exact part_Y x y z p q w hT x0 x1 y0 y1 z0 z1 p0 p1
end Go.Proofs.YtnfonccimaikgaaGreatDoor.PartN
