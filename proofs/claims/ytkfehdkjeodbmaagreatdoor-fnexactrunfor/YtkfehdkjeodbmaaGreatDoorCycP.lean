/-
  The contract of ours for impl.CyclesOf.
-/
import Derived.Test.YtkfehdkjeodbmaaGreatDoorCycA
import Derived.Test.YtkfehdkjeodbmaaGreatDoorCycB
import Derived.Test.YtkfehdkjeodbmaaGreatDoorCycQ
namespace Go.Proofs.YtkfehdkjeodbmaaGreatDoor.CycP
open Go.ChangeShapes Go.WideShapes Go.ChangeAt Go.RowKit
open Signed (inB ret_int)
open CycD CycA CycB Cyc Leng CycQ
set_option linter.unusedVariables false
set_option maxRecDepth 20000

def Shp (code : Int) (cb : Bool) : Prop := ∀ w, Calls Tryz.prog 64 #[.int .i64 code, .bool cb] w fun e w' => (∃ s : ByteArray, e = .returned (.string s) ∧ ¬ s.size = 0) ∧ Below w.heap.size w w'
def Prt (code x y z p q : Int) : Prop := ∀ w, Calls Tryz.prog 62 #[.int .i64 code] w fun e w' => e = .returned (.agg #[.int .i64 x, .int .i64 y, .int .i64 z, .int .i64 p, .int .i64 q]) ∧ Below w.heap.size w w'
set_option maxHeartbeats 2000000 in
theorem impl_cb (code x y z p q : Int) (t : Bool) (w : World)  (hs : Shp code true) (hp : Prt code x y z p q) :
    Calls Tryz.prog 60 #[.int .i64 code, .bool true, .bool t] w fun e w' => e = .returned (.int .i64 (prefC x z)) ∧ Below w.heap.size w w' := by
  have c := fun w => prefixCycles_any x y z p q w
  generalize prefC x z = T at c ⊢
  go_enter Tryz.func60, Tryz.ntmps60
  go_wp2_with fail
  refine (hs _).mono ?_
  rintro e w1 ⟨⟨s, rfl, hs0⟩, b1⟩
  have he := empty_no hs0
  have B1 : Hid (Below w.heap.size w w1) := b1
  clear b1 hs
  go_wp2_with fail
  refine (hp _).mono ?_
  rintro e w2 ⟨rfl, b2⟩
  have B2 : Hid (Below w.heap.size w w2) := B1.out.trans (b2.mono B1.out.size)
  clear b2 hp B1 he hs0
  go_wp2_with fail
  refine (c _).mono ?_
  rintro e w3 ⟨rfl, b3⟩
  have B3 : Hid (Below w.heap.size w w3) := (Lgrow B2.out _).trans (b3.mono (by have := B2.out.size; first | omega | (simp; omega)))
  clear b3 B2
  go_wp2
  go_ret
  exact ⟨rfl, B3.out⟩
set_option maxHeartbeats 2000000 in
theorem impl_low (code y z p q : Int) (t : Bool) (w : World) (hq : q = y % 2) (y0 : 0 ≤ y) (y1 : y ≤ 7) (z0 : 0 ≤ z) (z1 : z ≤ 7) (hs : Shp code false) (hp : Prt code 0 y z p q) :
    Calls Tryz.prog 60 #[.int .i64 code, .bool false, .bool t] w fun e w' => e = .returned (.int .i64 (lowC y z t)) ∧ Below w.heap.size w w' := by
  have c := fun w => lowCycles_any 0 y z p q t w hq y0 y1 z0 z1
  generalize lowC y z t = T at c ⊢
  clear hq y0 y1 z0 z1
  go_enter Tryz.func60, Tryz.ntmps60
  go_wp2_with fail
  refine (hs _).mono ?_
  rintro e w1 ⟨⟨s, rfl, hs0⟩, b1⟩
  have he := empty_no hs0
  have B1 : Hid (Below w.heap.size w w1) := b1
  clear b1 hs
  go_wp2_with fail
  refine (hp _).mono ?_
  rintro e w2 ⟨rfl, b2⟩
  have B2 : Hid (Below w.heap.size w w2) := B1.out.trans (b2.mono B1.out.size)
  clear b2 hp B1 he hs0
  go_wp2_with fail
  refine (c _).mono ?_
  rintro e w3 ⟨rfl, b3⟩
  have B3 : Hid (Below w.heap.size w w3) := (Lgrow B2.out _).trans (b3.mono (by have := B2.out.size; first | omega | (simp; omega)))
  clear b3 B2
  go_wp2
  go_ret
  exact ⟨rfl, B3.out⟩
set_option maxHeartbeats 2000000 in
theorem impl_top (code y z p q : Int) (t : Bool) (w : World) (hq : q = y % 2) (y0 : 0 ≤ y) (y1 : y ≤ 7) (z0 : 0 ≤ z) (z1 : z ≤ 7) (hg : ¬ goneB y z = true) (hs : Shp code false) (hp : Prt code 3 y z p q) :
    Calls Tryz.prog 60 #[.int .i64 code, .bool false, .bool t] w fun e w' => e = .returned (.int .i64 (topC y z t)) ∧ Below w.heap.size w w' := by
  have c := fun w => highCycles_any 3 y z p q t w hq y0 y1 z0 z1 hg
  generalize topC y z t = T at c ⊢
  clear hq y0 y1 z0 z1 hg
  go_enter Tryz.func60, Tryz.ntmps60
  go_wp2_with fail
  refine (hs _).mono ?_
  rintro e w1 ⟨⟨s, rfl, hs0⟩, b1⟩
  have he := empty_no hs0
  have B1 : Hid (Below w.heap.size w w1) := b1
  clear b1 hs
  go_wp2_with fail
  refine (hp _).mono ?_
  rintro e w2 ⟨rfl, b2⟩
  have B2 : Hid (Below w.heap.size w w2) := B1.out.trans (b2.mono B1.out.size)
  clear b2 hp B1 he hs0
  go_wp2_with fail
  refine (c _).mono ?_
  rintro e w3 ⟨rfl, b3⟩
  have B3 : Hid (Below w.heap.size w w3) := (Lgrow B2.out _).trans (b3.mono (by have := B2.out.size; first | omega | (simp; omega)))
  clear b3 B2
  go_wp2
  go_ret
  exact ⟨rfl, B3.out⟩
set_option maxHeartbeats 2000000 in
theorem impl_halt (code x y z p q : Int) (t : Bool) (w : World) (hx0 : ¬ x = 0) (hx3 : ¬ x = 3) (hc : code = 118) (hs : Shp code false) (hp : Prt code x y z p q) :
    Calls Tryz.prog 60 #[.int .i64 code, .bool false, .bool t] w fun e w' => e = .returned (.int .i64 (1)) ∧ Below w.heap.size w w' := by
  subst hc
  have qx0 : (x == 0) = false := by simpa using hx0
  have qx3 : (x == 3) = false := by simpa using hx3
  go_enter Tryz.func60, Tryz.ntmps60
  go_wp2_with fail
  refine (hs _).mono ?_
  rintro e w1 ⟨⟨s, rfl, hs0⟩, b1⟩
  have he := empty_no hs0
  have B1 : Hid (Below w.heap.size w w1) := b1
  clear b1 hs
  go_wp2_with fail
  refine (hp _).mono ?_
  rintro e w2 ⟨rfl, b2⟩
  have B2 : Hid (Below w.heap.size w w2) := B1.out.trans (b2.mono B1.out.size)
  clear b2 hp B1 he hs0
  go_wp2
  go_ret
  refine ⟨rfl, ?_⟩
  with_reducible first | exact B2.out | exact Lgrow B2.out _
set_option maxHeartbeats 2000000 in
theorem impl_z (code x y p q : Int) (t : Bool) (w : World) (hx0 : ¬ x = 0) (hx3 : ¬ x = 3) (hh : ¬ code = 118) (hs : Shp code false) (hp : Prt code x y 6 p q) :
    Calls Tryz.prog 60 #[.int .i64 code, .bool false, .bool t] w fun e w' => e = .returned (.int .i64 (2)) ∧ Below w.heap.size w w' := by
  have qx0 : (x == 0) = false := by simpa using hx0
  have qx3 : (x == 3) = false := by simpa using hx3
  have q118 : (code == 118) = false := by simpa using hh
  go_enter Tryz.func60, Tryz.ntmps60
  go_wp2_with fail
  refine (hs _).mono ?_
  rintro e w1 ⟨⟨s, rfl, hs0⟩, b1⟩
  have he := empty_no hs0
  have B1 : Hid (Below w.heap.size w w1) := b1
  clear b1 hs
  go_wp2_with fail
  refine (hp _).mono ?_
  rintro e w2 ⟨rfl, b2⟩
  have B2 : Hid (Below w.heap.size w w2) := B1.out.trans (b2.mono B1.out.size)
  clear b2 hp B1 he hs0
  go_wp2
  go_ret
  refine ⟨rfl, ?_⟩
  with_reducible first | exact B2.out | exact Lgrow B2.out _
set_option maxHeartbeats 2000000 in
theorem impl_y (code z p q : Int) (t : Bool) (w : World) (hh : ¬ code = 118) (hz : ¬ z = 6) (hs : Shp code false) (hp : Prt code 1 6 z p q) :
    Calls Tryz.prog 60 #[.int .i64 code, .bool false, .bool t] w fun e w' => e = .returned (.int .i64 (2)) ∧ Below w.heap.size w w' := by
  have q118 : (code == 118) = false := by simpa using hh
  have qz : (z == 6) = false := by simpa using hz
  go_enter Tryz.func60, Tryz.ntmps60
  go_wp2_with fail
  refine (hs _).mono ?_
  rintro e w1 ⟨⟨s, rfl, hs0⟩, b1⟩
  have he := empty_no hs0
  have B1 : Hid (Below w.heap.size w w1) := b1
  clear b1 hs
  go_wp2_with fail
  refine (hp _).mono ?_
  rintro e w2 ⟨rfl, b2⟩
  have B2 : Hid (Below w.heap.size w w2) := B1.out.trans (b2.mono B1.out.size)
  clear b2 hp B1 he hs0
  go_wp2
  go_ret
  refine ⟨rfl, ?_⟩
  with_reducible first | exact B2.out | exact Lgrow B2.out _
set_option maxHeartbeats 2000000 in
theorem impl_n1 (code y z p q : Int) (t : Bool) (w : World) (hh : ¬ code = 118) (hz : ¬ z = 6) (hy : ¬ y = 6) (hs : Shp code false) (hp : Prt code 1 y z p q) :
    Calls Tryz.prog 60 #[.int .i64 code, .bool false, .bool t] w fun e w' => e = .returned (.int .i64 (1)) ∧ Below w.heap.size w w' := by
  have q118 : (code == 118) = false := by simpa using hh
  have qz : (z == 6) = false := by simpa using hz
  have qy : (y == 6) = false := by simpa using hy
  go_enter Tryz.func60, Tryz.ntmps60
  go_wp2_with fail
  refine (hs _).mono ?_
  rintro e w1 ⟨⟨s, rfl, hs0⟩, b1⟩
  have he := empty_no hs0
  have B1 : Hid (Below w.heap.size w w1) := b1
  clear b1 hs
  go_wp2_with fail
  refine (hp _).mono ?_
  rintro e w2 ⟨rfl, b2⟩
  have B2 : Hid (Below w.heap.size w w2) := B1.out.trans (b2.mono B1.out.size)
  clear b2 hp B1 he hs0
  go_wp2
  go_ret
  refine ⟨rfl, ?_⟩
  with_reducible first | exact B2.out | exact Lgrow B2.out _
set_option maxHeartbeats 2000000 in
theorem impl_n2 (code y z p q : Int) (t : Bool) (w : World) (hh : ¬ code = 118) (hz : ¬ z = 6) (hs : Shp code false) (hp : Prt code 2 y z p q) :
    Calls Tryz.prog 60 #[.int .i64 code, .bool false, .bool t] w fun e w' => e = .returned (.int .i64 (1)) ∧ Below w.heap.size w w' := by
  have q118 : (code == 118) = false := by simpa using hh
  have qz : (z == 6) = false := by simpa using hz
  go_enter Tryz.func60, Tryz.ntmps60
  go_wp2_with fail
  refine (hs _).mono ?_
  rintro e w1 ⟨⟨s, rfl, hs0⟩, b1⟩
  have he := empty_no hs0
  have B1 : Hid (Below w.heap.size w w1) := b1
  clear b1 hs
  go_wp2_with fail
  refine (hp _).mono ?_
  rintro e w2 ⟨rfl, b2⟩
  have B2 : Hid (Below w.heap.size w w2) := B1.out.trans (b2.mono B1.out.size)
  clear b2 hp B1 he hs0
  go_wp2
  go_ret
  refine ⟨rfl, ?_⟩
  with_reducible first | exact B2.out | exact Lgrow B2.out _
theorem impl_any (code : Int) (cb t : Bool) (w : World) (h0 : 0 ≤ code) (h1 : code ≤ 255) (hs : Shp code cb) (hg : cb = false → code / 64 = 3 → ¬ goneB (code / 8 % 8) (code % 8) = true) :
    Calls Tryz.prog 60 #[.int .i64 code, .bool cb, .bool t] w fun e w' => e = .returned (.int .i64 (cycV code cb t)) ∧ Below w.heap.size w w' := by
  have hp : Prt code (code / 64) (code / 8 % 8) (code % 8) (code / 8 % 8 / 2) (code / 8 % 8 % 2) := fun w => Shape.partsOf_any code w h0 h1
  unfold cycV
  cases cb with
  | true =>
    rw [if_pos rfl]; exact impl_cb code _ _ _ _ _ t w hs hp
  | false =>
    rw [if_neg (by decide)]
    by_cases hx : code / 64 = 0
    · rw [if_pos hx]; rw [hx] at hp; exact impl_low code _ _ _ _ t w rfl (by omega) (by omega) (by omega) (by omega) hs hp
    rw [if_neg hx]
    by_cases h3 : code / 64 = 3
    · rw [if_pos h3]; have hg' := hg rfl h3; rw [h3] at hp; exact impl_top code _ _ _ _ t w rfl (by omega) (by omega) (by omega) (by omega) hg' hs hp
    rw [if_neg h3]
    by_cases h8 : code = 118
    · rw [if_pos h8]; exact impl_halt code _ _ _ _ _ t w hx h3 h8 hs hp
    rw [if_neg h8]
    by_cases hz : code % 8 = 6
    · rw [if_pos hz]; rw [hz] at hp; exact impl_z code _ _ _ _ t w hx h3 h8 hs hp
    rw [if_neg hz]
    by_cases h2 : code / 64 = 1
    · rw [h2] at hp
      by_cases hy : code / 8 % 8 = 6
      · rw [if_pos ⟨h2, hy⟩]; rw [hy] at hp; exact impl_y code _ _ _ t w h8 hz hs hp
      · rw [if_neg (fun h => hy h.2)]; exact impl_n1 code _ _ _ _ t w h8 hz hy hs hp
    · have h4 : code / 64 = 2 := by omega
      rw [h4] at hp
      rw [if_neg (fun h => h2 h.1)]; exact impl_n2 code _ _ _ _ t w h8 hz hs hp
end Go.Proofs.YtkfehdkjeodbmaaGreatDoor.CycP
