/-
  Facts of ours on bytes, reckoned one by one: a byte turned again and again; decimal digits put right.
-/
import Derived.Test.YtmdaieopnapbgaaTurnS
import Derived.Test.YtmdaieopnapbgaaReckD
namespace Go.Proofs.Ytmdaieopnapbgaa.Bits
open Go.ChangeShapes Go.WideShapes Go.ChangeAt Go.RowKit
open Reck ReckS ReckM TurnS ReckD

/-- A byte and a carry, turned n times. -/
def spin (op : Int) : Nat → Int × Int → Int × Int
  | 0, p => p
  | n + 1, p => spin op n (trnP op p.1 p.2)
def spinOk (v c : Nat) : Bool :=
  ((spin 0 8 (v, c)).1 == (v : Int)) && ((spin 1 8 (v, c)).1 == (v : Int)) && (spin 2 9 (v, c) == ((v : Int), (c : Int))) && (spin 3 9 (v, c) == ((v : Int), (c : Int))) &&
  ((trnP 1 (trnP 0 v c).1 (trnP 0 v c).2).1 == (v : Int)) && ((trnP 0 (trnP 1 v c).1 (trnP 1 v c).2).1 == (v : Int)) && ((trnP 3 (trnP 2 v c).1 (trnP 2 v c).2).1 == (v : Int)) && ((trnP 2 (trnP 3 v c).1 (trnP 3 v c).2).1 == (v : Int))
theorem spins : ∀ v, v < 256 → ∀ c, c < 2 → spinOk v c = true := by decide +kernel
/-- Two decimal numbers below a hundred as digits of four bits, added and taken away, put right. -/
def bcd (a : Int) : Int := a / 10 * 16 + a % 10
def bcdOk (a b : Nat) : Bool :=
  let s := aluR 0 (bcd a) (bcd b) 0
  let t := daaR s.1 s.2
  let d := aluR 2 (bcd a) (bcd b) 0
  let u := daaR d.1 d.2
  let less := ((a : Int) - b + 100) % 100
  (t.1 == ((a : Int) + b) % 100 / 10 * 16 + ((a : Int) + b) % 10) && ((t.2 / 16 % 2 == 1) == decide ((99 : Int) < a + b)) && (u.1 == less / 10 * 16 + less % 10)
theorem bcds : ∀ a, a < 100 → ∀ b, b < 100 → bcdOk a b = true := by decide +kernel

end Go.Proofs.Ytmdaieopnapbgaa.Bits
