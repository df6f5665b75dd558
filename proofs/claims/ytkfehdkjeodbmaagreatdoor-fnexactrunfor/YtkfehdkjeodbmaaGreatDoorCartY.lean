/-
  Contracts of ours for both CartWrite, told field by field.
-/
import Derived.Test.YtkfehdkjeodbmaaGreatDoorCartX
namespace Go.Proofs.YtkfehdkjeodbmaaGreatDoor.CartY
set_option maxRecDepth 20000
open Go.ChangeShapes Go.WideShapes Go.ChangeAt Go.RowKit Go.Deep
set_option linter.unusedVariables false
open Signed (inB ret_int ret_bool isByte_any l1In_any)
open Carts CartK CartL CartM CartN CartP CartR CartW CartV CartX

def wBank (kind bank addr v : Int) : Int := if 128 ≤ addr ∧ addr < 256 then (if kind = 1 then bank1 v else if kind = 2 then v else bank) else bank
def wRam (kind : Int) (ram : ByteArray) (rb : Int) (on : Bool) (mode addr v : Int) : ByteArray := if 40960 ≤ addr ∧ addr < 41024 then (if on = true then putB ram (ramQ kind rb mode * 64 + addr - 40960) v else ram) else ram
def wRb (kind rb addr v : Int) : Int := if 256 ≤ addr ∧ addr < 384 ∧ ¬ kind = 0 then v % 4 else rb
def wOn (kind : Int) (on : Bool) (addr v : Int) : Bool := if addr < 128 ∧ ¬ kind = 0 then v % 16 == 10 else on
def wMode (kind mode addr v : Int) : Int := if 384 ≤ addr ∧ addr < 512 ∧ kind = 1 then v % 2 else mode
def wrote (rom : ByteArray) (kind bank : Int) (ram : ByteArray) (rb : Int) (on : Bool) (mode : Int) (addr v : Int) : Value := .agg #[.string rom, .int .i64 kind, .int .i64 (wBank kind bank addr v), .string (wRam kind ram rb on mode addr v), .int .i64 (wRb kind rb addr v), .bool (wOn kind on addr v), .int .i64 (wMode kind mode addr v)]
def back (rom : ByteArray) (kind bank : Int) (ram : ByteArray) (rb : Int) (on : Bool) (mode : Int) (addr v : Int) : Value := if okB rom kind bank ram rb on mode = true ∧ inB addr 0 65535 = true ∧ inB v 0 255 = true then .tuple #[wrote rom kind bank ram rb on mode addr v, .bool true] else .tuple #[noCart, .bool false]
theorem fin {rom : ByteArray} {kind b b' : Int} {m m' : ByteArray} {r r' : Int} {o o' : Bool} {d d' : Int} {e : Ending} {w w' : World} (hb : b = b') (hm : m = m') (hr : r = r') (ho : o = o') (hd : d = d')
    (k : e = .returned (.tuple #[.agg #[.string rom, .int .i64 kind, .int .i64 b, .string m, .int .i64 r, .bool o, .int .i64 d], .bool true]) ∧ Below w.heap.size w w') :
    e = .returned (.tuple #[.agg #[.string rom, .int .i64 kind, .int .i64 b', .string m', .int .i64 r', .bool o', .int .i64 d'], .bool true]) ∧ Below w.heap.size w w' := by
  subst hb hm hr ho hd
  exact k
end Go.Proofs.YtkfehdkjeodbmaaGreatDoor.CartY
