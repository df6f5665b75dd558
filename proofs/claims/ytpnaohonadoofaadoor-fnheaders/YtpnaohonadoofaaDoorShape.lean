/-
  Contracts of ours for the shapes of codes: impl.partsOf, impl.lowShape, impl.highShape, impl.shapeOf, each at every argument.
-/
import Derived.Test.YtpnaohonadoofaaDoorSigned
import Derived.Test.YtpnaohonadoofaaDoorRows
import Derived.WalkKit
import Derived.ProofKit
import Derived.OpenShut
import Derived.ShutString
import Derived.Outline
import Derived.WalkLawsBesides
namespace Go.Proofs.YtpnaohonadoofaaDoor.Shape
open Go.ChangeShapes Go.WideShapes Go.ChangeAt Go.RowKit
open Signed (inB)
set_option linter.unusedVariables false

def at8 (l : List ByteArray) (i : Int) : ByteArray := l.getD i.toNat ⟨#[]⟩
theorem cases8 {y : Int} (h0 : 0 ≤ y) (h1 : y ≤ 7) : y = 0 ∨ y = 1 ∨ y = 2 ∨ y = 3 ∨ y = 4 ∨ y = 5 ∨ y = 6 ∨ y = 7 := by omega
theorem cases2 {q : Int} (h0 : 0 ≤ q) (h1 : q ≤ 1) : q = 0 ∨ q = 1 := by omega
theorem ret_str {a b : ByteArray} (h : a = b) : Ending.returned (.string a) = .returned (.string b) := by rw [h]
def low0 : List ByteArray := [⟨#[110, 111, 112]⟩, ⟨#[108, 100, 32, 91, 110, 49, 54, 93, 44, 115, 112]⟩, ⟨#[115, 116, 111, 112, 32, 110, 56]⟩, ⟨#[106, 114, 32, 101, 56]⟩, ⟨#[106, 114, 32, 67, 44, 101, 56]⟩, ⟨#[106, 114, 32, 67, 44, 101, 56]⟩, ⟨#[106, 114, 32, 67, 44, 101, 56]⟩, ⟨#[106, 114, 32, 67, 44, 101, 56]⟩]
def low1 : List ByteArray := [⟨#[108, 100, 32, 80, 44, 110, 49, 54]⟩, ⟨#[97, 100, 100, 32, 104, 108, 44, 80]⟩]
def low2 : List ByteArray := [⟨#[108, 100, 32, 77, 44, 97]⟩, ⟨#[108, 100, 32, 97, 44, 77]⟩]
def low3 : List ByteArray := [⟨#[105, 110, 99, 32, 80]⟩, ⟨#[100, 101, 99, 32, 80]⟩]
def low7 : List ByteArray := [⟨#[114, 108, 99, 97]⟩, ⟨#[114, 114, 99, 97]⟩, ⟨#[114, 108, 97]⟩, ⟨#[114, 114, 97]⟩, ⟨#[100, 97, 97]⟩, ⟨#[99, 112, 108]⟩, ⟨#[115, 99, 102]⟩, ⟨#[99, 99, 102]⟩]
def lowE : List ByteArray := [⟨#[105, 110, 99, 32, 82]⟩, ⟨#[100, 101, 99, 32, 82]⟩, ⟨#[108, 100, 32, 82, 44, 110, 56]⟩]
def lowS (y z : Int) : ByteArray := if z = 0 then at8 low0 y else if z = 1 then at8 low1 (y % 2) else if z = 2 then at8 low2 (y % 2) else if z = 3 then at8 low3 (y % 2) else if z = 7 then at8 low7 y else at8 lowE (z - 4)
def high0 : List ByteArray := [⟨#[114, 101, 116, 32, 67]⟩, ⟨#[114, 101, 116, 32, 67]⟩, ⟨#[114, 101, 116, 32, 67]⟩, ⟨#[114, 101, 116, 32, 67]⟩, ⟨#[108, 100, 104, 32, 91, 110, 56, 93, 44, 97]⟩, ⟨#[97, 100, 100, 32, 115, 112, 44, 101, 56]⟩, ⟨#[108, 100, 104, 32, 97, 44, 91, 110, 56, 93]⟩, ⟨#[108, 100, 32, 104, 108, 44, 115, 112, 43, 101, 56]⟩]
def high1 : List ByteArray := [⟨#[112, 111, 112, 32, 81]⟩, ⟨#[114, 101, 116]⟩, ⟨#[112, 111, 112, 32, 81]⟩, ⟨#[114, 101, 116, 105]⟩, ⟨#[112, 111, 112, 32, 81]⟩, ⟨#[106, 112, 32, 104, 108]⟩, ⟨#[112, 111, 112, 32, 81]⟩, ⟨#[108, 100, 32, 115, 112, 44, 104, 108]⟩]
def high2 : List ByteArray := [⟨#[106, 112, 32, 67, 44, 110, 49, 54]⟩, ⟨#[106, 112, 32, 67, 44, 110, 49, 54]⟩, ⟨#[106, 112, 32, 67, 44, 110, 49, 54]⟩, ⟨#[106, 112, 32, 67, 44, 110, 49, 54]⟩, ⟨#[108, 100, 104, 32, 91, 99, 93, 44, 97]⟩, ⟨#[108, 100, 32, 91, 110, 49, 54, 93, 44, 97]⟩, ⟨#[108, 100, 104, 32, 97, 44, 91, 99, 93]⟩, ⟨#[108, 100, 32, 97, 44, 91, 110, 49, 54, 93]⟩]
def high3 : List ByteArray := [⟨#[106, 112, 32, 110, 49, 54]⟩, ⟨#[]⟩, ⟨#[]⟩, ⟨#[]⟩, ⟨#[]⟩, ⟨#[]⟩, ⟨#[100, 105]⟩, ⟨#[101, 105]⟩]
def high4 : List ByteArray := [⟨#[99, 97, 108, 108, 32, 67, 44, 110, 49, 54]⟩, ⟨#[99, 97, 108, 108, 32, 67, 44, 110, 49, 54]⟩, ⟨#[99, 97, 108, 108, 32, 67, 44, 110, 49, 54]⟩, ⟨#[99, 97, 108, 108, 32, 67, 44, 110, 49, 54]⟩, ⟨#[]⟩, ⟨#[]⟩, ⟨#[]⟩, ⟨#[]⟩]
def high5 : List ByteArray := [⟨#[112, 117, 115, 104, 32, 81]⟩, ⟨#[99, 97, 108, 108, 32, 110, 49, 54]⟩, ⟨#[112, 117, 115, 104, 32, 81]⟩, ⟨#[]⟩, ⟨#[112, 117, 115, 104, 32, 81]⟩, ⟨#[]⟩, ⟨#[112, 117, 115, 104, 32, 81]⟩, ⟨#[]⟩]
def highE : List ByteArray := [⟨#[65, 32, 97, 44, 110, 56]⟩, ⟨#[114, 115, 116, 32, 72]⟩]
def highS (y z : Int) : ByteArray := if z = 0 then at8 high0 y else if z = 1 then at8 high1 y else if z = 2 then at8 high2 y else if z = 3 then at8 high3 y else if z = 4 then at8 high4 y else if z = 5 then at8 high5 y else at8 highE (z - 6)
def shapeR (code : Int) (cb : Bool) : ByteArray :=
  if cb = true then (if code / 64 = 0 then ⟨#[84, 32, 83]⟩ else ⟨#[66, 32, 89, 44, 83]⟩)
  else if code / 64 = 0 then lowS (code / 8 % 8) (code % 8) else if code = 118 then ⟨#[104, 97, 108, 116]⟩ else if code / 64 = 1 then ⟨#[108, 100, 32, 82, 44, 83]⟩ else if code / 64 = 2 then ⟨#[65, 32, 97, 44, 83]⟩ else highS (code / 8 % 8) (code % 8)
def shape (code : Int) (cb : Bool) : ByteArray := if inB code 0 255 = true then shapeR code cb else ⟨#[]⟩
theorem shapeR_0 {code : Int} (h : code / 64 = 0) : shapeR code false = lowS (code / 8 % 8) (code % 8) := by unfold shapeR; rw [if_neg (by decide), if_pos h]
theorem shapeR_1 {code : Int} (h : code / 64 = 1) (hh : ¬ code = 118) : shapeR code false = ⟨#[108, 100, 32, 82, 44, 83]⟩ := by unfold shapeR; rw [if_neg (by decide), if_neg (by omega), if_neg hh, if_pos h]
theorem shapeR_2 {code : Int} (h : code / 64 = 2) (hh : ¬ code = 118) : shapeR code false = ⟨#[65, 32, 97, 44, 83]⟩ := by unfold shapeR; rw [if_neg (by decide), if_neg (by omega), if_neg hh, if_neg (by omega), if_pos h]
theorem shapeR_3 {code : Int} (h : code / 64 = 3) (hh : ¬ code = 118) : shapeR code false = highS (code / 8 % 8) (code % 8) := by unfold shapeR; rw [if_neg (by decide), if_neg (by omega), if_neg hh, if_neg (by omega), if_neg (by omega)]
theorem shapeR_c0 {code : Int} (h : code / 64 = 0) : shapeR code true = ⟨#[84, 32, 83]⟩ := by unfold shapeR; rw [if_pos rfl, if_pos h]
theorem shapeR_c1 {code : Int} (h : ¬ code / 64 = 0) : shapeR code true = ⟨#[66, 32, 89, 44, 83]⟩ := by unfold shapeR; rw [if_pos rfl, if_neg h]
end Go.Proofs.YtpnaohonadoofaaDoor.Shape
