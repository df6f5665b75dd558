/-
  A contract of ours for impl.Fixed, at every argument.
-/
import Derived.Test.YtkgeenblhnbhdaaDoorFixb
import Derived.Deep.Cut
import Derived.Deep.DeepCutAuto
namespace Go.Proofs.YtkgeenblhnbhdaaDoor.Fixi
open Go.ChangeShapes Go.WideShapes Go.ChangeAt Go.RowKit
open Signed (inB ret_int ret_bool l1In_any)
open Sums Fixa Titl Fixb
set_option linter.unusedVariables false
set_option maxRecDepth 20000

def size1 (n : Nat) : Bool := decide (n % 256 = 0 ∧ 256 ≤ n ∧ n ≤ 4096)
def fixB (rom title : ByteArray) (kind : Int) : Bool := size1 rom.size && (title15 title && inB kind 0 2)
/-- How many bytes a fixed rom has. -/
def lenV (n : Nat) : Nat := (roomV ((n : Int) / 256) * 256).toNat
def pad (l : List UInt8) (n : Nat) : List UInt8 := l ++ List.replicate (n - l.length) 0
def f1 (rom title : ByteArray) : List UInt8 := over (pad rom.data.toList (lenV rom.size)) 52 (pad title.data.toList 15)
def f2 (rom title : ByteArray) (kind : Int) : List UInt8 := ((f1 rom title).set 71 (u8 kind)).set 72 (u8 (timesV ((rom.size : Int) / 256)))
def f3 (l : List UInt8) : List UInt8 := l.set 77 (u8 (headV ⟨l.toArray⟩))
def f4 (l : List UInt8) : List UInt8 := (l.set 78 (u8 (wholeV ⟨l.toArray⟩ / 256))).set 79 (u8 (wholeV ⟨l.toArray⟩ % 256))
def fixedV (rom title : ByteArray) (kind : Int) : ByteArray := ⟨(f4 (f3 (f2 rom title kind))).toArray⟩
theorem size1_yes {n : Nat} (h : size1 n = true) : n % 256 = 0 ∧ 256 ≤ n ∧ n ≤ 4096 := of_decide_eq_true h
theorem len_bd {n : Nat} (h : size1 n = true) : romB (lenV n) = true ∧ n ≤ lenV n ∧ lenV n ≤ 4096 ∧ 512 ≤ lenV n ∧ (lenV n : Int) = roomV ((n : Int) / 256) * 256 := by
  have h := size1_yes h
  have hr : 2 ≤ roomV ((n : Int) / 256) ∧ roomV ((n : Int) / 256) ≤ 16 ∧ (n : Int) / 256 ≤ roomV ((n : Int) / 256) := by
    unfold roomV
    split
    · omega
    split
    · omega
    split
    · omega
    · omega
  have e : (lenV n : Int) = roomV ((n : Int) / 256) * 256 := by unfold lenV; omega
  refine ⟨decide_eq_true ?_, ?_, ?_, ?_, e⟩ <;> omega
theorem pad_length (l : List UInt8) (n : Nat) (h : l.length ≤ n) : (pad l n).length = n := by unfold pad; simp; omega
theorem rom_list (rom : ByteArray) : rom.data.toList.length = rom.size := Array.length_toList
theorem f1_length {rom title : ByteArray} {kind : Int} (h : fixB rom title kind = true) : (f1 rom title).length = lenV rom.size := by
  unfold fixB title15 at h
  simp only [Bool.and_eq_true, decide_eq_true_eq] at h
  have hl := len_bd h.1
  unfold f1
  have e1 : (pad rom.data.toList (lenV rom.size)).length = lenV rom.size := pad_length _ _ (by rw [rom_list]; omega)
  have e2 : (pad title.data.toList 15).length = 15 := pad_length _ _ (by rw [rom_list]; omega)
  rw [over_length _ _ _ (by rw [e1, e2]; omega), e1]
theorem replicate_over (n : Nat) (s : List UInt8) (h : s.length ≤ n) : over (List.replicate n 0) 0 s = pad s n := by
  unfold over pad
  simp
theorem head_bd {s : ByteArray} (h : romB s.size = true) : 0 ≤ headV s ∧ headV s ≤ 255 := by unfold headV; rw [if_pos h]; omega
theorem whole_bd {s : ByteArray} (h : romB s.size = true) : 0 ≤ wholeV s ∧ wholeV s ≤ 65535 := by unfold wholeV; rw [if_pos h]; omega
theorem size_list (l : List UInt8) : (⟨l.toArray⟩ : ByteArray).size = l.length := rfl
/-- impl.noughts at 0 .. 15. -/
def Z (n : Nat) : ByteArray := ⟨(List.replicate n (0 : UInt8)).toArray⟩
theorem Z_size (n : Nat) : (Z n).size = n := by simp [Z, ByteArray.size]
theorem title_pad (title : ByteArray) (h : title.size ≤ 15) : (title ++ Z (15 - title.size)).data.toList = pad title.data.toList 15 ∧ (title ++ Z (15 - title.size)).size = 15 := by
  constructor
  · unfold pad
    rw [rom_list]
    simp [ByteArray.data_append, Z]
  · rw [ByteArray.size_append, Z_size]; omega
theorem wrapU8 {x : Int} (h0 : 0 ≤ x) (h1 : x ≤ 255) : IntKind.u8.wrap x = x := by rw [IntKind.wrap_u8]; omega
theorem drew_below {a b : World} (h : Below a.drew.heap.size a.drew b) : Below a.heap.size a b := ((Below.refl a.heap.size a).drew).trans h
theorem title_step {w w2 wk : World} {B N : Nat} {l : List UInt8} {s : ByteArray} {l' : List UInt8} (R2 : Row w2 B l) (B2 : Below B w w2) (bk : Below w2.heap.size w2 wk) (hl : l.length = N) (hN : 512 ≤ N) (hs : s.size = 15) (he : over l 52 s.data.toList = l') :
    ∃ w3, (∀ ty, (Builtin.copy_ #[22, 9] ty #[.slice (some ⟨B, 52, none⟩) (N - 52) (N - 52), .string s]).run Tryd.prog wk = .ok (goInt s.size) w3) ∧ Hid (Row w3 B l') ∧ Hid (Below B w w3) := by
  have hlt := R2.lt
  obtain ⟨w3, hc3, r3, b3⟩ := copy_at (R2.below bk) 52 (N - 52) (N - 52) s (by omega) (by omega)
  rw [he] at r3
  exact ⟨w3, hc3, r3, b3 B w (Nat.le_refl _) (B2.trans (bk.mono (by omega)))⟩
def outV (rom title : ByteArray) (kind : Int) : Value := .tuple #[.string (if fixB rom title kind = true then fixedV rom title kind else ⟨#[]⟩), .bool (fixB rom title kind)]
end Go.Proofs.YtkgeenblhnbhdaaDoor.Fixi
