/-
  Of ours: a right header with one byte of its title turned is right no more; and the row that '[]byte(s)' makes.
-/
import Derived.Test.YtpnaohonadoofaaDoorFixp
import Derived.Lib.ConvBytes
import Derived.Laws.IdiomStrings
namespace Go.Proofs.YtpnaohonadoofaaDoor.Hedt
open Go.ChangeShapes Go.WideShapes Go.ChangeAt Go.RowKit
open Sums Fixa Titl Fixb Fixi Heda Fixp
set_option linter.unusedVariables false
set_option maxRecDepth 20000

def turnB (s : ByteArray) (x : Int) : ByteArray := ⟨(s.data.toList.set 55 (u8 x)).toArray⟩
theorem turn_size (s : ByteArray) (x : Int) : (turnB s x).size = s.size := by
  unfold turnB
  rw [size_list, List.length_set]
  rfl
theorem turn_at (s : ByteArray) (x : Int) (x0 : 0 ≤ x) (x1 : x ≤ 255) (h : 55 < s.size) (i : Nat) : byteAt (turnB s x) i = if i = 55 then x else byteAt s i := by
  have e : byteAt s i = at_ s.data.toList i := by rw [← byteAt_list]
  unfold turnB
  rw [byteAt_list, e]
  by_cases hi : i = 55
  · subst hi
    rw [if_pos rfl, at_set_self _ _ _ (by simpa using h), u8_val x0 x1]
  · rw [if_neg hi, at_set_ne _ _ _ _ hi]
theorem turn_head (s : ByteArray) (x : Int) (x0 : 0 ≤ x) (x1 : x ≤ 255) (h : romB s.size = true) (hx : x ≠ byteAt s 55) : headV (turnB s x) ≠ headV s := by
  obtain ⟨_, _, _, h3, _, _⟩ := banks_yes h
  have a1 : sumOf (turnB s x) 52 3 = sumOf s 52 3 := sumOf_congr 3 (fun i h0 h1 => by rw [turn_at s x x0 x1 (by omega), if_neg (by omega)])
  have a2 : sumOf (turnB s x) 56 21 = sumOf s 56 21 := sumOf_congr 21 (fun i h0 h1 => by rw [turn_at s x x0 x1 (by omega), if_neg (by omega)])
  have a3 : byteAt (turnB s x) 55 = x := by rw [turn_at s x x0 x1 (by omega), if_pos rfl]
  have sp : ∀ t : ByteArray, sumOf t 52 25 = sumOf t 52 3 + byteAt t 55 + sumOf t 56 21 := fun t => by
    have e1 := sumOf_split t 52 3 22
    have e2 : sumOf t 55 22 = sumOf t 55 1 + sumOf t 56 21 := sumOf_split t 55 1 21
    have e3 : sumOf t 55 1 = 0 + byteAt t 55 := rfl
    have e4 : sumOf t (52 + 3) 22 = sumOf t 55 22 := rfl
    have e5 : sumOf t 52 (3 + 22) = sumOf t 52 25 := rfl
    generalize sumOf t 52 25 = x1 at *
    generalize sumOf t 55 22 = x2 at *
    generalize sumOf t 56 21 = x3 at *
    generalize sumOf t 52 3 = x4 at *
    omega
  obtain ⟨b0, b1⟩ := byteAt_bd s 55
  unfold headV
  rw [turn_size, if_pos h, if_pos h, sp, sp s, a1, a2, a3]
  omega
theorem turn_no (s : ByteArray) (x : Int) (x0 : 0 ≤ x) (x1 : x ≤ 255) (h : hdrB s = true) (hx : x ≠ byteAt s 55) : hdrB (turnB s x) = false := by
  cases hb : hdrB (turnB s x) with
  | false => rfl
  | true =>
    exfalso
    unfold hdrB at h hb
    simp only [Bool.and_eq_true, beq_iff_eq] at h hb
    obtain ⟨_, _, _, h3, _, _⟩ := banks_yes h.1
    have e := hb.2.2.2.2.1
    rw [turn_at s x x0 x1 (by omega), if_neg (by omega), h.2.2.2.2.1] at e
    exact turn_head s x x0 x1 h.1 hx e.symm
theorem xor_all : ∀ x : Fin 256, 0 ≤ bits .xor .u8 (x.val : Int) 1 ∧ bits .xor .u8 (x.val : Int) 1 ≤ 255 ∧ bits .xor .u8 (x.val : Int) 1 ≠ (x.val : Int) := by decide +kernel
theorem xor_one (x : Int) (x0 : 0 ≤ x) (x1 : x ≤ 255) : 0 ≤ bits .xor .u8 x 1 ∧ bits .xor .u8 x 1 ≤ 255 ∧ bits .xor .u8 x 1 ≠ x := by
  have := xor_all ⟨x.toNat, by omega⟩
  have e : ((x.toNat : Nat) : Int) = x := by omega
  simp only [e] at this
  exact this
/-- What is used of the row that '[]byte(s)' made. -/
def Buf (w : World) (B : Nat) (l : List UInt8) : Prop := B < w.heap.size ∧ (∀ j (h : j < l.length), w.cell? ⟨B, j, none⟩ = some (.int .u8 (l[j].toNat : Int))) ∧ ∀ j, j < l.length → w.frozen? ⟨B, j, none⟩ = false
theorem Buf.below {w w' : World} {B : Nat} {l : List UInt8} (h : Buf w B l) (b : Below w.heap.size w w') : Buf w' B l := by
  have e := b.block B h.1
  refine ⟨Nat.lt_of_lt_of_le h.1 b.size, fun j hj => ?_, fun j hj => ?_⟩
  · rw [← h.2.1 j hj]; exact b.cell (p := ⟨B, j, none⟩) h.1
  · rw [← h.2.2 j hj]; unfold World.frozen?; simp only [e]
theorem Buf.new (w : World) (s : ByteArray) : Buf (Lib.bytesWorld w 5 s) w.heap.size s.data.toList := by
  refine ⟨by rw [Lib.bytesWorld_size]; omega, fun j hj => ?_, fun j hj => ?_⟩
  · rw [Lib.bytesWorld_cell w 5 s j (by simpa using hj)]
    have h2 : j < s.data.size := by simpa using hj
    simp [List.getD, Array.getElem?_eq_getElem h2]
  · unfold World.frozen?
    simp only [Lib.bytesWorld_at_new]
    have hc : j < (Lib.bytesCells w 5 s).size := by unfold Lib.bytesCells; simp at hj ⊢; omega
    simp
    omega
theorem Buf.set {w : World} {B : Nat} {l : List UInt8} (h : Buf w B l) (i : Nat) (hi : i < l.length) (v : Int) (v0 : 0 ≤ v) (v1 : v ≤ 255) : Buf (w.setCell ⟨B, i, none⟩ (.int .u8 v)) B (l.set i (u8 v)) := by
  refine ⟨by simpa using h.1, fun j hj => ?_, fun j hj => ?_⟩
  · have hj' : j < l.length := by simpa using hj
    by_cases e : j = i
    · subst e
      rw [World.cell?_setCell_same w ⟨B, j, none⟩ _ (h.2.1 j hj')]
      simp [u8_val v0 v1]
    · rw [World.cell?_setCell_other w ⟨B, i, none⟩ ⟨B, j, none⟩ _ (by simp), h.2.1 j hj']
      simp [Ne.symm e]
  · rw [World.frozen?_setCell]
    exact h.2.2 j (by simpa using hj)
theorem Buf.str {w : World} {B : Nat} {l : List UInt8} (h : Buf w B l) (n cap : Nat) (hn : l.length = n) : (convert 22 9 (.slice (some ⟨B, 0, none⟩) n cap)).run Tryd.prog w = .ok (.string ⟨l.toArray⟩) w := by
  rw [← hn]
  refine run_convert_bytes_back w 22 9 5 ⟨B, 0, none⟩ cap l Tryd.underlying22 Tryd.underlying5 Tryd.underlying9 fun j hj => ?_
  have e : (⟨B, 0, none⟩ : Addr).add j = ⟨B, j, none⟩ := by
    by_cases h0 : j = 0 <;> simp [Addr.add, h0]
  rw [e]
  exact h.2.1 j hj
theorem bytes_below (w : World) (s : ByteArray) : Below w.heap.size w (Lib.bytesWorld w 5 s) := ⟨rfl, rfl, rfl, by rw [Lib.bytesWorld_size]; omega, fun j hj => Lib.bytesWorld_at_old w 5 s j hj⟩
theorem made (w : World) (s : ByteArray) : (convert 9 22 (.string s)).run Tryd.prog w = .ok (.slice (some ⟨w.heap.size, 0, none⟩) s.size (grownCap w s.size 0 5)) (Lib.bytesWorld w 5 s) := Lib.run_convert_string_bytes w 9 22 5 s Tryd.underlying9 Tryd.underlying22 Tryd.underlying5
theorem shape (s : ByteArray) : ∃ (t : ByteArray) (k n sm wh : Int) (f : Bool), outH s = .returned (.tuple #[.agg #[.string t, .int .i64 k, .int .i64 n, .int .i64 sm, .int .i64 wh], .bool f]) ∧ (f = true → sm = headV s ∧ wh = wholeV s ∧ 512 ≤ s.size ∧ ∀ x : Int, 0 ≤ x → x ≤ 255 → x ≠ byteAt s 55 → outH (turnB s x) = .returned (.tuple #[noHdr, .bool false])) := by
  unfold outH
  cases h : hdrB s with
  | false => exact ⟨_, _, _, _, _, false, rfl, fun e => by cases e⟩
  | true =>
    refine ⟨titleS s, byteAt s 71, banks s.size, byteAt s 77, byteAt s 78 * 256 + byteAt s 79, true, rfl, fun _ => ?_⟩
    have h' := h
    unfold hdrB at h'
    simp only [Bool.and_eq_true, beq_iff_eq] at h'
    obtain ⟨_, _, _, h3, _, _⟩ := banks_yes h'.1
    refine ⟨h'.2.2.2.2.1, h'.2.2.2.2.2, h3, fun x x0 x1 hx => ?_⟩
    rw [turn_no s x x0 x1 h hx]
    rfl
end Go.Proofs.YtpnaohonadoofaaDoor.Hedt
