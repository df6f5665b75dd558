/-
  Contracts of ours for lines whose marks are filled: spec.l8Fill, spec.Filled, impl.markAt, impl.filledIn, impl.Filled.
-/
import Derived.Test.YtcjipfjbbdbbgaaDoorTxts
import Derived.Test.YtcjipfjbbdbbgaaDoorNames
import Derived.Laws.BytesArg
import Derived.Laws.IdiomStrings
import Derived.Lib.AppendStr
import Derived.Maps.AppendAt
import Derived.Laws.Strings2
namespace Go.Proofs.YtcjipfjbbdbbgaaDoor.Fill
open Go.ChangeShapes Go.WideShapes Go.ChangeAt Go.RowKit Go.Deep
set_option linter.unusedVariables false
open Txts (Texts)
open Names (decB decimal_any ret_bool)

theorem infoB : (Tryd.prog.info? 5).map (fun i => (i.zero, i.size, i.bytes)) = some (some (.int .u8 0), 1, 1) := by kernel_rfl
theorem ret_int {k : IntKind} {a b : Int} (h : a = b) : Ending.returned (.int k a) = .returned (.int k b) := by rw [h]

/-- What a call owns as bytes is a text. -/
theorem owned_string {w : World} {base n : Nat} {v : Value} {out : ByteArray} (h : w.ownsRow base 5 1 v n (Lib.strCells out)) :
    ∃ a cap, v = .slice a out.size cap ∧ n = out.size ∧ (convert 22 9 (.slice a out.size cap)).run Tryd.prog w = .ok (.string out) w := by
  have hn : n = out.size := by have := h.1; rw [Lib.strCells_length] at this; omega
  subst hn
  rcases h.2 with ⟨rfl, h0⟩ | ⟨g, cap, cur, rfl, hb, hg, rest⟩
  · refine ⟨none, 0, by rw [h0], rfl, ?_⟩
    have e : out = ByteArray.empty := by
      apply ByteArray.ext
      exact Array.eq_empty_of_size_eq_zero h0
    have := run_convert_bytes_nil w (P := Tryd.prog) 22 5 Tryd.underlying22 Tryd.underlying5 0 0 9 Tryd.underlying9
    rw [e]
    exact this
  · refine ⟨_, cap, rfl, rfl, ?_⟩
    have hl : out.data.toList.length = out.size := by rw [Array.length_toList]; rfl
    have hb := run_convert_bytes_back (P := Tryd.prog) w 22 9 5 ⟨g, 0, none⟩ cap out.data.toList Tryd.underlying22 Tryd.underlying5 Tryd.underlying9 (fun j hj => by
      have ea : (⟨g, 0, none⟩ : Addr).add j = ⟨g, j, none⟩ := by unfold Addr.add; split <;> simp_all
      have := h.cellAt j (by rw [hl] at hj; omega)
      rw [ea, this]
      unfold Lib.strCells
      rw [List.getElem?_map, List.getElem?_eq_getElem hj]
      rfl)
    rw [hl] at hb
    simpa using hb

def numAt (s : ByteArray) (k : Nat) : Nat := if h : k < s.size then s[k].toNat else 0
theorem numAt_of {s : ByteArray} {k : Nat} (h : k < s.size) : numAt s k = s[k].toNat := by unfold numAt; rw [dif_pos h]
def markB (s : ByteArray) (k : Nat) : Bool := decide (numAt s k = 92 ∧ k + 1 < s.size ∧ 49 ≤ numAt s (k + 1) ∧ numAt s (k + 1) ≤ 57)
def argAt (A : List ByteArray) (i : Nat) : ByteArray := (A[i]?).getD ⟨#[]⟩
theorem argAt_of {A : List ByteArray} {i : Nat} (h : i < A.length) : argAt A i = A[i] := by unfold argAt; rw [List.getElem?_eq_getElem h]; rfl
theorem argAt_no {A : List ByteArray} {i : Nat} (h : ¬ i < A.length) : argAt A i = ⟨#[]⟩ := by unfold argAt; rw [List.getElem?_eq_none (by omega)]; rfl
/-- What comes of a line from a place on. -/
def fill (s : ByteArray) (A : List ByteArray) (k : Nat) : ByteArray :=
  if k < s.size then (if markB s k = true then argAt A (numAt s (k + 1) - 49) ++ fill s A (k + 2) else s.extract k (k + 1) ++ fill s A (k + 1)) else ⟨#[]⟩
termination_by s.size - k
decreasing_by all_goals omega
theorem fill_end {s : ByteArray} {A : List ByteArray} {k : Nat} (h : ¬ k < s.size) : fill s A k = ⟨#[]⟩ := by rw [fill, if_neg h]
theorem fill_mark {s : ByteArray} {A : List ByteArray} {k : Nat} (h : k < s.size) (hm : markB s k = true) : fill s A k = argAt A (numAt s (k + 1) - 49) ++ fill s A (k + 2) := by rw [fill, if_pos h, if_pos hm]
theorem fill_one {s : ByteArray} {A : List ByteArray} {k : Nat} (h : k < s.size) (hm : markB s k = false) : fill s A k = s.extract k (k + 1) ++ fill s A (k + 1) := by rw [fill, if_pos h, if_neg (by rw [hm]; decide)]
theorem cat_nil (s : ByteArray) : s ++ (⟨#[]⟩ : ByteArray) = s := by
  have h : s ++ ByteArray.empty = s := ByteArray.append_empty
  exact h
theorem cells_one {s : ByteArray} {k : Nat} (h : k < s.size) : Lib.strCells (s.extract k (k + 1)) = [.int .u8 (s[k].toNat : Int)] := by
  unfold Lib.strCells
  have e : (s.extract k (k + 1)).data.toList = [s[k]] := by
    rw [ByteArray.data_extract]
    have hh : k < s.data.size := h
    apply List.ext_getElem
    · simp; omega
    · intro i h1 h2
      simp at h2
      subst h2
      simp
      rfl
  rw [e]; rfl
theorem cells_cat (s t : ByteArray) : Lib.strCells (s ++ t) = Lib.strCells s ++ Lib.strCells t := by
  unfold Lib.strCells
  rw [ByteArray.data_append, Array.toList_append, List.map_append]

theorem slice_one (s : ByteArray) (k : Nat) (h : k < s.size) (w : World) : (Instr.slice 9 (.string s) (some (.int .i64 (k : Int))) (some (.int .i64 ((k : Int) + 1))) none).run Tryd.prog w = .ok (.string (s.extract k (k + 1))) w := by
  have := run_slice_string (P := Tryd.prog) w 9 s .i64 .i64 (k : Int) ((k : Int) + 1) Tryd.underlying9 (by omega) (by omega) (by omega)
  rw [show ((k : Int) + 1).toNat = k + 1 by omega, Int.toNat_natCast] at this
  exact this

def markN (s : ByteArray) (k : Nat) : Int := if markB s k = true then (numAt s (k + 1) : Int) - 48 else 0

def fitB (s : ByteArray) : Bool := decide ((s.size : Int) ≤ 80)

theorem arg_le {A : List ByteArray} (hA : ∀ i (h : i < A.length), A[i].size ≤ 80) (i : Nat) : (argAt A i).size ≤ 80 := by
  by_cases h : i < A.length
  · rw [argAt_of h]; exact hA i h
  · rw [argAt_no h]; exact Nat.zero_le _

theorem markN_yes {s : ByteArray} {k : Nat} (h : markB s k = true) : markN s k = (numAt s (k + 1) : Int) - 48 := by unfold markN; rw [if_pos h]
theorem markN_no {s : ByteArray} {k : Nat} (h : markB s k = false) : markN s k = 0 := by unfold markN; rw [if_neg (by rw [h]; decide)]

/-- Are all args short? -/
def shortB (A : List ByteArray) (k : Nat) : Prop := ∀ i (h : i < A.length), i < k → A[i].size ≤ 80
def goodB (s : ByteArray) (A : List ByteArray) : Prop := s.size ≤ 80 ∧ A.length ≤ 9 ∧ (∀ i (h : i < A.length), A[i].size ≤ 80) ∧ fitB (fill s A 0) = true
open Classical in
noncomputable def filled (s : ByteArray) (A : List ByteArray) : ByteArray := if goodB s A then fill s A 0 else ⟨#[]⟩
theorem filled_no {s : ByteArray} {A : List ByteArray} (h : ¬ goodB s A) : filled s A = ⟨#[]⟩ := by unfold filled; rw [if_neg h]
theorem filled_yes {s : ByteArray} {A : List ByteArray} (h : goodB s A) : filled s A = fill s A 0 := by unfold filled; rw [if_pos h]
end Go.Proofs.YtcjipfjbbdbbgaaDoor.Fill
