/-
  Of ours: a row of bytes that the call has made: bytes copied into it, bytes put into it, its text.
-/
import Derived.Test.YtbfjalpkdgepnaaRows
import Derived.WalkKit
import Derived.ProofKit
import Derived.OpenShut
import Derived.Below
import Derived.OneCell
import Derived.Laws.Rows
import Derived.Laws.IdiomStrings
import Derived.Laws.OwnMore
import Derived.Lib.LazyBuf
import Derived.LoopN
namespace Go.Proofs.Ytbfjalpkdgepnaa.Rowb
open Go.ChangeShapes Go.WideShapes Go.ChangeAt Go.RowKit
set_option linter.unusedVariables false

def cellsOf (l : List UInt8) : List Value := l.map fun x => Value.int .u8 (x.toNat : Int)
/-- The block B is a row of these bytes. -/
def Row (w : World) (B : Nat) (l : List UInt8) : Prop := w.heap[B]? = some (.cells (cellsOf l).toArray 5 (0, 0))
def over (l : List UInt8) (o : Nat) (s : List UInt8) : List UInt8 := l.take o ++ s ++ l.drop (o + s.length)
def u8 (x : Int) : UInt8 := UInt8.ofNat x.toNat
theorem u8_val {x : Int} (h0 : 0 ≤ x) (h1 : x ≤ 255) : ((u8 x).toNat : Int) = x := by
  have : (UInt8.ofNat x.toNat).toNat = x.toNat := by simp; omega
  unfold u8; omega
theorem u8_nat (b : UInt8) : u8 (b.toNat : Int) = b := by unfold u8; simp
theorem over_length (l : List UInt8) (o : Nat) (s : List UInt8) (h : o + s.length ≤ l.length) : (over l o s).length = l.length := by
  unfold over; simp; omega
theorem Row.lt {w : World} {B : Nat} {l : List UInt8} (h : Row w B l) : B < w.heap.size := lt_of_block h
theorem Row.kept {w w' : World} {B : Nat} {l : List UInt8} (h : Row w B l) (hk : w'.heap[B]? = w.heap[B]?) : Row w' B l := hk.trans h
theorem Row.below {w w' : World} {B : Nat} {l : List UInt8} (h : Row w B l) (b : Below w.heap.size w w') : Row w' B l := h.kept (b.block B h.lt)
theorem cell_at {w : World} {B : Nat} {l : List UInt8} (h : Row w B l) (i : Nat) (hi : i < l.length) : w.cell? ⟨B, i, none⟩ = some (.int .u8 (l[i].toNat : Int)) := by
  unfold Row at h
  unfold World.cell?
  simp only [h]
  simp [cellsOf, hi]
theorem free_at {w : World} {B : Nat} {l : List UInt8} (h : Row w B l) (i : Nat) : w.frozen? ⟨B, i, none⟩ = false := by
  unfold Row at h
  unfold World.frozen?
  simp only [h]
  simp
theorem put_at {w : World} {B : Nat} {l : List UInt8} (h : Row w B l) (i : Nat) (hi : i < l.length) (v : Int) (v0 : 0 ≤ v) (v1 : v ≤ 255) : Row (w.setCell ⟨B, i, none⟩ (.int .u8 v)) B (l.set i (u8 v)) := by
  have hlt := h.lt
  have h' : w.heap[B] = .cells (cellsOf l).toArray 5 (0, 0) := by simpa [Array.getElem?_eq_getElem hlt, Row] using h
  show (w.heap.modify B _)[B]? = _
  rw [Array.getElem?_eq_getElem (by simpa using hlt), Array.getElem_modify_self, h']
  have hv := u8_val v0 v1
  simp [cellsOf, List.map_set, hv]
theorem over_get (l : List UInt8) (o : Nat) (s : List UInt8) (i : Nat) (h : o ≤ l.length) : (over l o s)[i]? = if i < o then l[i]? else if i < o + s.length then s[i - o]? else l[i]? := by
  unfold over
  have ht : (l.take o).length = o := by simp; omega
  by_cases h1 : i < o
  · rw [if_pos h1, List.append_assoc, List.getElem?_append_left (by omega), List.getElem?_take_of_lt h1]
  rw [if_neg h1, List.append_assoc, List.getElem?_append_right (by omega), ht]
  by_cases h2 : i < o + s.length
  · rw [if_pos h2, List.getElem?_append_left (by omega)]
  · rw [if_neg h2, List.getElem?_append_right (by omega), List.getElem?_drop]
    congr 1
    omega
theorem over_cons (l : List UInt8) (o : Nat) (b : UInt8) (s : List UInt8) (h : o < l.length) : over l o (b :: s) = over (l.set o b) (o + 1) s := by
  apply List.ext_getElem?
  intro i
  rw [over_get l o _ i (by omega), over_get (l.set o b) (o + 1) s i (by simp; omega), List.length_cons]
  by_cases h1 : i < o
  · rw [if_pos h1, if_pos (by omega), List.getElem?_set_ne (by omega)]
  rw [if_neg h1]
  by_cases h2 : i = o
  · subst h2
    rw [if_pos (by omega), if_pos (by omega), List.getElem?_set_self h, Nat.sub_self]
    rfl
  rw [if_neg (show ¬ i < o + 1 by omega)]
  by_cases h3 : i < o + 1 + s.length
  · rw [if_pos (by omega), if_pos h3, show i - o = (i - (o + 1)) + 1 by omega, List.getElem?_cons_succ]
  · rw [if_neg (by omega), if_neg h3, List.getElem?_set_ne (by omega)]
theorem over_nil (l : List UInt8) (o : Nat) : over l o [] = l := by unfold over; simp
theorem cells_at {B : Nat} : ∀ (s : List UInt8) (l : List UInt8) (o : Nat) (w : World), Row w B l → o + s.length ≤ l.length → Row (w.setCells B o (cellsOf s)) B (over l o s)
  | [], l, o, w, h, _ => by rw [over_nil]; exact h
  | b :: s, l, o, w, h, hf => by
    simp only [List.length_cons] at hf
    rw [over_cons l o b s (by omega)]
    have hb := b.toNat_lt
    have h1 := put_at h o (by omega) (b.toNat : Int) (by omega) (by omega)
    rw [u8_nat] at h1
    exact cells_at s (l.set o b) (o + 1) _ h1 (by simp; omega)
theorem hsz : ∀ w, (Go.sizeOf 5).run Try.prog w = .ok 1 w := fun w => by kernel_rfl
/-- What a copy of a text into the row from o on leaves. -/
theorem copy_at {w : World} {B : Nat} {l : List UInt8} (h : Row w B l) (o len cap : Nat) (s : ByteArray) (hle : s.size ≤ len) (hf : o + s.size ≤ l.length) :
    ∃ w', (∀ ty, (Builtin.copy_ #[25, 9] ty #[.slice (some ⟨B, o, none⟩) len cap, .string s]).run Try.prog w = .ok (goInt s.size) w') ∧ Row w' B (over l o s.data.toList) ∧ ∀ (Q : Nat) (w0 : World), Q ≤ B → Below Q w0 w → Below Q w0 w' := by
  have hl : s.data.toList.length = s.size := Array.length_toList
  refine ⟨w.setCells B o (cellsOf s.data.toList), fun ty => ?_, cells_at _ _ _ _ h (by omega), fun Q w0 hQ b => below_setCells hQ _ _ _ b⟩
  exact run_copy_string w 25 9 ty 5 B o len cap s Try.underlying25 hsz hle (fun j hj => by rw [cell_at h (o + j) (by omega)]; rfl) (fun j hj => free_at h _)
theorem str_at {w : World} {B : Nat} {l : List UInt8} (h : Row w B l) (n cap : Nat) (hn : l.length = n) : (convert 25 9 (.slice (some ⟨B, 0, none⟩) n cap)).run Try.prog w = .ok (.string ⟨l.toArray⟩) w := by
  subst hn
  exact run_convert_bytes_back (P := Try.prog) w 25 9 5 ⟨B, 0, none⟩ cap l Try.underlying25 Try.underlying5 Try.underlying9 (fun j hj => by
    have ea : (⟨B, 0, none⟩ : Addr).add j = ⟨B, j, none⟩ := by unfold Addr.add; split <;> simp_all
    rw [ea]
    exact cell_at h j hj)
theorem infoB : (Try.prog.info? 5).map (fun i => (i.zero, i.size, i.bytes)) = some (some (.int .u8 0), 1, 1) := by kernel_rfl
theorem info_parts {P : Program} {t : TypeId} {z : Value} {s b : Nat} (h : (P.info? t).map (fun i => (i.zero, i.size, i.bytes)) = some (some z, s, b)) : ∃ i, P.info? t = some i ∧ i.zero = some z ∧ i.size = s ∧ i.bytes = b := by
  cases e : P.info? t with
  | none => rw [e] at h; cases h
  | some i =>
    rw [e] at h
    simp only [Option.map_some, Option.some.injEq, Prod.mk.injEq] at h
    exact ⟨i, rfl, h.1, h.2.1, h.2.2⟩
/-- So many noughts, made. -/
theorem made (n : Nat) (hn : n ≤ 100000) : ∃ o : Obj, ∀ u : World, (Instr.makeSlice 25 (.int .i64 (n : Int)) (.int .i64 (n : Int))).run Try.prog u = .ok (.slice (some ⟨u.heap.size, 0, none⟩) n n) (u.alloc o) ∧ Row (u.alloc o) u.heap.size (List.replicate n 0) := by
  obtain ⟨i0, hi, hz0, hz1, hz2⟩ := info_parts infoB
  refine ⟨.cells (cellsOf (List.replicate n 0)).toArray 5 (0, 0), fun u => ⟨?_, heap_alloc_new _ _⟩⟩
  have h := run_make (P := Try.prog) u 25 5 i0 (.int .u8 0) Try.underlying25 hi hz0 .i64 .i64 (n : Int) (n : Int) (by omega) (Int.le_refl _) (by rw [hz2]; omega) (by omega)
  have e : madeCells #[.int .u8 0] n = (cellsOf (List.replicate n 0)).toArray := by
    apply Array.toList_inj.1
    rw [toList_madeCells_one]
    simp [cellsOf]
  have h' := h
  simp [hz1, Value.cells, e] at h'
  simpa using h'
end Go.Proofs.Ytbfjalpkdgepnaa.Rowb
