/-
  Pure: how a bank is told, line by line.
-/
import Derived.Test.YtnfonccimaikgaaGreatDoorTexj
import Derived.Test.YtnfonccimaikgaaGreatDoorReadJ
import Derived.Lib.TrimByte
namespace Go.Proofs.YtnfonccimaikgaaGreatDoor.Lstp
open Go.ChangeShapes Go.WideShapes Go.ChangeAt Go.RowKit
open Signed (inB sgn)
open HoleX (n8 n16 e8 holeT holeP)
open HolI LenX InsX Texi ReadI
set_option linter.unusedVariables false
set_option maxRecDepth 20000

/-- Is it a jr? -/
def relB (c : Int) (b : Bool) : Bool := !b && (c == 24 || c == 32 || c == 40 || c == 48 || c == 56)
theorem rel_all : ∀ (c : Fin 256) (b : Bool), relB (c.val : Int) b = true → b = false ∧ (c.val : Int) < 64 ∧ (Shape.shapeR (c.val : Int) b = ⟨#[106, 114, 32, 101, 56]⟩ ∨ Shape.shapeR (c.val : Int) b = ⟨#[106, 114, 32, 67, 44, 101, 56]⟩) ∧ hole (c.val : Int) b = ⟨#[101, 56]⟩ ∧ none? (c.val : Int) b = false := by decide +kernel
theorem rel_none : ∀ (c : Fin 256) (b : Bool), relB (c.val : Int) b = false → Lib.hasPrefix (Shape.shapeR (c.val : Int) b).data.toList [106, 114] = false ∧ ¬ (hole (c.val : Int) b = ⟨#[101, 56]⟩ ∧ (c.val : Int) < 64) := by decide +kernel
theorem fin_of {P : Int → Prop} (h : ∀ c : Fin 256, P (c.val : Int)) {c : Int} (h0 : 0 ≤ c) (h1 : c ≤ 255) : P c := by
  have := h ⟨c.toNat, by omega⟩
  rwa [show ((⟨c.toNat, by omega⟩ : Fin 256).val : Int) = c by show ((c.toNat : Nat) : Int) = c; omega] at this
theorem rel_yes {c : Int} {b : Bool} (h0 : 0 ≤ c) (h1 : c ≤ 255) (h : relB c b = true) : b = false ∧ c < 64 ∧ (Shape.shapeR c b = ⟨#[106, 114, 32, 101, 56]⟩ ∨ Shape.shapeR c b = ⟨#[106, 114, 32, 67, 44, 101, 56]⟩) ∧ hole c b = ⟨#[101, 56]⟩ ∧ none? c b = false :=
  fin_of (P := fun c => relB c b = true → b = false ∧ c < 64 ∧ (Shape.shapeR c b = ⟨#[106, 114, 32, 101, 56]⟩ ∨ Shape.shapeR c b = ⟨#[106, 114, 32, 67, 44, 101, 56]⟩) ∧ hole c b = ⟨#[101, 56]⟩ ∧ none? c b = false) (fun c => rel_all c b) h0 h1 h
theorem rel_no {c : Int} {b : Bool} (h0 : 0 ≤ c) (h1 : c ≤ 255) (h : relB c b = false) : Lib.hasPrefix (Shape.shapeR c b).data.toList [106, 114] = false ∧ ¬ (hole c b = ⟨#[101, 56]⟩ ∧ c < 64) :=
  fin_of (P := fun c => relB c b = false → Lib.hasPrefix (Shape.shapeR c b).data.toList [106, 114] = false ∧ ¬ (hole c b = ⟨#[101, 56]⟩ ∧ c < 64)) (fun c => rel_none c b) h0 h1 h
theorem rel_hole {c : Int} {b : Bool} (h0 : 0 ≤ c) (h1 : c ≤ 255) (h : relB c b = true) : ¬ (Tmpl.tmplS c b).size = 0 ∧ (Tmpl.tmplS c b).size ≤ 40 ∧ TmplI.tmpl c b = Tmpl.tmplS c b ∧
    Lib.countB (Tmpl.tmplS c b) ⟨#[101, 56]⟩ = 1 ∧ Lib.replaceNum (Tmpl.tmplS c b).data.toList (⟨#[101, 56]⟩ : ByteArray).data.toList 1 = 1 ∧ Lib.index (Tmpl.tmplS c b).data.toList (⟨#[101, 56]⟩ : ByteArray).data.toList = holeP (Tmpl.tmplS c b) ∧ 0 ≤ holeP (Tmpl.tmplS c b) ∧ (holeP (Tmpl.tmplS c b)).toNat + 2 ≤ (Tmpl.tmplS c b).size := by
  obtain ⟨-, -, -, hh, hn⟩ := rel_yes h0 h1 h
  obtain ⟨hb, _⟩ := some_impl hn
  have hz : ¬ (Tmpl.tmplS c b).size = 0 := by
    unfold none? at hn
    rw [hb, beqN] at hn
    simpa using hn
  have ha := hole_all ⟨c.toNat, by omega⟩ b
  rw [show ((⟨c.toNat, by omega⟩ : Fin 256).val : Int) = c by show ((c.toNat : Nat) : Int) = c; omega] at ha
  obtain ⟨a1, a2⟩ := ha hz
  have a3 := a2 (by rw [show holeT (Tmpl.tmplS c b) = hole c b from rfl, hh]; decide)
  rw [show holeT (Tmpl.tmplS c b) = hole c b from rfl, hh] at a3
  exact ⟨hz, Leng.tmpl_le c b h0 h1, by unfold TmplI.tmpl; rw [if_pos hb], a3⟩
/-- Where a jr leads. -/
def toV (m addr : Int) : Int := addr + 2 + sgn m
def jrV (c : Int) (b : Bool) (t : Int) : ByteArray := if inB t 0 65535 = true then put (Tmpl.tmplS c b) ⟨#[101, 56]⟩ (Hex.hexS t 4) (holeP (Tmpl.tmplS c b)) else ⟨#[]⟩
/-- How an instruction stands in a source. -/
def lineV (c : Int) (b : Bool) (m addr : Int) : ByteArray := if relB c b = true then jrV c b (toV m addr) else textV c b m
theorem lineV_rel {c : Int} {b : Bool} {m addr : Int} (h : relB c b = true) : lineV c b m addr = jrV c b (toV m addr) := if_pos h
theorem lineV_not {c : Int} {b : Bool} {m addr : Int} (h : relB c b = false) : lineV c b m addr = textV c b m := if_neg (by rw [h]; decide)
theorem jr_in {c : Int} {b : Bool} {t : Int} (h : inB t 0 65535 = true) : jrV c b t = put (Tmpl.tmplS c b) ⟨#[101, 56]⟩ (Hex.hexS t 4) (holeP (Tmpl.tmplS c b)) := if_pos h
theorem jr_out {c : Int} {b : Bool} {t : Int} (h : inB t 0 65535 = false) : jrV c b t = ⟨#[]⟩ := if_neg (by rw [h]; decide)

/-- What is read at a place. -/
def readP (s : ByteArray) (a : Int) : Int × Bool × Int :=
  if a < 0 ∨ s.size ≤ a then (0, false, 0)
  else if byteAt s a = 203 then (if s.size - a < 2 then (0, false, 0) else (byteAt s (a + 1), true, 0))
  else if lenC (byteAt s a) = 0 ∨ s.size - a < lenC (byteAt s a) then (0, false, 0) else (byteAt s a, false, immV s a (lenC (byteAt s a)))
theorem readI_P (s : ByteArray) (a : Int) : readI s a = .agg #[.int .i64 (readP s a).1, .bool (readP s a).2.1, .int .i64 (readP s a).2.2] := by
  unfold readI readP zeroI
  split
  · rfl
  split
  · split <;> rfl
  split <;> rfl
theorem readP_bd (s : ByteArray) (a : Int) : 0 ≤ (readP s a).1 ∧ (readP s a).1 ≤ 255 := by
  unfold readP
  split
  · decide
  split
  · split
    · decide
    · exact byteAt_bd _ _
  split
  · decide
  · exact byteAt_bd _ _
theorem imm_bd (s : ByteArray) (a n : Int) : 0 ≤ immV s a n ∧ immV s a n ≤ 65535 := by
  have h1 := byteAt_bd s (a + 1)
  have h2 := byteAt_bd s (a + 2)
  unfold immV
  split
  · omega
  split <;> omega
theorem readN_bd (s : ByteArray) (a : Int) : 0 ≤ readN s a ∧ readN s a ≤ 3 ∧ (0 < readN s a → a + readN s a ≤ s.size) := by
  unfold readN
  split
  · refine ⟨by decide, by decide, fun h => absurd h (by decide)⟩
  split
  · split
    · refine ⟨by decide, by decide, fun h => absurd h (by decide)⟩
    · exact ⟨by decide, by decide, fun _ => by omega⟩
  have := lenC_cases (byteAt s a)
  split
  · refine ⟨by decide, by decide, fun h => absurd h (by decide)⟩
  · refine ⟨by omega, by omega, fun _ => by omega⟩
theorem read_rel {s : ByteArray} {a : Int} (h : relB (readP s a).1 (readP s a).2.1 = true) : readN s a = 2 := by
  have key : ∀ c : Fin 256, relB (c.val : Int) false = true → lenC (c.val : Int) = 2 := by decide +kernel
  unfold readP at h
  unfold readN
  split at h
  · exact absurd h (by decide)
  split at h
  · split at h
    · exact absurd h (by decide)
    · exact absurd h (by simp [relB])
  split at h
  · exact absurd h (by decide)
  · rename_i h1 h2 h3
    rw [if_neg h1, if_neg h2, if_neg h3]
    exact fin_of (P := fun c => relB c false = true → lenC c = 2) key (byteAt_bd _ _).1 (byteAt_bd _ _).2 h
/-- How many noughts stand ahead. -/
def zer (s : ByteArray) (a : Nat) : Nat := ((s.data.toList.drop a).takeWhile (· == 0)).length
theorem size_list (s : ByteArray) : s.data.toList.length = s.size := by rw [Array.length_toList]; rfl
theorem tw_le {α : Type} (p : α → Bool) : ∀ l : List α, (l.takeWhile p).length ≤ l.length
  | [] => Nat.le_refl _
  | x :: l => by
    rw [List.takeWhile_cons]
    split
    · have := tw_le p l; simp; omega
    · simp
theorem tw_dw {α : Type} (p : α → Bool) : ∀ l : List α, (l.takeWhile p).length + (l.dropWhile p).length = l.length
  | [] => rfl
  | x :: l => by
    rw [List.takeWhile_cons, List.dropWhile_cons]
    split
    · have := tw_dw p l; simp; omega
    · simp
theorem zer_le (s : ByteArray) (a : Nat) (h : a ≤ s.size) : a + zer s a ≤ s.size := by
  have := tw_le (· == (0 : UInt8)) (s.data.toList.drop a)
  rw [List.length_drop, size_list] at this
  unfold zer
  omega
theorem drop_get {s : ByteArray} {a : Nat} (h : a < s.size) : s.data.toList.drop a = s[a] :: s.data.toList.drop (a + 1) := List.drop_eq_getElem_cons (by rw [size_list]; exact h)
theorem zer_step {s : ByteArray} {a : Nat} (h : a < s.size) (hz : byteAt s (a : Int) = 0) : zer s a = zer s (a + 1) + 1 := by
  have e : (s[a]'h).toNat = 0 := by have := byteAt_eq (s := s) (i := (a : Int)) h; rw [hz] at this; have h' : (((s[a]'h).toNat : Nat) : Int) = 0 := this; omega
  have e2 : (s[a]'h) = 0 := UInt8.toNat_inj.1 e
  unfold zer
  rw [drop_get h, List.takeWhile_cons, e2]
  rfl
theorem zer_stop {s : ByteArray} {a : Nat} (h : a < s.size) (hz : ¬ byteAt s (a : Int) = 0) : zer s a = 0 := by
  have e2 : ((s[a]'h) == 0) = false := by
    rw [beq_eq_false_iff_ne]
    intro e
    apply hz
    rw [← byteAt_eq (s := s) (i := (a : Int)) h]
    show (((s[a]'h).toNat : Nat) : Int) = 0
    rw [e]; rfl
  unfold zer
  rw [drop_get h, List.takeWhile_cons, e2]
  rfl
theorem zer_end {s : ByteArray} {a : Nat} (h : ¬ a < s.size) : zer s a = 0 := by
  unfold zer
  rw [List.drop_eq_nil_of_le (by rw [size_list]; omega)]
  rfl
theorem trim_zer (s : ByteArray) (a : Nat) (h : a ≤ s.size) : (Lib.trimLeftB (s.extract a s.size).data.toList 0).length = s.size - a - zer s a := by
  have e : (s.extract a s.size).data.toList = s.data.toList.drop a := by
    rw [ByteArray.data_extract, Array.toList_extract, List.extract_eq_take_drop, List.take_of_length_le (by rw [List.length_drop, size_list]; omega)]
  rw [e]
  have := tw_dw (· == (0 : UInt8)) (s.data.toList.drop a)
  rw [List.length_drop, size_list] at this
  unfold Lib.trimLeftB zer
  omega
theorem itoa_nat : ∀ k : Fin 257, (⟨(Lib.itoa (k.val : Int)).toArray⟩ : ByteArray) = (if (k.val : Int) < 10 then strOfNums [48 + (k.val : Int)] else if (k.val : Int) < 100 then strOfNums [48 + (k.val : Int) / 10, 48 + (k.val : Int) % 10] else strOfNums [48 + (k.val : Int) / 100, 48 + (k.val : Int) / 10 % 10, 48 + (k.val : Int) % 10]) := by decide +kernel
theorem itoa_dec {n : Int} (h0 : 0 ≤ n) (h1 : n ≤ 256) : (⟨(Lib.itoa n).toArray⟩ : ByteArray) = Deci.dec n ⟨#[]⟩ := by
  rw [Deci.dec_pos h0 (by omega)]
  have := itoa_nat ⟨n.toNat, by omega⟩
  rwa [show (((⟨n.toNat, by omega⟩ : Fin 257).val : Nat) : Int) = n by show ((n.toNat : Nat) : Int) = n; omega] at this
theorem dec_le {n : Int} (h0 : 0 ≤ n) (h1 : n ≤ 256) : (Deci.dec n ⟨#[]⟩).size ≤ 3 := by
  rw [Deci.dec_pos h0 (by omega)]
  repeat' split
  all_goals (rw [strOfNums_size]; simp)
abbrev dsB : ByteArray := ⟨#[100, 115, 32]⟩
abbrev dbB : ByteArray := ⟨#[100, 98, 32]⟩
def insV (s : ByteArray) (base : Int) (a : Nat) : ByteArray := lineV (readP s a).1 (readP s a).2.1 (readP s a).2.2 (base + a)
/-- The line at a place, and how many bytes it is for. -/
def lineAt (s : ByteArray) (base : Int) (a : Nat) : ByteArray × Nat :=
  if 4 ≤ zer s a then (dsB ++ Deci.dec (zer s a : Int) ⟨#[]⟩, zer s a)
  else if 0 < readN s a ∧ ¬ (insV s base a).size = 0 then (insV s base a, (readN s a).toNat)
  else (dbB ++ Hex.hexS (byteAt s a) 2, 1)
theorem lineAt_bd (s : ByteArray) (base : Int) (a : Nat) (h : a < s.size) : 0 < (lineAt s base a).2 ∧ a + (lineAt s base a).2 ≤ s.size := by
  have hz := zer_le s a (by omega)
  have hn := readN_bd s a
  unfold lineAt
  split
  · exact ⟨by simp; omega, hz⟩
  split
  · rename_i h1 h2
    have := hn.2.2 h2.1
    have := h2.1
    exact ⟨by simp; omega, by simp; omega⟩
  · exact ⟨Nat.one_pos, h⟩
/-- The lines from a place on. -/
def listL (s : ByteArray) (base : Int) (a : Nat) : List ByteArray := if h : a < s.size then (lineAt s base a).1 :: listL s base (a + (lineAt s base a).2) else []
termination_by s.size - a
decreasing_by have := lineAt_bd s base a h; omega
theorem list_step {s : ByteArray} {base : Int} {a : Nat} (h : a < s.size) : listL s base a = (lineAt s base a).1 :: listL s base (a + (lineAt s base a).2) := by rw [listL, dif_pos h]
theorem list_end {s : ByteArray} {base : Int} {a : Nat} (h : ¬ a < s.size) : listL s base a = [] := by rw [listL, dif_neg h]
theorem list_len (s : ByteArray) (base : Int) (a : Nat) : (listL s base a).length ≤ s.size - a := by
  induction hn : s.size - a using Nat.strongRecOn generalizing a with
  | _ n ih =>
    by_cases h : a < s.size
    · have hb := lineAt_bd s base a h
      rw [list_step h, List.length_cons]
      have := ih _ (by omega) (a + (lineAt s base a).2) rfl
      omega
    · rw [list_end h]; simp
end Go.Proofs.YtnfonccimaikgaaGreatDoor.Lstp
