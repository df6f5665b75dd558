/-
  Pure: what a diff is parted into, and what it makes of a text.
-/
import Derived.Test.YtbfjalpkdgepnaaAppn
namespace Go.Proofs.Ytbfjalpkdgepnaa.Appp
open Appn
open Rowb (over)
set_option linter.unusedVariables false
/-- The next piece: its place, its bytes, what stands behind; without bytes where something lacks. -/
def nextP (l : List UInt8) : Nat × List UInt8 × List UInt8 :=
  if l.length < 5 then (0, [], []) else if l.length < 5 + num ((l.drop 3).take 2) then (0, [], []) else (num (l.take 3), (l.drop 5).take (num ((l.drop 3).take 2)), l.drop (5 + num ((l.drop 3).take 2)))
theorem nextP_lt {l : List UInt8} (h : l ≠ []) : (nextP l).2.2.length < l.length := by
  have hp := List.length_pos_iff.2 h
  unfold nextP
  split
  · simp only [List.length_nil]; omega
  · split
    · simp only [List.length_nil]; omega
    · simp only [List.length_drop]; omega
theorem nextP_len (l : List UInt8) : (nextP l).2.1.length ≤ l.length := by
  unfold nextP
  split
  · simp
  · split
    · simp
    · simp only [List.length_take, List.length_drop]; omega
def pcs : Nat → List UInt8 → List (Nat × List UInt8)
  | 0, _ => []
  | _ + 1, [] => []
  | f + 1, x :: xs => ((nextP (x :: xs)).1, (nextP (x :: xs)).2.1) :: pcs f (nextP (x :: xs)).2.2
theorem pcs_fuel : ∀ f g l, l.length ≤ f → l.length ≤ g → pcs f l = pcs g l
  | 0, g, l, h, _ => by
    obtain rfl : l = [] := List.length_eq_zero_iff.1 (by omega)
    cases g <;> rfl
  | f + 1, 0, l, _, h => by
    obtain rfl : l = [] := List.length_eq_zero_iff.1 (by omega)
    rfl
  | f + 1, g + 1, [], _, _ => rfl
  | f + 1, g + 1, x :: xs, h, h' => by
    have := nextP_lt (l := x :: xs) (by simp)
    simp only [pcs]
    simp only [List.length_cons] at h h' this
    rw [pcs_fuel f g _ (by omega) (by omega)]
def PcsOf (l : List UInt8) : List (Nat × List UInt8) := pcs l.length l
theorem PcsOf_nil : PcsOf [] = [] := rfl
theorem PcsOf_cons {l : List UInt8} (h : l ≠ []) : PcsOf l = ((nextP l).1, (nextP l).2.1) :: PcsOf (nextP l).2.2 := by
  cases l with
  | nil => exact absurd rfl h
  | cons x xs =>
    have := nextP_lt (l := x :: xs) (by simp)
    show pcs (xs.length + 1) (x :: xs) = _
    simp only [pcs, PcsOf]
    simp only [List.length_cons] at this
    rw [pcs_fuel xs.length _ _ (by omega) (Nat.le_refl _)]
abbrev S := List UInt8 × Nat
def bad (all : Nat) (s : S) (p : Nat × List UInt8) : Prop := p.2 = [] ∨ p.1 < s.2 ∨ all < p.1 + p.2.length
instance (all : Nat) (s : S) (p : Nat × List UInt8) : Decidable (bad all s p) := inferInstanceAs (Decidable (_ ∨ _ ∨ _))
def step (all : Nat) (s : S) (p : Nat × List UInt8) : Option S := if bad all s p then none else some (over s.1 p.1 p.2, p.1 + p.2.length)
def fold (all : Nat) (s : S) (l : List (Nat × List UInt8)) : Option S := l.foldlM (step all) s
theorem fold_snoc {all : Nat} {s t : S} {l : List (Nat × List UInt8)} (x : Nat × List UInt8) (h : fold all s l = some t) : fold all s (l ++ [x]) = step all t x := by
  unfold fold at *
  rw [List.foldlM_append, h]
  simp
theorem fold_bad {all : Nat} {s t : S} {l : List (Nat × List UInt8)} {x : Nat × List UInt8} (h : fold all s l = some t) (hb : bad all t x) (rest : List (Nat × List UInt8)) : fold all s (l ++ x :: rest) = none := by
  unfold fold at *
  rw [List.foldlM_append, h]
  simp [step, hb]
def start (all : Nat) (a : ByteArray) : List UInt8 := over (List.replicate all 0) 0 (a.data.toList.take all)
theorem start_len (all : Nat) (a : ByteArray) : (start all a).length = all := by
  unfold start
  rw [Rowb.over_length _ _ _ (by simp; omega)]
  simp
abbrev DIFF : ByteArray := ⟨#[68, 73, 70, 70]⟩
abbrev END : ByteArray := ⟨#[69, 78, 68]⟩
def allOf (d : ByteArray) : Nat := num (d.extract (d.size - 3) d.size).data.toList
def mid (d : ByteArray) : ByteArray := d.extract 4 (d.size - 6)
def Form (a d : ByteArray) : Prop := a.size ≤ 20000 ∧ 10 ≤ d.size ∧ d.size ≤ 80000 ∧ d.extract 0 4 = DIFF ∧ d.extract (d.size - 6) (d.size - 3) = END ∧ allOf d ≤ 20000
open Classical in
noncomputable def res (a d : ByteArray) : Option S := if Form a d then fold (allOf d) (start (allOf d) a, 0) (PcsOf (mid d).data.toList) else none
noncomputable def outV (a d : ByteArray) : ByteArray := match res a d with | some s => ⟨s.1.toArray⟩ | none => ⟨#[]⟩
noncomputable def outB (a d : ByteArray) : Bool := (res a d).isSome
theorem no_form {a d : ByteArray} (h : ¬ Form a d) : outV a d = ⟨#[]⟩ ∧ outB a d = false := by
  have e : res a d = none := if_neg h
  unfold outV outB; rw [e]; exact ⟨rfl, rfl⟩
theorem no_fold {a d : ByteArray} (h : Form a d) (hf : fold (allOf d) (start (allOf d) a, 0) (PcsOf (mid d).data.toList) = none) : outV a d = ⟨#[]⟩ ∧ outB a d = false := by
  have e : res a d = none := (if_pos h).trans hf
  unfold outV outB; rw [e]; exact ⟨rfl, rfl⟩
theorem yes_fold {a d : ByteArray} {s : S} (h : Form a d) (hf : fold (allOf d) (start (allOf d) a, 0) (PcsOf (mid d).data.toList) = some s) : outV a d = ⟨s.1.toArray⟩ ∧ outB a d = true := by
  have e : res a d = some s := (if_pos h).trans hf
  unfold outV outB; rw [e]; exact ⟨rfl, rfl⟩
/-- What has come, and what is to come. -/
structure Come (a d : ByteArray) (l : List UInt8) (p : List (Nat × List UInt8)) (s : S) : Prop where
  form : Form a d
  all : p ++ PcsOf l = PcsOf (mid d).data.toList
  got : fold (allOf d) (start (allOf d) a, 0) p = some s
  len : s.1.length = allOf d
  last : s.2 ≤ allOf d
theorem Come.start {a d : ByteArray} (h : Form a d) : Come a d (mid d).data.toList [] (Appp.start (allOf d) a, 0) := ⟨h, rfl, rfl, start_len _ _, Nat.zero_le _⟩
theorem Come.bad {a d : ByteArray} {l : List UInt8} {p : List (Nat × List UInt8)} {s : S} (h : Come a d l p s) (hl : l ≠ []) (hb : Appp.bad (allOf d) s ((nextP l).1, (nextP l).2.1)) : outV a d = ⟨#[]⟩ ∧ outB a d = false := by
  refine no_fold h.form ?_
  rw [← h.all, PcsOf_cons hl]
  exact fold_bad h.got hb _
theorem Come.next {a d : ByteArray} {l : List UInt8} {p : List (Nat × List UInt8)} {s : S} (h : Come a d l p s) (hl : l ≠ []) (hb : ¬ Appp.bad (allOf d) s ((nextP l).1, (nextP l).2.1)) :
    Come a d (nextP l).2.2 (p ++ [((nextP l).1, (nextP l).2.1)]) (over s.1 (nextP l).1 (nextP l).2.1, (nextP l).1 + (nextP l).2.1.length) := by
  have hb' : ¬ (allOf d < (nextP l).1 + (nextP l).2.1.length) := fun hh => hb (.inr (.inr hh))
  refine ⟨h.form, ?_, ?_, ?_, by dsimp only; omega⟩
  · rw [← h.all, PcsOf_cons hl]; simp
  · rw [fold_snoc _ h.got]; unfold step; rw [if_neg hb]
  · dsimp only; rw [Rowb.over_length _ _ _ (by rw [h.len]; omega)]; exact h.len
theorem Come.fin {a d : ByteArray} {p : List (Nat × List UInt8)} {s : S} (h : Come a d [] p s) : outV a d = ⟨s.1.toArray⟩ ∧ outB a d = true := by
  refine yes_fold h.form ?_
  rw [← h.all, PcsOf_nil, List.append_nil]
  exact h.got
end Go.Proofs.Ytbfjalpkdgepnaa.Appp
