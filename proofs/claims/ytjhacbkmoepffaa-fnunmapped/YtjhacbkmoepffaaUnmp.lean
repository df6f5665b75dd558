/-
  Pure: what is told of bytes.
-/
import Derived.Test.YtjhacbkmoepffaaMapp
namespace Go.Proofs.Ytjhacbkmoepffaa.Unmp
open Pairr (Pair)
open Chok Mapp
set_option linter.unusedVariables false
/-- The first pair with that byte. -/
def firstOf (L : List Pair) (c : UInt8) : Option Pair := L.find? (fun p => decide (p.2 = (c.toNat : Int)))
theorem first_mem {L : List Pair} {c : UInt8} {p : Pair} (h : firstOf L c = some p) : p ∈ L := List.mem_of_find?_eq_some h
theorem first_none {L : List Pair} {c : UInt8} (h : ∀ j (hj : j < L.length), L[j].2 ≠ (c.toNat : Int)) : firstOf L c = none := by
  unfold firstOf
  rw [List.find?_eq_none]
  intro p hp
  obtain ⟨i, hi, rfl⟩ := List.getElem_of_mem hp
  simpa using h i hi
theorem first_some {L : List Pair} {c : UInt8} {i : Nat} (hi : i < L.length) (he : L[i].2 = (c.toNat : Int)) (h : ∀ j (hj : j < L.length), j < i → L[j].2 ≠ (c.toNat : Int)) : firstOf L c = some L[i] := by
  unfold firstOf
  rw [List.find?_eq_some_iff_getElem]
  exact ⟨by simpa using he, i, hi, rfl, fun j hj => by simpa using h j (by omega) hj⟩
def runU (L : List Pair) : List UInt8 → Option (List UInt8)
  | [] => some []
  | c :: r => match firstOf L c with
    | none => none
    | some p => (runU L r).map (T p.1 ++ ·)
open Classical in
noncomputable def resU (L : List Pair) (s : ByteArray) : Option (List UInt8) := if Right L ∧ s.size ≤ 20000 then runU L (T s) else none
noncomputable def outV (L : List Pair) (s : ByteArray) : ByteArray := match resU L s with | some l => ⟨l.toArray⟩ | none => ⟨#[]⟩
noncomputable def outB (L : List Pair) (s : ByteArray) : Bool := (resU L s).isSome
theorem no_form {L : List Pair} {s : ByteArray} (h : ¬ (Right L ∧ s.size ≤ 20000)) : outV L s = ⟨#[]⟩ ∧ outB L s = false := by
  have e : resU L s = none := if_neg h
  unfold outV outB; rw [e]; exact ⟨rfl, rfl⟩
/-- What has come, and what is to come. -/
structure Come (L : List Pair) (s : ByteArray) (k : Nat) (out : List UInt8) : Prop where
  right : Right L
  small : s.size ≤ 20000
  all : runU L (T s) = (runU L ((T s).drop k)).map (out ++ ·)
  less : out.length ≤ 4 * k
theorem Come.start {L : List Pair} {s : ByteArray} (h : Right L) (hs : s.size ≤ 20000) : Come L s 0 [] := ⟨h, hs, by simp, by simp⟩
theorem drop_at {s : ByteArray} {k : Nat} (hk : k < s.size) : (T s).drop k = s[k] :: (T s).drop (k + 1) := by
  have hl : k < (T s).length := by rw [T_len]; exact hk
  rw [List.drop_eq_getElem_cons hl]
  rfl
theorem Come.none {L : List Pair} {s : ByteArray} {k : Nat} {out : List UInt8} (h : Come L s k out) (hk : k < s.size) (hn : firstOf L s[k] = none) : outV L s = ⟨#[]⟩ ∧ outB L s = false := by
  have e : resU L s = Option.none := by
    unfold resU
    rw [if_pos ⟨h.right, h.small⟩, h.all, drop_at hk]
    simp only [runU, hn]; rfl
  unfold outV outB; rw [e]; exact ⟨rfl, rfl⟩
theorem Come.next {L : List Pair} {s : ByteArray} {k : Nat} {out : List UInt8} {p : Pair} (h : Come L s k out) (hk : k < s.size) (hp : firstOf L s[k] = some p) : Come L s (k + 1) (out ++ T p.1) := by
  have h1 := size_pos h.right (first_mem hp)
  refine ⟨h.right, h.small, ?_, ?_⟩
  · rw [h.all, drop_at hk]
    simp only [runU, hp]
    rw [Option.map_map]
    congr 1
    funext l
    simp
  · have := h.less
    rw [List.length_append, T_len]; omega
theorem Come.fin {L : List Pair} {s : ByteArray} {out : List UInt8} (h : Come L s s.size out) : outV L s = ⟨out.toArray⟩ ∧ outB L s = true := by
  have e : resU L s = some out := by
    unfold resU
    rw [if_pos ⟨h.right, h.small⟩, h.all, List.drop_of_length_le (by rw [T_len]; exact Nat.le_refl _)]; simp [runU]
  unfold outV outB; rw [e]; exact ⟨rfl, rfl⟩
theorem ret_two {L : List Pair} {s b : ByteArray} {q : Bool} (h : outV L s = b ∧ outB L s = q) : Ending.returned (.tuple #[.string b, .bool q]) = .returned (.tuple #[.string (outV L s), .bool (outB L s)]) := by rw [h.1, h.2]
/-- The first among those that were looked at. -/
def Upto (L : List Pair) (c : UInt8) (k : Nat) (b : Int) : Prop :=
  (b = -1 ∧ ∀ j (h : j < L.length), j < k → L[j].2 ≠ (c.toNat : Int)) ∨ ∃ i, ∃ hi : i < L.length, b = (i : Int) ∧ i < k ∧ L[i].2 = (c.toNat : Int) ∧ ∀ j (h : j < L.length), j < i → L[j].2 ≠ (c.toNat : Int)
theorem upto_here {L : List Pair} {c : UInt8} {k : Nat} (h : Upto L c k (-1)) (hk : k < L.length) (he : L[k].2 = (c.toNat : Int)) : Upto L c (k + 1) (k : Int) := by
  rcases h with ⟨_, h⟩ | ⟨i, hi, e, _⟩
  · exact .inr ⟨k, hk, rfl, by omega, he, fun j hj hjk => h j hj hjk⟩
  · omega
theorem upto_not {L : List Pair} {c : UInt8} {k : Nat} (h : Upto L c k (-1)) (hk : k < L.length) (he : L[k].2 ≠ (c.toNat : Int)) : Upto L c (k + 1) (-1) := by
  rcases h with ⟨_, h⟩ | ⟨i, hi, e, _⟩
  · refine .inl ⟨rfl, fun j hj hjk => ?_⟩
    rcases Nat.lt_or_ge j k with q | q
    · exact h j hj q
    · obtain rfl : j = k := by omega
      exact he
  · omega
theorem upto_on {L : List Pair} {c : UInt8} {k : Nat} {b : Int} (h : Upto L c k b) (hb : 0 ≤ b) : Upto L c (k + 1) b := by
  rcases h with ⟨rfl, h⟩ | ⟨i, hi, e, h1, h2⟩
  · omega
  · exact .inr ⟨i, hi, e, by omega, h2⟩
theorem upto_end {L : List Pair} {c : UInt8} {b : Int} (h : Upto L c L.length b) : (b = -1 ∧ firstOf L c = none) ∨ ∃ i, ∃ hi : i < L.length, b = (i : Int) ∧ firstOf L c = some L[i] := by
  rcases h with ⟨rfl, h⟩ | ⟨i, hi, e, h1, h2, h3⟩
  · exact .inl ⟨rfl, first_none fun j hj => h j hj hj⟩
  · exact .inr ⟨i, hi, e, first_some hi h2 h3⟩
end Go.Proofs.Ytjhacbkmoepffaa.Unmp
