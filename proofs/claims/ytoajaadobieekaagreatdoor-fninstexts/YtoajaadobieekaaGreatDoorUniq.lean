/-
  Of ours, without the program: no two codes have one template.
-/
import Derived.Test.YtoajaadobieekaaGreatDoorTmplI
namespace Go.Proofs.YtoajaadobieekaaGreatDoor.Uniq
open Go.ChangeShapes Go.WideShapes Go.ChangeAt Go.RowKit
open Signed (inB)
open TmplI (tmpl)
set_option linter.unusedVariables false
set_option maxRecDepth 100000

def key (s : ByteArray) : Nat := s.data.toList.foldl (fun k b => k * 256 + b.toNat) 1
def nth (k : Nat) : ByteArray := Tmpl.tmplS ((k % 256 : Nat) : Int) (decide (256 ≤ k))
def keys : List Nat := (List.range 512).map fun k => key (nth k)
def apart : List Nat → Bool
  | [] => true
  | a :: l => (a == 1 || l.all fun b => !(a == b)) && apart l
theorem keys_apart : apart keys = true := by decide +kernel
theorem apart_at : ∀ (l : List Nat), apart l = true → ∀ (i j : Nat) (x : Nat), i < j → l[i]? = some x → l[j]? = some x → x = 1
  | [], _, _, _, _, _, h, _ => by simp at h
  | a :: l, h, 0, j + 1, x, _, hi, hj => by
    simp only [apart, Bool.and_eq_true, Bool.or_eq_true, beq_iff_eq] at h
    simp only [List.getElem?_cons_zero, Option.some.injEq] at hi
    simp only [List.getElem?_cons_succ] at hj
    subst hi
    rcases h.1 with h1 | h1
    · exact h1
    · have := List.all_eq_true.1 h1 a (List.mem_of_getElem? hj)
      simp at this
  | a :: l, h, i + 1, j + 1, x, hlt, hi, hj => by
    simp only [apart, Bool.and_eq_true] at h
    simp only [List.getElem?_cons_succ] at hi hj
    exact apart_at l h.2 i j x (by omega) hi hj
theorem key_at (k : Nat) (h : k < 512) : keys[k]? = some (key (nth k)) := by
  unfold keys
  rw [List.getElem?_map, List.getElem?_range h]
  rfl
theorem foldl_ge : ∀ (l : List UInt8) (k : Nat), k ≤ l.foldl (fun k b => k * 256 + b.toNat) k
  | [], k => Nat.le_refl _
  | b :: l, k => by
    have := foldl_ge l (k * 256 + b.toNat)
    simp only [List.foldl_cons]
    omega
theorem key_one {s : ByteArray} (h : key s = 1) : s.size = 0 := by
  unfold key at h
  show s.data.size = 0
  rw [← Array.length_toList]
  cases hl : s.data.toList with
  | nil => rfl
  | cons b l =>
    rw [hl] at h
    simp only [List.foldl_cons] at h
    have := foldl_ge l (1 * 256 + b.toNat)
    omega
def num (c : Int) (b : Bool) : Nat := c.toNat + (if b = true then 256 else 0)
theorem nth_num {c : Int} {b : Bool} (h0 : 0 ≤ c) (h1 : c ≤ 255) : nth (num c b) = Tmpl.tmplS c b := by
  unfold nth num
  cases b
  · simp only [Bool.false_eq_true, if_false, Nat.add_zero]
    rw [show c.toNat % 256 = c.toNat by omega, show decide (256 ≤ c.toNat) = false by simp; omega, show ((c.toNat : Nat) : Int) = c by omega]
  · simp only [if_true]
    rw [show (c.toNat + 256) % 256 = c.toNat by omega, show decide (256 ≤ c.toNat + 256) = true by simp, show ((c.toNat : Nat) : Int) = c by omega]
/-- Two codes with one template are one, or there is none. -/
theorem uniq {c d : Int} {a b : Bool} (hc : inB c 0 255 = true) (hd : inB d 0 255 = true) (h : tmpl c a = tmpl d b) (hz : ¬ (tmpl c a).size = 0) : c = d ∧ a = b := by
  obtain ⟨c0, c1⟩ := of_decide_eq_true hc
  obtain ⟨d0, d1⟩ := of_decide_eq_true hd
  have ec : tmpl c a = Tmpl.tmplS c a := by unfold tmpl; rw [if_pos hc]
  have ed : tmpl d b = Tmpl.tmplS d b := by unfold tmpl; rw [if_pos hd]
  rw [ec, ed] at h
  rw [ec] at hz
  have hn : num c a = num d b := by
    have l1 : num c a < 512 := by unfold num; split <;> omega
    have l2 : num d b < 512 := by unfold num; split <;> omega
    have k1 := key_at _ l1
    have k2 := key_at _ l2
    rw [nth_num c0 c1] at k1
    rw [nth_num d0 d1, ← h] at k2
    rcases Nat.lt_trichotomy (num c a) (num d b) with hlt | he | hgt
    · exact absurd (key_one (apart_at _ keys_apart _ _ _ hlt k1 k2)) hz
    · exact he
    · exact absurd (key_one (apart_at _ keys_apart _ _ _ hgt k2 k1)) hz
  unfold num at hn
  cases a <;> cases b <;> simp at hn
  · exact ⟨by omega, rfl⟩
  · omega
  · omega
  · exact ⟨by omega, rfl⟩
end Go.Proofs.YtoajaadobieekaaGreatDoor.Uniq
