/-
  Pure: what is packed, as a list of runs, and what a text is unpacked to.
-/
import Derived.Test.YtbffchfadockmaaRows
import Derived.WalkKit
namespace Go.Proofs.Ytbffchfadockmaa.Pakp
set_option linter.unusedVariables false

/-- How many of the first bytes are c, m at most. -/
def runL : Nat → UInt8 → List UInt8 → Nat
  | 0, _, _ => 0
  | _ + 1, _, [] => 0
  | m + 1, c, x :: xs => if x = c then runL m c xs + 1 else 0
def run : List UInt8 → Nat
  | [] => 0
  | x :: xs => runL 127 x xs + 1
theorem runL_le : ∀ m c l, runL m c l ≤ m
  | 0, _, _ => Nat.le_refl _
  | _ + 1, _, [] => Nat.zero_le _
  | m + 1, c, x :: xs => by
    unfold runL; split
    · have := runL_le m c xs; omega
    · omega
theorem runL_len : ∀ m c l, runL m c l ≤ l.length
  | 0, _, _ => Nat.zero_le _
  | _ + 1, _, [] => Nat.zero_le _
  | m + 1, c, x :: xs => by
    unfold runL; split
    · have := runL_len m c xs; simp; omega
    · omega
theorem run_le (l : List UInt8) : run l ≤ 128 := by
  cases l with
  | nil => simp [run]
  | cons x xs => have := runL_le 127 x xs; simp only [run]; omega
theorem run_len (l : List UInt8) : run l ≤ l.length := by
  cases l with
  | nil => simp [run]
  | cons x xs => have := runL_len 127 x xs; simp only [run, List.length_cons]; omega
theorem run_pos {l : List UInt8} (h : l ≠ []) : 1 ≤ run l := by
  cases l with
  | nil => exact absurd rfl h
  | cons x xs => simp [run]
theorem runL_all : ∀ m c l i, i < runL m c l → l[i]? = some c
  | 0, _, _, i, h => by simp [runL] at h
  | _ + 1, _, [], i, h => by simp [runL] at h
  | m + 1, c, x :: xs, i, h => by
    unfold runL at h; split at h
    · rename_i e
      cases i with
      | zero => simp [e]
      | succ i => simpa using runL_all m c xs i (by omega)
    · omega
theorem runL_eq : ∀ m c l n, n ≤ m → n ≤ l.length → (∀ i, i < n → l[i]? = some c) → (n = l.length ∨ n = m ∨ l[n]? ≠ some c) → runL m c l = n
  | 0, _, _, n, h, _, _, _ => by simp [runL]; omega
  | _ + 1, _, [], n, _, h, _, _ => by simp at h; simp [runL, h]
  | m + 1, c, x :: xs, n, hm, hl, ha, he => by
    unfold runL
    cases n with
    | zero =>
      rcases he with he | he | he
      · simp at he
      · omega
      · rw [if_neg (by simpa using he)]
    | succ n =>
      have h0 : x = c := by simpa using ha 0 (by omega)
      rw [if_pos h0, runL_eq m c xs n (by omega) (by simp at hl; omega) (fun i hi => by simpa using ha (i + 1) (by omega)) (by
        rcases he with he | he | he
        · simp at he; exact .inl he
        · exact .inr (.inl (by omega))
        · exact .inr (.inr (by simpa using he)))]
theorem run_eq {l : List UInt8} {c : UInt8} {n : Nat} (h1 : 1 ≤ n) (h2 : n ≤ 128) (hl : n ≤ l.length) (ha : ∀ i, i < n → l[i]? = some c) (he : n = l.length ∨ n = 128 ∨ l[n]? ≠ some c) : run l = n := by
  cases l with
  | nil => simp at hl; omega
  | cons x xs =>
    have h0 : x = c := by simpa using ha 0 (by omega)
    subst h0
    simp only [run]
    rw [runL_eq 127 x xs (n - 1) (by omega) (by simp at hl; omega) (fun i hi => by simpa using ha (i + 1) (by omega)) (by
      rcases he with he | he | he
      · simp at he; exact .inl (by omega)
      · exact .inr (.inl (by omega))
      · refine .inr (.inr ?_)
        have e : n = n - 1 + 1 := by omega
        rw [e] at he
        simpa using he)]
    omega
/-- How many others stand ahead of the next three alike ones, m at most. -/
def oth : Nat → List UInt8 → Nat
  | 0, _ => 0
  | _ + 1, [] => 0
  | m + 1, x :: xs => if 3 ≤ run (x :: xs) then 0 else oth m xs + 1
theorem oth_le : ∀ m l, oth m l ≤ m
  | 0, _ => Nat.le_refl _
  | _ + 1, [] => Nat.zero_le _
  | m + 1, x :: xs => by
    unfold oth; split
    · omega
    · have := oth_le m xs; omega
theorem oth_len : ∀ m l, oth m l ≤ l.length
  | 0, _ => Nat.zero_le _
  | _ + 1, [] => Nat.zero_le _
  | m + 1, x :: xs => by
    unfold oth; split
    · omega
    · have := oth_len m xs; simp; omega
theorem oth_pos {l : List UInt8} (h : l ≠ []) (h3 : run l < 3) : 1 ≤ oth 128 l := by
  cases l with
  | nil => exact absurd rfl h
  | cons x xs => unfold oth; rw [if_neg (by omega)]; omega
theorem oth_eq : ∀ m l n, n ≤ m → n ≤ l.length → (∀ i, i < n → run (l.drop i) < 3) → (n = l.length ∨ n = m ∨ 3 ≤ run (l.drop n)) → oth m l = n
  | 0, _, n, h, _, _, _ => by simp [oth]; omega
  | _ + 1, [], n, _, h, _, _ => by simp at h; simp [oth, h]
  | m + 1, x :: xs, n, hm, hl, ha, he => by
    unfold oth
    cases n with
    | zero =>
      rcases he with he | he | he
      · simp at he
      · omega
      · rw [if_pos (by simpa using he)]
    | succ n =>
      rw [if_neg (by have := ha 0 (by omega); simp at this; omega), oth_eq m xs n (by omega) (by simp at hl; omega) (fun i hi => by simpa using ha (i + 1) (by omega)) (by
        rcases he with he | he | he
        · simp at he; exact .inl he
        · exact .inr (.inl (by omega))
        · exact .inr (.inr (by simpa using he)))]
/-- How many bytes the next run has, and whether they are alike. -/
def alike (l : List UInt8) : Bool := decide (3 ≤ run l)
def many (l : List UInt8) : Nat := if alike l then run l else oth 128 l
theorem many_pos {l : List UInt8} (h : l ≠ []) : 1 ≤ many l := by
  unfold many alike
  by_cases h3 : 3 ≤ run l
  · rw [if_pos (decide_eq_true h3)]; omega
  · rw [if_neg (by simp [h3])]; exact oth_pos h (by omega)
theorem many_le (l : List UInt8) : many l ≤ 128 := by
  unfold many; split
  · exact run_le l
  · exact oth_le 128 l
theorem many_len (l : List UInt8) : many l ≤ l.length := by
  unfold many; split
  · exact run_len l
  · exact oth_len 128 l
def runs : Nat → List UInt8 → List (List UInt8 × Bool)
  | 0, _ => []
  | _ + 1, [] => []
  | f + 1, x :: xs => ((x :: xs).take (many (x :: xs)), alike (x :: xs)) :: runs f ((x :: xs).drop (many (x :: xs)))
theorem runs_fuel : ∀ f g l, l.length ≤ f → l.length ≤ g → runs f l = runs g l
  | 0, g, l, h, _ => by
    obtain rfl : l = [] := List.length_eq_zero_iff.1 (by omega)
    cases g <;> rfl
  | f + 1, 0, l, _, h => by
    obtain rfl : l = [] := List.length_eq_zero_iff.1 (by omega)
    rfl
  | f + 1, g + 1, [], _, _ => rfl
  | f + 1, g + 1, x :: xs, h, h' => by
    have := many_pos (l := x :: xs) (by simp)
    simp only [runs]
    rw [runs_fuel f g _ (by simp at h ⊢; omega) (by simp at h' ⊢; omega)]
def RunsOf (l : List UInt8) : List (List UInt8 × Bool) := runs l.length l
theorem RunsOf_nil : RunsOf [] = [] := rfl
theorem RunsOf_cons {l : List UInt8} (h : l ≠ []) : RunsOf l = (l.take (many l), alike l) :: RunsOf (l.drop (many l)) := by
  cases l with
  | nil => exact absurd rfl h
  | cons x xs =>
    have := many_pos (l := x :: xs) (by simp)
    show runs (xs.length + 1) (x :: xs) = _
    simp only [runs, RunsOf]
    rw [runs_fuel xs.length _ _ (by simp; omega) (Nat.le_refl _)]
theorem RunsOf_len : ∀ n l, l.length = n → (RunsOf l).length ≤ n := by
  intro n
  induction n using Nat.strongRecOn with
  | ind n ih =>
    intro l hl
    by_cases h : l = []
    · subst h; simp [RunsOf_nil]
    · rw [RunsOf_cons h]
      have := many_pos h
      have hp : 0 < l.length := List.length_pos_iff.2 h
      have := ih (l.length - many l) (by omega) (l.drop (many l)) (by simp)
      simp; omega
def enc (x : List UInt8 × Bool) : List UInt8 := if x.2 then [UInt8.ofNat (257 - x.1.length), x.1.headD 0] else UInt8.ofNat (x.1.length - 1) :: x.1
def pack (l : List UInt8) : List UInt8 := (RunsOf l).flatMap enc
theorem pack_cons {l : List UInt8} (h : l ≠ []) : pack l = enc (l.take (many l), alike l) ++ pack (l.drop (many l)) := by
  unfold pack; rw [RunsOf_cons h, List.flatMap_cons]

/-- A text is parted: some bytes and how often they stand there; what no run begins with, or of which something lacks: no bytes, and no more behind it. -/
def aheadC (c : UInt8) (r : List UInt8) : List UInt8 × Nat × List UInt8 :=
  if c.toNat = 128 then ([], 0, []) else if 128 < c.toNat then (if r.length < 1 then ([], 0, []) else (r.take 1, 257 - c.toNat, r.drop 1)) else if r.length < c.toNat + 1 then ([], 0, []) else (r.take (c.toNat + 1), 1, r.drop (c.toNat + 1))
def ahead : List UInt8 → List UInt8 × Nat × List UInt8
  | [] => ([], 0, [])
  | c :: r => aheadC c r
theorem ahead_lt {l : List UInt8} (h : l ≠ []) : (ahead l).2.2.length < l.length := by
  cases l with
  | nil => exact absurd rfl h
  | cons c r =>
    show (aheadC c r).2.2.length < _
    unfold aheadC
    repeat' split
    all_goals simp only [List.length_nil, List.length_cons, List.length_drop]
    all_goals omega
def parts : Nat → List UInt8 → List (List UInt8 × Nat)
  | 0, _ => []
  | _ + 1, [] => []
  | f + 1, x :: xs => ((ahead (x :: xs)).1, (ahead (x :: xs)).2.1) :: parts f (ahead (x :: xs)).2.2
theorem parts_fuel : ∀ f g l, l.length ≤ f → l.length ≤ g → parts f l = parts g l
  | 0, g, l, h, _ => by
    obtain rfl : l = [] := List.length_eq_zero_iff.1 (by omega)
    cases g <;> rfl
  | f + 1, 0, l, _, h => by
    obtain rfl : l = [] := List.length_eq_zero_iff.1 (by omega)
    rfl
  | f + 1, g + 1, [], _, _ => rfl
  | f + 1, g + 1, x :: xs, h, h' => by
    have := ahead_lt (l := x :: xs) (by simp)
    simp only [parts]
    simp only [List.length_cons] at h h' this
    rw [parts_fuel f g _ (by omega) (by omega)]
def PartsOf (l : List UInt8) : List (List UInt8 × Nat) := parts l.length l
theorem PartsOf_nil : PartsOf [] = [] := rfl
theorem PartsOf_cons {l : List UInt8} (h : l ≠ []) : PartsOf l = ((ahead l).1, (ahead l).2.1) :: PartsOf (ahead l).2.2 := by
  cases l with
  | nil => exact absurd rfl h
  | cons x xs =>
    have := ahead_lt (l := x :: xs) (by simp)
    show parts (xs.length + 1) (x :: xs) = _
    simp only [parts, PartsOf]
    simp only [List.length_cons] at this
    rw [parts_fuel xs.length _ _ (by omega) (Nat.le_refl _)]
theorem PartsOf_len : ∀ n l, l.length = n → (PartsOf l).length ≤ n := by
  intro n
  induction n using Nat.strongRecOn with
  | ind n ih =>
    intro l hl
    by_cases h : l = []
    · subst h; simp [PartsOf_nil]
    · rw [PartsOf_cons h]
      have h1 := ahead_lt h
      have := ih _ (by omega) (ahead l).2.2 rfl
      simp; omega
def bad (x : List UInt8 × Nat) : Bool := x.1.isEmpty
def rep (x : List UInt8 × Nat) : List UInt8 := (List.replicate x.2 x.1).flatten
/-- What it comes to: as long as no part is bad and it is not too long. -/
def sumUp (l : List (List UInt8 × Nat)) : List UInt8 := l.flatMap rep
def fine (l : List (List UInt8 × Nat)) : Prop := (∀ x ∈ l, bad x = false) ∧ (sumUp l).length ≤ 20000
theorem sumUp_snoc (p : List (List UInt8 × Nat)) (x : List UInt8 × Nat) : sumUp (p ++ [x]) = sumUp p ++ rep x := by simp [sumUp]
theorem not_fine_bad {p q : List (List UInt8 × Nat)} {x : List UInt8 × Nat} (h : bad x = true) : ¬ fine (p ++ x :: q) := fun hf => by
  have := hf.1 x (by simp); rw [h] at this; cases this
theorem not_fine_long {p q : List (List UInt8 × Nat)} {x : List UInt8 × Nat} (h : 20000 < (sumUp (p ++ [x])).length) : ¬ fine (p ++ x :: q) := fun hf => by
  have h2 := hf.2
  have e : sumUp (p ++ x :: q) = sumUp (p ++ [x]) ++ sumUp q := by simp [sumUp]
  rw [e, List.length_append] at h2
  omega
open Classical in
noncomputable def unpV (l : List UInt8) : List UInt8 := if l.length ≤ 40000 ∧ fine (PartsOf l) then sumUp (PartsOf l) else []
open Classical in
noncomputable def unpB (l : List UInt8) : Bool := if l.length ≤ 40000 ∧ fine (PartsOf l) then true else false
theorem unp_yes {l : List UInt8} (h : l.length ≤ 40000) (h' : fine (PartsOf l)) : unpV l = sumUp (PartsOf l) ∧ unpB l = true := ⟨if_pos ⟨h, h'⟩, if_pos ⟨h, h'⟩⟩
theorem unp_no {l : List UInt8} (h : ¬ (l.length ≤ 40000 ∧ fine (PartsOf l))) : unpV l = [] ∧ unpB l = false := ⟨if_neg h, if_neg h⟩
end Go.Proofs.Ytbffchfadockmaa.Pakp
