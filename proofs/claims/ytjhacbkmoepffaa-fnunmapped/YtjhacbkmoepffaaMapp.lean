/-
  Pure: which text stands ahead, and what a text is mapped to.
-/
import Derived.Test.YtjhacbkmoepffaaChok
import Derived.Sort.Walk0
namespace Go.Proofs.Ytjhacbkmoepffaa.Mapp
open Pairr (Pair)
open Chok
set_option linter.unusedVariables false
abbrev T (s : ByteArray) : List UInt8 := s.data.toList
theorem T_len (s : ByteArray) : (T s).length = s.size := Array.length_toList
theorem T_inj {s t : ByteArray} (h : T s = T t) : s = t := ByteArray.ext (Array.toList_inj.1 h)
theorem rise_lt {a b : ByteArray} (h : rise a b = true) : T a < T b := by
  unfold rise at h
  rw [Go.Proofs.bytesLess_eq, ByteArray.toList_eq, ByteArray.toList_eq] at h
  exact of_decide_eq_true h
theorem lt_tr {a b c : List UInt8} (h : a < b) (k : b < c) : a < c := List.lt_trans h k
theorem rising {L : List Pair} (h : Right L) : ∀ (d i : Nat) (hj : i + d + 1 < L.length), T (L[i]'(by omega)).1 < T (L[i + d + 1]'hj).1
  | 0, i, hj => by
    have := (h.2 (i + 0 + 1) hj).2.2.2 (by omega)
    exact rise_lt this
  | d + 1, i, hj => by
    have h1 := rising h d i (by omega)
    have h2 := (h.2 (i + (d + 1) + 1) hj).2.2.2 (by omega)
    exact lt_tr h1 (rise_lt h2)
theorem distinct {L : List Pair} (h : Right L) {i j : Nat} (hi : i < L.length) (hj : j < L.length) (he : L[i].1 = L[j].1) : i = j := by
  rcases Nat.lt_trichotomy i j with c | c | c
  · have := rising h (j - i - 1) i (by omega)
    have e : i + (j - i - 1) + 1 = j := by omega
    simp only [e] at this
    rw [he] at this
    exact absurd this (List.lt_irrefl _)
  · exact c
  · have := rising h (i - j - 1) j (by omega)
    have e : j + (i - j - 1) + 1 = i := by omega
    simp only [e] at this
    rw [he] at this
    exact absurd this (List.lt_irrefl _)
/-- The text stands ahead. -/
def Fits (r : List UInt8) (p : Pair) : Prop := p.1.size ≤ r.length ∧ r.take p.1.size = T p.1
instance (r : List UInt8) (p : Pair) : Decidable (Fits r p) := inferInstanceAs (Decidable (_ ∧ _))
/-- .. and no longer one does. -/
def Best (L : List Pair) (r : List UInt8) (p : Pair) : Prop := p ∈ L ∧ Fits r p ∧ ∀ q ∈ L, Fits r q → q.1.size ≤ p.1.size
theorem best_one {L : List Pair} (h : Right L) {r : List UInt8} {p q : Pair} (hp : Best L r p) (hq : Best L r q) : p = q := by
  have e : p.1.size = q.1.size := Nat.le_antisymm (hq.2.2 p hp.1 hp.2.1) (hp.2.2 q hq.1 hq.2.1)
  have et : p.1 = q.1 := T_inj (by rw [← hp.2.1.2, ← hq.2.1.2, e])
  obtain ⟨i, hi, rfl⟩ := List.getElem_of_mem hp.1
  obtain ⟨j, hj, rfl⟩ := List.getElem_of_mem hq.1
  have := distinct h hi hj et
  subst this
  rfl
open Classical in
noncomputable def step (L : List Pair) (r : List UInt8) : Option Pair := if h : ∃ p, Best L r p then some h.choose else none
theorem step_some {L : List Pair} (h : Right L) {r : List UInt8} {p : Pair} (hp : Best L r p) : step L r = some p := by
  have hx : ∃ p, Best L r p := ⟨p, hp⟩
  unfold step
  rw [dif_pos hx, best_one h hx.choose_spec hp]
theorem step_none {L : List Pair} {r : List UInt8} (h : ∀ q ∈ L, ¬ Fits r q) : step L r = none := by
  unfold step
  rw [dif_neg (fun ⟨p, hp⟩ => h p hp.1 hp.2.1)]
def u8 (x : Int) : UInt8 := UInt8.ofNat x.toNat
theorem u8_val {x : Int} (h : Signed.inB x 0 255 = true) : ((u8 x).toNat : Int) = x := by
  have : 0 ≤ x ∧ x ≤ 255 := by simpa [Signed.inB] using h
  unfold u8; rw [UInt8.toNat_ofNat']; omega
noncomputable def run (L : List Pair) : Nat → List UInt8 → Option (List UInt8)
  | _, [] => some []
  | 0, _ :: _ => none
  | f + 1, x :: r => match step L (x :: r) with
    | none => none
    | some p => (run L f ((x :: r).drop p.1.size)).map (u8 p.2 :: ·)
theorem size_pos {L : List Pair} (h : Right L) {p : Pair} (hp : p ∈ L) : 1 ≤ p.1.size ∧ p.1.size ≤ 4 ∧ Signed.inB p.2 0 255 = true := by
  obtain ⟨i, hi, rfl⟩ := List.getElem_of_mem hp
  exact ⟨(h.2 i hi).1, (h.2 i hi).2.1, (h.2 i hi).2.2.1⟩
theorem step_mem {L : List Pair} {r : List UInt8} {p : Pair} (h : step L r = some p) : Best L r p := by
  unfold step at h
  split at h
  · next hx => cases h; exact hx.choose_spec
  · cases h
theorem run_fuel {L : List Pair} (h : Right L) : ∀ f g r, r.length ≤ f → r.length ≤ g → run L f r = run L g r
  | f, g, [], _, _ => by cases f <;> cases g <;> rfl
  | 0, g, x :: r, hf, _ => by simp at hf
  | f + 1, 0, x :: r, _, hg => by simp at hg
  | f + 1, g + 1, x :: r, hf, hg => by
    simp only [run]
    cases hs : step L (x :: r) with
    | none => rfl
    | some p =>
      have := size_pos h (step_mem hs).1
      dsimp only
      rw [run_fuel h f g _ (by rw [List.length_drop]; simp at hf ⊢; omega) (by rw [List.length_drop]; simp at hg ⊢; omega)]
noncomputable def runOf (L : List Pair) (r : List UInt8) : Option (List UInt8) := run L r.length r
theorem runOf_nil (L : List Pair) : runOf L [] = some [] := rfl
theorem runOf_none {L : List Pair} {r : List UInt8} (hr : r ≠ []) (h : step L r = none) : runOf L r = none := by
  cases r with
  | nil => exact absurd rfl hr
  | cons x r => simp only [runOf, List.length_cons, run, h]
theorem runOf_some {L : List Pair} (h : Right L) {r : List UInt8} {p : Pair} (hr : r ≠ []) (hs : step L r = some p) : runOf L r = (runOf L (r.drop p.1.size)).map (u8 p.2 :: ·) := by
  cases r with
  | nil => exact absurd rfl hr
  | cons x r =>
    have := size_pos h (step_mem hs).1
    simp only [runOf, List.length_cons, run, hs]
    rw [run_fuel h r.length ((x :: r).drop p.1.size).length _ (by rw [List.length_drop]; simp; omega) (Nat.le_refl _)]
open Classical in
noncomputable def res (L : List Pair) (s : ByteArray) : Option (List UInt8) := if Right L ∧ s.size ≤ 20000 then runOf L (T s) else none
noncomputable def outV (L : List Pair) (s : ByteArray) : ByteArray := match res L s with | some l => ⟨l.toArray⟩ | none => ⟨#[]⟩
noncomputable def outB (L : List Pair) (s : ByteArray) : Bool := (res L s).isSome
theorem no_form {L : List Pair} {s : ByteArray} (h : ¬ (Right L ∧ s.size ≤ 20000)) : outV L s = ⟨#[]⟩ ∧ outB L s = false := by
  have e : res L s = none := if_neg h
  unfold outV outB; rw [e]; exact ⟨rfl, rfl⟩
/-- What has come, and what is to come. -/
structure Come (L : List Pair) (s : ByteArray) (r out : List UInt8) : Prop where
  right : Right L
  small : s.size ≤ 20000
  all : runOf L (T s) = (runOf L r).map (out ++ ·)
  less : out.length + r.length ≤ s.size
theorem Come.start {L : List Pair} {s : ByteArray} (h : Right L) (hs : s.size ≤ 20000) : Come L s (T s) [] := ⟨h, hs, by simp, by simp⟩
theorem Come.none {L : List Pair} {s : ByteArray} {r out : List UInt8} (h : Come L s r out) (hr : r ≠ []) (hn : ∀ q ∈ L, ¬ Fits r q) : outV L s = ⟨#[]⟩ ∧ outB L s = false := by
  have e : res L s = Option.none := by
    unfold res
    rw [if_pos ⟨h.right, h.small⟩, h.all, runOf_none hr (step_none hn)]; rfl
  unfold outV outB; rw [e]; exact ⟨rfl, rfl⟩
theorem Come.next {L : List Pair} {s : ByteArray} {r out : List UInt8} {p : Pair} (h : Come L s r out) (hr : r ≠ []) (hp : Best L r p) : Come L s (r.drop p.1.size) (out ++ [u8 p.2]) := by
  have h1 := size_pos h.right hp.1
  have h2 := hp.2.1.1
  refine ⟨h.right, h.small, ?_, ?_⟩
  · rw [h.all, runOf_some h.right hr (step_some h.right hp), Option.map_map]
    congr 1
    funext l
    simp
  · have := h.less
    rw [List.length_append, List.length_drop]; simp; omega
theorem Come.fin {L : List Pair} {s : ByteArray} {out : List UInt8} (h : Come L s [] out) : outV L s = ⟨out.toArray⟩ ∧ outB L s = true := by
  have e : res L s = some out := by
    unfold res
    rw [if_pos ⟨h.right, h.small⟩, h.all, runOf_nil]; simp
  unfold outV outB; rw [e]; exact ⟨rfl, rfl⟩
end Go.Proofs.Ytjhacbkmoepffaa.Mapp
