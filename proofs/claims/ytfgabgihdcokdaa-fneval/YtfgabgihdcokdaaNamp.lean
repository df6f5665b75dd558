/-
  Pure: names put one by one into a rising row are the sorted names, each once.
-/
import Derived.Test.YtfgabgihdcokdaaRows
import Derived.Lib.SlicesCompact
namespace Go.Proofs.Ytfgabgihdcokdaa.Namp
set_option linter.unusedVariables false
abbrev T := List UInt8
def put : List T → T → List T
  | [], s => [s]
  | x :: l, s => if x < s then x :: put l s else if x = s then x :: l else s :: x :: l
theorem put_at : ∀ (l : List T) (s : T) (k : Nat), k ≤ l.length → (∀ j (h : j < l.length), j < k → l[j] < s) → (∀ h : k < l.length, ¬ l[k] < s) → put l s = if h : k < l.length then (if l[k] = s then l else l.take k ++ s :: l.drop k) else l ++ [s]
  | [], s, k, hk, _, _ => by
    rw [dif_neg (by simp)]; rfl
  | x :: l, s, 0, hk, _, h2 => by
    have h2 : ¬ x < s := h2 (by simp)
    rw [dif_pos (by simp)]
    show (if x < s then _ else _) = _
    rw [if_neg h2]
    rfl
  | x :: l, s, k + 1, hk, h1, h2 => by
    have hx : x < s := h1 0 (by simp) (by omega)
    have ih := put_at l s k (by simpa using hk) (fun j h hj => h1 (j + 1) (by simpa using h) (by omega)) (fun h => h2 (by simpa using h))
    show (if x < s then x :: put l s else _) = _
    rw [if_pos hx, ih]
    by_cases hl : k < l.length
    · rw [dif_pos hl, dif_pos (by simpa using hl)]
      show x :: (if l[k] = s then l else _) = if l[k] = s then _ else _
      split <;> simp
    · rw [dif_neg hl, dif_neg (by simpa using hl)]; simp
def Rise (l : List T) : Prop := l.Pairwise (· < ·)
theorem lt_tri (a b : T) (h : ¬ a < b) (h2 : ¬ a = b) : b < a := by
  rcases List.le_iff_lt_or_eq.1 (List.not_lt.1 h) with h' | h'
  · exact h'
  · exact absurd h'.symm h2
theorem mem_put : ∀ (l : List T) (s x : T), x ∈ put l s ↔ x = s ∨ x ∈ l
  | [], s, x => by unfold put; simp
  | y :: l, s, x => by
    unfold put
    split
    · rw [List.mem_cons, mem_put l s x, List.mem_cons]
      constructor
      · rintro (h | h | h)
        · exact .inr (.inl h)
        · exact .inl h
        · exact .inr (.inr h)
      · rintro (h | h | h)
        · exact .inr (.inl h)
        · exact .inl h
        · exact .inr (.inr h)
    split
    · rename_i h; subst h; simp
    · simp
theorem rise_put : ∀ (l : List T) (s : T), Rise l → Rise (put l s)
  | [], s, _ => by unfold put Rise; simp
  | y :: l, s, h => by
    obtain ⟨h1, h2⟩ := List.pairwise_cons.1 h
    unfold put
    split
    · rename_i hy
      refine List.pairwise_cons.2 ⟨fun x hx => ?_, rise_put l s h2⟩
      rcases (mem_put l s x).1 hx with rfl | hx
      · exact hy
      · exact h1 x hx
    split
    · exact h
    · rename_i ha hb
      have hs := lt_tri y s ha hb
      refine List.pairwise_cons.2 ⟨fun x hx => ?_, h⟩
      rcases List.mem_cons.1 hx with rfl | hx
      · exact hs
      · exact List.lt_trans hs (h1 x hx)
theorem rise_eq : ∀ (l m : List T), Rise l → Rise m → (∀ x, x ∈ l ↔ x ∈ m) → l = m
  | [], [], _, _, _ => rfl
  | [], y :: m, _, _, h => absurd ((h y).2 (List.mem_cons_self ..)) (by simp)
  | x :: l, [], _, _, h => absurd ((h x).1 (List.mem_cons_self ..)) (by simp)
  | x :: l, y :: m, hl, hm, h => by
    obtain ⟨l1, l2⟩ := List.pairwise_cons.1 hl
    obtain ⟨m1, m2⟩ := List.pairwise_cons.1 hm
    have e : x = y := by
      rcases List.mem_cons.1 ((h x).1 (List.mem_cons_self ..)) with e | hx
      · exact e
      · rcases List.mem_cons.1 ((h y).2 (List.mem_cons_self ..)) with e | hy
        · exact e.symm
        · exact absurd (List.lt_trans (l1 y hy) (m1 x hx)) (List.lt_irrefl _)
    subst e
    rw [rise_eq l m l2 m2 fun z => ?_]
    have hz := h z
    rw [List.mem_cons, List.mem_cons] at hz
    constructor
    · intro hzl
      rcases hz.1 (.inr hzl) with rfl | hzm
      · exact absurd (l1 z hzl) (List.lt_irrefl _)
      · exact hzm
    · intro hzm
      rcases hz.2 (.inr hzm) with rfl | hzl
      · exact absurd (m1 z hzm) (List.lt_irrefl _)
      · exact hzl
theorem fold_put : ∀ (N : List T) (l : List T), Rise l → Rise (N.foldl put l) ∧ ∀ x, x ∈ N.foldl put l ↔ x ∈ N ∨ x ∈ l
  | [], l, h => ⟨h, fun x => by simp⟩
  | s :: N, l, h => by
    obtain ⟨h1, h2⟩ := fold_put N (put l s) (rise_put l s h)
    refine ⟨h1, fun x => ?_⟩
    rw [List.foldl_cons, h2, mem_put, List.mem_cons]
    constructor
    · rintro (h | h | h)
      · exact .inl (.inr h)
      · exact .inl (.inl h)
      · exact .inr h
    · rintro ((h | h) | h)
      · exact .inr (.inl h)
      · exact .inl h
      · exact .inr (.inr h)
theorem compact_up (zs : List T) (hs : zs.Pairwise (· ≤ ·)) : ∀ m, m ≤ zs.length → Rise (Lib.compactUpTo zs.toArray m) ∧ ∀ x, x ∈ Lib.compactUpTo zs.toArray m ↔ x ∈ zs.take m
  | 0, _ => ⟨by unfold Lib.compactUpTo Rise; simp, fun x => by unfold Lib.compactUpTo; simp⟩
  | m + 1, hm => by
    obtain ⟨i1, i2⟩ := compact_up zs hs m (by omega)
    have hl : m < zs.length := by omega
    have g : ∀ j (h : j < zs.length), (zs.toArray)[j]! = zs[j] := fun j h => by
      rw [getElem!_pos zs.toArray j (by simpa using h)]; simp
    have tk : zs.take (m + 1) = zs.take m ++ [zs[m]] := by
      rw [List.take_add_one, List.getElem?_eq_getElem hl]; rfl
    have le : ∀ i j (hi : i < zs.length) (hj : j < zs.length), i < j → zs[i] ≤ zs[j] := fun i j hi hj h => List.pairwise_iff_getElem.1 hs i j hi hj h
    rw [Lib.compactUpTo_succ, g m hl]
    by_cases hk : Lib.keeps zs.toArray m = true
    · rw [if_pos hk]
      have big : ∀ x ∈ Lib.compactUpTo zs.toArray m, x < zs[m] := fun x hx => by
        obtain ⟨i, hi, rfl⟩ := List.getElem_of_mem ((i2 x).1 hx)
        rw [List.length_take] at hi
        rw [List.getElem_take]
        have hk := of_decide_eq_true hk
        rcases hk with hk | hk
        · omega
        · rw [g m hl, g (m - 1) (by omega)] at hk
          have h1 : zs[m - 1] ≤ zs[m] := le _ _ _ _ (by omega)
          have h2 : zs[m - 1] < zs[m] := by
            rcases List.le_iff_lt_or_eq.1 h1 with h | h
            · exact h
            · exact absurd h.symm hk
          by_cases e : i = m - 1
          · subst e; exact h2
          · exact List.lt_of_le_of_lt (le i (m - 1) (by omega) (by omega) (by omega)) h2
      refine ⟨List.pairwise_append.2 ⟨i1, by simp, fun x hx y hy => by rw [List.mem_singleton.1 hy]; exact big x hx⟩, fun x => ?_⟩
      rw [tk, List.mem_append, List.mem_append, i2]
    · rw [if_neg hk, List.append_nil]
      refine ⟨i1, fun x => ?_⟩
      have hk : ¬ (m = 0 ∨ zs.toArray[m]! ≠ zs.toArray[m - 1]!) := fun h => hk (decide_eq_true h)
      have h0 : ¬ m = 0 := fun h => hk (.inl h)
      have he : zs[m] = zs[m - 1] := by
        have := Decidable.of_not_not fun h => hk (.inr h)
        rwa [g m hl, g (m - 1) (by omega)] at this
      rw [tk, List.mem_append, i2, List.mem_singleton]
      constructor
      · exact .inl
      · rintro (h | h)
        · exact h
        · rw [h, he]
          have h3 : m - 1 < (zs.take m).length := by rw [List.length_take]; omega
          have h4 : (zs.take m)[m - 1] = zs[m - 1] := List.getElem_take ..
          rw [← h4]; exact List.getElem_mem h3
/-- The sorted names, each once, are the names put one by one. -/
theorem sorted_put (N : List T) : Lib.compact (N.mergeSort fun x y => decide (x ≤ y)) = N.foldl put [] := by
  have hp : (N.mergeSort fun x y => decide (x ≤ y)).Pairwise (· ≤ ·) := by
    have h := List.pairwise_mergeSort (le := fun (x y : T) => decide (x ≤ y)) (fun a b c h1 h2 => decide_eq_true (List.le_trans (of_decide_eq_true h1) (of_decide_eq_true h2))) (fun a b => by
      rcases List.le_total a b with h | h
      · simp [h]
      · simp [h]) N
    exact h.imp fun h => of_decide_eq_true h
  obtain ⟨c1, c2⟩ := compact_up _ hp _ (Nat.le_refl _)
  obtain ⟨f1, f2⟩ := fold_put N [] List.Pairwise.nil
  refine rise_eq _ _ c1 f1 fun x => ?_
  refine (c2 x).trans ?_
  rw [f2, List.take_length, List.mem_mergeSort]
  simp
end Go.Proofs.Ytfgabgihdcokdaa.Namp
