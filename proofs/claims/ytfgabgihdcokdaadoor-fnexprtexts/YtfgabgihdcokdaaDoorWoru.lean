/-
  Pure: both readings of an expression's text agree.
-/
import Derived.Test.YtfgabgihdcokdaaDoorWort
namespace Go.Proofs.YtfgabgihdcokdaaDoor.Woru
open Go.ChangeShapes Go.WideShapes Go.ChangeAt Go.RowKit Go.Deep
open Optx Extx Exts Nodi Worr Wors
open Stepx (exprB)
open Names (nameB nbB decB)
set_option linter.unusedVariables false
set_option maxRecDepth 20000
theorem ext_list (s : ByteArray) (i j : Nat) : (s.extract i j).data.toList = (s.data.toList.drop i).take (j - i) := by
  rw [ByteArray.data_extract, Array.toList_extract, List.extract_eq_take_drop]
theorem len_size (s : ByteArray) : s.data.toList.length = s.size := Array.length_toList
theorem cut_eq {s : ByteArray} (h : F s = true) : s.data.toList = (A s).data.toList ++ 32 :: (B s).data.toList ∧ ∀ c ∈ (A s).data.toList, c ≠ 32 := by
  have h := of_decide_eq_true h
  rcases ix_cases s with h' | ⟨i, hi, hr⟩
  · exact absurd h' h
  · obtain ⟨h1, h2⟩ := ix_some hi
    unfold A B
    rw [if_neg h, if_neg h, hi, Int.toNat_natCast, ext_list, ext_list, List.drop_zero, Nat.sub_zero]
    rw [List.take_of_length_le (l := s.data.toList.drop (i + 1)) (by rw [List.length_drop, len_size]; omega)]
    constructor
    · have hl : i < s.data.toList.length := by rw [len_size]; omega
      have e : s.data.toList[i] = 32 := by
        rw [List.getElem?_eq_getElem hl] at h1
        exact Option.some.inj h1
      have := List.drop_eq_getElem_cons hl
      rw [e] at this
      rw [← this, List.take_append_drop]
    · intro c hc
      obtain ⟨j, hj, rfl⟩ := List.getElem_of_mem hc
      rw [List.length_take] at hj
      rw [List.getElem_take]
      intro e
      exact h2 j (by omega) (by rw [List.getElem?_eq_getElem (by omega), e])
theorem no_cut {s : ByteArray} (h : F s = false) : A s = s ∧ ∀ c ∈ s.data.toList, c ≠ 32 := by
  have h : ix s = -1 := Decidable.of_not_not (of_decide_eq_false h)
  refine ⟨by unfold A; rw [if_pos h], fun c hc e => ?_⟩
  obtain ⟨j, hj, rfl⟩ := List.getElem_of_mem hc
  exact ix_none h j (by rw [List.getElem?_eq_getElem hj, e])
theorem join_cons {x : List UInt8} {X : List (List UInt8)} (h : X ≠ []) : Lib.join (x :: X) [32] = x ++ 32 :: Lib.join X [32] := by
  cases X with
  | nil => exact absurd rfl h
  | cons y X => unfold Lib.join; simp [List.intercalate, List.intersperse]
theorem join_one (x : List UInt8) : Lib.join [x] [32] = x := by unfold Lib.join; simp [List.intercalate]
theorem W_ne (s : ByteArray) : W s ≠ [] := by
  cases h : F s with
  | false => rw [W_no h]; simp
  | true => rw [W_on h]; simp
theorem join_W : ∀ (n : Nat) (s : ByteArray), s.size ≤ n → Lib.join ((W s).map (·.data.toList)) [32] = s.data.toList ∧ ∀ x ∈ W s, ∀ c ∈ x.data.toList, c ≠ 32
  | n, s, hn => by
    cases h : F s with
    | false =>
      obtain ⟨h1, h2⟩ := no_cut h
      rw [W_no h, h1]
      refine ⟨join_one _, fun x hx => ?_⟩
      rw [List.mem_singleton.1 hx]; exact h2
    | true =>
      have hb := B_lt h
      match n, hn with
      | 0, hn => omega
      | n + 1, hn =>
        obtain ⟨i1, i2⟩ := join_W n (B s) (by omega)
        obtain ⟨h1, h2⟩ := cut_eq h
        rw [W_on h]
        refine ⟨?_, fun x hx => ?_⟩
        · rw [List.map_cons, join_cons (by simpa using W_ne (B s)), i1]; exact h1.symm
        · rcases List.mem_cons.1 hx with rfl | hx
          · exact h2
          · exact i2 x hx
theorem split_inj : ∀ (x y p q : List UInt8), (∀ c ∈ x, c ≠ 32) → (∀ c ∈ y, c ≠ 32) → x ++ 32 :: p = y ++ 32 :: q → x = y ∧ p = q
  | [], [], p, q, _, _, h => ⟨rfl, (List.cons.inj h).2⟩
  | [], d :: y, p, q, _, hy, h => absurd (List.cons.inj h).1.symm (hy d (List.mem_cons_self ..))
  | c :: x, [], p, q, hx, _, h => absurd (List.cons.inj h).1 (hx c (List.mem_cons_self ..))
  | c :: x, d :: y, p, q, hx, hy, h => by
    obtain ⟨h1, h2⟩ := List.cons.inj h
    obtain ⟨i1, i2⟩ := split_inj x y p q (fun e he => hx e (List.mem_cons_of_mem _ he)) (fun e he => hy e (List.mem_cons_of_mem _ he)) h2
    exact ⟨by rw [h1, i1], i2⟩
theorem join_inj : ∀ (X Y : List (List UInt8)), X ≠ [] → Y ≠ [] → (∀ x ∈ X, ∀ c ∈ x, c ≠ 32) → (∀ x ∈ Y, ∀ c ∈ x, c ≠ 32) → Lib.join X [32] = Lib.join Y [32] → X = Y
  | [], _, h, _, _, _, _ => absurd rfl h
  | _, [], _, h, _, _, _ => absurd rfl h
  | [x], [y], _, _, _, _, h => by rw [join_one, join_one] at h; rw [h]
  | [x], y :: y' :: Y, _, _, hx, _, h => by
    rw [join_one, join_cons (by simp)] at h
    exact absurd rfl (hx x (List.mem_singleton.2 rfl) 32 (by rw [h]; simp))
  | x :: x' :: X, [y], _, _, _, hy, h => by
    rw [join_one, join_cons (by simp)] at h
    exact absurd rfl (hy y (List.mem_singleton.2 rfl) 32 (by rw [← h]; simp))
  | x :: x' :: X, y :: y' :: Y, _, _, hx, hy, h => by
    rw [join_cons (x := x) (X := x' :: X) (by simp), join_cons (x := y) (X := y' :: Y) (by simp)] at h
    obtain ⟨h1, h2⟩ := split_inj _ _ _ _ (hx x (List.mem_cons_self ..)) (hy y (List.mem_cons_self ..)) h
    rw [h1, join_inj (x' :: X) (y' :: Y) (by simp) (by simp) (fun z hz => hx z (List.mem_cons_of_mem _ hz)) (fun z hz => hy z (List.mem_cons_of_mem _ hz)) h2]
theorem digits_free : ∀ (k u : Nat), u ≤ k → ∀ c ∈ Lib.decDigits u, c ≠ 32
  | k, u, hk, c, hc => by
    have one : ∀ d, d < 10 → UInt8.ofNat (48 + d) ≠ 32 := by decide
    rw [Lib.decDigits] at hc
    by_cases h : u < 10
    · rw [dif_pos h, List.mem_singleton] at hc
      rw [hc]; exact one u h
    · rw [dif_neg h] at hc
      match k, hk with
      | 0, hk => omega
      | k + 1, hk =>
        rcases List.mem_append.1 hc with hc | hc
        · exact digits_free k (u / 10) (by omega) c hc
        · rw [List.mem_singleton.1 hc]
          exact one (u % 10) (by omega)
theorem ops_free : ∀ k, k < 15 → ∀ c ∈ (opTab.getD k ⟨#[]⟩).data.toList, c ≠ 32 := by decide
theorem name_free {s : ByteArray} (h : nameB s = true) : ∀ c ∈ s.data.toList, c ≠ 32 := by
  have h := (of_decide_eq_true h).2.2.2
  intro c hc e
  obtain ⟨j, hj, hj2⟩ := List.getElem_of_mem hc
  rw [len_size] at hj
  have h := h j hj
  have e2 : s[j] = c := by rw [← hj2, Array.getElem_toList]; rfl
  rw [e2, e] at h
  exact absurd h (by decide)
theorem word_free {x : Stepx.Node} (h : NodeOk x) : ∀ c ∈ (wordB x).data.toList, c ≠ 32 := by
  obtain ⟨kd, n, s⟩ := x
  have h : Steps.nodeB kd n s = true := h
  have name : (kd = 2 ∨ kd = 3) → nameB s = true := fun hk => by
    unfold Steps.nodeB at h
    rw [if_neg (by omega), if_pos hk] at h
    exact (Bool.and_eq_true_iff.1 h).2
  rcases kinds_of h with rfl | rfl | rfl | hk | hk
  · intro c hc
    have hc : c ∈ Lib.itoa n := by
      have e : (wordB (1, n, s)).data.toList = Lib.itoa n := by unfold wordB decW; simp
      rwa [e] at hc
    obtain ⟨h0, h1⟩ := word_of h
    unfold Lib.itoa at hc
    rw [if_neg (by omega)] at hc
    exact digits_free _ _ (Nat.le_refl _) c hc
  · have e : wordB (2, n, s) = s := by unfold wordB; simp
    rw [e]; exact name_free (name (.inl rfl))
  · have e : (wordB (3, n, s)).data.toList = 35 :: s.data.toList := by unfold wordB; simp
    rw [e]
    intro c hc
    rcases List.mem_cons.1 hc with rfl | hc
    · decide
    · exact name_free (name (.inr rfl)) c hc
  · rw [word_op (by omega)]
    exact ops_free (kd - 4).toNat (by omega)
  · rw [word_op (by omega)]
    exact ops_free (kd - 4).toNat (by omega)
/-- A number's text is no name, and begins with no '#'. -/
theorem num_first {s : ByteArray} {n : Int} (h : Nums.num s = some n) : Nodi.hash s = false ∧ nameB s = false := by
  have hz : ¬ s.size = 0 := fun e => by unfold Nums.num at h; rw [if_pos (.inl e)] at h; cases h
  have hp : 0 < s.size := Nat.pos_of_ne_zero hz
  have first : (s[0].toNat : Int) = 36 ∨ (s[0].toNat : Int) = 37 ∨ (48 ≤ (s[0].toNat : Int) ∧ (s[0].toNat : Int) ≤ 57) := by
    unfold Nums.num at h
    split at h
    · cases h
    split at h
    · rename_i h1; rw [Nums.getD_at s hp] at h1; exact .inl (by omega)
    split at h
    · rename_i h1; rw [Nums.getD_at s hp] at h1; exact .inr (.inl (by omega))
    · refine .inr (.inr ?_)
      unfold Nums.base at h
      rw [if_neg hz] at h
      have e : s.data.toList = s[0] :: s.data.toList.drop 1 := by
        have := Nums.drop_at s 0 hp
        rwa [List.drop_zero] at this
      rw [e, Nums.word] at h
      split at h
      · cases h
      · rename_i h2
        unfold Nums.digS at h2
        split at h2
        · assumption
        split at h2 <;> omega
  constructor
  · refine decide_eq_false fun h' => ?_
    have h2 := h'.2
    rw [Nums.getD_at s hp] at h2
    omega
  · refine Names.name_no fun h' => ?_
    have h3 := h'.2.2.1 hp
    have h4 := h'.2.2.2 0 hp
    unfold Names.decB at h3
    unfold Names.nbB at h4
    have h3 := of_decide_eq_false h3
    have h4 := of_decide_eq_true h4
    omega
theorem eqB {a b : ByteArray} : (a.toList == b.toList) = true ↔ a = b := Wors.eq_list
theorem op_of {w : ByteArray} {j : Nat} (h : opI w = some j) : j < 14 ∧ opW (4 + (j : Int)) = w := by
  unfold opI at h
  have h1 := List.find?_some h
  have h2 := List.mem_range.1 (List.mem_of_find?_eq_some h)
  refine ⟨h2, ?_⟩
  unfold opW
  rw [show (4 + (j : Int) - 4).toNat = j by omega]
  exact eqB.1 h1
theorem num_of {w : ByteArray} {n : Int} (h : numI w = some n) : Nums.num w = some n ∧ decW n = w := by
  unfold numI at h
  cases hn : Nums.num w with
  | none => rw [hn] at h; cases h
  | some m =>
    rw [hn] at h
    dsimp only at h
    split at h
    · rename_i hq; cases h; exact ⟨rfl, eqB.1 hq⟩
    · cases h
theorem hash_eq {w : ByteArray} (h : Nodi.hash w = true) : (⟨#[35]⟩ ++ w.extract 1 w.size : ByteArray) = w := by
  obtain ⟨hp, h35⟩ := of_decide_eq_true h
  rw [Nums.getD_at w hp] at h35
  apply ByteArray.ext
  apply Array.toList_inj.1
  have e : w.data.toList = w[0] :: w.data.toList.drop 1 := by
    have := Nums.drop_at w 0 hp
    rwa [List.drop_zero] at this
  rw [ByteArray.data_append, Array.toList_append, ext_list, List.take_of_length_le (by rw [List.length_drop, len_size]; omega)]
  conv => rhs; rw [e]
  have e2 : w[0] = 35 := UInt8.toNat_inj.1 h35
  rw [e2]; rfl
/-- What is read as a right node is written back as it was read. -/
theorem back_word {w : ByteArray} : wordB (nodeI w) = w := by
  unfold nodeI
  split
  · rename_i j h
    rw [word_op (by omega)]; exact (op_of h).2
  split
  · rename_i n h
    have e : wordB (1, n, ⟨#[]⟩) = decW n := by unfold wordB; simp
    rw [e]; exact (num_of h).2
  split
  · rename_i h
    have e : wordB (3, 0, w.extract 1 w.size) = ⟨#[35]⟩ ++ w.extract 1 w.size := by unfold wordB; simp
    rw [e]; exact hash_eq h
  · unfold wordB; simp
theorem S_of_I {w : ByteArray} (h : NodeOk (nodeI w)) : nodeS w = nodeI w := by
  cases ho : opI w with
  | some j => unfold nodeS nodeI; rw [ho]
  | none =>
    cases hn : Nums.num w with
    | none =>
      have hi : numI w = none := by unfold numI; rw [hn]
      unfold nodeS nodeI; rw [ho, hi, hn]
    | some n =>
      obtain ⟨f1, f2⟩ := num_first hn
      cases hi : numI w with
      | some m =>
        have := (num_of hi).1
        rw [hn] at this
        cases this
        unfold nodeS nodeI; rw [ho, hi, hn]
      | none =>
        exfalso
        have e : nodeI w = (2, 0, w) := by unfold nodeI; rw [ho]; dsimp only; rw [hi]; dsimp only; rw [f1]; rfl
        rw [e] at h
        have h : Steps.nodeB 2 0 w = true := h
        unfold Steps.nodeB at h
        rw [if_neg (by decide), if_pos (.inl rfl)] at h
        have := (Bool.and_eq_true_iff.1 h).2
        rw [f2] at this
        cases this
theorem I_of_S {w : ByteArray} (h : wordB (nodeS w) = w) : nodeI w = nodeS w := by
  cases ho : opI w with
  | some j => unfold nodeS nodeI; rw [ho]
  | none =>
    cases hn : Nums.num w with
    | none =>
      have hi : numI w = none := by unfold numI; rw [hn]
      unfold nodeS nodeI; rw [ho, hi, hn]
    | some n =>
      have e : nodeS w = (1, n, ⟨#[]⟩) := by unfold nodeS; rw [ho]; dsimp only; rw [hn]
      rw [e] at h
      have e2 : wordB (1, n, ⟨#[]⟩) = decW n := by unfold wordB; simp
      rw [e2] at h
      have hi : numI w = some n := by unfold numI; rw [hn]; dsimp only; rw [if_pos (eqB.2 h)]
      unfold nodeS nodeI; rw [ho, hi, hn]
theorem ok_all {L : List Stepx.Node} (h : exprB L = true) : L.length ≤ 30 ∧ ∀ x ∈ L, NodeOk x := by
  unfold Stepx.exprB at h
  obtain ⟨h1, h2⟩ := Bool.and_eq_true_iff.1 h
  exact ⟨of_decide_eq_true h1, nodes_ok (eq_of_beq h2)⟩
theorem text_of {L : List Stepx.Node} (h : exprB L = true) : (exprT L).data.toList = Lib.join ((words L).map (·.data.toList)) [32] := by
  unfold exprT; rw [if_pos h]
theorem same (s : ByteArray) : outI s = outS s := by
  obtain ⟨jw, fw⟩ := join_W s.size s (Nat.le_refl _)
  by_cases hI : exprB ((W s).map nodeI) = true
  · obtain ⟨h30, hok⟩ := ok_all hI
    rw [List.length_map] at h30
    have hS : (W s).map nodeS = (W s).map nodeI := List.map_congr_left fun x hx => S_of_I (hok _ (List.mem_map_of_mem hx))
    have ht : (W s).take 31 = W s := List.take_of_length_le (by omega)
    have hw : words ((W s).map nodeI) = W s := by
      unfold words
      rw [List.map_map]
      exact (List.map_congr_left fun x _ => back_word).trans (List.map_id _)
    have hx : exprT ((W s).map nodeI) = s := by
      apply ByteArray.ext
      apply Array.toList_inj.1
      rw [text_of hI, hw, jw]
    have hz : ¬ s.size = 0 := fun e => by
      have hf : F s = false := by
        cases hf : F s with
        | false => rfl
        | true => have := B_lt hf; omega
      have hA := (no_cut hf).1
      have hm : NodeOk (nodeI s) := hok _ (by rw [W_no hf, hA]; simp)
      have ho : opI s = none := op_none fun j hj => by
        cases hb : opAtB s j with
        | false => rfl
        | true =>
          have := eqB.1 hb
          have sz : ∀ j, j < 14 → ¬ (opTab.getD j ⟨#[]⟩).size = 0 := by decide
          exact absurd (by rw [this]; exact e) (sz j hj)
      have hn : Nums.num s = none := by unfold Nums.num; rw [if_pos (.inl e)]
      have hi : numI s = none := by unfold numI; rw [hn]
      have hh : Nodi.hash s = false := decide_eq_false (by omega)
      have en : nodeI s = (2, 0, s) := by unfold nodeI; rw [ho]; dsimp only; rw [hi]; dsimp only; rw [hh]; rfl
      rw [en] at hm
      have hm : Steps.nodeB 2 0 s = true := hm
      unfold Steps.nodeB at hm
      rw [if_neg (by decide), if_pos (.inl rfl)] at hm
      have h1 := (of_decide_eq_true (Bool.and_eq_true_iff.1 hm).2).1
      omega
    unfold outI outS
    rw [if_pos hI, ht, hS, hx, if_neg (fun h => h.elim hz (fun h2 => h2 rfl))]
  · unfold outI outS
    rw [if_neg hI]
    by_cases hc : s.size = 0 ∨ ¬ exprT (((W s).take 31).map nodeS) = s
    · rw [if_pos hc]
    · exfalso
      have hz : ¬ s.size = 0 := fun h => hc (.inl h)
      have hx : exprT (((W s).take 31).map nodeS) = s := Decidable.of_not_not fun h => hc (.inr h)
      have hB : exprB (((W s).take 31).map nodeS) = true := by
        cases hb : exprB (((W s).take 31).map nodeS) with
        | true => rfl
        | false =>
          unfold exprT at hx
          rw [hb] at hx
          rw [if_neg (by decide)] at hx
          exact absurd (by rw [← hx]; rfl) hz
      obtain ⟨h30, hok⟩ := ok_all hB
      rw [List.length_map, List.length_take] at h30
      have ht : (W s).take 31 = W s := List.take_of_length_le (by omega)
      rw [ht] at hx hB hok
      have hj := text_of hB
      rw [hx, ← jw] at hj
      have e := join_inj _ _ (by simpa using W_ne s) (by unfold words; simpa using W_ne s) (fun x hx => by
        obtain ⟨y, hy, rfl⟩ := List.mem_map.1 hx
        exact fw y hy) (fun x hx => by
        obtain ⟨y, hy, rfl⟩ := List.mem_map.1 hx
        unfold words at hy
        obtain ⟨z, hz, rfl⟩ := List.mem_map.1 hy
        exact word_free (hok z hz)) hj
      have hwd : ∀ x ∈ W s, wordB (nodeS x) = x := fun x hx => by
        obtain ⟨i, hi, rfl⟩ := List.getElem_of_mem hx
        have h1 := congrArg (fun l => l[i]?) e
        simp only [words, List.getElem?_map, List.getElem?_eq_getElem hi, Option.map_some] at h1
        apply ByteArray.ext
        apply Array.toList_inj.1
        exact (Option.some.inj h1).symm
      have hS : (W s).map nodeI = (W s).map nodeS := List.map_congr_left fun x hx => I_of_S (hwd x hx)
      rw [hS] at hI
      exact hI hB
end Go.Proofs.YtfgabgihdcokdaaDoor.Woru
