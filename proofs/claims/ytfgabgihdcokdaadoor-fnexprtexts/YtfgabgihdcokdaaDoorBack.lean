/-
  Pure: a right expression, none of whose names is that of an op of one, comes back from its text.
-/
import Derived.Test.YtfgabgihdcokdaaDoorWoru
import Derived.Test.YtfgabgihdcokdaaDoorCmpf
namespace Go.Proofs.YtfgabgihdcokdaaDoor.Back
open Go.ChangeShapes Go.WideShapes Go.ChangeAt Go.RowKit Go.Deep
open Optx Extx Exts Nodi Worr Wors Woru
open Stepx (exprB)
open Names (nameB nbB decB)
open Cmpf (Plain)
set_option linter.unusedVariables false
set_option maxRecDepth 20000
theorem word_snoc (b : Int) : ∀ (l : List UInt8) (n m : Int) (c : UInt8), Nums.word b n l = some m → Nums.digS (c.toNat : Int) < b → m * b + Nums.digS (c.toNat : Int) ≤ 65535 → Nums.word b n (l ++ [c]) = some (m * b + Nums.digS (c.toNat : Int))
  | [], n, m, c, h, h1, h2 => by
    have e : n = m := by simpa [Nums.word] using h
    subst e
    show (if _ then _ else _) = _
    rw [if_neg (by omega), if_neg (by omega)]
    rfl
  | a :: l, n, m, c, h, h1, h2 => by
    unfold Nums.word at h
    show (if _ then _ else _) = _
    split at h
    · cases h
    · rename_i g1
      rw [if_neg g1]
      split at h
      · cases h
      · rename_i g2
        rw [if_neg g2]
        exact word_snoc b l _ m c h h1 h2
theorem dig_at (d : Nat) (h : d < 10) : Nums.digS ((UInt8.ofNat (48 + d)).toNat : Int) = (d : Int) := by
  have : d = 0 ∨ d = 1 ∨ d = 2 ∨ d = 3 ∨ d = 4 ∨ d = 5 ∨ d = 6 ∨ d = 7 ∨ d = 8 ∨ d = 9 := by omega
  rcases this with rfl | rfl | rfl | rfl | rfl | rfl | rfl | rfl | rfl | rfl <;> decide
theorem word_dec : ∀ (k u : Nat), u ≤ k → u ≤ 65535 → Nums.word 10 0 (Lib.decDigits u) = some (u : Int)
  | 0, u, hk, h => by
    have e : u = 0 := by omega
    subst e
    rw [Lib.decDigits, dif_pos (by decide)]
    decide
  | k + 1, u, hk, h => by
    by_cases h10 : u < 10
    · rw [Lib.decDigits, dif_pos h10]
      have hd := dig_at u h10
      show (if _ then _ else _) = _
      rw [hd, if_neg (by omega), if_neg (by omega)]
      show some _ = _
      congr 1
      omega
    · rw [Lib.decDigits, dif_neg h10]
      have ih := word_dec k (u / 10) (by omega) (by omega)
      have hd := dig_at (u % 10) (by omega)
      rw [word_snoc 10 _ _ _ _ ih (by rw [hd]; omega) (by rw [hd]; omega), hd]
      congr 1
      omega
theorem dec_ne (u : Nat) : ∃ c l, Lib.decDigits u = c :: l ∧ 48 ≤ c.toNat ∧ c.toNat ≤ 57 := by
  induction u using Nat.strongRecOn with
  | _ u ih =>
    by_cases h10 : u < 10
    · refine ⟨UInt8.ofNat (48 + u), [], by rw [Lib.decDigits, dif_pos h10], ?_⟩
      have e : (UInt8.ofNat (48 + u)).toNat = 48 + u := by rw [UInt8.toNat_ofNat']; omega
      rw [e]; omega
    · obtain ⟨c, l, e, h1, h2⟩ := ih (u / 10) (by omega)
      exact ⟨c, l ++ [UInt8.ofNat (48 + u % 10)], by rw [Lib.decDigits, dif_neg h10, e]; rfl, h1, h2⟩
theorem num_dec {n : Int} (h0 : 0 ≤ n) (h1 : n ≤ 65535) : Nums.num (decW n) = some n := by
  have e : Lib.itoa n = Lib.decDigits n.toNat := by unfold Lib.itoa; rw [if_neg (by omega)]
  have hl := Extx.itoa_len h0 h1
  obtain ⟨c, l, ec, c0, c1⟩ := dec_ne n.toNat
  have hw := word_dec n.toNat n.toNat (Nat.le_refl _) (by omega)
  rw [← e] at ec hw
  have ed : (decW n).data.toList = Lib.itoa n := rfl
  have hs : (decW n).size = (Lib.itoa n).length := rfl
  have hpos : 0 < (Lib.itoa n).length := by rw [ec]; exact Nat.succ_pos _
  have hf : (decW n).data.getD 0 0 = c := by
    show (Lib.itoa n).toArray.getD 0 0 = c
    rw [ec]; rfl
  unfold Nums.num
  rw [if_neg (by omega), hf, if_neg (by omega), if_neg (by omega)]
  unfold Nums.base
  rw [if_neg (by omega), ed, hw]
  congr 1
  omega
theorem ops_num : ∀ j, j < 14 → Nums.num (opTab.getD j ⟨#[]⟩) = none ∧ Nodi.hash (opTab.getD j ⟨#[]⟩) = false ∧ opI (opTab.getD j ⟨#[]⟩) = some j := by decide +kernel
theorem ops_name : ∀ j, 4 ≤ j → j < 14 → nameB (opTab.getD j ⟨#[]⟩) = false := by
  intro j h0 h1
  have : j = 4 ∨ j = 5 ∨ j = 6 ∨ j = 7 ∨ j = 8 ∨ j = 9 ∨ j = 10 ∨ j = 11 ∨ j = 12 ∨ j = 13 := by omega
  rcases this with rfl | rfl | rfl | rfl | rfl | rfl | rfl | rfl | rfl | rfl
  all_goals
    refine Names.name_no fun h => ?_
    have := h.2.2.2 0 (by decide)
    exact absurd this (by decide)
theorem op_at {w : ByteArray} {j : Nat} (h : opI w = some j) : j < 14 ∧ w = opTab.getD j ⟨#[]⟩ := by
  obtain ⟨h1, h2⟩ := op_of h
  refine ⟨h1, ?_⟩
  unfold opW at h2
  rw [show (4 + (j : Int) - 4).toNat = j by omega] at h2
  exact h2.symm
theorem name_hash {s : ByteArray} (h : nameB s = true) : Nodi.hash s = false := by
  obtain ⟨h1, h2, h3, h4⟩ := of_decide_eq_true h
  refine decide_eq_false fun ⟨hp, e⟩ => ?_
  rw [Nums.getD_at s hp] at e
  have := h4 0 hp
  have e' : (s[0].toNat : Int) = 35 := by omega
  rw [e'] at this
  exact absurd this (by decide)
theorem empty_of {s : ByteArray} (h : s.toList.isEmpty = true) : s = ⟨#[]⟩ := by
  rw [ByteArray.toList_eq] at h
  exact ByteArray.ext (Array.toList_inj.1 (List.isEmpty_iff.1 h))
theorem node_back {x : Stepx.Node} (h : NodeOk x) (hp : Plain x.2.2) : nodeI (wordB x) = x := by
  obtain ⟨kd, n, s⟩ := x
  have hn : Steps.nodeB kd n s = true := h
  change Plain s at hp
  by_cases k1 : kd = 1
  · subst k1
    have hr := Extx.word_of hn
    have hs : s = ⟨#[]⟩ := by
      unfold Steps.nodeB at hn
      rw [if_pos rfl] at hn
      exact empty_of (Bool.and_eq_true_iff.1 hn).2
    subst hs
    have e : wordB (1, n, ⟨#[]⟩) = decW n := by unfold wordB; simp
    have hnum := num_dec hr.1 hr.2
    have ho : opI (decW n) = none := by
      cases ho : opI (decW n) with
      | none => rfl
      | some j =>
        obtain ⟨j1, j2⟩ := op_at ho
        have := (ops_num j j1).1
        rw [← j2, hnum] at this
        cases this
    have hi : numI (decW n) = some n := by unfold numI; rw [hnum]; dsimp only; rw [if_pos (eqB.2 rfl)]
    rw [e]
    unfold nodeI
    rw [ho, hi]
  by_cases k2 : kd = 2
  · subst k2
    have hh : n = 0 ∧ nameB s = true := by
      unfold Steps.nodeB at hn
      rw [if_neg (show ¬ (2 : Int) = 1 by decide), if_pos (.inl rfl)] at hn
      obtain ⟨a, b⟩ := Bool.and_eq_true_iff.1 hn
      exact ⟨eq_of_beq a, b⟩
    obtain ⟨rfl, hnm⟩ := hh
    have e : wordB (2, 0, s) = s := by unfold wordB; simp
    have ho : opI s = none := by
      cases ho : opI s with
      | none => rfl
      | some j =>
        obtain ⟨j1, j2⟩ := op_at ho
        by_cases j4 : 4 ≤ j
        · rw [j2, ops_name j j4 j1] at hnm; cases hnm
        · have : j = 0 ∨ j = 1 ∨ j = 2 ∨ j = 3 := by omega
          rcases this with rfl | rfl | rfl | rfl
          · exact absurd j2 hp.1
          · exact absurd j2 hp.2.1
          · exact absurd j2 hp.2.2.1
          · exact absurd j2 hp.2.2.2
    have hi : numI s = none := by
      cases hi : numI s with
      | none => rfl
      | some m => rw [(num_first (num_of hi).1).2] at hnm; cases hnm
    rw [e]
    unfold nodeI
    rw [ho, hi]
    dsimp only
    rw [name_hash hnm]
    rfl
  by_cases k3 : kd = 3
  · subst k3
    have hh : n = 0 ∧ nameB s = true := by
      unfold Steps.nodeB at hn
      rw [if_neg (show ¬ (3 : Int) = 1 by decide), if_pos (.inr rfl)] at hn
      obtain ⟨a, b⟩ := Bool.and_eq_true_iff.1 hn
      exact ⟨eq_of_beq a, b⟩
    obtain ⟨rfl, hnm⟩ := hh
    have e : wordB (3, 0, s) = ⟨#[35]⟩ ++ s := by unfold wordB; simp
    obtain ⟨w, hw⟩ : ∃ w : ByteArray, w = ⟨#[35]⟩ ++ s := ⟨_, rfl⟩
    have hl : w.data.toList = 35 :: s.data.toList := by rw [hw, ByteArray.data_append, Array.toList_append]; rfl
    have hsz : w.size = s.size + 1 := by rw [← len_size, hl, List.length_cons, len_size]
    have hh : Nodi.hash w = true := by
      refine decide_eq_true ⟨by omega, ?_⟩
      have : w.data.getD 0 0 = 35 := by rw [Array.getD_eq_getD_getElem?, ← Array.getElem?_toList, hl]; rfl
      rw [this]; rfl
    have ho : opI w = none := by
      cases ho : opI w with
      | none => rfl
      | some j =>
        obtain ⟨j1, j2⟩ := op_at ho
        rw [j2, (ops_num j j1).2.1] at hh; cases hh
    have hi : numI w = none := by
      cases hi : numI w with
      | none => rfl
      | some m => rw [(num_first (num_of hi).1).1] at hh; cases hh
    rw [e, ← hw]
    unfold nodeI
    rw [ho, hi]
    dsimp only
    rw [hh]
    have hx : w.extract 1 w.size = s := by
      apply ByteArray.ext
      apply Array.toList_inj.1
      rw [ext_list, hl, List.drop_succ_cons, List.drop_zero, List.take_of_length_le (by rw [len_size]; omega)]
    simp [hx]
  · have hk : 4 ≤ kd ∧ kd ≤ 17 := by
      have := kinds_of hn
      omega
    have hh : n = 0 ∧ s = ⟨#[]⟩ := by
      unfold Steps.nodeB at hn
      rw [if_neg k1, if_neg (by omega), if_pos hk] at hn
      obtain ⟨a, b⟩ := Bool.and_eq_true_iff.1 hn
      exact ⟨eq_of_beq a, empty_of b⟩
    obtain ⟨rfl, rfl⟩ := hh
    rw [word_op hk.1]
    unfold opW
    obtain ⟨j, hj⟩ : ∃ j : Nat, (kd - 4).toNat = j := ⟨_, rfl⟩
    rw [hj]
    unfold nodeI
    rw [(ops_num j (by omega)).2.2]
    show ((4 + (j : Int)), _, _) = _
    rw [show 4 + (j : Int) = kd by omega]
theorem map_inj : ∀ {X Y : List ByteArray}, X.map (·.data.toList) = Y.map (·.data.toList) → X = Y
  | [], [], _ => rfl
  | [], _ :: _, h => by cases h
  | _ :: _, [], h => by cases h
  | a :: X, b :: Y, h => by
    simp only [List.map_cons, List.cons.injEq] at h
    rw [ByteArray.ext (Array.toList_inj.1 h.1), map_inj h.2]
theorem words_ne {L : List Stepx.Node} (h : exprB L = true) : L ≠ [] := fun e => by subst e; exact absurd h (by decide)
theorem text_back {L : List Stepx.Node} (h : exprB L = true) (hp : ∀ x ∈ L, Plain x.2.2) : outI (exprT L) = some L := by
  obtain ⟨h30, hok⟩ := ok_all h
  obtain ⟨jw, fw⟩ := join_W (exprT L).size (exprT L) (Nat.le_refl _)
  have hX : (W (exprT L)).map (·.data.toList) = (words L).map (·.data.toList) := by
    refine join_inj _ _ ?_ ?_ ?_ ?_ (by rw [jw, text_of h])
    · intro e; exact W_ne _ (List.map_eq_nil_iff.1 e)
    · intro e; exact words_ne h (List.map_eq_nil_iff.1 (List.map_eq_nil_iff.1 e))
    · intro x hx
      obtain ⟨y, hy, rfl⟩ := List.mem_map.1 hx
      exact fw y hy
    · intro x hx
      obtain ⟨y, hy, rfl⟩ := List.mem_map.1 hx
      obtain ⟨z, hz, rfl⟩ := List.mem_map.1 hy
      exact word_free (hok z hz)
  have hW : W (exprT L) = words L := by
    exact map_inj hX
  have hm : (W (exprT L)).map nodeI = L := by
    rw [hW]
    unfold words
    rw [List.map_map]
    exact (List.map_congr_left fun x hx => node_back (hok x hx) (hp x hx)).trans (List.map_id _)
  unfold outI
  rw [hm, if_pos h]
end Go.Proofs.YtfgabgihdcokdaaDoor.Back
