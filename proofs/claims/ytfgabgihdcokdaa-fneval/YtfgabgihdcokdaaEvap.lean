/-
  Pure: what an expression tells: which names it wants, that one symbol more changes nothing, its range.
-/
import Derived.Test.YtfgabgihdcokdaaEvai
namespace Go.Proofs.Ytfgabgihdcokdaa.Evap
open Go.ChangeShapes Go.WideShapes Go.ChangeAt Go.RowKit
open Evai Symn Rekn Reke
open Symr (Sym)
open Stepx (exprB)
set_option linter.unusedVariables false
/-- A node that names a symbol. -/
def named (x : Stepx.Node) : Prop := x.1 = 2 ∨ x.1 = 3
theorem find_more : ∀ (Y : List Sym) (z : Sym) (s : ByteArray), same z.1 s = false → find (Y ++ [z]) s = find Y s
  | [], z, s, h => by unfold find; simp [h, find]
  | y :: Y, z, s, h => by
    show (if same y.1 s = true then some y else find (Y ++ [z]) s) = (if same y.1 s = true then some y else find Y s)
    rw [find_more Y z s h]
theorem rk_more {Y : List Sym} {z : Sym} {x : Stepx.Node} (h : same z.1 x.2.2 = false) (T : List Int) : rkV (Y ++ [z]) x T = rkV Y x T := by
  unfold rkV
  rw [find_more Y z _ h]
theorem ev_more {Y : List Sym} {z : Sym} : ∀ (L : List Stepx.Node) (st : List Int), (∀ x ∈ L, same z.1 x.2.2 = false) → ev (Y ++ [z]) st L = ev Y st L
  | [], st, _ => rfl
  | x :: L, st, h => by
    have hx := h x (List.mem_cons_self ..)
    unfold ev
    rw [rk_more hx]
    split
    · exact ev_more L _ fun y hy => h y (List.mem_cons_of_mem _ hy)
    · rfl
theorem rk_named {Y : List Sym} {x : Stepx.Node} (h : named x) (T : List Int) : (rkV Y x T).2 = 0 ↔ find Y x.2.2 ≠ none := by
  obtain ⟨kd, n, s⟩ := x
  have e : rkV Y (kd, n, s) T = symR kd (find Y s) := by
    rcases h with h | h
    · change kd = 2 at h; subst h; rfl
    · change kd = 3 at h; subst h; rfl
  rw [e]
  cases find Y s with
  | none => simp [symR]
  | some y => simp [symR]
theorem rk_two_code {Y : List Sym} {x : Stepx.Node} {T : List Int} (h : (rkV Y x T).2 = 2) (hk : 1 ≤ x.1) : named x ∧ find Y x.2.2 = none := by
  obtain ⟨kd, n, s⟩ := x
  change 1 ≤ kd at hk
  by_cases k1 : kd = 1
  · subst k1
    have e : rkV Y (1, n, s) T = (n, 0) := rfl
    rw [e] at h; cases h
  by_cases k2 : kd = 2 ∨ kd = 3
  · have hn : named (kd, n, s) := k2
    refine ⟨hn, ?_⟩
    cases hf : find Y s with
    | none => rfl
    | some y =>
      have := (rk_named (Y := Y) hn T).2 (by show find Y s ≠ none; rw [hf]; simp)
      rw [h] at this; cases this
  · by_cases k7 : kd ≤ 7
    · rw [rk_one (by omega) k7] at h; cases h
    · rw [rk_two (by omega)] at h
      unfold v2 at h
      split at h
      · cases h
      · cases h
theorem ev_names {Y : List Sym} : ∀ (L : List Stepx.Node) (st : List Int), (∀ x ∈ L, 1 ≤ x.1) → ((ev Y st L).2 = 0 → ∀ x ∈ L, named x → find Y x.2.2 ≠ none) ∧ ((ev Y st L).2 = 2 → ∃ x ∈ L, named x ∧ find Y x.2.2 = none)
  | [], st, _ => ⟨(fun _ x hx => by cases hx), (fun h => by cases h)⟩
  | x :: L, st, hk => by
    have ih := fun st' => ev_names (Y := Y) L st' fun y hy => hk y (List.mem_cons_of_mem _ hy)
    unfold ev
    split
    · rename_i h0
      refine ⟨fun h y hy hn => ?_, fun h => ?_⟩
      · rcases List.mem_cons.1 hy with rfl | hy
        · exact (rk_named hn _).1 h0
        · exact (ih _).1 h y hy hn
      · obtain ⟨y, hy, h1⟩ := (ih _).2 h
        exact ⟨y, List.mem_cons_of_mem _ hy, h1⟩
    · rename_i h0
      refine ⟨fun h => absurd h h0, fun h => ?_⟩
      exact ⟨x, List.mem_cons_self .., rk_two_code h (hk x (List.mem_cons_self ..))⟩
theorem rng0 : -2147483648 ≤ (0 : Int) ∧ (0 : Int) ≤ 2147483647 := by decide
def Rng (z : Int) : Prop := -2147483648 ≤ z ∧ z ≤ 2147483647
theorem rk_rng {Y : List Sym} {x : Stepx.Node} {T : List Int} (hx : Steps.nodeB x.1 x.2.1 x.2.2 = true) (hT : ∀ z ∈ T, Rng z) : Rng (rkV Y x T).1 := by
  obtain ⟨kd, n, s⟩ := x
  have g : ∀ i, Rng (T.getD i 0) := fun i => by
    rw [List.getD_eq_getElem?_getD]
    cases h : T[i]? with
    | none => exact rng0
    | some z => exact hT z (List.mem_of_getElem? h)
  by_cases k1 : kd = 1
  · subst k1
    have e : rkV Y (1, n, s) T = (n, 0) := rfl
    rw [e]
    have hn : Steps.nodeB 1 n s = true := hx
    unfold Steps.nodeB at hn
    rw [if_pos rfl] at hn
    have := (Bool.and_eq_true_iff.1 hn).1
    unfold Steps.inB at this
    have := of_decide_eq_true this
    exact ⟨by omega, by omega⟩
  by_cases k2 : kd = 2 ∨ kd = 3
  · have e : rkV Y (kd, n, s) T = symR kd (find Y s) := by
      rcases k2 with h | h
      · subst h; rfl
      · subst h; rfl
    rw [e]
    cases find Y s with
    | none => exact rng0
    | some y => exact in_wrap _
  · by_cases k7 : kd ≤ 7
    · have hk4 : 4 ≤ kd := by
        have hn : Steps.nodeB kd n s = true := hx
        unfold Steps.nodeB at hn
        rw [if_neg k1, if_neg k2] at hn
        split at hn
        · omega
        · cases hn
      rw [rk_one hk4 k7]
      exact in_f1 _ _
    · rw [rk_two (by omega)]
      unfold v2
      split
      · exact rng0
      · exact in_f2 (g 0)
theorem ev_rng {Y : List Sym} : ∀ (L : List Stepx.Node) (st : List Int), (∀ x ∈ L, Steps.nodeB x.1 x.2.1 x.2.2 = true) → (∀ z ∈ st, Rng z) → Rng (ev Y st L).1
  | [], st, _, hs => by
    show Rng (st.getD 0 0)
    rw [List.getD_eq_getElem?_getD]
    cases h : st[0]? with
    | none => exact rng0
    | some z => exact hs z (List.mem_of_getElem? h)
  | x :: L, st, hk, hs => by
    unfold ev
    split
    · refine ev_rng L _ (fun y hy => hk y (List.mem_cons_of_mem _ hy)) fun z hz => ?_
      rcases List.mem_append.1 hz with h | h
      · exact hs z (List.mem_of_mem_take h)
      · rw [List.mem_singleton.1 h]
        exact rk_rng (hk x (List.mem_cons_self ..)) fun z hz => hs z (List.mem_of_mem_drop hz)
    · exact rng0
end Go.Proofs.Ytfgabgihdcokdaa.Evap
