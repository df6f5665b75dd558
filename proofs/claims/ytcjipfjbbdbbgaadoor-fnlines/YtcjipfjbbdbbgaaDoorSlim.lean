/-
  Plain facts of ours on lists of bytes: without blanks at the ends; without blanks beside commas and with one for several, by two roads that lead to one text.
-/
import Derived.Lib.TrimByte
namespace Go.Proofs.YtcjipfjbbdbbgaaDoor.Slim

def tl (l : List UInt8) : List UInt8 := l.dropWhile (· == 32)
def tr (l : List UInt8) : List UInt8 := (l.reverse.dropWhile (· == 32)).reverse
theorem tr_cons (c : UInt8) (r : List UInt8) : tr (c :: r) = if c = 32 ∧ tr r = [] then [] else c :: tr r := by
  unfold tr
  rw [List.reverse_cons, List.dropWhile_append]
  by_cases h : (List.dropWhile (· == 32) r.reverse) = []
  · rw [h]
    by_cases hc : c = 32
    · simp [hc]
    · simp [hc]
  · have hne : (List.dropWhile (· == 32) r.reverse).isEmpty = false := by
      cases e : List.dropWhile (· == 32) r.reverse with
      | nil => exact absurd e h
      | cons _ _ => rfl
    rw [hne]
    simp [h]
theorem tl_cons (c : UInt8) (r : List UInt8) : tl (c :: r) = if c = 32 then tl r else c :: r := by
  unfold tl; rw [List.dropWhile_cons]; by_cases h : c = 32 <;> simp [h]
theorem tl_nil : tl [] = [] := rfl
theorem tr_nil : tr [] = [] := rfl
theorem tr_tl : ∀ l, tr (tl l) = tl (tr l)
  | [] => rfl
  | c :: r => by
    rw [tl_cons, tr_cons]
    by_cases hc : c = 32
    · rw [if_pos hc, tr_tl r]
      by_cases h : tr r = []
      · rw [if_pos ⟨hc, h⟩, h]
      · rw [if_neg (fun hh => h hh.2), tl_cons, if_pos hc]
    · rw [if_neg hc, if_neg (fun hh => hc hh.1), tr_cons, if_neg (fun hh => hc hh.1), tl_cons, if_neg hc]
theorem trim_eq (l : List UInt8) : Lib.trimB l 32 = tr (tl l) := (tr_tl l).symm
theorem tr_snoc (l : List UInt8) (c : UInt8) : tr (l ++ [c]) = if c = 32 then tr l else l ++ [c] := by
  unfold tr
  rw [List.reverse_append]
  simp only [List.reverse_cons, List.reverse_nil, List.nil_append, List.singleton_append]
  rw [List.dropWhile_cons]
  by_cases h : c = 32 <;> simp [h]
theorem tl_len : ∀ l, (tl l).length ≤ l.length
  | [] => Nat.le_refl _
  | c :: r => by rw [tl_cons]; split; exact Nat.le_succ_of_le (tl_len r); exact Nat.le_refl _
theorem tr_len : ∀ l, (tr l).length ≤ l.length
  | [] => Nat.le_refl _
  | c :: r => by rw [tr_cons]; split; exact Nat.zero_le _; exact Nat.succ_le_succ (tr_len r)

/-- The last one (0: there is none). -/
def lst (l : List UInt8) : UInt8 := l.getLast?.getD 0
theorem lst_snoc (l : List UInt8) (c : UInt8) : lst (l ++ [c]) = c := by unfold lst; simp
theorem lst_nil : lst [] = 0 := rfl
/-- The first road: byte by byte, with a look at what came last. -/
def one (O : List UInt8) (c : UInt8) : List UInt8 :=
  if c = 32 ∧ O ≠ [] ∧ (lst O = 32 ∨ lst O = 44) then O else if c = 44 ∧ O ≠ [] ∧ lst O = 32 then O.dropLast ++ [c] else O ++ [c]
/-- The second road: blanks wait until something else comes. -/
def sq : List UInt8 → List UInt8 → Bool → List UInt8
  | [], A, _ => A
  | c :: r, A, p => if c = 32 then sq r A true else if c ≠ 44 ∧ p = true ∧ A ≠ [] ∧ lst A ≠ 44 then sq r (A ++ [32, c]) false else sq r (A ++ [c]) false

def Inv (O A : List UInt8) (p : Bool) : Prop :=
  (A = [] ∧ O = if p = true then [32] else []) ∨
  (A ≠ [] ∧ (∃ d e, A = d :: e ∧ d ≠ 32) ∧ (∃ e d, A = e ++ [d] ∧ d ≠ 32) ∧ ∃ lead, (lead = [] ∨ lead = [32]) ∧ O = lead ++ A ++ (if p = true ∧ lst A ≠ 44 then [32] else []))
theorem inv_push {A : List UInt8} {c : UInt8} (hc : c ≠ 32) (hA : A = [] ∨ ((∃ d e, A = d :: e ∧ d ≠ 32))) (m : List UInt8) (hm : A = [] → m = []) : (A ++ m ++ [c]) ≠ [] ∧ (∃ d e, A ++ m ++ [c] = d :: e ∧ d ≠ 32) ∧ (∃ e d, A ++ m ++ [c] = e ++ [d] ∧ d ≠ 32) := by
  refine ⟨by simp, ?_, ⟨_, _, rfl, hc⟩⟩
  rcases hA with rfl | ⟨d, e, rfl, hd⟩
  · rw [hm rfl]; exact ⟨c, [], rfl, hc⟩
  · exact ⟨d, e ++ m ++ [c], by simp, hd⟩
theorem step {O A : List UInt8} {p : Bool} (h : Inv O A p) (c : UInt8) :
    Inv (one O c) (if c = 32 then A else if c ≠ 44 ∧ p = true ∧ A ≠ [] ∧ lst A ≠ 44 then A ++ [32, c] else A ++ [c]) (if c = 32 then true else false) := by
  by_cases hc : c = 32
  · subst hc
    rw [if_pos rfl, if_pos rfl]
    rcases h with ⟨rfl, rfl⟩ | ⟨hA, hd, ⟨e, d, rfl, hdn⟩, lead, hl, rfl⟩
    · refine .inl ⟨rfl, ?_⟩
      cases p <;> simp [one, lst]
    · refine .inr ⟨hA, hd, ⟨e, d, rfl, hdn⟩, lead, hl, ?_⟩
      rw [lst_snoc]
      by_cases h44 : d = 44
      · subst h44
        have : one (lead ++ (e ++ [44]) ++ if p = true ∧ (44 : UInt8) ≠ 44 then [32] else []) 32 = lead ++ (e ++ [44]) := by
          simp only [ne_eq, not_true_eq_false, and_false, if_false, List.append_nil]
          unfold one
          rw [← List.append_assoc, lst_snoc, if_pos ⟨rfl, by simp, .inr rfl⟩]
        rw [this]; simp
      · cases p
        · have : one (lead ++ (e ++ [d]) ++ if false = true ∧ d ≠ 44 then [32] else []) 32 = lead ++ (e ++ [d]) ++ [32] := by
            simp only [Bool.false_eq_true, false_and, if_false, List.append_nil]
            unfold one
            rw [← List.append_assoc, lst_snoc, if_neg (by rintro ⟨_, _, h | h⟩; exact hdn h; exact h44 h), if_neg (by rintro ⟨h, _⟩; revert h; decide)]
          rw [this, if_pos ⟨rfl, h44⟩]
        · have : one (lead ++ (e ++ [d]) ++ if true = true ∧ d ≠ 44 then [32] else []) 32 = lead ++ (e ++ [d]) ++ [32] := by
            rw [if_pos ⟨rfl, h44⟩]
            unfold one
            rw [lst_snoc, if_pos ⟨rfl, by simp, .inl rfl⟩]
          rw [this, if_pos ⟨rfl, h44⟩]
  · rw [if_neg hc, if_neg hc]
    rcases h with ⟨rfl, rfl⟩ | ⟨hA, hd, ⟨e, d, rfl, hdn⟩, lead, hl, rfl⟩
    · have hz : ¬ (c ≠ 44 ∧ p = true ∧ ([] : List UInt8) ≠ [] ∧ lst [] ≠ 44) := fun hh => hh.2.2.1 rfl
      rw [if_neg hz]
      have hp := inv_push (A := []) hc (.inl rfl) [] (fun _ => rfl)
      simp only [List.nil_append] at hp ⊢
      refine .inr ⟨hp.1, hp.2.1, hp.2.2, ?_⟩
      cases p
      · refine ⟨[], .inl rfl, ?_⟩
        simp [one, hc]
      · by_cases h44 : c = 44
        · refine ⟨[], .inl rfl, ?_⟩
          subst h44
          simp [one, lst]
        · refine ⟨[32], .inr rfl, ?_⟩
          simp [one, hc, h44]
    · by_cases hw : p = true ∧ lst (e ++ [d]) ≠ 44
      · rw [if_pos hw]
        by_cases h44 : c = 44
        · subst h44
          rw [if_neg (by rintro ⟨h, _⟩; exact h rfl)]
          have hp := inv_push (A := e ++ [d]) hc (.inr hd) [] (fun h => absurd h hA)
          rw [List.append_nil] at hp
          refine .inr ⟨hp.1, hp.2.1, hp.2.2, lead, hl, ?_⟩
          unfold one
          rw [lst_snoc, if_neg (by rintro ⟨h, _⟩; revert h; decide), if_pos ⟨rfl, by simp, rfl⟩]
          rw [List.dropLast_concat]
          simp
        · rw [if_pos ⟨h44, hw.1, hA, hw.2⟩]
          have hp := inv_push (A := e ++ [d]) hc (.inr hd) [32] (fun h => absurd h hA)
          have ee : e ++ [d] ++ [32] ++ [c] = e ++ [d] ++ [32, c] := by simp
          rw [ee] at hp
          refine .inr ⟨hp.1, hp.2.1, hp.2.2, lead, hl, ?_⟩
          unfold one
          rw [if_neg (by rintro ⟨h, _⟩; exact hc h), if_neg (by rintro ⟨h, _⟩; exact h44 h)]
          simp
      · rw [if_neg hw, if_neg (by rintro ⟨_, h1, _, h2⟩; exact hw ⟨h1, h2⟩)]
        have hp := inv_push (A := e ++ [d]) hc (.inr hd) [] (fun h => absurd h hA)
        rw [List.append_nil] at hp
        refine .inr ⟨hp.1, hp.2.1, hp.2.2, lead, hl, ?_⟩
        rw [List.append_nil]
        unfold one
        rw [← List.append_assoc, lst_snoc, if_neg (by rintro ⟨h, _⟩; exact hc h), if_neg (by rintro ⟨_, _, h⟩; exact hdn h)]
        simp
theorem fin {O A : List UInt8} {p : Bool} (h : Inv O A p) : tr (tl O) = A := by
  rcases h with ⟨rfl, rfl⟩ | ⟨hA, ⟨d, e, hAe, hd⟩, ⟨e', d', hAe', hd'⟩, lead, hl, rfl⟩
  · cases p <;> rfl
  · have h1 : tl (lead ++ A ++ (if p = true ∧ lst A ≠ 44 then [32] else [])) = A ++ (if p = true ∧ lst A ≠ 44 then [32] else []) := by
      have h2 : tl (A ++ (if p = true ∧ lst A ≠ 44 then [32] else [])) = A ++ (if p = true ∧ lst A ≠ 44 then [32] else []) := by
        rw [hAe, List.cons_append, tl_cons, if_neg hd]
      rcases hl with rfl | rfl
      · simpa using h2
      · rw [List.append_assoc, List.singleton_append, tl_cons, if_pos rfl, h2]
    rw [h1]
    have h3 : tr A = A := by rw [hAe', tr_snoc, if_neg hd']
    split
    · rw [tr_snoc, if_pos rfl, h3]
    · rw [List.append_nil, h3]
theorem roads : ∀ (l : List UInt8) {O A : List UInt8} {p : Bool}, Inv O A p → tr (tl (l.foldl one O)) = sq l A p
  | [], _, _, _, h => by rw [List.foldl_nil, sq, fin h]
  | c :: r, O, A, p, h => by
    rw [List.foldl_cons, sq]
    have hs := step h c
    by_cases hc : c = 32
    · rw [if_pos hc, if_pos hc] at hs; rw [if_pos hc]; exact roads r hs
    · rw [if_neg hc, if_neg hc] at hs
      rw [if_neg hc]
      split at hs
      · rename_i hh; rw [if_pos hh]; exact roads r hs
      · rename_i hh; rw [if_neg hh]; exact roads r hs
theorem slim_eq (l : List UInt8) : tr (tl (l.foldl one [])) = sq l [] false := roads l (.inl ⟨rfl, rfl⟩)
theorem sq_len : ∀ (l A : List UInt8) (p : Bool), (sq l A p).length ≤ A.length + 2 * l.length
  | [], A, p => by rw [sq]; omega
  | c :: r, A, p => by
    rw [sq]
    split
    · have := sq_len r A true; simp; omega
    · split
      · have := sq_len r (A ++ [32, c]) false; simp at this; simp; omega
      · have := sq_len r (A ++ [c]) false; simp at this; simp; omega
end Go.Proofs.YtcjipfjbbdbbgaaDoor.Slim
