/-
  Plain facts of ours on lines: a right line comes back from its text; what is read, written, is read as the same.
-/
import Derived.Test.YtcjipfjbbdbbgaaDoorReadl
namespace Go.Proofs.YtcjipfjbbdbbgaaDoor.Round
open Go.ChangeShapes Go.WideShapes Go.ChangeAt Go.RowKit Go.Deep
set_option linter.unusedVariables false
open Fill (numAt numAt_of)
open Names (nbB nameB decB)
open Slim Trims Slims Cuts Argz Lines Lino Readl

theorem num_list (s : ByteArray) {k : Nat} (h : k < s.data.toList.length) : numAt s k = (s.data.toList[k]).toNat := by
  have hk : k < s.size := by rw [← size_list]; exact h
  rw [numAt_of hk]; rfl

theorem cut_at {s : ByteArray} {c : UInt8} {p q : List UInt8} (h : s.data.toList = p ++ c :: q) (hp : c ∉ p) : ∀ k, k ≤ p.length → cutI s (c.toNat : Int) k = p.length := by
  intro k
  have hl : s.size = p.length + (q.length + 1) := by rw [← size_list, h]; simp
  induction hn : p.length - k using Nat.strongRecOn generalizing k with
  | _ n ih =>
    intro hk
    have hks : k < s.size := by omega
    have hkl : k < s.data.toList.length := by rw [size_list]; exact hks
    rw [cutI, if_pos hks, num_list s hkl]
    by_cases e : k = p.length
    · subst e
      have : s.data.toList[p.length] = c := by simp [h]
      rw [this, if_pos rfl]
    · have hkp : k < p.length := by omega
      have hx : s.data.toList[k] = p[k] := by simp [h, hkp]
      rw [if_neg, ih _ (by omega) (k + 1) rfl (by omega)]
      intro hh
      rw [hx] at hh
      have : p[k] = c := UInt8.toNat_inj.1 (by omega)
      exact hp (this ▸ List.getElem_mem hkp)
theorem ext_lists {a b : ByteArray} (h : a.data.toList = b.data.toList) : a = b := of_lists h
theorem list_take (s : ByteArray) (k : Nat) : (s.extract 0 k).data.toList = s.data.toList.take k := by
  rw [ByteArray.data_extract, Array.toList_extract]; simp [List.extract]
theorem list_drop (s : ByteArray) (k : Nat) : (s.extract k s.size).data.toList = s.data.toList.drop k := by
  rw [ByteArray.data_extract, Array.toList_extract]
  simp [List.extract]
  rw [List.take_of_length_le]
  simp
theorem cut_split {s : ByteArray} {c : UInt8} {p q : List UInt8} (h : s.data.toList = p ++ c :: q) (hp : c ∉ p) : cutF s (c.toNat : Int) = true ∧ (cutA s (c.toNat : Int)).data.toList = p ∧ (cutB s (c.toNat : Int)).data.toList = q := by
  have hi := cut_at h hp 0 (Nat.zero_le _)
  have hl : s.size = p.length + (q.length + 1) := by rw [← size_list, h]; simp
  have hf : cutF s (c.toNat : Int) = true := decide_eq_true (by rw [hi]; omega)
  refine ⟨hf, ?_, ?_⟩
  · unfold cutA; rw [if_pos hf, hi, list_take, h]; simp
  · unfold cutB; rw [if_pos hf, hi, list_drop, h]
    rw [show p.length + 1 = (p ++ [c]).length by simp, show p ++ c :: q = (p ++ [c]) ++ q by simp, List.drop_left]
theorem cut_none_at {s : ByteArray} {c : UInt8} (h : c ∉ s.data.toList) : ∀ k, k ≤ s.size → cutI s (c.toNat : Int) k = s.size := by
  intro k
  induction hn : s.size - k using Nat.strongRecOn generalizing k with
  | _ n ih =>
    intro hk
    by_cases hlt : k < s.size
    · have hkl : k < s.data.toList.length := by rw [size_list]; exact hlt
      rw [cutI, if_pos hlt, num_list s hkl, if_neg, ih _ (by omega) (k + 1) rfl (by omega)]
      intro hh
      have : s.data.toList[k] = c := UInt8.toNat_inj.1 (by omega)
      exact h (this ▸ List.getElem_mem hkl)
    · exact cutI_end hlt
theorem cut_not {s : ByteArray} {c : UInt8} (h : c ∉ s.data.toList) : cutF s (c.toNat : Int) = false ∧ cutA s (c.toNat : Int) = s ∧ cutB s (c.toNat : Int) = ⟨#[]⟩ := by
  have hf : cutF s (c.toNat : Int) = false := decide_eq_false (by rw [cut_none_at h 0 (Nat.zero_le _)]; omega)
  unfold cutA cutB; rw [hf]; exact ⟨rfl, rfl, rfl⟩

def blnk (l : List UInt8) : Prop := ∀ x ∈ l, x = 32
theorem tl_blank : ∀ (a m : List UInt8), blnk a → tl (a ++ m) = tl m
  | [], m, _ => rfl
  | x :: r, m, h => by
    have hx : x = 32 := h x (by simp)
    rw [List.cons_append, tl_cons, if_pos hx]
    exact tl_blank r m (fun y hy => h y (by simp [hy]))
theorem tr_blank (m : List UInt8) : ∀ (b : List UInt8), blnk b → tr (m ++ b) = tr m := by
  intro b
  induction hn : b.length using Nat.strongRecOn generalizing b with
  | _ n ih =>
    intro h
    rcases List.eq_nil_or_concat b with rfl | ⟨r, x, rfl⟩
    · rw [List.append_nil]
    · have hx : x = 32 := h x (by simp)
      rw [List.concat_eq_append] at h hn ⊢
      rw [← List.append_assoc, tr_snoc, if_pos hx]
      exact ih r.length (by rw [← hn]; simp) r rfl (fun y hy => h y (by simp [hy]))
/-- No blnk at the ends. -/
def ends (m : List UInt8) : Prop := m = [] ∨ ((∃ d e, m = d :: e ∧ d ≠ 32) ∧ (∃ e d, m = e ++ [d] ∧ d ≠ 32))
theorem trim_ends {m : List UInt8} (h : ends m) : tr (tl m) = m := by
  rcases h with rfl | ⟨⟨d, e, h1, hd⟩, ⟨e', d', h2, hd'⟩⟩
  · rfl
  · have : tl m = m := by rw [h1, tl_cons, if_neg hd]
    rw [this, h2, tr_snoc, if_neg hd']
theorem trim_mid {a m b : List UInt8} (ha : blnk a) (hb : blnk b) (h : ends m) : tr (tl (a ++ (m ++ b))) = m := by
  rw [tl_blank _ _ ha]
  rcases h with rfl | ⟨⟨d, e, h1, hd⟩, h2⟩
  · rw [List.nil_append]
    have : tl (b ++ []) = tl [] := tl_blank b [] hb
    rw [List.append_nil] at this
    rw [this]; rfl
  · have : tl (m ++ b) = m ++ b := by rw [h1, List.cons_append, tl_cons, if_neg hd]
    rw [this, tr_blank _ _ hb]
    obtain ⟨e', d', h2, hd'⟩ := h2
    rw [h2, tr_snoc, if_neg hd']
theorem list_trim (s : ByteArray) : (trimS s).data.toList = tr (tl s.data.toList) := by unfold trimS; simp
theorem list_slim (s : ByteArray) : (slimS s).data.toList = sq s.data.toList [] false := by unfold slimS; simp
theorem trimS_ends {s : ByteArray} (h : ends s.data.toList) : trimS s = s := ext_lists (by rw [list_trim, trim_ends h])

theorem name_all {l : ByteArray} (h : nameB l = true) : 1 ≤ l.size ∧ l.size ≤ 16 ∧ ∀ x ∈ l.data.toList, nbB (x.toNat : Int) = true := by
  have h := of_decide_eq_true (show decide _ = true from h)
  refine ⟨h.1, h.2.1, fun x hx => ?_⟩
  obtain ⟨k, hk, rfl⟩ := List.getElem_of_mem hx
  have hk' : k < l.size := by rw [← size_list]; exact hk
  exact h.2.2.2 k hk'
theorem nb_not {c : UInt8} {l : List UInt8} (h : ∀ x ∈ l, nbB (x.toNat : Int) = true) (hc : nbB (c.toNat : Int) = false) : c ∉ l := fun hm => by have := h c hm; rw [hc] at this; cases this
theorem nb_ends {l : List UInt8} (h : ∀ x ∈ l, nbB (x.toNat : Int) = true) : ends l := by
  cases l with
  | nil => exact .inl rfl
  | cons d e =>
    refine .inr ⟨⟨d, e, rfl, fun hd => ?_⟩, ?_⟩
    · have := h d (by simp); rw [hd] at this; revert this; decide
    · rcases List.eq_nil_or_concat (d :: e) with h0 | ⟨r, x, h0⟩
      · cases h0
      · rw [List.concat_eq_append] at h0
        refine ⟨r, x, h0, fun hx => ?_⟩
        have := h x (by rw [h0]; simp)
        rw [hx] at this; revert this; decide
theorem lets_all {o : ByteArray} (h : letsB o = true) : ∀ x ∈ o.data.toList, lowB (x.toNat : Int) = true := fun x hx => by
  have h := of_decide_eq_true (show decide _ = true from h)
  obtain ⟨k, hk, rfl⟩ := List.getElem_of_mem hx
  have hk' : k < o.size := by rw [← size_list]; exact hk
  have := h k hk'
  rw [num_list o hk] at this
  exact this
theorem low_nb {x : UInt8} (h : lowB (x.toNat : Int) = true) : nbB (x.toNat : Int) = true ∧ decB (x.toNat : Int) = false := by
  have h := of_decide_eq_true (show decide _ = true from h)
  exact ⟨decide_eq_true (by omega), decide_eq_false (by omega)⟩
theorem name_lets {o : ByteArray} (h : letsB o = true) (h1 : 0 < o.size) (h2 : o.size ≤ 16) : nameB o = true := by
  refine decide_eq_true ⟨h1, h2, fun h0 => ?_, fun j hj => ?_⟩
  · exact (low_nb (lets_all h (o[0]) (by
      have : o[0] = o.data.toList[0]'(by rw [size_list]; exact h0) := rfl
      rw [this]; exact List.getElem_mem _))).2
  · exact (low_nb (lets_all h (o[j]) (by
      have : o[j] = o.data.toList[j]'(by rw [size_list]; exact hj) := rfl
      rw [this]; exact List.getElem_mem _))).1

/-- Args in their form, behind a byte. -/
def good : UInt8 → List UInt8 → Prop
  | p, [] => p ≠ 32
  | p, c :: r => (¬ (p = 32 ∧ (c = 32 ∨ c = 44)) ∧ ¬ (p = 44 ∧ c = 32)) ∧ good c r
theorem ok_good {a : ByteArray} (h : okB a = true) : good 44 a.data.toList ∧ ∀ x ∈ a.data.toList, x ≠ 59 := by
  have h := of_decide_eq_true (show decide _ = true from h)
  have hs := size_list a
  have key : ∀ n k, a.size - k = n → k ≤ a.size → ∀ p : UInt8, (p.toNat : Int) = lastI a k → good p (a.data.toList.drop k) := by
    intro n
    induction n with
    | zero =>
      intro k hn hk p hp
      have e : k = a.size := by omega
      rw [List.drop_eq_nil_of_le (by omega)]
      show p ≠ 32
      intro e32
      apply h.2
      rw [← e, ← hp, e32]; rfl
    | succ n ih =>
      intro k hn hk p hp
      have hlt : k < a.size := by omega
      have hkl : k < a.data.toList.length := by omega
      rw [List.drop_eq_getElem_cons hkl]
      have hst := h.1 k hlt
      unfold stepB at hst
      rw [Bool.and_eq_true] at hst
      have hpr := of_decide_eq_true (show decide _ = true from hst.2)
      rw [num_list a hkl] at hpr
      refine ⟨?_, ih (k + 1) (by omega) (by omega) _ (by rw [lastI_succ, num_list a hkl])⟩
      have c1 : ∀ (x : UInt8) (n : UInt8), x = n ↔ (x.toNat : Int) = (n.toNat : Int) := fun x n => ⟨fun e => by rw [e], fun e => UInt8.toNat_inj.1 (by omega)⟩
      rw [c1 p 32, c1 _ 32, c1 _ 44, c1 p 44, hp]
      exact hpr
  refine ⟨?_, fun x hx => ?_⟩
  · have := key a.size 0 (by omega) (Nat.zero_le _) 44 rfl
    rwa [List.drop_zero] at this
  · obtain ⟨k, hk, rfl⟩ := List.getElem_of_mem hx
    have hst := h.1 k (by omega)
    unfold stepB at hst
    rw [Bool.and_eq_true] at hst
    have hpl := of_decide_eq_true (show decide _ = true from hst.1)
    rw [num_list a hk] at hpl
    intro e
    rw [e] at hpl
    exact hpl.2.2 rfl
def prev (A : List UInt8) : UInt8 := if A = [] then 44 else lst A
theorem prev_snoc (A : List UInt8) (c : UInt8) : prev (A ++ [c]) = c := by unfold prev; rw [if_neg (by simp), lst_snoc]
theorem sq_good : ∀ (n : Nat) (r A : List UInt8), r.length = n → good (prev A) r → prev A ≠ 32 → sq r A false = A ++ r := by
  intro n
  induction n using Nat.strongRecOn with
  | _ n ih =>
    intro r A hn hg hp
    match r, hg with
    | [], _ => rw [sq, List.append_nil]
    | c :: r, hg =>
      obtain ⟨⟨g1, g2⟩, g3⟩ := hg
      by_cases hc : c = 32
      · subst hc
        rw [sq, if_pos rfl]
        match r, g3 with
        | [], g3 => exact absurd rfl g3
        | d :: r, ⟨⟨k1, k2⟩, k3⟩ =>
          have hd32 : d ≠ 32 := fun e => k1 ⟨rfl, .inl e⟩
          have hd44 : d ≠ 44 := fun e => k1 ⟨rfl, .inr e⟩
          have hA : A ≠ [] := fun e => g2 ⟨by rw [e]; rfl, rfl⟩
          have hl : lst A ≠ 44 := fun e => g2 ⟨by unfold prev; rw [if_neg hA]; exact e, rfl⟩
          rw [sq, if_neg hd32, if_pos ⟨hd44, rfl, hA, hl⟩]
          have e2 : A ++ [32, d] = A ++ [32] ++ [d] := by simp
          rw [e2, ih r.length (by rw [← hn]; simp; omega) r _ rfl (by rw [prev_snoc]; exact k3) (by rw [prev_snoc]; exact hd32)]
          simp
      · rw [sq, if_neg hc, if_neg (by rintro ⟨_, h, _⟩; cases h), ih r.length (by rw [← hn]; simp) r _ rfl (by rw [prev_snoc]; exact g3) (by rw [prev_snoc]; exact hc)]
        simp
theorem good_slim {a : ByteArray} (h : okB a = true) : slimS a = a := ext_lists (by
  rw [list_slim, sq_good _ _ [] rfl (ok_good h).1 (by decide)]; rfl)
theorem good_last : ∀ (l : List UInt8) (p : UInt8), good p l → ∀ e d, l = e ++ [d] → d ≠ 32
  | [], _, _, e, d, h => by simp at h
  | c :: r, p, hg, e, d, h => by
    cases e with
    | nil =>
      simp at h
      obtain ⟨rfl, rfl⟩ := h
      exact hg.2
    | cons x e =>
      simp at h
      exact good_last r c hg.2 e d h.2
theorem good_head {c : UInt8} {r : List UInt8} (h : good 44 (c :: r)) : c ≠ 32 := fun e => h.1.2 ⟨rfl, e⟩
theorem snoc_of {l : List UInt8} (h : l ≠ []) : ∃ e d, l = e ++ [d] := by
  rcases List.eq_nil_or_concat l with h0 | ⟨r, x, h0⟩
  · exact absurd h0 h
  · exact ⟨r, x, by rw [h0, List.concat_eq_append]⟩
end Go.Proofs.YtcjipfjbbdbbgaaDoor.Round
