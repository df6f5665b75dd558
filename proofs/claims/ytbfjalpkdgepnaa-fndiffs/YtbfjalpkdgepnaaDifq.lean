/-
  Pure: what is told to differ, put into the one, is the other.
-/
import Derived.Test.YtbfjalpkdgepnaaDifp
import Derived.Test.YtbfjalpkdgepnaaAppq
namespace Go.Proofs.Ytbfjalpkdgepnaa.Difq
open Difp Appn Appp
open Rowb (over over_get over_length)
set_option linter.unusedVariables false
theorem num_n3 {n : Nat} (h : n < 16777216) : num (n3 n) = n := by
  unfold num n3
  simp only [List.foldl_cons, List.foldl_nil, UInt8.toNat_ofNat']
  omega
theorem num_n2 {n : Nat} (h : n < 65536) : num (n2 n) = n := by
  unfold num n2
  simp only [List.foldl_cons, List.foldl_nil, UInt8.toNat_ofNat']
  omega
theorem next_enc {p : Nat × ByteArray} (h1 : p.1 < 16777216) (h2 : p.2.size < 65536) (r : List UInt8) : nextP (enc p ++ r) = (p.1, p.2.data.toList, r) := by
  have l3 : (n3 p.1).length = 3 := rfl
  have l2 : (n2 p.2.size).length = 2 := rfl
  have lp : p.2.data.toList.length = p.2.size := Array.length_toList
  have e0 : enc p ++ r = n3 p.1 ++ (n2 p.2.size ++ (p.2.data.toList ++ r)) := by unfold enc; simp
  have e1 : (enc p ++ r).take 3 = n3 p.1 := by rw [e0]; exact List.take_left' l3
  have e2 : (enc p ++ r).drop 3 = n2 p.2.size ++ (p.2.data.toList ++ r) := by rw [e0]; exact List.drop_left' l3
  have e3 : ((enc p ++ r).drop 3).take 2 = n2 p.2.size := by rw [e2]; exact List.take_left' l2
  have e5 : (enc p ++ r).drop 5 = p.2.data.toList ++ r := by
    rw [show 5 = 3 + 2 from rfl, ← List.drop_drop, e2]; exact List.drop_left' l2
  have hl : (enc p ++ r).length = 5 + p.2.size + r.length := by rw [List.length_append, enc_len]
  unfold nextP
  rw [e1, e3, num_n2 h2, num_n3 h1, hl, if_neg (by omega), if_neg (by omega), ← List.drop_drop, e5, List.take_left' lp, List.drop_left' lp]
def mp (l : List (Nat × ByteArray)) : List (Nat × List UInt8) := l.map fun p => (p.1, p.2.data.toList)
theorem enc_ne (p : Nat × ByteArray) (r : List UInt8) : enc p ++ r ≠ [] := fun h => by
  have := congrArg List.length h
  rw [List.length_append, enc_len] at this
  simp at this
theorem pcs_body : ∀ (l : List (Nat × ByteArray)), (∀ p ∈ l, p.1 < 16777216 ∧ p.2.size < 65536) → PcsOf (body l) = mp l
  | [], _ => rfl
  | p :: l, h => by
    have hp := h p (by simp)
    have e : body (p :: l) = enc p ++ body l := by unfold body; rw [List.flatMap_cons]
    rw [e, PcsOf_cons (enc_ne _ _), next_enc hp.1 hp.2, pcs_body l fun q hq => h q (by simp [hq])]
    rfl
theorem pieces_small (a b : ByteArray) : ∀ f k, b.size ≤ k + f → ∀ p ∈ Pieces a b k, p.1 < b.size ∧ p.2.size ≤ b.size
  | 0, k, h, p, hp => by rw [pieces_end (by omega)] at hp; cases hp
  | f + 1, k, h, p, hp => by
    by_cases hk : k < b.size
    · by_cases h0 : gap a b k = 0
      · rw [pieces_skip hk h0] at hp; exact pieces_small a b f (k + 1) (by omega) p hp
      · rw [pieces_one hk h0] at hp
        rcases List.mem_cons.1 hp with rfl | hp
        · exact ⟨hk, by dsimp only; rw [ByteArray.size_extract]; omega⟩
        · exact pieces_small a b f (k + gap a b k + 1) (by omega) p hp
    · rw [pieces_end hk] at hp; cases hp
/-- So far it is b, behind it is a. -/
structure Half (a b : ByteArray) (k : Nat) (s : List UInt8) : Prop where
  len : s.length = b.size
  left : ∀ i, i < k → s[i]? = b.data.toList[i]?
  right : ∀ i, k ≤ i → i < a.size → i < b.size → s[i]? = a.data.toList[i]?
theorem Half.end {a b : ByteArray} {k : Nat} {s : List UInt8} (h : Half a b k s) (hk : b.size ≤ k) : s = b.data.toList := by
  apply List.ext_getElem?
  intro i
  by_cases hi : i < k
  · exact h.left i hi
  · rw [List.getElem?_eq_none (by rw [h.len]; omega), List.getElem?_eq_none (by rw [Array.length_toList]; show b.size ≤ i; omega)]
theorem get_at (s : ByteArray) (k : Nat) (h : k < s.size) : s.data.toList[k]? = some s[k] := by
  rw [List.getElem?_eq_getElem (by rw [Array.length_toList]; exact h)]; rfl
theorem Half.skip {a b : ByteArray} {k : Nat} {s : List UInt8} (h : Half a b k s) (ha : b.size ≤ k ∨ alike a b k = true) : Half a b (k + 1) s := by
  refine ⟨h.len, fun i hi => ?_, fun i hi => h.right i (by omega)⟩
  by_cases hik : i < k
  · exact h.left i hik
  · obtain rfl : i = k := by omega
    rcases ha with ha | ha
    · rw [List.getElem?_eq_none (by rw [h.len]; omega), List.getElem?_eq_none (by rw [Array.length_toList]; show b.size ≤ i; omega)]
    · unfold alike at ha
      obtain ⟨h1, h2, h3⟩ := of_decide_eq_true ha
      rw [h.right i (Nat.le_refl _) h1 h2, get_at a i h1, get_at b i h2, h3]
theorem Half.put {a b : ByteArray} {k n : Nat} {s : List UInt8} (h : Half a b k s) (hn : k + n ≤ b.size) : Half a b (k + n) (over s k (b.extract k (k + n)).data.toList) := by
  have e : (b.extract k (k + n)).data.toList = (b.data.toList.drop k).take n := by
    rw [ByteArray.data_extract, Array.toList_extract, List.extract_eq_take_drop, Nat.add_sub_cancel_left]
  have hl : b.data.toList.length = b.size := Array.length_toList
  have el : ((b.data.toList.drop k).take n).length = n := by rw [List.length_take, List.length_drop]; omega
  have hs := h.len
  rw [e]
  refine ⟨by rw [over_length _ _ _ (by omega)]; exact hs, fun i hi => ?_, fun i hi h1 h2 => ?_⟩
  · rw [over_get _ _ _ _ (by omega)]
    by_cases hik : i < k
    · rw [if_pos hik]; exact h.left i hik
    · rw [if_neg hik, if_pos (by omega), List.getElem?_take, if_pos (by omega), List.getElem?_drop, show k + (i - k) = i by omega]
  · rw [over_get _ _ _ _ (by omega), if_neg (by omega), if_neg (by omega)]; exact h.right i (by omega) h1 h2
theorem fold_half (a b : ByteArray) : ∀ f k (s : S), b.size ≤ k + f → s.2 ≤ k → Half a b k s.1 → ∃ e, fold b.size s (mp (Pieces a b k)) = some (b.data.toList, e)
  | 0, k, s, h, _, hh => by rw [pieces_end (by omega)]; exact ⟨s.2, by rw [← hh.end (by omega)]; rfl⟩
  | f + 1, k, s, h, hs, hh => by
    by_cases hk : k < b.size
    · obtain ⟨g1, g2, g3⟩ := gap_spec (a := a) (b := b) (k := k) (by omega)
      by_cases h0 : gap a b k = 0
      · rw [pieces_skip hk h0]
        rw [h0, Nat.add_zero] at g3
        exact fold_half a b f (k + 1) s (by omega) (by omega) (hh.skip g3)
      · rw [pieces_one hk h0]
        have hz : (b.extract k (k + gap a b k)).data.toList.length = gap a b k := by
          rw [Array.length_toList]; show (b.extract k (k + gap a b k)).size = _; rw [ByteArray.size_extract]; omega
        obtain ⟨e, he⟩ := fold_half a b f (k + gap a b k + 1) (over s.1 k (b.extract k (k + gap a b k)).data.toList, k + (b.extract k (k + gap a b k)).data.toList.length) (by omega) (by dsimp only; omega) ((hh.put g1).skip g3)
        refine ⟨e, ?_⟩
        show fold b.size s ((k, (b.extract k (k + gap a b k)).data.toList) :: mp (Pieces a b (k + gap a b k + 1))) = _
        refine Appq.fold_cons.2 ⟨?_, he⟩
        rintro (h1 | h1 | h1)
        · dsimp only at h1; rw [h1] at hz; exact h0 hz.symm
        · dsimp only at h1; omega
        · dsimp only at h1; omega
    · rw [pieces_end hk]; exact ⟨s.2, by rw [← hh.end (by omega)]; rfl⟩
theorem half_start (a b : ByteArray) : Half a b 0 (Appp.start b.size a) := by
  refine ⟨start_len _ _, fun i hi => by omega, fun i _ h1 h2 => ?_⟩
  have hl : a.data.toList.length = a.size := Array.length_toList
  unfold Appp.start
  rw [over_get _ _ _ _ (by simp), if_neg (by omega), if_pos (by rw [List.length_take]; omega), Nat.sub_zero, List.getElem?_take, if_pos h2]
theorem ext_eq (l : List UInt8) (i j : Nat) : ((⟨l.toArray⟩ : ByteArray).extract i j).data.toList = (l.drop i).take (j - i) := by
  rw [ByteArray.data_extract, Array.toList_extract, List.extract_eq_take_drop]
theorem ba_eq {s t : ByteArray} (h : s.data.toList = t.data.toList) : s = t := ByteArray.ext (Array.toList_inj.1 h)
/-- The diff, taken apart. -/
theorem apart {a b : ByteArray} {d : ByteArray} (hd : d = ⟨(diffL a b).toArray⟩) (hb : b.size ≤ 20000) : d.size = 10 + (body (Pieces a b 0)).length ∧ d.extract 0 4 = DIFF ∧ d.extract (d.size - 6) (d.size - 3) = END ∧ allOf d = b.size ∧ (mid d).data.toList = body (Pieces a b 0) := by
  have hl : (diffL a b).length = 10 + (body (Pieces a b 0)).length := by
    unfold diffL; simp only [List.length_append, List.length_cons, List.length_nil, n3]; omega
  have hz : d.size = 10 + (body (Pieces a b 0)).length := by rw [hd]; show (diffL a b).toArray.size = _; rw [List.size_toArray]; exact hl
  obtain ⟨m, hm⟩ : ∃ m, m = (body (Pieces a b 0)).length := ⟨_, rfl⟩
  rw [← hm] at hz
  have d4 : (diffL a b).drop 4 = body (Pieces a b 0) ++ ([69, 78, 68] ++ n3 b.size) := rfl
  have dm : (diffL a b).drop (4 + m) = [69, 78, 68] ++ n3 b.size := by rw [← List.drop_drop, d4]; exact List.drop_left' hm.symm
  have d7 : (diffL a b).drop (4 + m + 3) = n3 b.size := by rw [← List.drop_drop, dm]; rfl
  refine ⟨by rw [← hm]; exact hz, ?_, ?_, ?_, ?_⟩
  · apply ba_eq; rw [hd, ext_eq]; rfl
  · apply ba_eq; rw [hz, hd, ext_eq, show 10 + m - 6 = 4 + m by omega, dm, show 10 + m - 3 - (4 + m) = 3 by omega]; rfl
  · unfold allOf
    rw [hz, hd, ext_eq, show 10 + m - 3 = 4 + m + 3 by omega, d7, List.take_of_length_le (by simp [n3]; omega)]
    exact num_n3 (by omega)
  · unfold mid
    rw [hz, hd, ext_eq, d4, show 10 + m - 6 - 4 = m by omega]; exact List.take_left' hm.symm
/-- What is told to differ, put into the one, is the other. -/
theorem back {a b : ByteArray} (ha : a.size ≤ 20000) (hb : b.size ≤ 20000) (hs : (Difp.outV a b).size ≤ 80000) : Difp.outB a b = true ∧ Appp.outV a (Difp.outV a b) = b ∧ Appp.outB a (Difp.outV a b) = true := by
  have ho := out_yes (a := a) (b := b) ⟨ha, hb⟩
  obtain ⟨a1, a2, a3, a4, a5⟩ := apart (a := a) (b := b) ho.1 hb
  generalize Difp.outV a b = d at *
  have hf : Appp.Form a d := ⟨ha, by omega, hs, a2, a3, by rw [a4]; exact hb⟩
  obtain ⟨e, he⟩ := fold_half a b b.size 0 (Appp.start b.size a, 0) (by omega) (Nat.le_refl _) (half_start a b)
  have hy := yes_fold hf (s := (b.data.toList, e)) (by
    rw [a4, a5, pcs_body _ (fun p hp => by have := pieces_small a b b.size 0 (by omega) p hp; omega)]
    exact he)
  exact ⟨ho.2, hy.1, hy.2⟩
theorem alike_self (a : ByteArray) {k : Nat} (h : k < a.size) : alike a a k = true := by
  unfold alike; exact decide_eq_true ⟨h, h, rfl⟩
theorem pieces_self (a : ByteArray) : ∀ f k, a.size ≤ k + f → Pieces a a k = []
  | 0, k, h => pieces_end (by omega)
  | f + 1, k, h => by
    by_cases hk : k < a.size
    · rw [pieces_skip hk (gap_zero (alike_self a hk))]; exact pieces_self a f (k + 1) (by omega)
    · exact pieces_end hk
theorem same_size {a : ByteArray} (ha : a.size ≤ 20000) : (Difp.outV a a).size = 10 := by
  have ho := out_yes (a := a) (b := a) ⟨ha, ha⟩
  have := (apart (a := a) (b := a) ho.1 ha).1
  rw [pieces_self a a.size 0 (by omega)] at this
  exact this
end Go.Proofs.Ytbfjalpkdgepnaa.Difq
