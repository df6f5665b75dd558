/-
  Of ours, without the program: no two codes have one text; a right instruction comes back from its text, and what is read has just its text.
-/
import Derived.Test.YtoajaadobieekaaGreatDoorTwia
namespace Go.Proofs.YtoajaadobieekaaGreatDoor.Twin
open Go.ChangeShapes Go.WideShapes Go.ChangeAt Go.RowKit
open Signed (inB)
open HoleX (n8 n16 e8 holeT holeP)
open HolI LenX InsX Texi Fits Like Rinst Fitz Rinsu Same Rinsw Twia
set_option linter.unusedVariables false
set_option maxRecDepth 100000

theorem hn_cases (k : Nat) : hn k = 0 ∨ hn k = 1 ∨ hn k = 2 ∨ hn k = 3 := by
  unfold hn
  repeat' split
  all_goals simp
theorem apart_no : ∀ (p : List Nat) (c : Nat) (r : List Nat), opens c = true → apart p (p ++ c :: r) = false
  | [], c, r, h => by simp [apart, h]
  | a :: p, c, r, h => by simp [apart, apart_no p c r h]
theorem in_holes {k : Nat} (hk : k < 512) (h : ¬ hn k = 0) : k ∈ holes := by
  have := List.all_eq_true.1 holes_all k (List.mem_range.2 hk)
  simp only [Bool.or_eq_true] at this
  rcases this with x | x
  · exact absurd (Nat.eq_of_beq_eq_true x) h
  · simpa using x
theorem pair_at {k j : Nat} (hk : k < 512) (hj : j < 512) (h1 : ¬ hn k = 0) (h2 : ¬ hn j = 0) : apart (an k) (an j) = true ∧ (an k = an j → k = j ∨ (hn k = hn j ∧ ¬ hn k = 3 ∧ ¬ zn k = zn j)) := by
  have h := List.all_eq_true.1 (List.all_eq_true.1 pairs_all k (in_holes hk h1)) j (in_holes hj h2)
  simp only [Bool.and_eq_true, Bool.or_eq_true] at h
  refine ⟨h.1, fun e => ?_⟩
  rcases h.2 with x | x | x
  · rw [e, eqL_self] at x; cases x
  · exact .inl (Nat.eq_of_beq_eq_true x)
  · refine .inr ⟨Nat.eq_of_beq_eq_true x.1.1, fun e3 => ?_, fun ez => ?_⟩
    · have := x.1.2; rw [e3] at this; cases this
    · have := x.2; rw [ez, eqL_self] at this; cases this
theorem plain_at {k j : Nat} (hk : k < 512) (hj : j < 512) (h1 : ¬ hn k = 0) (h2 : hn j = 0) : apart (an k) (tn j) = true := by
  have h := List.all_eq_true.1 (List.all_eq_true.1 plain_all k (in_holes hk h1)) j (List.mem_range.2 hj)
  simp only [Bool.or_eq_true] at h
  rcases h with x | x
  · rw [h2] at x; cases x
  · exact x

theorem nums_append (a b : ByteArray) : nums (a ++ b) = nums a ++ nums b := by unfold nums; simp [ByteArray.data_append]
theorem nums_inj {a b : ByteArray} (h : nums a = nums b) : a = b := by
  apply ext_of
  unfold nums at h
  exact List.map_inj_right (fun x y => UInt8.toNat_inj.1) |>.1 h
theorem nums_len (a : ByteArray) : (nums a).length = a.size := by unfold nums; rw [List.length_map]; exact len_of a
/-- What is filled in: how it opens, how long it is. -/
theorem new_at {v : Int} (h0 : 0 ≤ v) (h1 : v ≤ 255) : (∃ x ∈ (nums (newV e8 v)).head?, opens x = true) ∧ (∃ x ∈ (nums (newV n8 v)).head?, opens x = true) ∧ (newV n8 v).size = 3 ∧ (newV e8 v).size ≤ 5 := by
  have := new_all ⟨v.toNat, by omega⟩
  rwa [show ((⟨v.toNat, by omega⟩ : Fin 256).val : Int) = v by show ((v.toNat : Nat) : Int) = v; omega] at this
theorem new_four {v : Int} (h0 : 0 ≤ v) (h1 : v ≤ 65535) : (∃ x ∈ (nums (newV n16 v)).head?, opens x = true) ∧ (newV n16 v).size = 5 := by
  have hg : (1 : Int) ≤ 4 ∧ (4 : Int) ≤ 4 ∧ 0 ≤ v ∧ v ≤ 65535 ∧ v / Hex.pw 4 = 0 := ⟨by decide, by decide, h0, h1, by unfold Hex.pw; show v / (16 ^ 4) = 0; omega⟩
  have e : newV n16 v = Hex.hexS v 4 := rfl
  obtain ⟨e1, e2⟩ := Hexn.num_hex hg
  rw [e]
  refine ⟨⟨36, ?_, rfl⟩, by omega⟩
  rw [Hex.hexS_yes hg]
  unfold nums
  rw [strOfNums_data, List.map_cons]
  rfl
theorem new_of {k : Nat} {v : Int} (ho : okV (codeK k) (cbK k) v = true) (hh : ¬ hn k = 0) :
    ∃ c r, nums (newV (hole (codeK k) (cbK k)) v) = c :: r ∧ opens c = true ∧ (hn k = 1 → (newV (hole (codeK k) (cbK k)) v).size = 3) ∧ (hn k = 2 → (newV (hole (codeK k) (cbK k)) v).size = 5) ∧ (newV (hole (codeK k) (cbK k)) v).size ≤ 5 := by
  have cons : ∀ l : List Nat, (∃ x ∈ l.head?, opens x = true) → ∃ c r, l = c :: r ∧ opens c = true := by
    intro l ⟨x, hx, hp⟩
    cases l with
    | nil => simp at hx
    | cons a l => simp at hx; subst hx; exact ⟨_, _, rfl, hp⟩
  have hz : ¬ (hole (codeK k) (cbK k)).size = 0 := fun e => hh (by unfold hn; rw [if_pos e])
  unfold okV at ho
  split at ho
  · cases ho
  try rw [if_neg hz] at ho
  unfold hn
  rcases hole_cases (codeK k) (cbK k) with h | h | h | h
  · rw [h] at ho ⊢
    rw [if_neg (by decide)] at ho
    have hv := of_decide_eq_true ho
    obtain ⟨a, b, c, d⟩ := new_at hv.1 hv.2
    obtain ⟨x, r, h1, h2⟩ := cons _ b
    exact ⟨x, r, h1, h2, fun _ => c, fun e => absurd e (by decide), by show (newV n8 v).size ≤ 5; omega⟩
  · rw [h] at ho ⊢
    rw [if_pos (show (⟨#[110, 49, 54]⟩ : ByteArray) = n16 from rfl)] at ho
    have hv := of_decide_eq_true ho
    obtain ⟨a, b⟩ := new_four hv.1 hv.2
    obtain ⟨x, r, h1, h2⟩ := cons _ a
    exact ⟨x, r, h1, h2, fun e => absurd e (by decide), fun _ => b, by show (newV n16 v).size ≤ 5; omega⟩
  · rw [h] at ho ⊢
    rw [if_neg (by decide)] at ho
    have hv := of_decide_eq_true ho
    obtain ⟨a, b, c, d⟩ := new_at hv.1 hv.2
    obtain ⟨x, r, h1, h2⟩ := cons _ a
    exact ⟨x, r, h1, h2, fun e => absurd e (by decide), fun e => absurd e (by decide), d⟩
  · rw [h] at hz
    exact absurd rfl hz
/-- The text of a right instruction, as a list of numbers. -/
theorem text_of {k : Nat} {v : Int} (ho : okV (codeK k) (cbK k) v = true) : (hn k = 0 → v = 0 ∧ nums (textV (codeK k) (cbK k) v) = tn k) ∧
    (¬ hn k = 0 → nums (textV (codeK k) (cbK k) v) = an k ++ nums (newV (hole (codeK k) (cbK k)) v) ++ zn k) := by
  have hz : hn k = 0 ↔ (hole (codeK k) (cbK k)).size = 0 := by
    unfold hn
    constructor
    · intro e
      split at e
      · assumption
      · split at e
        · cases e
        · split at e <;> cases e
    · intro e; rw [if_pos e]
  constructor
  · intro h
    have h' := hz.1 h
    have hv : v = 0 := by
      unfold okV at ho
      split at ho
      · cases ho
      try rw [if_pos h'] at ho
      exact of_decide_eq_true ho
    refine ⟨hv, ?_⟩
    unfold textV
    rw [if_neg (by rw [ho]; decide), if_pos h']
    rfl
  · intro h
    have h' : ¬ (hole (codeK k) (cbK k)).size = 0 := fun e => h (hz.2 e)
    unfold textV
    rw [if_neg (by rw [ho]; decide), if_neg h']
    unfold put
    rw [nums_append, nums_append]
    rfl
theorem len_at {k : Nat} (hk : k < 512) : (tn k).length ≤ 15 ∧ (an k).length + (zn k).length ≤ 15 := by
  have := List.all_eq_true.1 len_all k (List.mem_range.2 hk)
  simp only [Bool.and_eq_true] at this
  exact ⟨Nat.le_of_ble_eq_true this.1, Nat.le_of_ble_eq_true this.2⟩
theorem text_le {k : Nat} {v : Int} (hk : k < 512) (ho : okV (codeK k) (cbK k) v = true) : (textV (codeK k) (cbK k) v).size ≤ 20 := by
  rw [← nums_len]
  obtain ⟨a, b⟩ := len_at hk
  by_cases h : hn k = 0
  · rw [((text_of ho).1 h).2]; omega
  · obtain ⟨c, r, h1, h2, _, _, h5⟩ := new_of ho h
    rw [(text_of ho).2 h, List.length_append, List.length_append, nums_len]
    omega
theorem prefix_cases {a b x y : List Nat} (h : a ++ x = b ++ y) : (∃ d, b = a ++ d ∧ x = d ++ y) ∨ (∃ d, a = b ++ d ∧ y = d ++ x) := by
  rcases List.append_eq_append_iff.1 h with ⟨d, h1, h2⟩ | ⟨d, h1, h2⟩
  · exact .inl ⟨d, h1, h2⟩
  · exact .inr ⟨d, h1, h2⟩
theorem hole_vs_hole {k j : Nat} {v u : Int} (hk : k < 512) (hj : j < 512) (ho : okV (codeK k) (cbK k) v = true) (hp : okV (codeK j) (cbK j) u = true) (h1 : ¬ hn k = 0) (h2 : ¬ hn j = 0)
    (h : textV (codeK k) (cbK k) v = textV (codeK j) (cbK j) u) : k = j := by
  have e := congrArg nums h
  rw [(text_of ho).2 h1, (text_of hp).2 h2, List.append_assoc, List.append_assoc] at e
  obtain ⟨c, r, n1, o1, s3, s5, _⟩ := new_of ho h1
  obtain ⟨c', r', n1', o1', s3', s5', _⟩ := new_of hp h2
  obtain ⟨a1, a2⟩ := pair_at hk hj h1 h2
  obtain ⟨a1', _⟩ := pair_at hj hk h2 h1
  have same : an k = an j → k = j := by
    intro ea
    rcases a2 ea with x | ⟨x, y, z⟩
    · exact x
    · exfalso
      rw [ea] at e
      have e := List.append_cancel_left e
      have hl : (nums (newV (hole (codeK k) (cbK k)) v)).length = (nums (newV (hole (codeK j) (cbK j)) u)).length := by
        rw [nums_len, nums_len]
        have hk3 : hn k = 1 ∨ hn k = 2 := by have := hn_cases k; omega
        rcases hk3 with q | q
        · rw [s3 q, s3' (by omega)]
        · rw [s5 q, s5' (by omega)]
      exact z (List.append_inj e hl).2
  rcases prefix_cases e with ⟨d, d1, d2⟩ | ⟨d, d1, d2⟩
  · cases d with
    | nil => exact same (by rw [d1, List.append_nil])
    | cons x d =>
      exfalso
      rw [n1] at d2
      simp only [List.cons_append, List.cons.injEq] at d2
      rw [d1, ← d2.1, apart_no _ _ _ o1] at a1
      cases a1
  · cases d with
    | nil => exact same (by rw [d1, List.append_nil])
    | cons x d =>
      exfalso
      rw [n1'] at d2
      simp only [List.cons_append, List.cons.injEq] at d2
      rw [d1, ← d2.1, apart_no _ _ _ o1'] at a1'
      cases a1'
theorem hole_vs_plain {k j : Nat} {v u : Int} (hk : k < 512) (hj : j < 512) (ho : okV (codeK k) (cbK k) v = true) (hp : okV (codeK j) (cbK j) u = true) (h1 : ¬ hn k = 0) (h2 : hn j = 0)
    (h : textV (codeK k) (cbK k) v = textV (codeK j) (cbK j) u) : False := by
  have e := congrArg nums h
  rw [(text_of ho).2 h1, ((text_of hp).1 h2).2, List.append_assoc] at e
  obtain ⟨c, r, n1, o1, _⟩ := new_of ho h1
  have a := plain_at hk hj h1 h2
  rw [← e, n1, List.cons_append, apart_no _ _ _ o1] at a
  cases a
theorem codeK_num {k : Nat} (hk : k < 512) : Uniq.num (codeK k) (cbK k) = k := by
  unfold Uniq.num codeK cbK
  by_cases h : 256 ≤ k
  · rw [decide_eq_true h, if_pos rfl]; omega
  · rw [decide_eq_false h, if_neg (by decide)]; omega
theorem text_uniq {k j : Nat} {v u : Int} (hk : k < 512) (hj : j < 512) (ho : okV (codeK k) (cbK k) v = true) (hp : okV (codeK j) (cbK j) u = true)
    (h : textV (codeK k) (cbK k) v = textV (codeK j) (cbK j) u) : k = j := by
  by_cases h1 : hn k = 0
  · by_cases h2 : hn j = 0
    · have e := congrArg nums h
      rw [((text_of ho).1 h1).2, ((text_of hp).1 h2).2] at e
      have e := nums_inj e
      have ck := code_bd k
      have cj := code_bd j
      obtain ⟨_, _, q, _, _, qt, _⟩ := at_hole ho
      obtain ⟨_, _, q', _, _, qt', _⟩ := at_hole hp
      have := Uniq.uniq (c := codeK k) (d := codeK j) (a := cbK k) (b := cbK j) (decide_eq_true ck) (decide_eq_true cj) (by rw [qt, qt', e]) (by rw [qt]; exact q)
      rw [← codeK_num hk, ← codeK_num hj, this.1, this.2]
    · exact absurd h.symm (fun h => hole_vs_plain hj hk hp ho h2 h1 h)
  · by_cases h2 : hn j = 0
    · exact absurd h (fun h => hole_vs_plain hk hj ho hp h1 h2 h)
    · exact hole_vs_hole hk hj ho hp h1 h2 h
theorem firstK_some {f : Nat → Bool} : ∀ (n k : Nat) {m : Nat}, k ≤ m → m < k + n → f m = true → ∃ j, firstK f n k = some j ∧ k ≤ j ∧ j < k + n
  | 0, k, m, h0, h1, _ => by omega
  | n + 1, k, m, h0, h1, hm => by
    unfold firstK
    by_cases hf : f k = true
    · rw [if_pos hf]; exact ⟨k, rfl, by omega, by omega⟩
    · rw [if_neg hf]
      have hne : ¬ m = k := fun e => hf (e ▸ hm)
      obtain ⟨j, h1', h2', h3'⟩ := firstK_some n (k + 1) (m := m) (by omega) (by omega) hm
      exact ⟨j, h1', by omega, by omega⟩
theorem firstK_lt {f : Nat → Bool} : ∀ (n k : Nat) {m : Nat}, firstK f n k = some m → m < k + n
  | 0, _, _, h => by cases h
  | n + 1, k, m, h => by
    unfold firstK at h
    split at h
    · cases h; omega
    · have := firstK_lt n (k + 1) h; omega
/-- What is read has just its text. -/
theorem read_text {s : ByteArray} {k : Nat} (h : res s = some k) : k < 512 ∧ textV (codeK k) (cbK k) (valS s (codeK k) (cbK k)) = s := by
  unfold res at h
  split at h
  · refine ⟨by have := firstK_lt _ _ h; omega, ?_⟩
    have hS := firstK_true _ _ h
    unfold kS flagS at hS
    split at hS
    · cases hS
    split at hS
    · cases hS
    exact eq_of_lists hS
  · cases h
theorem ok_of_text {k : Nat} {v : Int} {s : ByteArray} (h : textV (codeK k) (cbK k) v = s) (hs : ¬ s.size = 0) : okV (codeK k) (cbK k) v = true := by
  cases hb : okV (codeK k) (cbK k) v with
  | true => rfl
  | false =>
    exfalso
    apply hs
    rw [← h]
    unfold textV
    rw [if_pos hb]
    rfl
theorem text_pos {k : Nat} {v : Int} (ho : okV (codeK k) (cbK k) v = true) : ¬ (textV (codeK k) (cbK k) v).size = 0 := by
  rw [← nums_len]
  by_cases h : hn k = 0
  · rw [((text_of ho).1 h).2]
    unfold tn
    rw [nums_len]
    exact (at_hole ho).2.2.1
  · obtain ⟨c, r, n1, _⟩ := new_of ho h
    rw [(text_of ho).2 h, n1]
    simp
/-- A right instruction comes back from its text. -/
theorem text_back {k : Nat} {v : Int} (hk : k < 512) (ho : okV (codeK k) (cbK k) v = true) : res (textV (codeK k) (cbK k) v) = some k ∧ valS (textV (codeK k) (cbK k) v) (codeK k) (cbK k) = v := by
  have hp := text_pos ho
  have hle := text_le hk ho
  obtain ⟨b0, b1⟩ := code_bd k
  have hfv : kS (textV (codeK k) (cbK k) v) k = true ∧ valS (textV (codeK k) (cbK k) v) (codeK k) (cbK k) = v := by
    by_cases h : hn k = 0
    · obtain ⟨hv, ht⟩ := (text_of ho).1 h
      have ht := nums_inj ht
      have hz : (hole (codeK k) (cbK k)).size = 0 := by
        unfold hn at h
        split at h
        · assumption
        · split at h
          · cases h
          · split at h <;> cases h
      have hI : flagI (textV (codeK k) (cbK k) v) (codeK k) (cbK k) = true := by
        unfold flagI
        rw [if_pos hz, ht]
        exact lists_self _
      obtain ⟨s1, s2⟩ := same _ (codeK k) (cbK k) hp b0 b1
      refine ⟨by unfold kS; rw [← s1]; exact hI, ?_⟩
      rw [← s2 hI]
      unfold valI
      rw [if_pos hz, hv]
    · have hz : ¬ (hole (codeK k) (cbK k)).size = 0 := fun e => h (by unfold hn; rw [if_pos e])
      obtain ⟨k1, k2, k3, k4⟩ := key hp b0 b1 hz rfl
      exact ⟨k3, k4⟩
  obtain ⟨j, hj, j0, j1⟩ := firstK_some (f := kS (textV (codeK k) (cbK k) v)) 512 0 (m := k) (by omega) (by omega) hfv.1
  have hr : res (textV (codeK k) (cbK k) v) = some j := by unfold res; rw [if_pos hle]; exact hj
  obtain ⟨r0, r1⟩ := read_text hr
  have := text_uniq hk r0 ho (ok_of_text r1 hp) r1.symm
  subst this
  exact ⟨hr, hfv.2⟩
/-- The same, by a code and whether it stands behind 203. -/
theorem at_num {c : Int} (b : Bool) (h0 : 0 ≤ c) (h1 : c ≤ 255) : ∃ k, k < 512 ∧ codeK k = c ∧ cbK k = b := by
  refine ⟨c.toNat + (if b = true then 256 else 0), ?_, ?_, ?_⟩
  · split <;> omega
  · unfold codeK; split <;> omega
  · unfold cbK
    cases b
    · simp; omega
    · simp
theorem res_empty {s : ByteArray} (hs : s.size = 0) : res s = none := by
  unfold res
  rw [if_pos (by omega)]
  exact firstK_no (fun k => flag_empty hs (codeK k) (cbK k) (code_bd k).1 (code_bd k).2) 512 0
end Go.Proofs.YtoajaadobieekaaGreatDoor.Twin
