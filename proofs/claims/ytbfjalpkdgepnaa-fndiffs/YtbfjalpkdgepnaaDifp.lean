/-
  Pure: where two texts differ, as a list of pieces; a number in two and three bytes.
-/
import Derived.Test.YtbfjalpkdgepnaaRows
import Derived.WalkKit
namespace Go.Proofs.Ytbfjalpkdgepnaa.Difp
set_option linter.unusedVariables false
def alike (a b : ByteArray) (k : Nat) : Bool := decide (∃ (h : k < a.size) (h' : k < b.size), a[k] = b[k])
/-- How many bytes from a place on differ. -/
def dn (a b : ByteArray) : Nat → Nat → Nat
  | 0, _ => 0
  | f + 1, k => if k < b.size ∧ alike a b k = false then dn a b f (k + 1) + 1 else 0
def gap (a b : ByteArray) (k : Nat) : Nat := dn a b (b.size - k) k
theorem dn_eq (a b : ByteArray) : ∀ f k n, k + f = b.size ∨ (f = 0 ∧ b.size ≤ k) → k + n ≤ b.size ∨ n = 0 → (∀ i, i < n → alike a b (k + i) = false) → (b.size ≤ k + n ∨ alike a b (k + n) = true) → dn a b f k = n
  | 0, k, n, hf, hn, ha, he => by simp only [dn]; omega
  | f + 1, k, n, hf, hn, ha, he => by
    unfold dn
    cases n with
    | zero =>
      rw [if_neg]
      rintro ⟨h1, h2⟩
      rcases he with he | he
      · omega
      · rw [Nat.add_zero] at he; rw [h2] at he; cases he
    | succ n =>
      rw [if_pos ⟨by omega, by simpa using ha 0 (by omega)⟩, dn_eq a b f (k + 1) n (by omega) (by omega) (fun i hi => by have := ha (i + 1) (by omega); rwa [show k + (i + 1) = k + 1 + i by omega] at this) (by rw [show k + 1 + n = k + (n + 1) by omega]; exact he)]
theorem gap_eq {a b : ByteArray} {k n : Nat} (hn : k + n ≤ b.size) (ha : ∀ i, i < n → alike a b (k + i) = false) (he : b.size ≤ k + n ∨ alike a b (k + n) = true) : gap a b k = n :=
  dn_eq a b _ k n (by omega) (.inl hn) ha he
theorem dn_spec (a b : ByteArray) : ∀ f k, k + f = b.size → k + dn a b f k ≤ b.size ∧ (∀ i, i < dn a b f k → alike a b (k + i) = false) ∧ (b.size ≤ k + dn a b f k ∨ alike a b (k + dn a b f k) = true)
  | 0, k, h => ⟨by simp only [dn]; omega, fun i hi => by simp [dn] at hi, .inl (by simp only [dn]; omega)⟩
  | f + 1, k, h => by
    unfold dn
    split
    · rename_i hc
      obtain ⟨h1, h2, h3⟩ := dn_spec a b f (k + 1) (by omega)
      refine ⟨by omega, fun i hi => ?_, by rw [show k + (dn a b f (k + 1) + 1) = k + 1 + dn a b f (k + 1) by omega]; exact h3⟩
      cases i with
      | zero => exact hc.2
      | succ i => rw [show k + (i + 1) = k + 1 + i by omega]; exact h2 i (by omega)
    · rename_i hc
      refine ⟨by omega, fun i hi => by omega, .inr ?_⟩
      cases h' : alike a b k with
      | true => rfl
      | false => exact absurd ⟨by omega, h'⟩ hc
theorem gap_spec {a b : ByteArray} {k : Nat} (h : k ≤ b.size) : k + gap a b k ≤ b.size ∧ (∀ i, i < gap a b k → alike a b (k + i) = false) ∧ (b.size ≤ k + gap a b k ∨ alike a b (k + gap a b k) = true) := dn_spec a b _ k (by omega)
theorem gap_zero {a b : ByteArray} {k : Nat} (h : alike a b k = true) : gap a b k = 0 := by
  have h' := of_decide_eq_true h
  obtain ⟨h1, h2, _⟩ := h'
  exact gap_eq (by omega) (fun i hi => absurd hi (Nat.not_lt_zero _)) (.inr h)
/-- The pieces from a place on. -/
def ps (a b : ByteArray) : Nat → Nat → List (Nat × ByteArray)
  | 0, _ => []
  | f + 1, k => if k < b.size then (if gap a b k = 0 then ps a b f (k + 1) else (k, b.extract k (k + gap a b k)) :: ps a b f (k + gap a b k + 1)) else []
theorem ps_fuel (a b : ByteArray) : ∀ f g k, b.size ≤ k + f → b.size ≤ k + g → ps a b f k = ps a b g k
  | 0, 0, k, _, _ => rfl
  | 0, g + 1, k, h, _ => by unfold ps; rw [if_neg (by omega)]
  | f + 1, 0, k, _, h => by unfold ps; rw [if_neg (by omega)]
  | f + 1, g + 1, k, h, h' => by
    unfold ps
    split
    · split
      · exact ps_fuel a b f g (k + 1) (by omega) (by omega)
      · rw [ps_fuel a b f g (k + gap a b k + 1) (by omega) (by omega)]
    · rfl
def Pieces (a b : ByteArray) (k : Nat) : List (Nat × ByteArray) := ps a b (b.size - k) k
theorem pieces_end {a b : ByteArray} {k : Nat} (h : ¬ k < b.size) : Pieces a b k = [] := by
  unfold Pieces
  rw [show b.size - k = 0 by omega]; rfl
theorem pieces_skip {a b : ByteArray} {k : Nat} (h : k < b.size) (h0 : gap a b k = 0) : Pieces a b k = Pieces a b (k + 1) := by
  unfold Pieces
  rw [show b.size - k = (b.size - (k + 1)) + 1 by omega]
  conv => lhs; unfold ps
  rw [if_pos h, if_pos h0]
theorem pieces_one {a b : ByteArray} {k : Nat} (h : k < b.size) (h0 : gap a b k ≠ 0) : Pieces a b k = (k, b.extract k (k + gap a b k)) :: Pieces a b (k + gap a b k + 1) := by
  unfold Pieces
  rw [show b.size - k = (b.size - (k + 1)) + 1 by omega]
  conv => lhs; unfold ps
  rw [if_pos h, if_neg h0, ps_fuel a b _ (b.size - (k + gap a b k + 1)) _ (by omega) (by omega)]
theorem pieces_at {a b : ByteArray} {k : Nat} (h : k < b.size) (h0 : gap a b k ≠ 0) : Pieces a b (k + gap a b k) = Pieces a b (k + gap a b k + 1) := by
  obtain ⟨h1, _, h3⟩ := gap_spec (a := a) (b := b) (k := k) (by omega)
  by_cases hl : k + gap a b k < b.size
  · rcases h3 with h3 | h3
    · omega
    · exact pieces_skip hl (gap_zero h3)
  · rw [pieces_end hl, pieces_end (by omega)]
theorem pieces_len (a b : ByteArray) : ∀ f k, (ps a b f k).length ≤ f
  | 0, _ => Nat.le_refl _
  | f + 1, k => by
    unfold ps
    split
    · split
      · have := pieces_len a b f (k + 1); omega
      · have := pieces_len a b f (k + gap a b k + 1); simp; omega
    · simp
def n3 (n : Nat) : List UInt8 := [UInt8.ofNat (n / 65536 % 256), UInt8.ofNat (n / 256 % 256), UInt8.ofNat (n % 256)]
def n2 (n : Nat) : List UInt8 := [UInt8.ofNat (n / 256 % 256), UInt8.ofNat (n % 256)]
def enc (p : Nat × ByteArray) : List UInt8 := n3 p.1 ++ n2 p.2.size ++ p.2.data.toList
def body (l : List (Nat × ByteArray)) : List UInt8 := l.flatMap enc
def diffL (a b : ByteArray) : List UInt8 := [68, 73, 70, 70] ++ (body (Pieces a b 0) ++ ([69, 78, 68] ++ n3 b.size))
theorem enc_len (p : Nat × ByteArray) : (enc p).length = 5 + p.2.size := by
  have e : p.2.data.toList.length = p.2.size := Array.length_toList ..
  unfold enc n3 n2; simp only [List.length_append, List.length_cons, List.length_nil, e]
def okAB (a b : ByteArray) : Prop := a.size ≤ 20000 ∧ b.size ≤ 20000
instance (a b : ByteArray) : Decidable (okAB a b) := inferInstanceAs (Decidable (_ ∧ _))
def outV (a b : ByteArray) : ByteArray := if okAB a b then ⟨(diffL a b).toArray⟩ else ⟨#[]⟩
def outB (a b : ByteArray) : Bool := decide (okAB a b)
theorem out_no {a b : ByteArray} (h : ¬ okAB a b) : outV a b = ⟨#[]⟩ ∧ outB a b = false := ⟨if_neg h, decide_eq_false h⟩
theorem out_yes {a b : ByteArray} (h : okAB a b) : outV a b = ⟨(diffL a b).toArray⟩ ∧ outB a b = true := ⟨if_pos h, decide_eq_true h⟩
end Go.Proofs.Ytbfjalpkdgepnaa.Difp
