/-
  Of ours, without the program: an instruction comes back from its bytes, whatever stands around them; what is read has just its bytes.
-/
import Derived.Test.YtjhndhjlknakkaaInsB
import Derived.Test.YtjhndhjlknakkaaReadJ
namespace Go.Proofs.Ytjhndhjlknakkaa.InsP
open Go.ChangeShapes Go.WideShapes Go.ChangeAt Go.RowKit
open Signed (inB)
open HoleX (n8 n16 e8 holeT holeP)
open HolI LenX InsX InsB ReadI ReadJ
set_option linter.unusedVariables false
set_option maxRecDepth 20000

theorem byteAt_in {s : ByteArray} {i : Int} (h : i.toNat < s.size) : byteAt s i = ((s[i.toNat]'h).toNat : Int) := by unfold byteAt; rw [dif_pos h]
theorem byteAt_nums (l : List Int) (k : Nat) (x : Int) (h : l[k]? = some x) (h0 : 0 ≤ x) (h1 : x ≤ 255) : byteAt (strOfNums l) (k : Int) = x := by
  have hk : k < l.length := by
    by_cases hk : k < l.length
    · exact hk
    · rw [List.getElem?_eq_none (by omega)] at h; cases h
  have hz : (strOfNums l).size = l.length := strOfNums_size l
  have hx : l[k] = x := by rw [List.getElem?_eq_getElem hk] at h; exact Option.some.inj h
  rw [byteAt_in (by rw [hz]; omega)]
  have : (strOfNums l)[(k : Int).toNat]'(by rw [hz]; omega) = UInt8.ofNat x.toNat := by
    show (strOfNums l).data[(k : Int).toNat]'(by show _ < (strOfNums l).size; rw [hz]; omega) = _
    simp only [strOfNums, Int.toNat_natCast]
    simp [hx]
  rw [this]
  simp
  omega
theorem ext_bytes {x y : ByteArray} (hs : x.size = y.size) (h : ∀ k : Nat, k < x.size → byteAt x (k : Int) = byteAt y (k : Int)) : x = y := by
  apply ByteArray.ext
  apply Array.ext
  · exact hs
  · intro i h1 h2
    have := h i h1
    rw [byteAt_in (by simpa using h1), byteAt_in (by simpa using h2)] at this
    simp only [Int.toNat_natCast] at this
    exact UInt8.toNat_inj.1 (by exact_mod_cast this)
theorem byteAt_extract (s : ByteArray) (i j k : Nat) (hj : j ≤ s.size) (hk : i + k < j) : byteAt (s.extract i j) (k : Int) = byteAt s ((i : Int) + k) := by
  have hz : (s.extract i j).size = j - i := by simp; omega
  rw [byteAt_in (by rw [hz]; omega), byteAt_in (by omega)]
  congr 2
  simp only [ByteArray.getElem_extract]
  congr 1
theorem all_cb : ∀ c : Fin 256, none? (c.val : Int) true = false ∧ hole (c.val : Int) true = ⟨#[]⟩ := by decide +kernel
theorem cb_at {c : Int} (h0 : 0 ≤ c) (h1 : c ≤ 255) : none? c true = false ∧ hole c true = ⟨#[]⟩ := by
  have := all_cb ⟨c.toNat, by omega⟩
  rwa [show ((⟨c.toNat, by omega⟩ : Fin 256).val : Int) = c by show ((c.toNat : Nat) : Int) = c; omega] at this
theorem no203 : none? 203 false = true := by decide +kernel
/-- What a right instruction's bytes are, by its way. -/
theorem ways {c : Int} {b : Bool} {m : Int} (h : okV c b m = true) : 0 ≤ c ∧ c ≤ 255 ∧ ((b = true ∧ m = 0 ∧ bytesV c b m = strOfNums [203, c]) ∨
    (b = false ∧ ¬ c = 203 ∧ ((lenC c = 1 ∧ m = 0 ∧ bytesV c b m = strOfNums [c]) ∨ (lenC c = 2 ∧ 0 ≤ m ∧ m ≤ 255 ∧ bytesV c b m = strOfNums [c, m]) ∨
      (lenC c = 3 ∧ 0 ≤ m ∧ m ≤ 65535 ∧ bytesV c b m = strOfNums [c, m % 256, m / 256])))) := by
  obtain ⟨hn, h0, h1⟩ := ok_in h
  refine ⟨h0, h1, ?_⟩
  cases b with
  | true =>
    obtain ⟨_, hx⟩ := cb_at h0 h1
    refine .inl ⟨rfl, ?_, ?_⟩
    · rw [ok_no hn hx] at h; exact of_decide_eq_true h
    · unfold bytesV; rw [h]; rfl
  | false =>
    refine .inr ⟨rfl, fun h3 => ?_, ?_⟩
    · rw [h3, no203] at hn; cases hn
    have hl : lenC c = lenV false false (hole c false) := by unfold lenC; rw [hn]
    rcases hole_cases c false with hx | hx | hx | hx
    · obtain ⟨e1, e2, e3, e4⟩ := V_8 h hx
      exact .inr (.inl ⟨hl.trans e2, e3, e4, e1⟩)
    · obtain ⟨e1, e2, e3, e4⟩ := V_16 h hx
      exact .inr (.inr ⟨hl.trans e2, e3, e4, e1⟩)
    · obtain ⟨e1, e2, e3, e4⟩ := V_e h hx
      exact .inr (.inl ⟨hl.trans e2, e3, e4, e1⟩)
    · obtain ⟨e1, e2⟩ := V_no h hx
      have e3 := h
      rw [ok_no hn hx] at e3
      exact .inl ⟨hl.trans e2, of_decide_eq_true e3, e1⟩
/-- The bytes of an instruction stand in a text at a place. -/
def Stands (D : ByteArray) (a : Int) (B : ByteArray) : Prop := 0 ≤ a ∧ a + B.size ≤ D.size ∧ ∀ k : Nat, k < B.size → byteAt D (a + k) = byteAt B (k : Int)
theorem read_of {D : ByteArray} {a : Int} {c : Int} {b : Bool} {m : Int} (h : okV c b m = true) (hS : Stands D a (bytesV c b m)) :
    readI D a = .agg #[.int .i64 c, .bool b, .int .i64 m] ∧ readN D a = (bytesV c b m).size := by
  obtain ⟨h0, h1, hw⟩ := ways h
  obtain ⟨s0, s1, s2⟩ := hS
  rcases hw with ⟨rfl, rfl, e⟩ | ⟨rfl, h3, ⟨hl, rfl, e⟩ | ⟨hl, m0, m1, e⟩ | ⟨hl, m0, m1, e⟩⟩
  all_goals
    rw [e] at s1 s2 ⊢
    rw [strOfNums_size] at s1 s2 ⊢
    simp only [List.length_cons, List.length_nil] at s1 s2 ⊢
  · have b0 := s2 0 (by omega)
    have b1 := s2 1 (by omega)
    rw [byteAt_nums [203, c] 0 203 rfl (by omega) (by omega), Int.ofNat_zero, Int.add_zero] at b0
    rw [byteAt_nums [203, c] 1 c rfl h0 h1] at b1
    constructor
    · unfold readI
      rw [if_neg (by omega), if_pos b0, if_neg (by omega), show a + (1 : Int) = a + ((1 : Nat) : Int) from rfl, b1]
    · unfold readN
      rw [if_neg (by omega), if_pos b0, if_neg (by omega)]
      rfl
  · have b0 := s2 0 (by omega)
    rw [byteAt_nums [c] 0 c rfl h0 h1, Int.ofNat_zero, Int.add_zero] at b0
    constructor
    · unfold readI
      rw [b0, if_neg (by omega), if_neg h3, hl, if_neg (by omega)]
      rfl
    · unfold readN
      rw [b0, if_neg (by omega), if_neg h3, hl, if_neg (by omega)]
      rfl
  · have b0 := s2 0 (by omega)
    have b1 := s2 1 (by omega)
    rw [byteAt_nums [c, m] 0 c rfl h0 h1, Int.ofNat_zero, Int.add_zero] at b0
    rw [byteAt_nums [c, m] 1 m rfl m0 m1] at b1
    constructor
    · unfold readI
      rw [b0, if_neg (by omega), if_neg h3, hl, if_neg (by omega)]
      unfold immV
      rw [if_neg (by omega), if_pos rfl, show a + (1 : Int) = a + ((1 : Nat) : Int) from rfl, b1]
    · unfold readN
      rw [b0, if_neg (by omega), if_neg h3, hl, if_neg (by omega)]
      rfl
  · have b0 := s2 0 (by omega)
    have b1 := s2 1 (by omega)
    have b2 := s2 2 (by omega)
    rw [byteAt_nums [c, m % 256, m / 256] 0 c rfl h0 h1, Int.ofNat_zero, Int.add_zero] at b0
    rw [byteAt_nums [c, m % 256, m / 256] 1 (m % 256) rfl (by omega) (by omega)] at b1
    rw [byteAt_nums [c, m % 256, m / 256] 2 (m / 256) rfl (by omega) (by omega)] at b2
    have : immV D a 3 = m := by
      unfold immV
      rw [if_neg (by omega), if_neg (by omega), show a + (1 : Int) = a + ((1 : Nat) : Int) from rfl, b1, show a + (2 : Int) = a + ((2 : Nat) : Int) from rfl, b2]
      omega
    constructor
    · unfold readI
      rw [b0, if_neg (by omega), if_neg h3, hl, if_neg (by omega), this]
    · unfold readN
      rw [b0, if_neg (by omega), if_neg h3, hl, if_neg (by omega)]
      rfl
theorem size_pos {c : Int} {b : Bool} {m : Int} (h : okV c b m = true) : 1 ≤ (bytesV c b m).size ∧ (bytesV c b m).size ≤ 3 ∧ ((bytesV c b m).size : Int) = lenV (none? c b) b (hole c b) := by
  obtain ⟨hn, _, _⟩ := ok_in h
  obtain ⟨h0, h1, hw⟩ := ways h
  rcases hw with ⟨rfl, rfl, e⟩ | ⟨rfl, h3, ⟨hl, rfl, e⟩ | ⟨hl, m0, m1, e⟩ | ⟨hl, m0, m1, e⟩⟩
  all_goals rw [e, strOfNums_size]
  · rw [hn]; exact ⟨by simp, by simp, rfl⟩
  all_goals
    unfold lenC at hl
    rw [hl]
    exact ⟨by simp, by simp, rfl⟩
theorem read_short {D : ByteArray} {c : Int} {b : Bool} {m : Int} (h : okV c b m = true) (hz : D.size + 1 = (bytesV c b m).size) (hS : ∀ k : Nat, k < D.size → byteAt D (k : Int) = byteAt (bytesV c b m) (k : Int)) : readN D 0 = 0 := by
  obtain ⟨h0, h1, hw⟩ := ways h
  rcases hw with ⟨rfl, rfl, e⟩ | ⟨rfl, h3, ⟨hl, rfl, e⟩ | ⟨hl, m0, m1, e⟩ | ⟨hl, m0, m1, e⟩⟩
  all_goals
    rw [e] at hz hS
    rw [strOfNums_size] at hz
    simp only [List.length_cons, List.length_nil] at hz
  · have b0 := hS 0 (by omega)
    rw [byteAt_nums [203, c] 0 203 rfl (by omega) (by omega), Int.ofNat_zero] at b0
    unfold readN
    rw [if_neg (by omega), if_pos b0, if_pos (by omega)]
  · unfold readN; rw [if_pos (by omega)]
  · have b0 := hS 0 (by omega)
    rw [byteAt_nums [c, m] 0 c rfl h0 h1, Int.ofNat_zero] at b0
    unfold readN
    rw [b0, if_neg (by omega), if_neg h3, hl, if_pos (by omega)]
  · have b0 := hS 0 (by omega)
    rw [byteAt_nums [c, m % 256, m / 256] 0 c rfl h0 h1, Int.ofNat_zero] at b0
    unfold readN
    rw [b0, if_neg (by omega), if_neg h3, hl, if_pos (by omega)]
theorem lenC_some {c : Int} (h : ¬ lenC c = 0) : none? c false = false := by
  unfold lenC at h
  cases hn : none? c false
  · rfl
  · rw [hn] at h; exact absurd rfl h
theorem ok_len {c m : Int} (hn : none? c false = false) (h : (lenC c = 1 ∧ m = 0) ∨ (lenC c = 2 ∧ 0 ≤ m ∧ m ≤ 255) ∨ (lenC c = 3 ∧ 0 ≤ m ∧ m ≤ 65535)) : okV c false m = true := by
  have hl : lenC c = lenV false false (hole c false) := by unfold lenC; rw [hn]
  rcases hole_cases c false with hx | hx | hx | hx
  · have e : lenC c = 2 := by rw [hl, hx]; rfl
    rw [ok_n8 hn hx]; exact decide_eq_true (by omega)
  · have e : lenC c = 3 := by rw [hl, hx]; rfl
    rw [ok_n16 hn hx]; exact decide_eq_true (by omega)
  · have e : lenC c = 2 := by rw [hl, hx]; rfl
    rw [ok_e8 hn hx]; exact decide_eq_true (by omega)
  · have e : lenC c = 1 := by rw [hl, hx]; rfl
    rw [ok_no hn hx]; exact decide_eq_true (by omega)
/-- What is read is a right instruction, and has just its bytes. -/
theorem read_back (s : ByteArray) (a : Int) (h : ¬ readN s a = 0) : 0 ≤ a ∧ a + readN s a ≤ s.size ∧ 0 ≤ readN s a ∧
    ∃ (c : Int) (b : Bool) (m : Int), readI s a = .agg #[.int .i64 c, .bool b, .int .i64 m] ∧ okV c b m = true ∧ s.extract a.toNat (a + readN s a).toNat = bytesV c b m := by
  by_cases h0 : a < 0 ∨ s.size ≤ a
  · exact absurd (by unfold readN; rw [if_pos h0]) h
  have bd := byteAt_bd s a
  have bd1 := byteAt_bd s (a + 1)
  have bd2 := byteAt_bd s (a + 2)
  by_cases hc : byteAt s a = 203
  · by_cases h2 : (s.size : Int) - a < 2
    · exact absurd (by unfold readN; rw [if_neg h0, if_pos hc, if_pos h2]) h
    have en : readN s a = 2 := by unfold readN; rw [if_neg h0, if_pos hc, if_neg h2]
    have ei : readI s a = .agg #[.int .i64 (byteAt s (a + 1)), .bool true, .int .i64 0] := by unfold readI; rw [if_neg h0, if_pos hc, if_neg h2]
    obtain ⟨hn, hx⟩ := cb_at bd1.1 bd1.2
    have ok : okV (byteAt s (a + 1)) true 0 = true := by rw [ok_no hn hx]; rfl
    rw [en]
    refine ⟨by omega, by omega, by omega, _, _, _, ei, ok, ?_⟩
    have e : bytesV (byteAt s (a + 1)) true 0 = strOfNums [203, byteAt s (a + 1)] := by unfold bytesV; rw [ok]; rfl
    rw [e]
    apply ext_bytes
    · rw [strOfNums_size]; simp; omega
    · intro k hk
      have hk2 : k < 2 := by simp at hk; omega
      rw [byteAt_extract s _ _ k (by omega) (by omega)]
      match k, hk2 with
      | 0, _ => rw [byteAt_nums _ 0 203 rfl (by omega) (by omega), ← hc]; congr 1; omega
      | 1, _ => rw [byteAt_nums _ 1 (byteAt s (a + 1)) rfl bd1.1 bd1.2]; congr 1; omega
  · by_cases hq : lenC (byteAt s a) = 0 ∨ (s.size : Int) - a < lenC (byteAt s a)
    · exact absurd (by unfold readN; rw [if_neg h0, if_neg hc, if_pos hq]) h
    have en : readN s a = lenC (byteAt s a) := by unfold readN; rw [if_neg h0, if_neg hc, if_neg hq]
    have ei : readI s a = .agg #[.int .i64 (byteAt s a), .bool false, .int .i64 (immV s a (lenC (byteAt s a)))] := by unfold readI; rw [if_neg h0, if_neg hc, if_neg hq]
    have hn := lenC_some (fun h => hq (.inl h))
    have hq2 : ¬ (s.size : Int) - a < lenC (byteAt s a) := fun h => hq (.inr h)
    rw [en]
    rcases lenC_cases (byteAt s a) with hl | hl | hl | hl
    · exact absurd (.inl hl) hq
    all_goals
      rw [hl] at ei hq2 ⊢
    · have e0 : immV s a 1 = 0 := rfl
      rw [e0] at ei
      have ok : okV (byteAt s a) false 0 = true := ok_len hn (.inl ⟨hl, rfl⟩)
      refine ⟨by omega, by omega, by omega, _, _, _, ei, ok, ?_⟩
      obtain ⟨_, _, ⟨hb, _⟩ | ⟨_, _, ⟨_, _, e⟩ | ⟨hl', _⟩ | ⟨hl', _⟩⟩⟩ := ways ok
      · cases hb
      · rw [e]
        apply ext_bytes
        · rw [strOfNums_size]; simp; omega
        · intro k hk
          have hk2 : k < 1 := by simp at hk; omega
          rw [byteAt_extract s _ _ k (by omega) (by omega)]
          match k, hk2 with
          | 0, _ => rw [byteAt_nums _ 0 (byteAt s a) rfl bd.1 bd.2]; congr 1; omega
      · omega
      · omega
    · have e0 : immV s a 2 = byteAt s (a + 1) := rfl
      rw [e0] at ei
      have ok : okV (byteAt s a) false (byteAt s (a + 1)) = true := ok_len hn (.inr (.inl ⟨hl, bd1.1, bd1.2⟩))
      refine ⟨by omega, by omega, by omega, _, _, _, ei, ok, ?_⟩
      obtain ⟨_, _, ⟨hb, _⟩ | ⟨_, _, ⟨hl', _⟩ | ⟨_, _, _, e⟩ | ⟨hl', _⟩⟩⟩ := ways ok
      · cases hb
      · omega
      · rw [e]
        apply ext_bytes
        · rw [strOfNums_size]; simp; omega
        · intro k hk
          have hk2 : k < 2 := by simp at hk; omega
          rw [byteAt_extract s _ _ k (by omega) (by omega)]
          match k, hk2 with
          | 0, _ => rw [byteAt_nums _ 0 (byteAt s a) rfl bd.1 bd.2]; congr 1; omega
          | 1, _ => rw [byteAt_nums _ 1 (byteAt s (a + 1)) rfl bd1.1 bd1.2]; congr 1; omega
      · omega
    · have e0 : immV s a 3 = byteAt s (a + 1) + 256 * byteAt s (a + 2) := rfl
      rw [e0] at ei
      have ok : okV (byteAt s a) false (byteAt s (a + 1) + 256 * byteAt s (a + 2)) = true := ok_len hn (.inr (.inr ⟨hl, by omega, by omega⟩))
      refine ⟨by omega, by omega, by omega, _, _, _, ei, ok, ?_⟩
      obtain ⟨_, _, ⟨hb, _⟩ | ⟨_, _, ⟨hl', _⟩ | ⟨hl', _⟩ | ⟨_, _, _, e⟩⟩⟩ := ways ok
      · cases hb
      · omega
      · omega
      · rw [e]
        apply ext_bytes
        · rw [strOfNums_size]; simp; omega
        · intro k hk
          have hk2 : k < 3 := by simp at hk; omega
          rw [byteAt_extract s _ _ k (by omega) (by omega)]
          match k, hk2 with
          | 0, _ => rw [byteAt_nums _ 0 (byteAt s a) rfl bd.1 bd.2]; congr 1; omega
          | 1, _ => rw [byteAt_nums _ 1 (byteAt s (a + 1)) (by simp; omega) bd1.1 bd1.2]; congr 1; omega
          | 2, _ => rw [byteAt_nums _ 2 (byteAt s (a + 2)) (by simp; omega) bd2.1 bd2.2]; congr 1; omega
end Go.Proofs.Ytjhndhjlknakkaa.InsP
