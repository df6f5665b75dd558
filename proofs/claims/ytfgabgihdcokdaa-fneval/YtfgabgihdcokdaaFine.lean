/-
  Pure: of texts of which drawn expressions are made: neg and not stand nowhere, high and low ahead of a bracket alone, and not behind bank(.
-/
import Derived.Test.YtfgabgihdcokdaaCmpa
namespace Go.Proofs.Ytfgabgihdcokdaa.Fine
set_option linter.unusedVariables false
def pNeg : List UInt8 := [110, 101, 103]
def pNot : List UInt8 := [110, 111, 116]
def pHi : List UInt8 := [104, 105, 103, 104]
def pHiB : List UInt8 := [104, 105, 103, 104, 40]
def pLo : List UInt8 := [108, 111, 119]
def pLoB : List UInt8 := [108, 111, 119, 40]
def pBh : List UInt8 := [98, 97, 110, 107, 40, 104, 105, 103, 104]
def pBl : List UInt8 := [98, 97, 110, 107, 40, 108, 111, 119]
def pZz : List UInt8 := [122, 122]
def okAt (l : List UInt8) : Bool := !pNeg.isPrefixOf l && !pNot.isPrefixOf l && (!pHi.isPrefixOf l || pHiB.isPrefixOf l) && (!pLo.isPrefixOf l || pLoB.isPrefixOf l) && !pBh.isPrefixOf l && !pBl.isPrefixOf l && !pZz.isPrefixOf l
def fine : List UInt8 → Bool
  | [] => true
  | c :: l => okAt (c :: l) && fine l
/-- Signs that stand in no word of these. -/
def apart (c : UInt8) : Bool := !(pNeg ++ pNot ++ pHiB ++ pLoB ++ pBh ++ pBl ++ pZz).contains c
theorem prefix_apart : ∀ (p X : List UInt8) (c : UInt8) (t : List UInt8), p.contains c = false → p.isPrefixOf (X ++ c :: t) = p.isPrefixOf X
  | [], X, c, t, _ => by simp [List.isPrefixOf]
  | a :: p, [], c, t, h => by
    simp at h
    have : (a == c) = false := by simp; exact fun e => h.1 e.symm
    simp [List.isPrefixOf, this]
  | a :: p, b :: X, c, t, h => by
    simp at h
    have ih := prefix_apart p X c t (by simp; exact h.2)
    simp only [List.cons_append, List.isPrefixOf, ih]
theorem okAt_apart {X : List UInt8} {c : UInt8} {t : List UInt8} (h : apart c = true) : okAt (X ++ c :: t) = okAt X := by
  unfold apart at h
  simp only [Bool.not_eq_true', List.contains_eq_mem, List.mem_append, decide_eq_false_iff_not, not_or] at h
  obtain ⟨⟨⟨⟨⟨⟨h1, h2⟩, h3⟩, h4⟩, h5⟩, h6⟩, h7⟩ := h
  have h3' : ¬ c ∈ pHi := fun e => h3 (List.mem_append_left [40] e)
  have h4' : ¬ c ∈ pLo := fun e => h4 (List.mem_append_left [40] e)
  have k : ∀ p : List UInt8, ¬ c ∈ p → p.isPrefixOf (X ++ c :: t) = p.isPrefixOf X := fun p hp => prefix_apart p X c t (by simpa using hp)
  unfold okAt
  rw [k _ h1, k _ h2, k _ h3, k _ h4, k _ h5, k _ h6, k _ h3', k _ h4', k _ h7]
theorem fine_apart : ∀ {X : List UInt8} {c : UInt8} {t : List UInt8}, apart c = true → fine X = true → fine (c :: t) = true → fine (X ++ c :: t) = true
  | [], c, t, _, _, h => h
  | b :: X, c, t, hc, hX, h => by
    have hX' : okAt (b :: X) = true ∧ fine X = true := by simpa [fine] using hX
    show (okAt (b :: (X ++ c :: t)) && fine (X ++ c :: t)) = true
    rw [fine_apart hc hX'.2 h, show okAt (b :: (X ++ c :: t)) = okAt (b :: X) from okAt_apart (X := b :: X) hc, hX'.1]
    rfl
theorem fine_at : ∀ {X : List UInt8} (i : Nat), fine X = true → i < X.length → okAt (X.drop i) = true
  | [], i, _, h => absurd h (Nat.not_lt_zero _)
  | b :: X, 0, h, _ => by
    have : okAt (b :: X) = true ∧ fine X = true := by simpa [fine] using h
    exact this.1
  | b :: X, i + 1, h, hi => by
    have : okAt (b :: X) = true ∧ fine X = true := by simpa [fine] using h
    exact fine_at i this.2 (by simpa using hi)

def F (t : ByteArray) : Prop := fine t.data.toList = true
theorem data_app (a b : ByteArray) : (a ++ b).data.toList = a.data.toList ++ b.data.toList := by rw [ByteArray.data_append, Array.toList_append]
theorem F_minus {x : ByteArray} (h : F x) : F (⟨#[45]⟩ ++ x) := by
  unfold F at *; rw [data_app]; exact (show fine (45 :: x.data.toList) = fine x.data.toList by kernel_rfl).trans h
theorem F_not {x : ByteArray} (h : F x) : F (⟨#[126]⟩ ++ x) := by
  unfold F at *; rw [data_app]; exact (show fine (126 :: x.data.toList) = fine x.data.toList by kernel_rfl).trans h
theorem F_open {x : ByteArray} (h : F x) : F (⟨#[40]⟩ ++ x) := by
  unfold F at *; rw [data_app]; exact (show fine (40 :: x.data.toList) = fine x.data.toList by kernel_rfl).trans h
theorem F_close {x : ByteArray} (h : F x) : F (x ++ ⟨#[41]⟩) := by
  unfold F at *; rw [data_app]; exact fine_apart (t := []) (by decide) h (by decide)
theorem F_high {x : ByteArray} (h : F x) : F (⟨#[104, 105, 103, 104, 40]⟩ ++ x) := by
  unfold F at *; rw [data_app]; exact (show fine (104 :: 105 :: 103 :: 104 :: 40 :: x.data.toList) = fine x.data.toList by kernel_rfl).trans h
theorem F_low {x : ByteArray} (h : F x) : F (⟨#[108, 111, 119, 40]⟩ ++ x) := by
  unfold F at *; rw [data_app]; exact (show fine (108 :: 111 :: 119 :: 40 :: x.data.toList) = fine x.data.toList by kernel_rfl).trans h
def names : List ByteArray := [⟨#[97, 49]⟩, ⟨#[108, 111, 111, 112]⟩, ⟨#[120, 46, 121]⟩, ⟨#[101, 110, 100, 95]⟩]
theorem F_names : ∀ t ∈ names, F t ∧ t.size ≤ 4 ∧ F (⟨#[98, 97, 110, 107, 40]⟩ ++ t ++ ⟨#[41]⟩) := by
  intro t h
  simp only [names, List.mem_cons, List.not_mem_nil, or_false] at h
  rcases h with rfl | rfl | rfl | rfl <;> exact ⟨by unfold F; decide +kernel, by decide +kernel, by unfold F; rw [data_app, data_app]; decide +kernel⟩
def ops : List ByteArray := [⟨#[43]⟩, ⟨#[45]⟩, ⟨#[42]⟩, ⟨#[47]⟩, ⟨#[37]⟩, ⟨#[38]⟩, ⟨#[94]⟩, ⟨#[124]⟩, ⟨#[60, 60]⟩, ⟨#[62, 62]⟩]
theorem F_ops {x y : ByteArray} (hx : F x) (hy : F y) : ∀ t ∈ ops, F (x ++ t ++ y) ∧ t.size ≤ 2 := by
  intro t h
  have one : ∀ c : UInt8, apart c = true → fine (c :: y.data.toList) = true → F (x ++ ⟨#[c]⟩ ++ y) := fun c h1 h2 => by
    unfold F at *; rw [data_app, data_app, List.append_assoc]; exact fine_apart h1 hx h2
  have two : ∀ c : UInt8, apart c = true → fine (c :: c :: y.data.toList) = true → F (x ++ ⟨#[c, c]⟩ ++ y) := fun c h1 h2 => by
    unfold F at *; rw [data_app, data_app, List.append_assoc]; exact fine_apart (t := c :: y.data.toList) h1 hx h2
  have hy' : fine y.data.toList = true := hy
  simp only [ops, List.mem_cons, List.not_mem_nil, or_false] at h
  rcases h with rfl | rfl | rfl | rfl | rfl | rfl | rfl | rfl | rfl | rfl
  all_goals refine ⟨?_, by decide⟩
  all_goals first
    | exact one _ (by decide) ((show _ = fine y.data.toList by kernel_rfl).trans hy')
    | exact two _ (by decide) ((show _ = fine y.data.toList by kernel_rfl).trans hy')
end Go.Proofs.Ytfgabgihdcokdaa.Fine
