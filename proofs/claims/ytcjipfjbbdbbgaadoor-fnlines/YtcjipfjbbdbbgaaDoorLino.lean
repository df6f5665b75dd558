/-
  Contracts of ours for both LineOk and LineText.
-/
import Derived.Test.YtcjipfjbbdbbgaaDoorLines
namespace Go.Proofs.YtcjipfjbbdbbgaaDoor.Lino
open Go.ChangeShapes Go.WideShapes Go.ChangeAt Go.RowKit Go.Deep
set_option linter.unusedVariables false
open Names (ret_bool empty_yes empty_no nameB implName_any specName_any)
open Argz Lines

theorem text_any (l o a : ByteArray) (w : World) (zl : l.size ≤ 1048576) (zo : o.size ≤ 1048576) (za : a.size ≤ 1048576) (h : o.size = 0 → a.size = 0) :
    Calls Tryd.prog 15 #[.agg #[.string l, .string o, .string a]] w fun e w' => e = .returned (.string (lineT l o a)) ∧ Below w.heap.size w w' := by
  by_cases hl : l.size = 0
  · by_cases ho : o.size = 0
    · exact text_0ee l o a w zl zo za hl ho (h ho)
    · by_cases ha : a.size = 0
      · exact text_0oe l o a w zl zo za hl ho ha
      · exact text_0oa l o a w zl zo za hl ho ha
  · by_cases ho : o.size = 0
    · exact text_1ee l o a w zl zo za hl ho (h ho)
    · by_cases ha : a.size = 0
      · exact text_1oe l o a w zl zo za hl ho ha
      · exact text_1oa l o a w zl zo za hl ho ha
theorem joined_any (l o a : ByteArray) (w : World) (zl : l.size ≤ 1048576) (zo : o.size ≤ 1048576) (za : a.size ≤ 1048576) (h : o.size = 0 → a.size = 0) :
    Calls Tryd.prog 14 #[.agg #[.string l, .string o, .string a]] w fun e w' => e = .returned (.string (lineT l o a)) ∧ Below w.heap.size w w' := by
  by_cases hl : l.size = 0
  · by_cases ho : o.size = 0
    · exact joined_0ee l o a w zl zo za hl ho (h ho)
    · by_cases ha : a.size = 0
      · exact joined_0oe l o a w zl zo za hl ho ha
      · exact joined_0oa l o a w zl zo za hl ho ha
  · by_cases ho : o.size = 0
    · exact joined_1ee l o a w zl zo za hl ho (h ho)
    · by_cases ha : a.size = 0
      · exact joined_1oe l o a w zl zo za hl ho ha
      · exact joined_1oa l o a w zl zo za hl ho ha

/-- Is a line right? -/
def headB (l o a : ByteArray) : Prop := (l.size = 0 ∨ nameB l = true) ∧ (o.size = 0 → a.size = 0) ∧ opB o = true ∧ okB a = true
open Classical in
noncomputable def lineB (l o a : ByteArray) : Bool := if headB l o a then decide (((lineT l o a).size : Int) ≤ 80) else false
theorem line_no {l o a : ByteArray} (h : ¬ headB l o a) : lineB l o a = false := if_neg h
theorem line_yes {l o a : ByteArray} (h : headB l o a) : lineB l o a = decide (((lineT l o a).size : Int) ≤ 80) := if_pos h
theorem lineT_le (l o a : ByteArray) : (lineT l o a).size ≤ l.size + o.size + a.size + 3 := by
  have c1 : ∀ x y : ByteArray, (catT x y).size ≤ x.size + y.size + 1 := fun x y => by
    unfold catT; split
    · omega
    · split
      · omega
      · rw [ByteArray.size_append, one32]; omega
  have c2 := c1 (catT (labT l) o) a
  have c3 := c1 (labT l) o
  have c4 : (labT l).size ≤ l.size + 1 := by
    unfold labT; split
    · exact Nat.zero_le _
    · rw [one58]; omega
  unfold lineT; omega

set_option maxHeartbeats 2000000 in
theorem implOk_any (l o a : ByteArray) (w : World) (zl : l.size ≤ 1048576) (zo : o.size ≤ 1048576) (za : a.size ≤ 1048576) :
    Calls Tryd.prog 8 #[.agg #[.string l, .string o, .string a]] w fun e w' => e = .returned (.bool (lineB l o a)) ∧ Below w.heap.size w w' := by
  have cn := fun w => implName_any l w (by unfold maxLen; omega)
  have cp := fun w => letters_any o w zo
  have ca := fun w => argsOk_any a w za
  have ct := fun w => joined_any l o a w zl zo za
  have hz := lineT_le l o a
  have HN := (show Hid _ from (line_no (l := l) (o := o) (a := a)))
  have HY := (show Hid _ from (line_yes (l := l) (o := o) (a := a)))
  generalize lineB l o a = r at HN HY ⊢
  generalize hT : lineT l o a = T at HY hz ct
  clear hT
  by_cases hl : l.size = 0
  · have el := empty_yes hl
    by_cases ho : o.size = 0
    · have eo := empty_yes ho
      by_cases ha : a.size = 0
      · have ea := empty_yes ha
        have ct' := fun w => ct w (fun _ => ha)
        have h10 : ¬ 10 < (o.size : Int) := by omega
        have d10 : decide ((o.size : Int) ≤ 10) = true := decide_eq_true (by omega)
        cases hop : letsB o
        · rw [hop] at cp
          have HR := (show Hid _ from HN.out (by unfold headB; intro h; have h3 := h.2.2.1; unfold opB at h3; rw [hop] at h3; cases h3))
          clear HN HY ct ct' hz hop
          go_enter Tryd.func8, Tryd.ntmps8
          go_wp2_with (first | (go_at_call 16; refine (cn _).mono ?_; rintro e w' ⟨rfl, rfl⟩) | (go_at_call 17; refine (cp _).mono ?_; rintro e w' ⟨rfl, rfl⟩) | (go_at_call 18; refine (ca _).mono ?_; rintro e w' ⟨rfl, rfl⟩) | (go_at_call 14; refine (ct _).mono ?_; rintro e w' ⟨rfl, hb⟩))
          all_goals go_ret
          all_goals exact ⟨ret_bool HR.out.symm, grow (Below.refl _ _) _⟩
        rw [hop] at cp
        cases hok : okB a
        · rw [hok] at ca
          have HR := (show Hid _ from HN.out (by unfold headB; intro h; rw [h.2.2.2] at hok; cases hok))
          clear HN HY ct ct' hz hop hok
          go_enter Tryd.func8, Tryd.ntmps8
          go_wp2_with (first | (go_at_call 16; refine (cn _).mono ?_; rintro e w' ⟨rfl, rfl⟩) | (go_at_call 17; refine (cp _).mono ?_; rintro e w' ⟨rfl, rfl⟩) | (go_at_call 18; refine (ca _).mono ?_; rintro e w' ⟨rfl, rfl⟩) | (go_at_call 14; refine (ct _).mono ?_; rintro e w' ⟨rfl, hb⟩))
          all_goals go_ret
          all_goals exact ⟨ret_bool HR.out.symm, grow (Below.refl _ _) _⟩
        rw [hok] at ca
        have HR := (show Hid _ from HY.out (by unfold headB; exact ⟨by exact .inl hl, fun _ => ha, by unfold opB; rw [hop, d10]; rfl, hok⟩))
        have ct := ct' 
        clear HN HY ct' hop hok
        go_enter Tryd.func8, Tryd.ntmps8
        go_wp2_with (first | (go_at_call 16; refine (cn _).mono ?_; rintro e w' ⟨rfl, rfl⟩) | (go_at_call 17; refine (cp _).mono ?_; rintro e w' ⟨rfl, rfl⟩) | (go_at_call 18; refine (ca _).mono ?_; rintro e w' ⟨rfl, rfl⟩) | (go_at_call 14; refine (ct _).mono ?_; rintro e w' ⟨rfl, hb⟩))
        go_ret
        exact ⟨ret_bool HR.out.symm, (grow (Below.refl _ _) _).trans (hb.mono (by simp))⟩
      · have ea := empty_no ha
        clear ct
        have HR := (show Hid _ from HN.out (by unfold headB; intro h; exact ha (h.2.1 ho)))
        clear HN HY hz
        go_enter Tryd.func8, Tryd.ntmps8
        go_wp2_with (first | (go_at_call 16; refine (cn _).mono ?_; rintro e w' ⟨rfl, rfl⟩) | (go_at_call 17; refine (cp _).mono ?_; rintro e w' ⟨rfl, rfl⟩) | (go_at_call 18; refine (ca _).mono ?_; rintro e w' ⟨rfl, rfl⟩) | (go_at_call 14; refine (ct _).mono ?_; rintro e w' ⟨rfl, hb⟩))
        all_goals go_ret
        all_goals exact ⟨ret_bool HR.out.symm, grow (Below.refl _ _) _⟩
    · have eo := empty_no ho
      have ct' := fun w => ct w (fun h => absurd h ho)
      by_cases h10 : 10 < (o.size : Int)
      · have d10 : decide ((o.size : Int) ≤ 10) = false := decide_eq_false (by omega)
        have HR := (show Hid _ from HN.out (by unfold headB; intro h; have h3 := h.2.2.1; unfold opB at h3; rw [d10, Bool.and_false] at h3; cases h3))
        clear HN HY ct ct' hz
        go_enter Tryd.func8, Tryd.ntmps8
        go_wp2_with (first | (go_at_call 16; refine (cn _).mono ?_; rintro e w' ⟨rfl, rfl⟩) | (go_at_call 17; refine (cp _).mono ?_; rintro e w' ⟨rfl, rfl⟩) | (go_at_call 18; refine (ca _).mono ?_; rintro e w' ⟨rfl, rfl⟩) | (go_at_call 14; refine (ct _).mono ?_; rintro e w' ⟨rfl, hb⟩))
        all_goals go_ret
        all_goals exact ⟨ret_bool HR.out.symm, grow (Below.refl _ _) _⟩
      have d10 : decide ((o.size : Int) ≤ 10) = true := decide_eq_true (by omega)
      cases hop : letsB o
      · rw [hop] at cp
        have HR := (show Hid _ from HN.out (by unfold headB; intro h; have h3 := h.2.2.1; unfold opB at h3; rw [hop] at h3; cases h3))
        clear HN HY ct ct' hz hop
        go_enter Tryd.func8, Tryd.ntmps8
        go_wp2_with (first | (go_at_call 16; refine (cn _).mono ?_; rintro e w' ⟨rfl, rfl⟩) | (go_at_call 17; refine (cp _).mono ?_; rintro e w' ⟨rfl, rfl⟩) | (go_at_call 18; refine (ca _).mono ?_; rintro e w' ⟨rfl, rfl⟩) | (go_at_call 14; refine (ct _).mono ?_; rintro e w' ⟨rfl, hb⟩))
        all_goals go_ret
        all_goals exact ⟨ret_bool HR.out.symm, grow (Below.refl _ _) _⟩
      rw [hop] at cp
      cases hok : okB a
      · rw [hok] at ca
        have HR := (show Hid _ from HN.out (by unfold headB; intro h; rw [h.2.2.2] at hok; cases hok))
        clear HN HY ct ct' hz hop hok
        go_enter Tryd.func8, Tryd.ntmps8
        go_wp2_with (first | (go_at_call 16; refine (cn _).mono ?_; rintro e w' ⟨rfl, rfl⟩) | (go_at_call 17; refine (cp _).mono ?_; rintro e w' ⟨rfl, rfl⟩) | (go_at_call 18; refine (ca _).mono ?_; rintro e w' ⟨rfl, rfl⟩) | (go_at_call 14; refine (ct _).mono ?_; rintro e w' ⟨rfl, hb⟩))
        all_goals go_ret
        all_goals exact ⟨ret_bool HR.out.symm, grow (Below.refl _ _) _⟩
      rw [hok] at ca
      have HR := (show Hid _ from HY.out (by unfold headB; exact ⟨by exact .inl hl, fun h => absurd h ho, by unfold opB; rw [hop, d10]; rfl, hok⟩))
      have ct := ct' 
      clear HN HY ct' hop hok
      go_enter Tryd.func8, Tryd.ntmps8
      go_wp2_with (first | (go_at_call 16; refine (cn _).mono ?_; rintro e w' ⟨rfl, rfl⟩) | (go_at_call 17; refine (cp _).mono ?_; rintro e w' ⟨rfl, rfl⟩) | (go_at_call 18; refine (ca _).mono ?_; rintro e w' ⟨rfl, rfl⟩) | (go_at_call 14; refine (ct _).mono ?_; rintro e w' ⟨rfl, hb⟩))
      go_ret
      exact ⟨ret_bool HR.out.symm, (grow (Below.refl _ _) _).trans (hb.mono (by simp))⟩
  have el := empty_no hl
  cases hn : nameB l
  · rw [hn] at cn
    have HR := (show Hid _ from HN.out (by unfold headB; intro h; rcases h.1 with h1 | h1; (· exact hl h1); (· rw [h1] at hn; cases hn)))
    clear HN HY ct hz hn
    go_enter Tryd.func8, Tryd.ntmps8
    go_wp2_with (first | (go_at_call 16; refine (cn _).mono ?_; rintro e w' ⟨rfl, rfl⟩) | (go_at_call 17; refine (cp _).mono ?_; rintro e w' ⟨rfl, rfl⟩) | (go_at_call 18; refine (ca _).mono ?_; rintro e w' ⟨rfl, rfl⟩) | (go_at_call 14; refine (ct _).mono ?_; rintro e w' ⟨rfl, hb⟩))
    all_goals go_ret
    all_goals exact ⟨ret_bool HR.out.symm, grow (Below.refl _ _) _⟩
  rw [hn] at cn
  by_cases ho : o.size = 0
  · have eo := empty_yes ho
    by_cases ha : a.size = 0
    · have ea := empty_yes ha
      have ct' := fun w => ct w (fun _ => ha)
      have h10 : ¬ 10 < (o.size : Int) := by omega
      have d10 : decide ((o.size : Int) ≤ 10) = true := decide_eq_true (by omega)
      cases hop : letsB o
      · rw [hop] at cp
        have HR := (show Hid _ from HN.out (by unfold headB; intro h; have h3 := h.2.2.1; unfold opB at h3; rw [hop] at h3; cases h3))
        clear HN HY ct ct' hz hop
        go_enter Tryd.func8, Tryd.ntmps8
        go_wp2_with (first | (go_at_call 16; refine (cn _).mono ?_; rintro e w' ⟨rfl, rfl⟩) | (go_at_call 17; refine (cp _).mono ?_; rintro e w' ⟨rfl, rfl⟩) | (go_at_call 18; refine (ca _).mono ?_; rintro e w' ⟨rfl, rfl⟩) | (go_at_call 14; refine (ct _).mono ?_; rintro e w' ⟨rfl, hb⟩))
        all_goals go_ret
        all_goals exact ⟨ret_bool HR.out.symm, grow (Below.refl _ _) _⟩
      rw [hop] at cp
      cases hok : okB a
      · rw [hok] at ca
        have HR := (show Hid _ from HN.out (by unfold headB; intro h; rw [h.2.2.2] at hok; cases hok))
        clear HN HY ct ct' hz hop hok
        go_enter Tryd.func8, Tryd.ntmps8
        go_wp2_with (first | (go_at_call 16; refine (cn _).mono ?_; rintro e w' ⟨rfl, rfl⟩) | (go_at_call 17; refine (cp _).mono ?_; rintro e w' ⟨rfl, rfl⟩) | (go_at_call 18; refine (ca _).mono ?_; rintro e w' ⟨rfl, rfl⟩) | (go_at_call 14; refine (ct _).mono ?_; rintro e w' ⟨rfl, hb⟩))
        all_goals go_ret
        all_goals exact ⟨ret_bool HR.out.symm, grow (Below.refl _ _) _⟩
      rw [hok] at ca
      have HR := (show Hid _ from HY.out (by unfold headB; exact ⟨by exact .inr hn, fun _ => ha, by unfold opB; rw [hop, d10]; rfl, hok⟩))
      have ct := ct' 
      clear HN HY ct' hop hok
      go_enter Tryd.func8, Tryd.ntmps8
      go_wp2_with (first | (go_at_call 16; refine (cn _).mono ?_; rintro e w' ⟨rfl, rfl⟩) | (go_at_call 17; refine (cp _).mono ?_; rintro e w' ⟨rfl, rfl⟩) | (go_at_call 18; refine (ca _).mono ?_; rintro e w' ⟨rfl, rfl⟩) | (go_at_call 14; refine (ct _).mono ?_; rintro e w' ⟨rfl, hb⟩))
      go_ret
      exact ⟨ret_bool HR.out.symm, (grow (Below.refl _ _) _).trans (hb.mono (by simp))⟩
    · have ea := empty_no ha
      clear ct
      have HR := (show Hid _ from HN.out (by unfold headB; intro h; exact ha (h.2.1 ho)))
      clear HN HY hz
      go_enter Tryd.func8, Tryd.ntmps8
      go_wp2_with (first | (go_at_call 16; refine (cn _).mono ?_; rintro e w' ⟨rfl, rfl⟩) | (go_at_call 17; refine (cp _).mono ?_; rintro e w' ⟨rfl, rfl⟩) | (go_at_call 18; refine (ca _).mono ?_; rintro e w' ⟨rfl, rfl⟩) | (go_at_call 14; refine (ct _).mono ?_; rintro e w' ⟨rfl, hb⟩))
      all_goals go_ret
      all_goals exact ⟨ret_bool HR.out.symm, grow (Below.refl _ _) _⟩
  · have eo := empty_no ho
    have ct' := fun w => ct w (fun h => absurd h ho)
    by_cases h10 : 10 < (o.size : Int)
    · have d10 : decide ((o.size : Int) ≤ 10) = false := decide_eq_false (by omega)
      have HR := (show Hid _ from HN.out (by unfold headB; intro h; have h3 := h.2.2.1; unfold opB at h3; rw [d10, Bool.and_false] at h3; cases h3))
      clear HN HY ct ct' hz
      go_enter Tryd.func8, Tryd.ntmps8
      go_wp2_with (first | (go_at_call 16; refine (cn _).mono ?_; rintro e w' ⟨rfl, rfl⟩) | (go_at_call 17; refine (cp _).mono ?_; rintro e w' ⟨rfl, rfl⟩) | (go_at_call 18; refine (ca _).mono ?_; rintro e w' ⟨rfl, rfl⟩) | (go_at_call 14; refine (ct _).mono ?_; rintro e w' ⟨rfl, hb⟩))
      all_goals go_ret
      all_goals exact ⟨ret_bool HR.out.symm, grow (Below.refl _ _) _⟩
    have d10 : decide ((o.size : Int) ≤ 10) = true := decide_eq_true (by omega)
    cases hop : letsB o
    · rw [hop] at cp
      have HR := (show Hid _ from HN.out (by unfold headB; intro h; have h3 := h.2.2.1; unfold opB at h3; rw [hop] at h3; cases h3))
      clear HN HY ct ct' hz hop
      go_enter Tryd.func8, Tryd.ntmps8
      go_wp2_with (first | (go_at_call 16; refine (cn _).mono ?_; rintro e w' ⟨rfl, rfl⟩) | (go_at_call 17; refine (cp _).mono ?_; rintro e w' ⟨rfl, rfl⟩) | (go_at_call 18; refine (ca _).mono ?_; rintro e w' ⟨rfl, rfl⟩) | (go_at_call 14; refine (ct _).mono ?_; rintro e w' ⟨rfl, hb⟩))
      all_goals go_ret
      all_goals exact ⟨ret_bool HR.out.symm, grow (Below.refl _ _) _⟩
    rw [hop] at cp
    cases hok : okB a
    · rw [hok] at ca
      have HR := (show Hid _ from HN.out (by unfold headB; intro h; rw [h.2.2.2] at hok; cases hok))
      clear HN HY ct ct' hz hop hok
      go_enter Tryd.func8, Tryd.ntmps8
      go_wp2_with (first | (go_at_call 16; refine (cn _).mono ?_; rintro e w' ⟨rfl, rfl⟩) | (go_at_call 17; refine (cp _).mono ?_; rintro e w' ⟨rfl, rfl⟩) | (go_at_call 18; refine (ca _).mono ?_; rintro e w' ⟨rfl, rfl⟩) | (go_at_call 14; refine (ct _).mono ?_; rintro e w' ⟨rfl, hb⟩))
      all_goals go_ret
      all_goals exact ⟨ret_bool HR.out.symm, grow (Below.refl _ _) _⟩
    rw [hok] at ca
    have HR := (show Hid _ from HY.out (by unfold headB; exact ⟨by exact .inr hn, fun h => absurd h ho, by unfold opB; rw [hop, d10]; rfl, hok⟩))
    have ct := ct' 
    clear HN HY ct' hop hok
    go_enter Tryd.func8, Tryd.ntmps8
    go_wp2_with (first | (go_at_call 16; refine (cn _).mono ?_; rintro e w' ⟨rfl, rfl⟩) | (go_at_call 17; refine (cp _).mono ?_; rintro e w' ⟨rfl, rfl⟩) | (go_at_call 18; refine (ca _).mono ?_; rintro e w' ⟨rfl, rfl⟩) | (go_at_call 14; refine (ct _).mono ?_; rintro e w' ⟨rfl, hb⟩))
    go_ret
    exact ⟨ret_bool HR.out.symm, (grow (Below.refl _ _) _).trans (hb.mono (by simp))⟩

set_option maxHeartbeats 2000000 in
theorem specOk_any (l o a : ByteArray) (w : World) (zl : l.size ≤ 1048576) (zo : o.size ≤ 1048576) (za : a.size ≤ 1048576) :
    Calls Tryd.prog 9 #[.agg #[.string l, .string o, .string a]] w fun e w' => e = .returned (.bool (lineB l o a)) ∧ Below w.heap.size w w' := by
  have cn := fun w => specName_any l w (by unfold maxLen; omega)
  have cp := fun w => l7Op_any o w zo
  have ca := fun w => l7Args_any a w za
  have ct := fun w => text_any l o a w zl zo za
  have hz := lineT_le l o a
  have HN := (show Hid _ from (line_no (l := l) (o := o) (a := a)))
  have HY := (show Hid _ from (line_yes (l := l) (o := o) (a := a)))
  generalize lineB l o a = r at HN HY ⊢
  generalize hT : lineT l o a = T at HY hz ct
  clear hT
  by_cases hl : l.size = 0
  · have el := empty_yes hl
    by_cases ho : o.size = 0
    · have eo := empty_yes ho
      by_cases ha : a.size = 0
      · have ea := empty_yes ha
        have ct' := fun w => ct w (fun _ => ha)
        cases hop : opB o
        · rw [hop] at cp
          have HR := (show Hid _ from HN.out (by unfold headB; intro h; rw [h.2.2.1] at hop; cases hop))
          clear HN HY ct ct' hz hop
          go_enter Tryd.func9, Tryd.ntmps9
          go_wp2_with (first | (go_at_call 19; refine (cn _).mono ?_; rintro e w' ⟨rfl, rfl⟩) | (go_at_call 20; refine (cp _).mono ?_; rintro e w' ⟨rfl, rfl⟩) | (go_at_call 21; refine (ca _).mono ?_; rintro e w' ⟨rfl, rfl⟩) | (go_at_call 15; refine (ct _).mono ?_; rintro e w' ⟨rfl, hb⟩))
          all_goals go_ret
          all_goals exact ⟨ret_bool HR.out.symm, grow (Below.refl _ _) _⟩
        rw [hop] at cp
        cases hok : okB a
        · rw [hok] at ca
          have HR := (show Hid _ from HN.out (by unfold headB; intro h; rw [h.2.2.2] at hok; cases hok))
          clear HN HY ct ct' hz hop hok
          go_enter Tryd.func9, Tryd.ntmps9
          go_wp2_with (first | (go_at_call 19; refine (cn _).mono ?_; rintro e w' ⟨rfl, rfl⟩) | (go_at_call 20; refine (cp _).mono ?_; rintro e w' ⟨rfl, rfl⟩) | (go_at_call 21; refine (ca _).mono ?_; rintro e w' ⟨rfl, rfl⟩) | (go_at_call 15; refine (ct _).mono ?_; rintro e w' ⟨rfl, hb⟩))
          all_goals go_ret
          all_goals exact ⟨ret_bool HR.out.symm, grow (Below.refl _ _) _⟩
        rw [hok] at ca
        have HR := (show Hid _ from HY.out (by unfold headB; exact ⟨by exact .inl hl, fun _ => ha, hop, hok⟩))
        have ct := ct' 
        clear HN HY ct' hop hok
        go_enter Tryd.func9, Tryd.ntmps9
        go_wp2_with (first | (go_at_call 19; refine (cn _).mono ?_; rintro e w' ⟨rfl, rfl⟩) | (go_at_call 20; refine (cp _).mono ?_; rintro e w' ⟨rfl, rfl⟩) | (go_at_call 21; refine (ca _).mono ?_; rintro e w' ⟨rfl, rfl⟩) | (go_at_call 15; refine (ct _).mono ?_; rintro e w' ⟨rfl, hb⟩))
        go_ret
        exact ⟨ret_bool HR.out.symm, (grow (Below.refl _ _) _).trans (hb.mono (by simp))⟩
      · have ea := empty_no ha
        clear ct
        cases hop : opB o
        · rw [hop] at cp
          have HR := (show Hid _ from HN.out (by unfold headB; intro h; rw [h.2.2.1] at hop; cases hop))
          clear HN HY hz hop
          go_enter Tryd.func9, Tryd.ntmps9
          go_wp2_with (first | (go_at_call 19; refine (cn _).mono ?_; rintro e w' ⟨rfl, rfl⟩) | (go_at_call 20; refine (cp _).mono ?_; rintro e w' ⟨rfl, rfl⟩) | (go_at_call 21; refine (ca _).mono ?_; rintro e w' ⟨rfl, rfl⟩) | (go_at_call 15; refine (ct _).mono ?_; rintro e w' ⟨rfl, hb⟩))
          all_goals go_ret
          all_goals exact ⟨ret_bool HR.out.symm, grow (Below.refl _ _) _⟩
        rw [hop] at cp
        cases hok : okB a
        · rw [hok] at ca
          have HR := (show Hid _ from HN.out (by unfold headB; intro h; rw [h.2.2.2] at hok; cases hok))
          clear HN HY hz hop hok
          go_enter Tryd.func9, Tryd.ntmps9
          go_wp2_with (first | (go_at_call 19; refine (cn _).mono ?_; rintro e w' ⟨rfl, rfl⟩) | (go_at_call 20; refine (cp _).mono ?_; rintro e w' ⟨rfl, rfl⟩) | (go_at_call 21; refine (ca _).mono ?_; rintro e w' ⟨rfl, rfl⟩) | (go_at_call 15; refine (ct _).mono ?_; rintro e w' ⟨rfl, hb⟩))
          all_goals go_ret
          all_goals exact ⟨ret_bool HR.out.symm, grow (Below.refl _ _) _⟩
        rw [hok] at ca
        have HR := (show Hid _ from HN.out (by unfold headB; intro h; exact ha (h.2.1 ho)))
        clear HN HY hz hop hok
        go_enter Tryd.func9, Tryd.ntmps9
        go_wp2_with (first | (go_at_call 19; refine (cn _).mono ?_; rintro e w' ⟨rfl, rfl⟩) | (go_at_call 20; refine (cp _).mono ?_; rintro e w' ⟨rfl, rfl⟩) | (go_at_call 21; refine (ca _).mono ?_; rintro e w' ⟨rfl, rfl⟩) | (go_at_call 15; refine (ct _).mono ?_; rintro e w' ⟨rfl, hb⟩))
        all_goals go_ret
        all_goals exact ⟨ret_bool HR.out.symm, grow (Below.refl _ _) _⟩
    · have eo := empty_no ho
      have ct' := fun w => ct w (fun h => absurd h ho)
      cases hop : opB o
      · rw [hop] at cp
        have HR := (show Hid _ from HN.out (by unfold headB; intro h; rw [h.2.2.1] at hop; cases hop))
        clear HN HY ct ct' hz hop
        go_enter Tryd.func9, Tryd.ntmps9
        go_wp2_with (first | (go_at_call 19; refine (cn _).mono ?_; rintro e w' ⟨rfl, rfl⟩) | (go_at_call 20; refine (cp _).mono ?_; rintro e w' ⟨rfl, rfl⟩) | (go_at_call 21; refine (ca _).mono ?_; rintro e w' ⟨rfl, rfl⟩) | (go_at_call 15; refine (ct _).mono ?_; rintro e w' ⟨rfl, hb⟩))
        all_goals go_ret
        all_goals exact ⟨ret_bool HR.out.symm, grow (Below.refl _ _) _⟩
      rw [hop] at cp
      cases hok : okB a
      · rw [hok] at ca
        have HR := (show Hid _ from HN.out (by unfold headB; intro h; rw [h.2.2.2] at hok; cases hok))
        clear HN HY ct ct' hz hop hok
        go_enter Tryd.func9, Tryd.ntmps9
        go_wp2_with (first | (go_at_call 19; refine (cn _).mono ?_; rintro e w' ⟨rfl, rfl⟩) | (go_at_call 20; refine (cp _).mono ?_; rintro e w' ⟨rfl, rfl⟩) | (go_at_call 21; refine (ca _).mono ?_; rintro e w' ⟨rfl, rfl⟩) | (go_at_call 15; refine (ct _).mono ?_; rintro e w' ⟨rfl, hb⟩))
        all_goals go_ret
        all_goals exact ⟨ret_bool HR.out.symm, grow (Below.refl _ _) _⟩
      rw [hok] at ca
      have HR := (show Hid _ from HY.out (by unfold headB; exact ⟨by exact .inl hl, fun h => absurd h ho, hop, hok⟩))
      have ct := ct' 
      clear HN HY ct' hop hok
      go_enter Tryd.func9, Tryd.ntmps9
      go_wp2_with (first | (go_at_call 19; refine (cn _).mono ?_; rintro e w' ⟨rfl, rfl⟩) | (go_at_call 20; refine (cp _).mono ?_; rintro e w' ⟨rfl, rfl⟩) | (go_at_call 21; refine (ca _).mono ?_; rintro e w' ⟨rfl, rfl⟩) | (go_at_call 15; refine (ct _).mono ?_; rintro e w' ⟨rfl, hb⟩))
      go_ret
      exact ⟨ret_bool HR.out.symm, (grow (Below.refl _ _) _).trans (hb.mono (by simp))⟩
  have el := empty_no hl
  cases hn : nameB l
  · rw [hn] at cn
    have HR := (show Hid _ from HN.out (by unfold headB; intro h; rcases h.1 with h1 | h1; (· exact hl h1); (· rw [h1] at hn; cases hn)))
    clear HN HY ct hz hn
    go_enter Tryd.func9, Tryd.ntmps9
    go_wp2_with (first | (go_at_call 19; refine (cn _).mono ?_; rintro e w' ⟨rfl, rfl⟩) | (go_at_call 20; refine (cp _).mono ?_; rintro e w' ⟨rfl, rfl⟩) | (go_at_call 21; refine (ca _).mono ?_; rintro e w' ⟨rfl, rfl⟩) | (go_at_call 15; refine (ct _).mono ?_; rintro e w' ⟨rfl, hb⟩))
    all_goals go_ret
    all_goals exact ⟨ret_bool HR.out.symm, grow (Below.refl _ _) _⟩
  rw [hn] at cn
  by_cases ho : o.size = 0
  · have eo := empty_yes ho
    by_cases ha : a.size = 0
    · have ea := empty_yes ha
      have ct' := fun w => ct w (fun _ => ha)
      cases hop : opB o
      · rw [hop] at cp
        have HR := (show Hid _ from HN.out (by unfold headB; intro h; rw [h.2.2.1] at hop; cases hop))
        clear HN HY ct ct' hz hop
        go_enter Tryd.func9, Tryd.ntmps9
        go_wp2_with (first | (go_at_call 19; refine (cn _).mono ?_; rintro e w' ⟨rfl, rfl⟩) | (go_at_call 20; refine (cp _).mono ?_; rintro e w' ⟨rfl, rfl⟩) | (go_at_call 21; refine (ca _).mono ?_; rintro e w' ⟨rfl, rfl⟩) | (go_at_call 15; refine (ct _).mono ?_; rintro e w' ⟨rfl, hb⟩))
        all_goals go_ret
        all_goals exact ⟨ret_bool HR.out.symm, grow (Below.refl _ _) _⟩
      rw [hop] at cp
      cases hok : okB a
      · rw [hok] at ca
        have HR := (show Hid _ from HN.out (by unfold headB; intro h; rw [h.2.2.2] at hok; cases hok))
        clear HN HY ct ct' hz hop hok
        go_enter Tryd.func9, Tryd.ntmps9
        go_wp2_with (first | (go_at_call 19; refine (cn _).mono ?_; rintro e w' ⟨rfl, rfl⟩) | (go_at_call 20; refine (cp _).mono ?_; rintro e w' ⟨rfl, rfl⟩) | (go_at_call 21; refine (ca _).mono ?_; rintro e w' ⟨rfl, rfl⟩) | (go_at_call 15; refine (ct _).mono ?_; rintro e w' ⟨rfl, hb⟩))
        all_goals go_ret
        all_goals exact ⟨ret_bool HR.out.symm, grow (Below.refl _ _) _⟩
      rw [hok] at ca
      have HR := (show Hid _ from HY.out (by unfold headB; exact ⟨by exact .inr hn, fun _ => ha, hop, hok⟩))
      have ct := ct' 
      clear HN HY ct' hop hok
      go_enter Tryd.func9, Tryd.ntmps9
      go_wp2_with (first | (go_at_call 19; refine (cn _).mono ?_; rintro e w' ⟨rfl, rfl⟩) | (go_at_call 20; refine (cp _).mono ?_; rintro e w' ⟨rfl, rfl⟩) | (go_at_call 21; refine (ca _).mono ?_; rintro e w' ⟨rfl, rfl⟩) | (go_at_call 15; refine (ct _).mono ?_; rintro e w' ⟨rfl, hb⟩))
      go_ret
      exact ⟨ret_bool HR.out.symm, (grow (Below.refl _ _) _).trans (hb.mono (by simp))⟩
    · have ea := empty_no ha
      clear ct
      cases hop : opB o
      · rw [hop] at cp
        have HR := (show Hid _ from HN.out (by unfold headB; intro h; rw [h.2.2.1] at hop; cases hop))
        clear HN HY hz hop
        go_enter Tryd.func9, Tryd.ntmps9
        go_wp2_with (first | (go_at_call 19; refine (cn _).mono ?_; rintro e w' ⟨rfl, rfl⟩) | (go_at_call 20; refine (cp _).mono ?_; rintro e w' ⟨rfl, rfl⟩) | (go_at_call 21; refine (ca _).mono ?_; rintro e w' ⟨rfl, rfl⟩) | (go_at_call 15; refine (ct _).mono ?_; rintro e w' ⟨rfl, hb⟩))
        all_goals go_ret
        all_goals exact ⟨ret_bool HR.out.symm, grow (Below.refl _ _) _⟩
      rw [hop] at cp
      cases hok : okB a
      · rw [hok] at ca
        have HR := (show Hid _ from HN.out (by unfold headB; intro h; rw [h.2.2.2] at hok; cases hok))
        clear HN HY hz hop hok
        go_enter Tryd.func9, Tryd.ntmps9
        go_wp2_with (first | (go_at_call 19; refine (cn _).mono ?_; rintro e w' ⟨rfl, rfl⟩) | (go_at_call 20; refine (cp _).mono ?_; rintro e w' ⟨rfl, rfl⟩) | (go_at_call 21; refine (ca _).mono ?_; rintro e w' ⟨rfl, rfl⟩) | (go_at_call 15; refine (ct _).mono ?_; rintro e w' ⟨rfl, hb⟩))
        all_goals go_ret
        all_goals exact ⟨ret_bool HR.out.symm, grow (Below.refl _ _) _⟩
      rw [hok] at ca
      have HR := (show Hid _ from HN.out (by unfold headB; intro h; exact ha (h.2.1 ho)))
      clear HN HY hz hop hok
      go_enter Tryd.func9, Tryd.ntmps9
      go_wp2_with (first | (go_at_call 19; refine (cn _).mono ?_; rintro e w' ⟨rfl, rfl⟩) | (go_at_call 20; refine (cp _).mono ?_; rintro e w' ⟨rfl, rfl⟩) | (go_at_call 21; refine (ca _).mono ?_; rintro e w' ⟨rfl, rfl⟩) | (go_at_call 15; refine (ct _).mono ?_; rintro e w' ⟨rfl, hb⟩))
      all_goals go_ret
      all_goals exact ⟨ret_bool HR.out.symm, grow (Below.refl _ _) _⟩
  · have eo := empty_no ho
    have ct' := fun w => ct w (fun h => absurd h ho)
    cases hop : opB o
    · rw [hop] at cp
      have HR := (show Hid _ from HN.out (by unfold headB; intro h; rw [h.2.2.1] at hop; cases hop))
      clear HN HY ct ct' hz hop
      go_enter Tryd.func9, Tryd.ntmps9
      go_wp2_with (first | (go_at_call 19; refine (cn _).mono ?_; rintro e w' ⟨rfl, rfl⟩) | (go_at_call 20; refine (cp _).mono ?_; rintro e w' ⟨rfl, rfl⟩) | (go_at_call 21; refine (ca _).mono ?_; rintro e w' ⟨rfl, rfl⟩) | (go_at_call 15; refine (ct _).mono ?_; rintro e w' ⟨rfl, hb⟩))
      all_goals go_ret
      all_goals exact ⟨ret_bool HR.out.symm, grow (Below.refl _ _) _⟩
    rw [hop] at cp
    cases hok : okB a
    · rw [hok] at ca
      have HR := (show Hid _ from HN.out (by unfold headB; intro h; rw [h.2.2.2] at hok; cases hok))
      clear HN HY ct ct' hz hop hok
      go_enter Tryd.func9, Tryd.ntmps9
      go_wp2_with (first | (go_at_call 19; refine (cn _).mono ?_; rintro e w' ⟨rfl, rfl⟩) | (go_at_call 20; refine (cp _).mono ?_; rintro e w' ⟨rfl, rfl⟩) | (go_at_call 21; refine (ca _).mono ?_; rintro e w' ⟨rfl, rfl⟩) | (go_at_call 15; refine (ct _).mono ?_; rintro e w' ⟨rfl, hb⟩))
      all_goals go_ret
      all_goals exact ⟨ret_bool HR.out.symm, grow (Below.refl _ _) _⟩
    rw [hok] at ca
    have HR := (show Hid _ from HY.out (by unfold headB; exact ⟨by exact .inr hn, fun h => absurd h ho, hop, hok⟩))
    have ct := ct' 
    clear HN HY ct' hop hok
    go_enter Tryd.func9, Tryd.ntmps9
    go_wp2_with (first | (go_at_call 19; refine (cn _).mono ?_; rintro e w' ⟨rfl, rfl⟩) | (go_at_call 20; refine (cp _).mono ?_; rintro e w' ⟨rfl, rfl⟩) | (go_at_call 21; refine (ca _).mono ?_; rintro e w' ⟨rfl, rfl⟩) | (go_at_call 15; refine (ct _).mono ?_; rintro e w' ⟨rfl, hb⟩))
    go_ret
    exact ⟨ret_bool HR.out.symm, (grow (Below.refl _ _) _).trans (hb.mono (by simp))⟩

/-- The text of a right line. -/
noncomputable def textB (l o a : ByteArray) : ByteArray := if lineB l o a = true then lineT l o a else ⟨#[]⟩

set_option maxHeartbeats 1000000 in
theorem implText_any (l o a : ByteArray) (w : World) (zl : l.size ≤ 1048576) (zo : o.size ≤ 1048576) (za : a.size ≤ 1048576) :
    Calls Tryd.prog 6 #[.agg #[.string l, .string o, .string a]] w fun e w' => e = .returned (.string (textB l o a)) ∧ Below w.heap.size w w' := by
  have co := fun w => implOk_any l o a w zl zo za
  have bx : ∀ i, (w.alloc (.cells #[.string l, .string o, .string a] 25)).cell? ⟨w.heap.size, i, none⟩ = (#[.string l, .string o, .string a] : Array Value)[i]? := fun i => World.cell?_alloc_new _ _ _ _
  cases hb : lineB l o a
  · have HT := (show Hid _ from (show textB l o a = ⟨#[]⟩ from by unfold textB; rw [hb]; rfl))
    rw [hb] at co
    clear hb bx
    go_enter Tryd.func6, Tryd.ntmps6
    go_wp2_with (go_at_call 8; refine (co _).mono ?_; rintro e w' ⟨rfl, hb1⟩)
    go_ret
    exact ⟨ret_str HT.out, (grow (Below.refl _ _) _).trans (hb1.mono (by simp))⟩
  · have HT := (show Hid _ from (show textB l o a = lineT l o a from by unfold textB; rw [hb]; rfl))
    have hh : headB l o a := by
      rcases Classical.em (headB l o a) with h | h
      · exact h
      · rw [line_no h] at hb; cases hb
    have ct := fun w => joined_any l o a w zl zo za hh.2.1
    have BX := (show Hid _ from bx)
    rw [hb] at co
    clear hb hh bx
    go_enter Tryd.func6, Tryd.ntmps6
    go_wp2_with (first | (go_at_call 8; refine (co _).mono ?_; rintro e w1 ⟨rfl, hb1⟩; have hc : ∀ i, w1.cell? ⟨w.heap.size, i, none⟩ = (#[.string l, .string o, .string a] : Array Value)[i]? := (fun i => (hb1.cell (p := ⟨w.heap.size, i, none⟩) (by simp)).trans (BX.out i)); have c0 : w1.cell? ⟨w.heap.size, 0, none⟩ = some (.string l) := hc 0; have c1 : w1.cell? ⟨w.heap.size, 1, none⟩ = some (.string o) := hc 1; have c2 : w1.cell? ⟨w.heap.size, 2, none⟩ = some (.string a) := hc 2; have B1 : Hid (Below w.heap.size w w1) := (grow (Below.refl _ _) _).trans (hb1.mono (by simp)); clear hc hb1) | (go_at_call 14; refine (ct _).mono ?_; rintro e w2 ⟨rfl, hb2⟩))
    go_ret
    exact ⟨ret_str HT.out, B1.out.trans (hb2.mono B1.out.size)⟩

set_option maxHeartbeats 1000000 in
theorem specText_any (l o a : ByteArray) (w : World) (zl : l.size ≤ 1048576) (zo : o.size ≤ 1048576) (za : a.size ≤ 1048576) :
    Calls Tryd.prog 7 #[.agg #[.string l, .string o, .string a]] w fun e w' => e = .returned (.string (textB l o a)) ∧ Below w.heap.size w w' := by
  have co := fun w => specOk_any l o a w zl zo za
  have bx : ∀ i, (w.alloc (.cells #[.string l, .string o, .string a] 25)).cell? ⟨w.heap.size, i, none⟩ = (#[.string l, .string o, .string a] : Array Value)[i]? := fun i => World.cell?_alloc_new _ _ _ _
  cases hb : lineB l o a
  · have HT := (show Hid _ from (show textB l o a = ⟨#[]⟩ from by unfold textB; rw [hb]; rfl))
    rw [hb] at co
    clear hb bx
    go_enter Tryd.func7, Tryd.ntmps7
    go_wp2_with (go_at_call 9; refine (co _).mono ?_; rintro e w' ⟨rfl, hb1⟩)
    go_ret
    exact ⟨ret_str HT.out, (grow (Below.refl _ _) _).trans (hb1.mono (by simp))⟩
  · have HT := (show Hid _ from (show textB l o a = lineT l o a from by unfold textB; rw [hb]; rfl))
    have hh : headB l o a := by
      rcases Classical.em (headB l o a) with h | h
      · exact h
      · rw [line_no h] at hb; cases hb
    have ct := fun w => text_any l o a w zl zo za hh.2.1
    have BX := (show Hid _ from bx)
    rw [hb] at co
    clear hb hh bx
    go_enter Tryd.func7, Tryd.ntmps7
    go_wp2_with (first | (go_at_call 9; refine (co _).mono ?_; rintro e w1 ⟨rfl, hb1⟩; have hc : ∀ i, w1.cell? ⟨w.heap.size, i, none⟩ = (#[.string l, .string o, .string a] : Array Value)[i]? := (fun i => (hb1.cell (p := ⟨w.heap.size, i, none⟩) (by simp)).trans (BX.out i)); have c0 : w1.cell? ⟨w.heap.size, 0, none⟩ = some (.string l) := hc 0; have c1 : w1.cell? ⟨w.heap.size, 1, none⟩ = some (.string o) := hc 1; have c2 : w1.cell? ⟨w.heap.size, 2, none⟩ = some (.string a) := hc 2; have B1 : Hid (Below w.heap.size w w1) := (grow (Below.refl _ _) _).trans (hb1.mono (by simp)); clear hc hb1) | (go_at_call 15; refine (ct _).mono ?_; rintro e w2 ⟨rfl, hb2⟩))
    go_ret
    exact ⟨ret_str HT.out, B1.out.trans (hb2.mono B1.out.size)⟩
end Go.Proofs.YtcjipfjbbdbbgaaDoor.Lino
