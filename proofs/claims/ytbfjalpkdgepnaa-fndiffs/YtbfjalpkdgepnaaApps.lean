/-
  A contract of ours for spec.Applied, at every text.
-/
import Derived.Test.YtbfjalpkdgepnaaAppc
namespace Go.Proofs.Ytbfjalpkdgepnaa.Apps
open Go.ChangeShapes Go.WideShapes Go.ChangeAt Go.RowKit Go.Deep
open Appn Appp
open Difs (drewN_below)
set_option linter.unusedVariables false
set_option linter.unusedSimpArgs false
set_option maxRecDepth 20000
abbrev X (d : ByteArray) (i j : Nat) : List UInt8 := (d.extract i j).data.toList
theorem X_eq (d : ByteArray) (i j : Nat) : X d i j = (d.data.toList.drop i).take (j - i) := by
  show (d.extract i j).data.toList = _
  rw [ByteArray.data_extract, Array.toList_extract, List.extract_eq_take_drop]
theorem X_len (d : ByteArray) {i j : Nat} (h : j ≤ d.size) : (X d i j).length = j - i := by
  show (d.extract i j).data.toList.length = _
  rw [Array.length_toList]
  show (d.extract i j).size = _
  rw [ByteArray.size_extract]; omega
theorem X_part (d : ByteArray) {k e i m : Nat} (h : k + i + m ≤ e) : ((X d k e).drop i).take m = X d (k + i) (k + i + m) := by
  rw [X_eq, X_eq, List.drop_take, List.drop_drop, List.take_take]
  congr 1
  omega
theorem X_drop (d : ByteArray) {k e i : Nat} : (X d k e).drop i = X d (k + i) e := by
  rw [X_eq, X_eq, List.drop_take, List.drop_drop]
  congr 1
  omega
theorem X_take (d : ByteArray) {k e m : Nat} (h : k + m ≤ e) : (X d k e).take m = X d k (k + m) := by
  have := X_part d (k := k) (e := e) (i := 0) (m := m) (by omega)
  rw [List.drop_zero, Nat.add_zero] at this
  exact this
/-- The next piece of what stands from k on. -/
theorem next_short {d : ByteArray} {k e : Nat} (he : e ≤ d.size) (h : e < k + 6) : (nextP (X d k e)).2.1 = [] := by
  unfold nextP
  rw [X_len d he]
  split
  · rfl
  · split
    · rfl
    · rename_i h1 h2
      have : num (List.take 2 (List.drop 3 (X d k e))) = 0 := by omega
      dsimp only
      rw [this, List.take_zero]
theorem next_lack {d : ByteArray} {k e n : Nat} (he : e ≤ d.size) (h : k + 6 ≤ e) (hn : num (X d (k + 3) (k + 5)) = n) (hb : n = 0 ∨ e < k + 5 + n) : (nextP (X d k e)).2.1 = [] := by
  unfold nextP
  rw [X_len d he, X_part d (show k + 3 + 2 ≤ e by omega), show k + 3 + 2 = k + 5 by omega, hn, if_neg (by omega)]
  split
  · rfl
  · rename_i h2
    have : n = 0 := by omega
    dsimp only
    rw [this, List.take_zero]
theorem next_some {d : ByteArray} {k e n : Nat} (he : e ≤ d.size) (h : k + 6 ≤ e) (hn : num (X d (k + 3) (k + 5)) = n) (hb : ¬ e < k + 5 + n) : nextP (X d k e) = (num (X d k (k + 3)), X d (k + 5) (k + 5 + n), X d (k + 5 + n) e) := by
  unfold nextP
  rw [X_len d he, X_part d (show k + 3 + 2 ≤ e by omega), show k + 3 + 2 = k + 5 by omega, hn, if_neg (by omega), if_neg (by omega), X_take d (show k + 3 ≤ e by omega), X_part d (show k + 5 + n ≤ e by omega), X_drop, show k + (5 + n) = k + 5 + n by omega]
theorem next_lack' {d : ByteArray} {k e k3 k5 : Nat} (he : e ≤ d.size) (h : k + 6 ≤ e) (h3 : k3 = k + 3) (h5 : k5 = k + 5) (hb : num (X d k3 k5) = 0 ∨ e < k5 + num (X d k3 k5)) : (nextP (X d k e)).2.1 = [] := by
  subst h3 h5; exact next_lack he h rfl hb
theorem next_some' {d : ByteArray} {k e k3 k5 : Nat} (he : e ≤ d.size) (h : k + 6 ≤ e) (h3 : k3 = k + 3) (h5 : k5 = k + 5) (hb : ¬ e < k5 + num (X d k3 k5)) : nextP (X d k e) = (num (X d k k3), X d k5 (k5 + num (X d k3 k5)), X d (k5 + num (X d k3 k5)) e) := by
  subst h3 h5; exact next_some he h rfl hb
theorem X_ne {d : ByteArray} {k e : Nat} (he : e ≤ d.size) (h : k < e) : X d k e ≠ [] := fun hh => by
  have := X_len d (i := k) he; rw [hh] at this; simp at this; omega
theorem ret_two' {a d : ByteArray} {b : ByteArray} {q : Bool} (h : outV a d = b ∧ outB a d = q) : Ending.returned (.tuple #[.string b, .bool q]) = .returned (.tuple #[.string (outV a d), .bool (outB a d)]) := by rw [h.1, h.2]
theorem str_ne {s t : ByteArray} (h : s ≠ t) : (s.toList != t.toList) = true := by
  rw [bne_iff_ne]
  intro hh
  rw [ByteArray.toList_eq, ByteArray.toList_eq] at hh
  exact h (ByteArray.ext (Array.toList_inj.1 hh))
theorem list4 : DIFF.toList = [68, 73, 70, 70] := by rw [ByteArray.toList_eq]
theorem list3 : END.toList = [69, 78, 68] := by rw [ByteArray.toList_eq]
theorem ne4 {s : ByteArray} (h : s ≠ DIFF) : (s.toList != [68, 73, 70, 70]) = true ∧ (s.toList == [68, 73, 70, 70]) = false := by
  have := str_ne h
  rw [list4] at this
  refine ⟨this, ?_⟩
  rw [bne, Bool.not_eq_true'] at this
  exact this
theorem ne3 {s : ByteArray} (h : s ≠ END) : (s.toList != [69, 78, 68]) = true ∧ (s.toList == [69, 78, 68]) = false := by
  have := str_ne h
  rw [list3] at this
  refine ⟨this, ?_⟩
  rw [bne, Bool.not_eq_true'] at this
  exact this
set_option maxHeartbeats 4000000 in
theorem specApplied_any (a d : ByteArray) (w : World) (ha : a.size ≤ 1048576) (hd : d.size ≤ 1048576) :
    Calls Try.prog 9 #[.string a, .string d] w fun e w' => e = .returned (.tuple #[.string (outV a d), .bool (outB a d)]) ∧ Below w.heap.size w w' := by
  by_cases c1 : 20000 < a.size
  · have HE : Hid (outV a d = ⟨#[]⟩ ∧ outB a d = false) := no_form (fun h => by have := h.1; omega)
    have d1 : decide ((20000 : Int) < (a.size : Int)) = true := decide_eq_true (by omega)
    go_enter Try.func9, Try.ntmps9
    go_wp2
    go_ret2
    exact ⟨ret_two' HE.out, Below.refl _ _⟩
  have d1 : decide ((20000 : Int) < (a.size : Int)) = false := decide_eq_false (by omega)
  by_cases c2 : 80000 < d.size
  · have HE : Hid (outV a d = ⟨#[]⟩ ∧ outB a d = false) := no_form (fun h => by have := h.2.2.1; omega)
    have d2 : decide ((80000 : Int) < (d.size : Int)) = true := decide_eq_true (by omega)
    go_enter Try.func9, Try.ntmps9
    go_wp2
    go_ret2
    exact ⟨ret_two' HE.out, Below.refl _ _⟩
  have d2 : decide ((80000 : Int) < (d.size : Int)) = false := decide_eq_false (by omega)
  by_cases c3 : d.size < 10
  · have HE : Hid (outV a d = ⟨#[]⟩ ∧ outB a d = false) := no_form (fun h => by have := h.2.1; omega)
    have d3 : decide ((d.size : Int) < 10) = true := decide_eq_true (by omega)
    go_enter Try.func9, Try.ntmps9
    go_wp2
    go_ret2
    exact ⟨ret_two' HE.out, Below.refl _ _⟩
  have d3 : decide ((d.size : Int) < 10) = false := decide_eq_false (by omega)
  have k4 : (4 : Int) ≤ (d.size : Int) := by omega
  by_cases c4 : d.extract 0 4 = DIFF
  · have l4 : ((d.extract 0 4).toList != [68, 73, 70, 70]) = false := by rw [c4, list4]; rfl
    have l4' : (d.extract 0 4).toList = [68, 73, 70, 70] := by rw [c4, list4]
    obtain ⟨e, he⟩ : ∃ e : Nat, e + 6 = d.size := ⟨d.size - 6, by omega⟩
    obtain ⟨f, hf⟩ : ∃ f : Nat, f = e + 3 := ⟨_, rfl⟩
    have ee : (d.size : Int) - 6 = (e : Int) := by omega
    have ef : (e : Int) + 3 = (f : Int) := by omega
    have f0 : (0 : Int) ≤ (f : Int) := by omega
    have f1 : (f : Int) ≤ (d.size : Int) := by omega
    have e0 : (0 : Int) ≤ (e : Int) := by omega
    have e1 : (e : Int) ≤ (f : Int) := by omega
    have ew1 : IntKind.i64.wrap (e : Int) = (e : Int) := by rw [IntKind.wrap_i64]; omega
    have ew2 : IntKind.i64.wrap (f : Int) = (f : Int) := by rw [IntKind.wrap_i64]; omega
    have cr := fun w => read_any (d.extract f d.size) w (by rw [ByteArray.size_extract]; omega)
    have AL : Hid (num (d.extract f d.size).data.toList = allOf d) := by
      show _ = _
      unfold allOf
      rw [show d.size - 3 = f by omega]
    rw [AL.out] at cr
    have hall : allOf d < 16777217 := by
      have h1 := num_lt (d.extract f d.size).data.toList
      rw [AL.out, Array.length_toList] at h1
      have h2 : (d.extract f d.size).data.size = 3 := by show (d.extract f d.size).size = 3; rw [ByteArray.size_extract]; omega
      rw [h2] at h1
      omega
    have FORM : Hid (d.extract e f = END → allOf d ≤ 20000 → Appp.Form a d) := fun h1 h2 => ⟨by omega, by omega, by omega, c4, by rw [show d.size - 6 = e by omega, show d.size - 3 = f by omega]; exact h1, h2⟩
    have NF1 : Hid (d.extract e f ≠ END → outV a d = ⟨#[]⟩ ∧ outB a d = false) := fun h => no_form (fun hh => h (by have := hh.2.2.2.2.1; rw [show d.size - 6 = e by omega, show d.size - 3 = f by omega] at this; exact this))
    have NF2 : Hid (20000 < allOf d → outV a d = ⟨#[]⟩ ∧ outB a d = false) := fun h => no_form (fun hh => by have := hh.2.2.2.2.2; omega)
    have MID : Hid (mid d = d.extract 4 e) := by show _ = _; unfold mid; rw [show d.size - 6 = e by omega]
    have HE6 : Hid (e + 6 = d.size) := he
    generalize hA : allOf d = A at *
    have HA : Hid (allOf d = A) := hA
    clear hA he hf AL c4
    by_cases c5 : d.extract e f = END
    · have l5 : ((d.extract e f).toList != [69, 78, 68]) = false := by rw [c5, list3]; rfl
      have l5' : (d.extract e f).toList = [69, 78, 68] := by rw [c5, list3]
      by_cases c6 : 20000 < A
      · have d6 : decide ((20000 : Int) < (A : Int)) = true := decide_eq_true (by omega)
        have d6' : (20000 : Int) < (A : Int) := by omega
        have HE : Hid (outV a d = ⟨#[]⟩ ∧ outB a d = false) := NF2.out c6
        clear NF1 NF2 FORM
        go_enter Try.func9, Try.ntmps9
        go_wp2_with (go_at_call 19; refine (cr _).mono ?_; rintro e' w' ⟨rfl, hw'⟩; have hw' := hw'.symm; subst hw')
        go_ret2
        exact ⟨ret_two' HE.out, Below.refl _ _⟩
      · have d6 : decide ((20000 : Int) < (A : Int)) = false := decide_eq_false (by omega)
        have d6' : ¬ (20000 : Int) < (A : Int) := by omega
        have FO : Hid (Appp.Form a d) := FORM.out c5 (by omega)
        clear NF1 NF2 FORM c5
        obtain ⟨o, ho⟩ := Rowb.made A (by omega)
        have hmk := fun u => (ho u).1
        have R0 : Hid (Rowb.Row (w.alloc o) w.heap.size (List.replicate A 0)) := (ho w).2
        have B0 : Hid (Below w.heap.size w (w.alloc o)) := (Below.refl _ _).alloc (Nat.le_refl _) _
        obtain ⟨w2, m2, hc2, r2, b2⟩ := Appc.copy_min R0.out a A A (by simp)
        have R2 : Hid (Rowb.Row w2 w.heap.size (Appp.start A a)) := r2
        have B2 : Hid (Below w.heap.size w w2) := b2 _ _ (Nat.le_refl _) B0.out
        clear r2 b2 R0 B0 ho
        go_enter Try.func9, Try.ntmps9
        go_wp2_with (go_at_call 19; refine (cr _).mono ?_; rintro e' w' ⟨rfl, hw'⟩; have hw' := hw'.symm; subst hw')
        have C0 : Hid (Come a d (X d 4 e) [] (Appp.start A a, 0)) := by
          have := Come.start FO.out
          rw [HA.out, MID.out] at this
          exact this
        go_loopw [9, 10] (fun v i wr => ∃ (k lst : Nat) (p : List (Nat × List UInt8)) (o : List UInt8), i = .int .i64 (k : Int) ∧ v = .int .i64 (lst : Int) ∧ k ≤ 80000 ∧ lst ≤ A ∧ Hid (k ≤ e) ∧ Hid (o.length = A) ∧ Hid (Come a d (X d k e) p (o, lst)) ∧ Hid (Rowb.Row wr w.heap.size o) ∧ Hid (Below w.heap.size w wr)) (fun _ i _ => d.size - (intOf i).toNat)
        case atStart => exact ⟨4, 0, [], _, rfl, rfl, by omega, by omega, by have := HE6.out; show _ ≤ _; omega, start_len _ _, C0.out, R2.out, B2.out⟩
        case round =>
          clear C0 R2 B2 hc2 hmk cr
          obtain ⟨k, lst, p, o, rfl, rfl, hk8, hls, hke, hol, hcome, hrow, hbel⟩ := hrel
          have k0 : (0 : Int) ≤ (k : Int) := by omega
          have hes : e ≤ d.size := by have := HE6.out; omega
          by_cases hlt : k < e
          · have hlt' : (k : Int) < (e : Int) := by omega
            have hne := X_ne hes hlt
            obtain ⟨g, hg⟩ : ∃ g : Nat, g + k = e := ⟨e - k, by omega⟩
            have eg : (e : Int) - (k : Int) = (g : Int) := by omega
            have BAD : Hid (bad A (o, lst) ((nextP (X d k e)).1, (nextP (X d k e)).2.1) → outV a d = ⟨#[]⟩ ∧ outB a d = false) := fun h => hcome.out.bad hne (by rw [HA.out]; exact h)
            by_cases c7 : g < 6
            · have HE : Hid (outV a d = ⟨#[]⟩ ∧ outB a d = false) := BAD.out (.inl (next_short hes (by omega)))
              have d7 : (g : Int) < 6 := by omega
              clear BAD hcome hne
              go_wp2
              go_ret2
              exact ⟨ret_two' HE.out, hbel.out⟩
            have d7 : ¬ (g : Int) < 6 := by omega
            obtain ⟨k3, hk3⟩ : ∃ k3 : Nat, k3 = k + 3 := ⟨_, rfl⟩
            obtain ⟨k5, hk5⟩ : ∃ k5 : Nat, k5 = k + 5 := ⟨_, rfl⟩
            have e3 : (k : Int) + 3 = (k3 : Int) := by omega
            have e5 : (k : Int) + 5 = (k5 : Int) := by omega
            have b1 : (k : Int) ≤ (k3 : Int) := by omega
            have b2 : (k3 : Int) ≤ (k5 : Int) := by omega
            have b3 : (k3 : Int) ≤ (d.size : Int) := by omega
            have b5 : (k5 : Int) ≤ (d.size : Int) := by omega
            have b0 : (0 : Int) ≤ (k3 : Int) := by omega
            have cf := fun w => read_any (d.extract k k3) w (by rw [ByteArray.size_extract]; omega)
            have cn := fun w => read_any (d.extract k3 k5) w (by rw [ByteArray.size_extract]; omega)
            have hf24 : num (X d k k3) < 16777217 := by have h1 := num_lt (X d k k3); rw [X_len d (by omega), show k3 - k = 3 by omega] at h1; omega
            have hn16 : num (X d k3 k5) < 65537 := by have h1 := num_lt (X d k3 k5); rw [X_len d (by omega), show k5 - k3 = 2 by omega] at h1; omega
            have LACK : Hid (num (X d k3 k5) = 0 ∨ e < k5 + num (X d k3 k5) → outV a d = ⟨#[]⟩ ∧ outB a d = false) := fun h => BAD.out (.inl (next_lack' hes (by omega) hk3 hk5 h))
            have SOME : Hid (¬ e < k5 + num (X d k3 k5) → nextP (X d k e) = (num (X d k k3), X d k5 (k5 + num (X d k3 k5)), X d (k5 + num (X d k3 k5)) e)) := fun h => next_some' hes (by omega) hk3 hk5 h
            have NEXT : Hid (¬ bad A (o, lst) ((nextP (X d k e)).1, (nextP (X d k e)).2.1) → Come a d (nextP (X d k e)).2.2 (p ++ [((nextP (X d k e)).1, (nextP (X d k e)).2.1)]) (Rowb.over o (nextP (X d k e)).1 (nextP (X d k e)).2.1, (nextP (X d k e)).1 + (nextP (X d k e)).2.1.length)) := fun h => hcome.out.next hne (by rw [HA.out]; exact h)
            generalize hfv : num (X d k k3) = fv at *
            generalize hnv : num (X d k3 k5) = n at *
            have HK5 : Hid (k5 = k + 5 ∧ g + k = e) := ⟨hk5, hg⟩
            have g5 : k5 + (g - 5) = e := by omega
            obtain ⟨t, ht⟩ : ∃ t : Nat, t + 5 = g := ⟨g - 5, by omega⟩
            have et : (g : Int) - 5 = (t : Int) := by omega
            clear hcome hne hfv hnv hk3 hk5 hg g5
            by_cases c8 : n = 0
            · have HE : Hid (outV a d = ⟨#[]⟩ ∧ outB a d = false) := LACK.out (.inl c8)
              have d8 : ((n : Int) == 0) = true := by simp; omega
              have d8' : (n : Int) = 0 := by omega
              clear BAD LACK SOME NEXT
              go_wp2_with first
                | (go_at_call_of 19 (d.extract k k3); refine (cf _).mono ?_; rintro e' w' ⟨rfl, hw'⟩; have hw' := hw'.symm; subst hw'; clear cf)
                | (go_at_call_of 19 (d.extract k3 k5); refine (cn _).mono ?_; rintro e' w' ⟨rfl, hw'⟩; have hw' := hw'.symm; subst hw'; clear cn)
              go_ret2
              exact ⟨ret_two' HE.out, hbel.out⟩
            have d8 : ((n : Int) == 0) = false := by simp; omega
            have d8' : ¬ (n : Int) = 0 := by omega
            by_cases c9 : t < n
            · have HE : Hid (outV a d = ⟨#[]⟩ ∧ outB a d = false) := LACK.out (.inr (by have := HK5.out; omega))
              have d9 : (t : Int) < (n : Int) := by omega
              have d9' : decide ((t : Int) < (n : Int)) = true := decide_eq_true d9
              clear BAD LACK SOME NEXT
              go_wp2_with first
                | (go_at_call_of 19 (d.extract k k3); refine (cf _).mono ?_; rintro e' w' ⟨rfl, hw'⟩; have hw' := hw'.symm; subst hw'; clear cf)
                | (go_at_call_of 19 (d.extract k3 k5); refine (cn _).mono ?_; rintro e' w' ⟨rfl, hw'⟩; have hw' := hw'.symm; subst hw'; clear cn)
              go_ret2
              exact ⟨ret_two' HE.out, hbel.out⟩
            have d9 : ¬ (t : Int) < (n : Int) := by omega
            have d9' : decide ((t : Int) < (n : Int)) = false := decide_eq_false d9
            obtain ⟨y, hy⟩ : ∃ y : Nat, y = k5 + n := ⟨_, rfl⟩
            have hye : y ≤ e := by have := HK5.out; omega
            have zx : (d.extract k5 y).size = n := by rw [ByteArray.size_extract]; omega
            have hnx := SOME.out (by have := HK5.out; omega)
            rw [← hy] at hnx
            have hxl : (X d k5 y).length = n := by rw [X_len d (by omega)]; omega
            have hxn : X d k5 y ≠ [] := fun hh => by rw [hh] at hxl; simp at hxl; omega
            rw [hnx] at BAD NEXT
            dsimp only at BAD NEXT
            have BADL : Hid (fv < lst → outV a d = ⟨#[]⟩ ∧ outB a d = false) := fun h => BAD.out (.inr (.inl h))
            have BADG : Hid (A < fv + n → outV a d = ⟨#[]⟩ ∧ outB a d = false) := fun h => BAD.out (.inr (.inr (by dsimp only; rw [hxl]; exact h)))
            have NX : Hid (¬ fv < lst → ¬ A < fv + n → Come a d (X d y e) (p ++ [(fv, X d k5 y)]) (Rowb.over o fv (X d k5 y), fv + n)) := fun h1 h2 => by
              have := NEXT.out (by rintro (h | h | h); (exact hxn h); (exact h1 h); (dsimp only at h; rw [hxl] at h; exact h2 h))
              rw [hxl] at this
              exact this
            clear BAD LACK SOME NEXT hnx
            by_cases c10 : fv < lst
            · have HE : Hid (outV a d = ⟨#[]⟩ ∧ outB a d = false) := BADL.out c10
              have d10 : (fv : Int) < (lst : Int) := by omega
              have d10' : decide ((fv : Int) < (lst : Int)) = true := decide_eq_true d10
              clear BADL BADG NX
              go_wp2_with first
                | (go_at_call_of 19 (d.extract k k3); refine (cf _).mono ?_; rintro e' w' ⟨rfl, hw'⟩; have hw' := hw'.symm; subst hw'; clear cf)
                | (go_at_call_of 19 (d.extract k3 k5); refine (cn _).mono ?_; rintro e' w' ⟨rfl, hw'⟩; have hw' := hw'.symm; subst hw'; clear cn)
              go_ret2
              exact ⟨ret_two' HE.out, hbel.out⟩
            have d10 : ¬ (fv : Int) < (lst : Int) := by omega
            have d10' : decide ((fv : Int) < (lst : Int)) = false := decide_eq_false d10
            obtain ⟨z, hz⟩ : ∃ z : Nat, z = fv + n := ⟨_, rfl⟩
            have ez : (fv : Int) + (n : Int) = (z : Int) := by omega
            have HZ : Hid (z = fv + n) := hz
            have HYY : Hid (y = k5 + n) := hy
            clear hz hy
            by_cases c11 : A < z
            · have HE : Hid (outV a d = ⟨#[]⟩ ∧ outB a d = false) := BADG.out (by have := HZ.out; omega)
              have d11 : (A : Int) < (z : Int) := by omega
              have d11' : decide ((A : Int) < (z : Int)) = true := decide_eq_true d11
              clear BADL BADG NX
              go_wp2_with first
                | (go_at_call_of 19 (d.extract k k3); refine (cf _).mono ?_; rintro e' w' ⟨rfl, hw'⟩; have hw' := hw'.symm; subst hw'; clear cf)
                | (go_at_call_of 19 (d.extract k3 k5); refine (cn _).mono ?_; rintro e' w' ⟨rfl, hw'⟩; have hw' := hw'.symm; subst hw'; clear cn)
              go_ret2
              exact ⟨ret_two' HE.out, hbel.out⟩
            have d11 : ¬ (A : Int) < (z : Int) := by omega
            have d11' : decide ((A : Int) < (z : Int)) = false := decide_eq_false d11
            have HC : Hid (Come a d (X d y e) (p ++ [(fv, X d k5 y)]) (Rowb.over o fv (X d k5 y), z)) := by rw [HZ.out]; exact NX.out c10 (by have := HZ.out; omega)
            obtain ⟨w4, hc4, r4, b4⟩ := Rowb.copy_at (w := wr.drew) hrow.out fv (A - fv) (A - fv) (d.extract k5 y) (by have := HZ.out; omega) (by have := HZ.out; rw [hol.out]; omega)
            have R4 : Hid (Rowb.Row w4 w.heap.size (Rowb.over o fv (X d k5 y))) := r4
            have B4 : Hid (Below w.heap.size w w4) := b4 _ _ (Nat.le_refl _) hbel.out.drew
            have L4 : Hid ((Rowb.over o fv (X d k5 y)).length = A) := by show _ = _; rw [Rowb.over_length _ _ _ (by have := HZ.out; rw [hxl, hol.out]; omega)]; exact hol.out
            have ey : (k5 : Int) + (n : Int) = (y : Int) := by have := HYY.out; omega
            have fv0 : (0 : Int) ≤ (fv : Int) := by omega
            have fvA : (fv : Int) ≤ (A : Int) := by have := HZ.out; omega
            have k50 : (0 : Int) ≤ (k5 : Int) := by omega
            have k5y : (k5 : Int) ≤ (y : Int) := by have := HYY.out; omega
            have yd : (y : Int) ≤ (d.size : Int) := by omega
            have HY : Hid (k < y ∧ y ≤ e) := ⟨by have := HK5.out; have := HYY.out; omega, hye⟩
            clear BADL BADG NX r4 b4 hxn hxl
            rw [zx] at hc4
            go_wp2_with first
              | (go_at_call_of 19 (d.extract k k3); refine (cf _).mono ?_; rintro e' w' ⟨rfl, hw'⟩; have hw' := hw'.symm; subst hw'; clear cf)
              | (go_at_call_of 19 (d.extract k3 k5); refine (cn _).mono ?_; rintro e' w' ⟨rfl, hw'⟩; have hw' := hw'.symm; subst hw'; clear cn)
            have wk5 : IntKind.i64.wrap (k5 : Int) = (k5 : Int) := by rw [IntKind.wrap_i64]; omega
            have wy : IntKind.i64.wrap (y : Int) = (y : Int) := by rw [IntKind.wrap_i64]; omega
            have wn : IntKind.i64.wrap (n : Int) = (n : Int) := by rw [IntKind.wrap_i64]; omega
            go_region_with (fail)
            all_goals go_wp2
            all_goals go_roundw
            all_goals first
              | exact ⟨y, z, _, _, rfl, rfl, by omega, by omega, HY.out.2, L4.out, HC.out, R4.out, B4.out⟩
              | (have := HY.out; simp [intOf]; omega)
          · have hlt' : ¬ (k : Int) < (e : Int) := by omega
            have hcv := Rowb.str_at hrow.out A A hol.out
            have HE : Hid (outV a d = ⟨o.toArray⟩ ∧ outB a d = true) := by
              have hc := hcome.out
              rw [show X d k e = [] from List.eq_nil_of_length_eq_zero (by rw [X_len d hes]; omega)] at hc
              exact hc.fin
            go_wp2
            go_ret2
            exact ⟨ret_two' HE.out, hbel.out⟩
    · obtain ⟨l5, l5'⟩ := ne3 c5
      have HE : Hid (outV a d = ⟨#[]⟩ ∧ outB a d = false) := NF1.out c5
      clear NF1 NF2 FORM
      go_enter Try.func9, Try.ntmps9
      go_wp2_with (go_at_call 19; refine (cr _).mono ?_; rintro e' w' ⟨rfl, hw'⟩; have hw' := hw'.symm; subst hw')
      go_ret2
      exact ⟨ret_two' HE.out, Below.refl _ _⟩
  · have HE : Hid (outV a d = ⟨#[]⟩ ∧ outB a d = false) := no_form (fun h => c4 h.2.2.2.1)
    obtain ⟨e4, e4'⟩ := ne4 c4
    go_enter Try.func9, Try.ntmps9
    go_wp2
    go_ret2
    exact ⟨ret_two' HE.out, Below.refl _ _⟩
end Go.Proofs.Ytbfjalpkdgepnaa.Apps
