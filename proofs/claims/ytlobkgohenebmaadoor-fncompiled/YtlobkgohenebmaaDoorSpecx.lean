/-
  Contracts of ours for spec.l2Takes, spec.l2Node and spec.ExprOk.
-/
import Derived.Test.YtlobkgohenebmaaDoorStepx
namespace Go.Proofs.YtlobkgohenebmaaDoor.Specx
open Go.ChangeShapes Go.WideShapes Go.ChangeAt Go.RowKit
open Names (nameB)
open Go.Proofs.YtlobkgohenebmaaDoor.Steps (nodeB inB)
open Go.Proofs.YtlobkgohenebmaaDoor.Stepx (Nodes takes run exprB)

theorem l1In_any (n low high : Int) (w : World) :
    Calls Tryd.prog 49 #[.int .i64 n, .int .i64 low, .int .i64 high] w fun e w' => e = .returned (.bool (inB n low high)) ∧ w' = w := by
  go_enter Tryd.func49, Tryd.ntmps49
  go_wp2
  all_goals go_ret
  all_goals exact ⟨Names.ret_bool (by rw [Bool.eq_iff_iff]; simp [inB]; try omega), rfl⟩

def takesS (k : Int) : Int := if 1 ≤ k ∧ k ≤ 3 then 0 else if 4 ≤ k ∧ k ≤ 7 then 1 else if 8 ≤ k ∧ k ≤ 17 then 2 else -1
theorem l2Takes_any (k : Int) (w : World) :
    Calls Tryd.prog 32 #[.int .i64 k] w fun e w' => e = .returned (.int .i64 (takesS k)) ∧ w' = w := by
  have hk : (1 ≤ k ∧ k ≤ 3) ∨ (4 ≤ k ∧ k ≤ 7) ∨ (8 ≤ k ∧ k ≤ 17) ∨ (k < 1 ∨ 17 < k) := by omega
  rcases hk with h | h | h | h
  · have e1 : inB k 1 3 = true := by simp [inB]; omega
    have ht : Hid (takesS k = 0) := by
      show takesS k = _
      unfold takesS
      repeat (first | rw [if_pos (by omega)] | rw [if_neg (by omega)])
    clear h
    go_enter Tryd.func32, Tryd.ntmps32
    go_wp2_with (go_at_call 49; refine (l1In_any _ _ _ _).mono ?_; rintro e w' ⟨rfl, rfl⟩)
    go_ret
    exact ⟨by rw [ht.out]; rfl, rfl⟩
  · have e1 : inB k 1 3 = false := by simp [inB]; omega
    have e2 : inB k 4 7 = true := by simp [inB]; omega
    have ht : Hid (takesS k = 1) := by
      show takesS k = _
      unfold takesS
      repeat (first | rw [if_pos (by omega)] | rw [if_neg (by omega)])
    clear h
    go_enter Tryd.func32, Tryd.ntmps32
    go_wp2_with (go_at_call 49; refine (l1In_any _ _ _ _).mono ?_; rintro e w' ⟨rfl, rfl⟩)
    go_ret
    exact ⟨by rw [ht.out]; rfl, rfl⟩
  · have e1 : inB k 1 3 = false := by simp [inB]; omega
    have e2 : inB k 4 7 = false := by simp [inB]; omega
    have e3 : inB k 8 17 = true := by simp [inB]; omega
    have ht : Hid (takesS k = 2) := by
      show takesS k = _
      unfold takesS
      repeat (first | rw [if_pos (by omega)] | rw [if_neg (by omega)])
    clear h
    go_enter Tryd.func32, Tryd.ntmps32
    go_wp2_with (go_at_call 49; refine (l1In_any _ _ _ _).mono ?_; rintro e w' ⟨rfl, rfl⟩)
    go_ret
    exact ⟨by rw [ht.out]; rfl, rfl⟩
  · have e1 : inB k 1 3 = false := by simp [inB]; omega
    have e2 : inB k 4 7 = false := by simp [inB]; omega
    have e3 : inB k 8 17 = false := by simp [inB]; omega
    have ht : Hid (takesS k = -1) := by
      show takesS k = _
      unfold takesS
      repeat (first | rw [if_pos (by omega)] | rw [if_neg (by omega)])
    clear h
    go_enter Tryd.func32, Tryd.ntmps32
    go_wp2_with (go_at_call 49; refine (l1In_any _ _ _ _).mono ?_; rintro e w' ⟨rfl, rfl⟩)
    go_ret
    exact ⟨by rw [ht.out]; rfl, rfl⟩

set_option maxHeartbeats 1000000 in
theorem l2Node_any (k n : Int) (s : ByteArray) (w : World) (hs : s.size ≤ maxLen) :
    Calls Tryd.prog 31 #[.agg #[.int .i64 k, .int .i64 n, .string s]] w fun e w' => e = .returned (.bool (nodeB k n s)) ∧ Below w.heap.size w w' := by
  have cN := fun W => Names.specName_any s W hs
  have cT := fun W => l2Takes_any k W
  clear hs
  have END : ∀ o : Obj, Below w.heap.size w (w.alloc o) := fun o => (Below.refl _ _).alloc (Nat.le_refl _) _
  by_cases h1 : k = 1
  · subst h1
    have hn : nodeB 1 n s = (inB n 0 65535 && s.toList.isEmpty) := by unfold nodeB; rw [if_pos rfl]
    rw [hn]
    clear hn
    cases hb : inB n 0 65535
    all_goals
      go_enter Tryd.func31, Tryd.ntmps31
      go_wp2_with (first | (go_at_call 49; refine (l1In_any _ _ _ _).mono ?_; rintro e w' ⟨rfl, rfl⟩) | (go_at_call 47; refine (cN _).mono ?_; rintro e w' ⟨rfl, rfl⟩) | (go_at_call 32; refine (cT _).mono ?_; rintro e w' ⟨rfl, rfl⟩))
      go_ret
      exact ⟨rfl, END _⟩
  have e1 : (k == 1) = false := by simpa using h1
  by_cases h2 : k = 2 ∨ k = 3
  · have hn : nodeB k n s = ((n == 0) && nameB s) := by unfold nodeB; rw [if_neg h1, if_pos h2]
    rw [hn]
    clear hn
    have hz : (n == 0) = true ∨ (n == 0) = false := by cases n == 0 <;> simp
    rcases h2 with rfl | rfl
    all_goals
      rcases hz with hz | hz
      all_goals
        rw [hz]
        go_enter Tryd.func31, Tryd.ntmps31
        go_wp2_with (first | (go_at_call 49; refine (l1In_any _ _ _ _).mono ?_; rintro e w' ⟨rfl, rfl⟩) | (go_at_call 47; refine (cN _).mono ?_; rintro e w' ⟨rfl, rfl⟩) | (go_at_call 32; refine (cT _).mono ?_; rintro e w' ⟨rfl, rfl⟩))
        go_ret
        exact ⟨rfl, END _⟩
  have e2 : (k == 2) = false := by simp; omega
  have e3 : (k == 3) = false := by simp; omega
  have hz : (n == 0) = true ∨ (n == 0) = false := by cases n == 0 <;> simp
  have he : s.toList.isEmpty = true ∨ s.toList.isEmpty = false := by cases s.toList.isEmpty <;> simp
  by_cases h4 : 4 ≤ k ∧ k ≤ 17
  · have hn : nodeB k n s = ((n == 0) && s.toList.isEmpty) := by unfold nodeB; rw [if_neg h1, if_neg h2, if_pos h4]
    have ht : 0 < takesS k := by
      unfold takesS
      rw [if_neg (by omega)]
      by_cases h7 : 4 ≤ k ∧ k ≤ 7
      · rw [if_pos h7]; decide
      · rw [if_neg h7, if_pos (by omega)]; decide
    have hd : decide (0 < takesS k) = true := decide_eq_true ht
    rw [hn]
    clear hn h4
    generalize takesS k = tk at cT ht hd
    rcases hz with hz | hz
    all_goals
      rcases he with he | he
      all_goals
        rw [hz, he]
        go_enter Tryd.func31, Tryd.ntmps31
        go_wp2_with (first | (go_at_call 49; refine (l1In_any _ _ _ _).mono ?_; rintro e w' ⟨rfl, rfl⟩) | (go_at_call 47; refine (cN _).mono ?_; rintro e w' ⟨rfl, rfl⟩) | (go_at_call 32; refine (cT _).mono ?_; rintro e w' ⟨rfl, rfl⟩))
        go_ret
        exact ⟨rfl, END _⟩
  · have hn : nodeB k n s = false := by unfold nodeB; rw [if_neg h1, if_neg h2, if_neg h4]
    have ht : takesS k = -1 := by unfold takesS; rw [if_neg (by omega), if_neg (by omega), if_neg (by omega)]
    rw [hn]
    rw [ht] at cT
    clear hn h4 ht
    rcases hz with hz | hz
    all_goals
      rcases he with he | he
      all_goals
        go_enter Tryd.func31, Tryd.ntmps31
        go_wp2_with (first | (go_at_call 49; refine (l1In_any _ _ _ _).mono ?_; rintro e w' ⟨rfl, rfl⟩) | (go_at_call 47; refine (cN _).mono ?_; rintro e w' ⟨rfl, rfl⟩) | (go_at_call 32; refine (cT _).mono ?_; rintro e w' ⟨rfl, rfl⟩))
        go_ret
        exact ⟨rfl, END _⟩

theorem takes_eq {k n : Int} {s : ByteArray} (h : nodeB k n s = true) : takesS k = takes k ∧ 0 ≤ takes k ∧ takes k ≤ 2 := by
  unfold nodeB at h
  unfold takesS takes
  by_cases e1 : k = 1
  · subst e1; decide
  rw [if_neg e1] at h
  by_cases e2 : k = 2 ∨ k = 3
  · rcases e2 with rfl | rfl <;> decide
  rw [if_neg e2] at h
  by_cases e3 : 4 ≤ k ∧ k ≤ 17
  · rw [if_neg (by omega), if_neg (show ¬ k ≤ 3 by omega)]
    by_cases e4 : k ≤ 7
    · rw [if_pos (by omega), if_pos e4]; decide
    · rw [if_neg (by omega), if_pos (by omega), if_neg e4]; decide
  rw [if_neg e3] at h; cases h

set_option maxHeartbeats 2000000 in
theorem exprOk_any (a : Option Addr) (cap : Nat) (L : List Stepx.Node) (w : World) (hN : Nodes w a L) (hlen : L.length ≤ 1048576) :
    Calls Tryd.prog 16 #[.slice a L.length cap] w fun e w' => e = .returned (.bool (exprB L)) ∧ Below w.heap.size w w' := by
  obtain ⟨r, hr⟩ : ∃ r, r = run 0 L := ⟨_, rfl⟩
  have hx : exprB L = (decide (L.length ≤ 30) && (r == some 1)) := by unfold exprB; rw [hr]
  rw [hx]
  clear hx
  obtain ⟨len, hl⟩ : ∃ len, len = L.length := ⟨_, rfl⟩
  have HL : Hid (len = L.length) := hl
  rw [← hl] at hlen ⊢
  clear hl
  go_enter Tryd.func16, Tryd.ntmps16
  go_wp2
  go_loopw [3, 4] (fun vs i wr => ∃ (k : Nat) (v : Int), k ≤ len ∧ i = .int .i64 k ∧ vs = .int .i64 v ∧ 0 ≤ v ∧ v ≤ k ∧ Hid (r = run v (L.drop k)) ∧ Hid (Below w.heap.size w wr)) (fun _ i _ => len - (intOf i).toNat)
  case atStart => exact ⟨0, 0, Nat.zero_le _, rfl, rfl, by decide, by decide, hr, Below.refl _ _⟩
  case round =>
    clear hr
    obtain ⟨k, v, hk, rfl, rfl, hv0, hv1, hrun, hbel⟩ := hrel
    by_cases hlt : k < len
    · have hkL : k < L.length := by have := HL.out; omega
      rcases hN with hnil | ⟨b, off, rfl, hb, hc⟩
      · exfalso; rw [hnil] at hkL; exact absurd hkL (by simp)
      obtain ⟨c0, c1, c2, hsz⟩ : wr.cell? ⟨b, off + k * 3, none⟩ = some (.int .i64 L[k].1) ∧ wr.cell? ⟨b, off + k * 3 + 1, none⟩ = some (.int .i64 L[k].2.1) ∧ wr.cell? ⟨b, off + k * 3 + 2, none⟩ = some (.string L[k].2.2) ∧ L[k].2.2.size ≤ maxLen := by
        obtain ⟨d0, d1, d2, d3⟩ := hc k hkL
        exact ⟨(hbel.out.cell (p := ⟨b, _, none⟩) hb).trans d0, (hbel.out.cell (p := ⟨b, _, none⟩) hb).trans d1, (hbel.out.cell (p := ⟨b, _, none⟩) hb).trans d2, d3⟩
      have HD : Hid (r = run v (L[k] :: L.drop (k + 1))) := by have := hrun.out; rw [List.drop_eq_getElem_cons hkL] at this; exact this
      clear hc hrun
      have hbr : b < wr.heap.size := Nat.lt_of_lt_of_le hb hbel.out.size
      obtain ⟨kd, n, s, hnode⟩ : ∃ kd n s, L[k] = (kd, n, s) := ⟨_, _, _, rfl⟩
      rw [hnode] at c0 c1 c2 hsz HD
      simp only at c0 c1 c2 hsz
      clear hnode
      have HD : Hid (r = if nodeB kd n s = true ∧ takes kd ≤ v then run (v + (1 - takes kd)) (L.drop (k + 1)) else none) := HD
      have cs := fun W => l2Node_any kd n s W hsz
      have ct := fun W => l2Takes_any kd W
      cases hn : nodeB kd n s with
      | false =>
        rw [hn] at cs
        have HR : Hid (r = none) := by have := HD.out; rw [if_neg (by rw [hn]; simp)] at this; exact this
        clear HD hn
        go_wp2_with fail
        refine (cs _).mono ?_
        rintro e w1 ⟨rfl, hb1⟩
        go_wp2
        go_ret
        exact ⟨by rw [HR.out]; simp, hbel.out.trans (hb1.mono hbel.out.size)⟩
      | true =>
        rw [hn] at cs
        obtain ⟨te, t0, t2⟩ := takes_eq hn
        rw [te] at ct
        have HD : Hid (r = if takes kd ≤ v then run (v + (1 - takes kd)) (L.drop (k + 1)) else none) := by
          have := HD.out
          by_cases h : takes kd ≤ v
          · rw [if_pos ⟨hn, h⟩] at this; show r = _; rw [if_pos h]; exact this
          · rw [if_neg (fun x => h x.2)] at this; show r = _; rw [if_neg h]; exact this
        clear hn te
        generalize takes kd = tk at ct HD t0 t2
        by_cases hov : v < tk
        · have HR : Hid (r = none) := by have := HD.out; rw [if_neg (by omega)] at this; exact this
          clear HD
          go_wp2_with fail
          refine (cs _).mono ?_
          rintro e w1 ⟨rfl, hb1⟩
          obtain ⟨c0', hz⟩ : w1.cell? ⟨b, off + k * 3, none⟩ = some (.int .i64 kd) ∧ b < w1.heap.size := ⟨(hb1.cell (p := ⟨b, _, none⟩) hbr).trans c0, Nat.lt_of_lt_of_le hbr hb1.size⟩
          have bel1 : Hid (Below w.heap.size w w1) := hbel.out.trans (hb1.mono hbel.out.size)
          clear hb1 hbel
          go_wp2_with (go_at_call 32; refine (ct _).mono ?_; rintro e w' ⟨rfl, rfl⟩)
          go_ret
          exact ⟨by rw [HR.out]; simp, bel1.out⟩
        · have HR : Hid (r = run (v - tk + 1) (L.drop (k + 1))) := by have := HD.out; rw [if_pos (by omega), show v + (1 - tk) = v - tk + 1 by omega] at this; exact this
          clear HD
          go_wp2_with fail
          refine (cs _).mono ?_
          rintro e w1 ⟨rfl, hb1⟩
          obtain ⟨c0', hz⟩ : w1.cell? ⟨b, off + k * 3, none⟩ = some (.int .i64 kd) ∧ b < w1.heap.size := ⟨(hb1.cell (p := ⟨b, _, none⟩) hbr).trans c0, Nat.lt_of_lt_of_le hbr hb1.size⟩
          have bel1 : Hid (Below w.heap.size w w1) := hbel.out.trans (hb1.mono hbel.out.size)
          clear hb1 hbel
          go_wp2_with (go_at_call 32; refine (ct _).mono ?_; rintro e w' ⟨rfl, rfl⟩)
          go_roundw
          case rel => exact ⟨k + 1, _, by omega, by go_num, rfl, by omega, by omega, HR, bel1.out⟩
          case measure => simp [intOf]; omega
    · have HR : Hid (r = some v) := by
        have := hrun.out
        rw [List.drop_eq_nil_of_le (by have := HL.out; omega)] at this
        exact this
      clear hrun hN
      by_cases h30 : len ≤ 30
      · have d30 : decide (len ≤ 30) = true := decide_eq_true h30
        go_wp2
        go_ret
        exact ⟨by rw [HR.out]; first | rfl | (rw [d30]; rfl), hbel.out⟩
      · have d30 : decide (len ≤ 30) = false := decide_eq_false h30
        go_wp2
        go_ret
        exact ⟨by first | rfl | (rw [d30]; rfl), hbel.out⟩

end Go.Proofs.YtlobkgohenebmaaDoor.Specx
