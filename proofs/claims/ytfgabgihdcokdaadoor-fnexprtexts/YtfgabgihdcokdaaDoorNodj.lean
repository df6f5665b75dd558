/-
  A contract of ours for what a word is as a node by the specification: spec.l2Word.
-/
import Derived.Test.YtfgabgihdcokdaaDoorNodi
namespace Go.Proofs.YtfgabgihdcokdaaDoor.Nodj
open Go.ChangeShapes Go.WideShapes Go.ChangeAt Go.RowKit
open Optx Extx Exts Nodi
set_option linter.unusedVariables false
set_option maxRecDepth 20000
theorem words_all (w : World) : ∀ k : Nat, k < 14 → (w.alloc (.cells wordsA 9)).cell? ⟨w.heap.size, 4 + k, none⟩ = some (.string (opTab.getD k ⟨#[]⟩)) := fun k hk => by
  have h := words_at (kd := 4 + (k : Int)) (by omega) (by omega) w
  have e1 : (4 + (k : Int)).toNat = 4 + k := by omega
  have e2 : opW (4 + (k : Int)) = opTab.getD k ⟨#[]⟩ := by
    unfold opW
    rw [show (4 + (k : Int) - 4).toNat = k by omega]
  rw [e1, e2] at h
  exact h
set_option maxHeartbeats 2000000 in
theorem l2Word_any (s : ByteArray) (w : World) (hs : s.size ≤ 1048576) :
    Calls Tryd.prog 36 #[.string s] w fun e w' => e = .returned (nodeV (nodeS s)) ∧ Below w.heap.size w w' := by
  have B0 : Hid (Below w.heap.size w ((w.alloc (.cells #[.int .i64 0, .int .i64 0, .string ⟨#[]⟩] 38)).alloc (.cells wordsA 9))) := ((Below.refl _ _).alloc (Nat.le_refl _) _).alloc (by simp) _
  have Z0 : Hid (Zero ((w.alloc (.cells #[.int .i64 0, .int .i64 0, .string ⟨#[]⟩] 38)).alloc (.cells wordsA 9)) w.heap.size) := (Zero.new w).below ((Below.refl _ _).alloc (Nat.le_refl _) _)
  have HT : Hid (∀ k : Nat, k < 14 → ((w.alloc (.cells #[.int .i64 0, .int .i64 0, .string ⟨#[]⟩] 38)).alloc (.cells wordsA 9)).cell? ⟨w.heap.size + 1, 4 + k, none⟩ = some (.string (opTab.getD k ⟨#[]⟩))) := fun k hk => by
    have h := words_all (w.alloc (.cells #[.int .i64 0, .int .i64 0, .string ⟨#[]⟩] 38)) k hk
    rw [show (w.alloc (.cells #[.int .i64 0, .int .i64 0, .string ⟨#[]⟩] 38)).heap.size = w.heap.size + 1 by simp] at h
    exact h
  go_enter Tryd.func36, Tryd.ntmps36
  go_wp2_with (go_at_call 29; refine (l2Words_any _).mono ?_; rintro e w3 ⟨rfl, rfl⟩)
  generalize (w.alloc (.cells #[.int .i64 0, .int .i64 0, .string ⟨#[]⟩] 38)).alloc (.cells wordsA 9) = W0 at B0 Z0 HT ⊢
  go_loopw [4] (fun i wr => ∃ k : Nat, k ≤ 14 ∧ i = .int .i64 (4 + (k : Int)) ∧ Hid (∀ j, j < k → opAtB s j = false) ∧ wr = W0) (fun i _ => 18 - (intOf i).toNat)
  case atStart => exact ⟨0, Nat.zero_le _, rfl, fun j h => absurd h (Nat.not_lt_zero _), rfl⟩
  case round =>
    obtain ⟨k, hk, rfl, hno, rfl⟩ := hrel
    by_cases hlt : k < 14
    · have c0 := HT.out k hlt
      have e4 : (4 + (k : Int)).toNat = 4 + k := by omega
      have k0 : (0 : Int) ≤ 4 + (k : Int) := by omega
      have k1 : 4 + (k : Int) < 18 := by omega
      have hw4 : (4 + (k : Int)) ≤ 17 := by omega
      cases hb : opAtB s k with
      | true =>
        have HV : Hid (nodeV (nodeS s) = nodeV (4 + (k : Int), 0, ⟨#[]⟩)) := by show _ = _; unfold nodeS; rw [op_first hlt hno.out hb]
        have hb' : ((opTab.getD k ⟨#[]⟩).toList == s.toList) = true := hb
        generalize opTab.getD k ⟨#[]⟩ = T at c0 hb'
        obtain ⟨r0, r1, r2, f0, hrl⟩ := Z0.out
        have ZP : Hid (_ ∧ _ ∧ _) := Z0.out.put (.int .i64 (4 + (k : Int))) (.int .i64 0) (.string ⟨#[]⟩)
        have BB : Hid (Below w.heap.size w wr) := B0.out
        clear hno hb Z0
        go_wp2_with fail
        obtain ⟨p0, p1, p2⟩ := ZP.out
        exact bodyPost_ret (v := .agg #[.int .i64 (4 + (k : Int)), .int .i64 0, .string ⟨#[]⟩]) (by simp [results, Tryd.results36, go_sem, p0, p1, p2]) rfl ⟨(congrArg Ending.returned HV.out).symm, set3_below BB.out (Nat.le_refl _) _ _ _⟩
      | false =>
        have HN2 : Hid (∀ j, j < k + 1 → opAtB s j = false) := fun j hj => by
          rcases Nat.lt_or_ge j k with h | h
          · exact hno.out j h
          · have e : j = k := by omega
            subst e; exact hb
        have hb' : ((opTab.getD k ⟨#[]⟩).toList == s.toList) = false := hb
        generalize opTab.getD k ⟨#[]⟩ = T at c0 hb'
        clear hno hb
        go_wp2_with fail
        go_roundw
        case rel => exact ⟨k + 1, by omega, by first | go_num | (congr 1; omega), HN2.out, by first | rfl | trivial⟩
        case measure => simp [intOf]; omega
    · have e : k = 14 := by omega
      subst e
      have HOP : Hid (opI s = none) := op_none hno.out
      have cn := Nums.specNum_any s wr (by unfold maxLen; omega)
      clear hno
      obtain ⟨r0, r1, r2, f0, hrl⟩ := Z0.out
      have BB : Hid (Below w.heap.size w wr) := B0.out
      cases hn : Nums.num s with
      | some n =>
        rw [hn] at cn
        simp only [Option.getD_some, Option.isSome_some] at cn
        have hbd := num_bd hn
        have HV : Hid (nodeV (nodeS s) = nodeV (1, n, ⟨#[]⟩)) := by show _ = _; unfold nodeS; rw [HOP.out]; simp only; rw [hn]
        have ZP : Hid (_ ∧ _ ∧ _) := Z0.out.put (.int .i64 1) (.int .i64 n) (.string ⟨#[]⟩)
        clear hn
        go_wp2_with fail
        refine cn.mono ?_
        rintro e w' ⟨rfl, hw'⟩
        have hw' := hw'.symm
        subst hw'
        go_wp2_with fail
        obtain ⟨p0, p1, p2⟩ := ZP.out
        exact bodyPost_ret (v := .agg #[.int .i64 1, .int .i64 n, .string ⟨#[]⟩]) (by simp [results, Tryd.results36, go_sem, p0, p1, p2]) rfl ⟨(congrArg Ending.returned HV.out).symm, set3_below BB.out (Nat.le_refl _) _ _ _⟩
      | none =>
        rw [hn] at cn
        simp only [Option.getD_none, Option.isSome_none] at cn
        by_cases hz : s.size = 0
        · have e0 : s.toList.isEmpty = true := Nums.empty_yes hz
          have hh : Nodi.hash s = false := decide_eq_false (by omega)
          have HV : Hid (nodeV (nodeS s) = nodeV (2, 0, s)) := by show _ = _; unfold nodeS; rw [HOP.out]; simp only; rw [hn]; simp only; rw [hh]; rfl
          have ZP : Hid (_ ∧ _ ∧ _) := Z0.out.put (.int .i64 2) (.int .i64 0) (.string s)
          clear hn hh
          go_wp2_with fail
          refine cn.mono ?_
          rintro e w' ⟨rfl, hw'⟩
          have hw' := hw'.symm
          subst hw'
          go_wp2_with fail
          obtain ⟨p0, p1, p2⟩ := ZP.out
          exact bodyPost_ret (v := .agg #[.int .i64 2, .int .i64 0, .string s]) (by simp [results, Tryd.results36, go_sem, p0, p1, p2]) rfl ⟨(congrArg Ending.returned HV.out).symm, set3_below BB.out (Nat.le_refl _) _ _ _⟩
        · have e0 : s.toList.isEmpty = false := Nums.empty_no hz
          have hp : 0 < s.size := Nat.pos_of_ne_zero hz
          cases hh : Nodi.hash s with
          | true =>
            have h35 : (s[0].toNat : Int) = 35 := by
              have h := (of_decide_eq_true hh).2
              rw [Nums.getD_at s hp] at h
              omega
            have HV : Hid (nodeV (nodeS s) = nodeV (3, 0, (s.extract 1 s.size))) := by show _ = _; unfold nodeS; rw [HOP.out]; simp only; rw [hn]; simp only; rw [hh]; rfl
            have ZP : Hid (_ ∧ _ ∧ _) := Z0.out.put (.int .i64 3) (.int .i64 0) (.string (s.extract 1 s.size))
            clear hn hh
            go_wp2_with fail
            refine cn.mono ?_
            rintro e w' ⟨rfl, hw'⟩
            have hw' := hw'.symm
            subst hw'
            go_wp2_with fail
            obtain ⟨p0, p1, p2⟩ := ZP.out
            exact bodyPost_ret (v := .agg #[.int .i64 3, .int .i64 0, .string (s.extract 1 s.size)]) (by simp [results, Tryd.results36, go_sem, p0, p1, p2]) rfl ⟨(congrArg Ending.returned HV.out).symm, set3_below BB.out (Nat.le_refl _) _ _ _⟩
          | false =>
            have h35 : ¬ (s[0].toNat : Int) = 35 := fun h => by
              have h2 := of_decide_eq_false hh
              rw [Nums.getD_at s hp] at h2
              exact h2 ⟨hp, by omega⟩
            have HV : Hid (nodeV (nodeS s) = nodeV (2, 0, s)) := by show _ = _; unfold nodeS; rw [HOP.out]; simp only; rw [hn]; simp only; rw [hh]; rfl
            have ZP : Hid (_ ∧ _ ∧ _) := Z0.out.put (.int .i64 2) (.int .i64 0) (.string s)
            clear hn hh
            go_wp2_with fail
            refine cn.mono ?_
            rintro e w' ⟨rfl, hw'⟩
            have hw' := hw'.symm
            subst hw'
            go_wp2_with fail
            obtain ⟨p0, p1, p2⟩ := ZP.out
            exact bodyPost_ret (v := .agg #[.int .i64 2, .int .i64 0, .string s]) (by simp [results, Tryd.results36, go_sem, p0, p1, p2]) rfl ⟨(congrArg Ending.returned HV.out).symm, set3_below BB.out (Nat.le_refl _) _ _ _⟩
end Go.Proofs.YtfgabgihdcokdaaDoor.Nodj
