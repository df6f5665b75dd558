/-
  Of numbers alone: what each kind of code does, in the words of impl's actions.
-/
import Derived.Test.YtkfehdkjeodbmaaGreatDoorStpc
import Derived.Test.YtkfehdkjeodbmaaGreatDoorStpn
import Derived.Test.YtkfehdkjeodbmaaGreatDoorShape
namespace Go.Proofs.YtkfehdkjeodbmaaGreatDoor.Stpf
open Go.ChangeShapes Go.WideShapes Go.ChangeAt Go.RowKit
set_option linter.unusedVariables false
set_option linter.unusedSimpArgs false
open Signed (inB sgn)
open Reck ReckS ReckM ReckD TurnS
open Busw (M wrM Rt)
open Stpp Stpq Stpc
theorem se_ld_RS (m : M) (full : Bool) (c imm : Int) (hg : Stpq.Good m) (hc : 64 ≤ c ∧ c < 128 ∧ c ≠ 118) (c0 : 0 ≤ c) (c1 : c ≤ 255) (i0 : 0 ≤ imm) (i1 : imm ≤ 65535) : (sem c false imm ⟨m, full⟩).1 = put ⟨m, full⟩ (c / 8 % 8) (Stpp.get m (c % 8)) := by
  unfold sem
  rw [if_neg (by decide), if_neg (by omega), if_neg (by omega), if_pos (by omega)]
theorem se_ld_Rn8 (m : M) (full : Bool) (c imm : Int) (hg : Stpq.Good m) (hc : c < 64 ∧ c % 8 = 6) (c0 : 0 ≤ c) (c1 : c ≤ 255) (i0 : 0 ≤ imm) (i1 : imm ≤ 65535) : (sem c false imm ⟨m, full⟩).1 = put ⟨m, full⟩ (c / 8 % 8) imm := by
  unfold sem
  rw [if_neg (by decide), if_pos (by omega)]
  unfold lowE
  rw [if_neg (by omega), if_neg (by omega), if_neg (by omega), if_neg (by omega), if_neg (by omega), if_neg (by omega), if_pos (by omega)]
  rw [show c / 8 % 8 = c / 8 by omega]
theorem se_ld_Pn16 (m : M) (full : Bool) (c imm : Int) (hg : Stpq.Good m) (hc : c < 64 ∧ c % 8 = 1 ∧ c / 8 % 2 = 0) (c0 : 0 ≤ c) (c1 : c ≤ 255) (i0 : 0 ≤ imm) (i1 : imm ≤ 65535) : (sem c false imm ⟨m, full⟩).1 = ⟨setP m (c / 8 % 8 / 2) (imm % 65536), full⟩ := by
  unfold sem
  rw [if_neg (by decide), if_pos (by omega)]
  unfold lowE
  rw [if_neg (by omega), if_pos (by omega), if_pos (by omega)]
  rw [show c / 8 % 8 = c / 8 by omega, show imm % 65536 = imm by omega]
theorem se_ld_sphl (m : M) (full : Bool) (c imm : Int) (hg : Stpq.Good m) (hc : c = 249) (c0 : 0 ≤ c) (c1 : c ≤ 255) (i0 : 0 ≤ imm) (i1 : imm ≤ 65535) : (sem c false imm ⟨m, full⟩).1 = ⟨{ m with sp := hl m }, full⟩ := by
  subst hc
  rfl
theorem se_ld_in16sp (m : M) (full : Bool) (c imm : Int) (hg : Stpq.Good m) (hc : c = 8) (c0 : 0 ≤ c) (c1 : c ≤ 255) (i0 : 0 ≤ imm) (i1 : imm ≤ 65535) : (sem c false imm ⟨m, full⟩).1 = spE imm ⟨m, full⟩ := by
  subst hc
  rfl
theorem se_ld_hlspe8 (m : M) (full : Bool) (c imm : Int) (hg : Stpq.Good m) (hc : c = 248) (c0 : 0 ≤ c) (c1 : c ≤ 255) (i0 : 0 ≤ imm) (i1 : imm ≤ 65535) : (sem c false imm ⟨m, full⟩).1 = ⟨{ setP m 2 (asR m.sp imm).1 with rf := (asR m.sp imm).2 }, full⟩ := by
  subst hc
  rfl
theorem se_ld_Ma (m : M) (full : Bool) (c imm : Int) (hg : Stpq.Good m) (hc : c < 64 ∧ c % 8 = 2 ∧ c / 8 % 2 = 0) (c0 : 0 ≤ c) (c1 : c ≤ 255) (i0 : 0 ≤ imm) (i1 : imm ≤ 65535) : (sem c false imm ⟨m, full⟩).1 = stE (c / 8 % 8 / 2) ⟨m, full⟩ := by
  unfold sem
  rw [if_neg (by decide), if_pos (by omega)]
  unfold lowE
  rw [if_neg (by omega), if_neg (by omega), if_pos (by omega), if_pos (by omega)]
  rw [show c / 8 % 8 = c / 8 by omega]
theorem se_ld_aM (m : M) (full : Bool) (c imm : Int) (hg : Stpq.Good m) (hc : c < 64 ∧ c % 8 = 2 ∧ c / 8 % 2 = 1) (c0 : 0 ≤ c) (c1 : c ≤ 255) (i0 : 0 ≤ imm) (i1 : imm ≤ 65535) : (sem c false imm ⟨m, full⟩).1 = ldE (c / 8 % 8 / 2) ⟨m, full⟩ := by
  unfold sem
  rw [if_neg (by decide), if_pos (by omega)]
  unfold lowE
  rw [if_neg (by omega), if_neg (by omega), if_pos (by omega), if_neg (by omega)]
  rw [show c / 8 % 8 = c / 8 by omega]
theorem se_ldh_in8a (m : M) (full : Bool) (c imm : Int) (hg : Stpq.Good m) (hc : c = 224) (c0 : 0 ≤ c) (c1 : c ≤ 255) (i0 : 0 ≤ imm) (i1 : imm ≤ 65535) : (sem c false imm ⟨m, full⟩).1 = wr ⟨m, full⟩ (65280 + imm) m.ra := by
  subst hc
  rfl
theorem se_ldh_ain8 (m : M) (full : Bool) (c imm : Int) (hg : Stpq.Good m) (hc : c = 240) (c0 : 0 ≤ c) (c1 : c ≤ 255) (i0 : 0 ≤ imm) (i1 : imm ≤ 65535) : (sem c false imm ⟨m, full⟩).1 = ⟨{ m with ra := rd m (65280 + imm) }, full⟩ := by
  subst hc
  rfl
theorem se_ldh_ica (m : M) (full : Bool) (c imm : Int) (hg : Stpq.Good m) (hc : c = 226) (c0 : 0 ≤ c) (c1 : c ≤ 255) (i0 : 0 ≤ imm) (i1 : imm ≤ 65535) : (sem c false imm ⟨m, full⟩).1 = wr ⟨m, full⟩ (65280 + m.rC) m.ra := by
  subst hc
  rfl
theorem se_ldh_aic (m : M) (full : Bool) (c imm : Int) (hg : Stpq.Good m) (hc : c = 242) (c0 : 0 ≤ c) (c1 : c ≤ 255) (i0 : 0 ≤ imm) (i1 : imm ≤ 65535) : (sem c false imm ⟨m, full⟩).1 = ⟨{ m with ra := rd m (65280 + m.rC) }, full⟩ := by
  subst hc
  rfl
theorem se_ld_in16a (m : M) (full : Bool) (c imm : Int) (hg : Stpq.Good m) (hc : c = 234) (c0 : 0 ≤ c) (c1 : c ≤ 255) (i0 : 0 ≤ imm) (i1 : imm ≤ 65535) : (sem c false imm ⟨m, full⟩).1 = wr ⟨m, full⟩ imm m.ra := by
  subst hc
  rfl
theorem se_ld_ain16 (m : M) (full : Bool) (c imm : Int) (hg : Stpq.Good m) (hc : c = 250) (c0 : 0 ≤ c) (c1 : c ≤ 255) (i0 : 0 ≤ imm) (i1 : imm ≤ 65535) : (sem c false imm ⟨m, full⟩).1 = ⟨{ m with ra := rd m imm }, full⟩ := by
  subst hc
  rfl
theorem se_push_Q (m : M) (full : Bool) (c imm : Int) (hg : Stpq.Good m) (hc : 192 ≤ c ∧ c % 8 = 5 ∧ c / 8 % 8 % 2 = 0) (c0 : 0 ≤ c) (c1 : c ≤ 255) (i0 : 0 ≤ imm) (i1 : imm ≤ 65535) : (sem c false imm ⟨m, full⟩).1 = push ⟨m, full⟩ (prQ m (c / 8 % 8 / 2)) := by
  unfold sem
  rw [if_neg (by decide), if_neg (by omega), if_neg (by omega), if_neg (by omega), if_neg (by omega)]
  unfold topE
  rw [if_neg (by rintro (⟨h1, _, _⟩ | h1 | h1) <;> omega), if_neg (by omega), if_neg (by omega), if_neg (by omega), if_neg (by omega), if_neg (by omega), if_neg (by omega), if_neg (by omega), if_neg (by omega), if_neg (by omega), if_neg (by omega), if_neg (by omega), if_pos (by omega)]
theorem se_pop_Q (m : M) (full : Bool) (c imm : Int) (hg : Stpq.Good m) (hc : 192 ≤ c ∧ c % 8 = 1 ∧ c / 8 % 8 % 2 = 0) (c0 : 0 ≤ c) (c1 : c ≤ 255) (i0 : 0 ≤ imm) (i1 : imm ≤ 65535) : (sem c false imm ⟨m, full⟩).1 = ⟨{ Stpn.setQ0 (popM m) (c / 8 % 8 / 2) (popV m % 65536) with rf := bits .and .i64 (Stpn.setQ0 (popM m) (c / 8 % 8 / 2) (popV m % 65536)).rf 240 }, full⟩ := by
  unfold sem
  rw [if_neg (by decide), if_neg (by omega), if_neg (by omega), if_neg (by omega), if_neg (by omega)]
  unfold topE
  rw [if_neg (by rintro (⟨h1, _, _⟩ | h1 | h1) <;> omega), if_neg (by omega), if_neg (by omega), if_neg (by omega), if_neg (by omega), if_neg (by omega), if_neg (by omega), if_neg (by omega), if_neg (by omega), if_neg (by omega), if_neg (by omega), if_pos (by omega)]
  show (⟨setQ (popM m) (c / 8 % 8 / 2) (popV m), full⟩ : S) = _
  rw [pop_eq hg]
theorem se_A_aS (m : M) (full : Bool) (c imm : Int) (hg : Stpq.Good m) (hc : 128 ≤ c ∧ c < 192) (c0 : 0 ≤ c) (c1 : c ≤ 255) (i0 : 0 ≤ imm) (i1 : imm ≤ 65535) : (sem c false imm ⟨m, full⟩).1 = ⟨{ m with ra := (aluR (c / 8 % 8) m.ra (Stpp.get m (c % 8)) m.rf).1, rf := (aluR (c / 8 % 8) m.ra (Stpp.get m (c % 8)) m.rf).2 }, full⟩ := by
  unfold sem
  rw [if_neg (by decide), if_neg (by omega), if_neg (by omega), if_neg (by omega), if_pos (by omega)]
  rfl
theorem se_A_an8 (m : M) (full : Bool) (c imm : Int) (hg : Stpq.Good m) (hc : 192 ≤ c ∧ c % 8 = 6) (c0 : 0 ≤ c) (c1 : c ≤ 255) (i0 : 0 ≤ imm) (i1 : imm ≤ 65535) : (sem c false imm ⟨m, full⟩).1 = ⟨{ m with ra := (aluR (c / 8 % 8) m.ra imm m.rf).1, rf := (aluR (c / 8 % 8) m.ra imm m.rf).2 }, full⟩ := by
  unfold sem
  rw [if_neg (by decide), if_neg (by omega), if_neg (by omega), if_neg (by omega), if_neg (by omega)]
  unfold topE
  rw [if_neg (by rintro (⟨h1, _, _⟩ | h1 | h1) <;> omega), if_neg (by omega), if_neg (by omega), if_neg (by omega), if_neg (by omega), if_neg (by omega), if_neg (by omega), if_neg (by omega), if_neg (by omega), if_neg (by omega), if_neg (by omega), if_neg (by omega), if_neg (by omega), if_neg (by rintro (⟨h1, _, _⟩ | h1) <;> omega), if_neg (by omega), if_neg (by rintro (⟨h1, _⟩ | h1) <;> omega), if_pos (by omega)]
  rfl
theorem se_inc_R (m : M) (full : Bool) (c imm : Int) (hg : Stpq.Good m) (hc : c < 64 ∧ c % 8 = 4) (c0 : 0 ≤ c) (c1 : c ≤ 255) (i0 : 0 ≤ imm) (i1 : imm ≤ 65535) : (sem c false imm ⟨m, full⟩).1 = F (put ⟨m, full⟩ (c / 8 % 8) (st8R (Stpp.get m (c / 8 % 8)) m.rf false).1) (st8R (Stpp.get m (c / 8 % 8)) m.rf false).2 := by
  unfold sem
  rw [if_neg (by decide), if_pos (by omega)]
  unfold lowE
  rw [if_neg (by omega), if_neg (by omega), if_neg (by omega), if_neg (by omega), if_pos (by omega)]
  rw [show c / 8 % 8 = c / 8 by omega]
theorem se_dec_R (m : M) (full : Bool) (c imm : Int) (hg : Stpq.Good m) (hc : c < 64 ∧ c % 8 = 5) (c0 : 0 ≤ c) (c1 : c ≤ 255) (i0 : 0 ≤ imm) (i1 : imm ≤ 65535) : (sem c false imm ⟨m, full⟩).1 = F (put ⟨m, full⟩ (c / 8 % 8) (st8R (Stpp.get m (c / 8 % 8)) m.rf true).1) (st8R (Stpp.get m (c / 8 % 8)) m.rf true).2 := by
  unfold sem
  rw [if_neg (by decide), if_pos (by omega)]
  unfold lowE
  rw [if_neg (by omega), if_neg (by omega), if_neg (by omega), if_neg (by omega), if_neg (by omega), if_pos (by omega)]
  rw [show c / 8 % 8 = c / 8 by omega]
theorem se_inc_P (m : M) (full : Bool) (c imm : Int) (hg : Stpq.Good m) (hc : c < 64 ∧ c % 8 = 3 ∧ c / 8 % 2 = 0) (c0 : 0 ≤ c) (c1 : c ≤ 255) (i0 : 0 ≤ imm) (i1 : imm ≤ 65535) : (sem c false imm ⟨m, full⟩).1 = ⟨setP m (c / 8 % 8 / 2) ((pr m (c / 8 % 8 / 2) + 1) % 65536), full⟩ := by
  unfold sem
  rw [if_neg (by decide), if_pos (by omega)]
  unfold lowE
  rw [if_neg (by omega), if_neg (by omega), if_neg (by omega), if_pos (by omega)]
  rw [if_pos (by omega), show c / 8 % 8 = c / 8 by omega]
theorem se_dec_P (m : M) (full : Bool) (c imm : Int) (hg : Stpq.Good m) (hc : c < 64 ∧ c % 8 = 3 ∧ c / 8 % 2 = 1) (c0 : 0 ≤ c) (c1 : c ≤ 255) (i0 : 0 ≤ imm) (i1 : imm ≤ 65535) : (sem c false imm ⟨m, full⟩).1 = ⟨setP m (c / 8 % 8 / 2) ((pr m (c / 8 % 8 / 2) + (-1)) % 65536), full⟩ := by
  unfold sem
  rw [if_neg (by decide), if_pos (by omega)]
  unfold lowE
  rw [if_neg (by omega), if_neg (by omega), if_neg (by omega), if_pos (by omega)]
  rw [if_neg (by omega), show c / 8 % 8 = c / 8 by omega, show (pr m (c / 8 / 2) + 65535) % 65536 = (pr m (c / 8 / 2) + (-1)) % 65536 by omega]
theorem se_add_hlP (m : M) (full : Bool) (c imm : Int) (hg : Stpq.Good m) (hc : c < 64 ∧ c % 8 = 1 ∧ c / 8 % 2 = 1) (c0 : 0 ≤ c) (c1 : c ≤ 255) (i0 : 0 ≤ imm) (i1 : imm ≤ 65535) : (sem c false imm ⟨m, full⟩).1 = ⟨{ setP m 2 (awR (hl m) (pr m (c / 8 % 8 / 2)) m.rf).1 with rf := (awR (hl m) (pr m (c / 8 % 8 / 2)) m.rf).2 }, full⟩ := by
  unfold sem
  rw [if_neg (by decide), if_pos (by omega)]
  unfold lowE
  rw [if_neg (by omega), if_pos (by omega), if_neg (by omega)]
  rw [show c / 8 % 8 = c / 8 by omega]
  rfl
theorem se_add_spe8 (m : M) (full : Bool) (c imm : Int) (hg : Stpq.Good m) (hc : c = 232) (c0 : 0 ≤ c) (c1 : c ≤ 255) (i0 : 0 ≤ imm) (i1 : imm ≤ 65535) : (sem c false imm ⟨m, full⟩).1 = ⟨{ m with sp := (asR m.sp imm).1, rf := (asR m.sp imm).2 }, full⟩ := by
  subst hc
  rfl
theorem se_rlca (m : M) (full : Bool) (c imm : Int) (hg : Stpq.Good m) (hc : c < 64 ∧ c % 8 = 7 ∧ c / 8 < 4) (c0 : 0 ≤ c) (c1 : c ≤ 255) (i0 : 0 ≤ imm) (i1 : imm ≤ 65535) : (sem c false imm ⟨m, full⟩).1 = ⟨{ m with ra := (trnR (c / 8 % 8) m.ra m.rf).1, rf := bits .andNot .i64 (trnR (c / 8 % 8) m.ra m.rf).2 128 }, full⟩ := by
  unfold sem
  rw [if_neg (by decide), if_pos (by omega)]
  unfold lowE
  rw [if_neg (by omega), if_neg (by omega), if_neg (by omega), if_neg (by omega), if_neg (by omega), if_neg (by omega), if_neg (by omega)]
  rw [show c / 8 % 8 = c / 8 by omega]
  show oddE (c / 8) ⟨m, full⟩ = _
  unfold oddE
  rw [if_neg (by omega), if_neg (by omega), if_neg (by omega), if_neg (by omega)]
  rw [turned_flags]
  rfl
theorem se_rrca (m : M) (full : Bool) (c imm : Int) (hg : Stpq.Good m) (hc : c < 64 ∧ c % 8 = 7 ∧ c / 8 < 4) (c0 : 0 ≤ c) (c1 : c ≤ 255) (i0 : 0 ≤ imm) (i1 : imm ≤ 65535) : (sem c false imm ⟨m, full⟩).1 = ⟨{ m with ra := (trnR (c / 8 % 8) m.ra m.rf).1, rf := bits .andNot .i64 (trnR (c / 8 % 8) m.ra m.rf).2 128 }, full⟩ := by
  unfold sem
  rw [if_neg (by decide), if_pos (by omega)]
  unfold lowE
  rw [if_neg (by omega), if_neg (by omega), if_neg (by omega), if_neg (by omega), if_neg (by omega), if_neg (by omega), if_neg (by omega)]
  rw [show c / 8 % 8 = c / 8 by omega]
  show oddE (c / 8) ⟨m, full⟩ = _
  unfold oddE
  rw [if_neg (by omega), if_neg (by omega), if_neg (by omega), if_neg (by omega)]
  rw [turned_flags]
  rfl
theorem se_rla (m : M) (full : Bool) (c imm : Int) (hg : Stpq.Good m) (hc : c < 64 ∧ c % 8 = 7 ∧ c / 8 < 4) (c0 : 0 ≤ c) (c1 : c ≤ 255) (i0 : 0 ≤ imm) (i1 : imm ≤ 65535) : (sem c false imm ⟨m, full⟩).1 = ⟨{ m with ra := (trnR (c / 8 % 8) m.ra m.rf).1, rf := bits .andNot .i64 (trnR (c / 8 % 8) m.ra m.rf).2 128 }, full⟩ := by
  unfold sem
  rw [if_neg (by decide), if_pos (by omega)]
  unfold lowE
  rw [if_neg (by omega), if_neg (by omega), if_neg (by omega), if_neg (by omega), if_neg (by omega), if_neg (by omega), if_neg (by omega)]
  rw [show c / 8 % 8 = c / 8 by omega]
  show oddE (c / 8) ⟨m, full⟩ = _
  unfold oddE
  rw [if_neg (by omega), if_neg (by omega), if_neg (by omega), if_neg (by omega)]
  rw [turned_flags]
  rfl
theorem se_rra (m : M) (full : Bool) (c imm : Int) (hg : Stpq.Good m) (hc : c < 64 ∧ c % 8 = 7 ∧ c / 8 < 4) (c0 : 0 ≤ c) (c1 : c ≤ 255) (i0 : 0 ≤ imm) (i1 : imm ≤ 65535) : (sem c false imm ⟨m, full⟩).1 = ⟨{ m with ra := (trnR (c / 8 % 8) m.ra m.rf).1, rf := bits .andNot .i64 (trnR (c / 8 % 8) m.ra m.rf).2 128 }, full⟩ := by
  unfold sem
  rw [if_neg (by decide), if_pos (by omega)]
  unfold lowE
  rw [if_neg (by omega), if_neg (by omega), if_neg (by omega), if_neg (by omega), if_neg (by omega), if_neg (by omega), if_neg (by omega)]
  rw [show c / 8 % 8 = c / 8 by omega]
  show oddE (c / 8) ⟨m, full⟩ = _
  unfold oddE
  rw [if_neg (by omega), if_neg (by omega), if_neg (by omega), if_neg (by omega)]
  rw [turned_flags]
  rfl
theorem se_daa (m : M) (full : Bool) (c imm : Int) (hg : Stpq.Good m) (hc : c = 39) (c0 : 0 ≤ c) (c1 : c ≤ 255) (i0 : 0 ≤ imm) (i1 : imm ≤ 65535) : (sem c false imm ⟨m, full⟩).1 = ⟨{ m with ra := (daaR m.ra m.rf).1, rf := (daaR m.ra m.rf).2 }, full⟩ := by
  subst hc
  rfl
theorem se_cpl (m : M) (full : Bool) (c imm : Int) (hg : Stpq.Good m) (hc : c = 47) (c0 : 0 ≤ c) (c1 : c ≤ 255) (i0 : 0 ≤ imm) (i1 : imm ≤ 65535) : (sem c false imm ⟨m, full⟩).1 = ⟨{ m with ra := 255 - m.ra, rf := bits .or .i64 m.rf 96 }, full⟩ := by
  subst hc
  rw [cpl_flags hg.f hg.f16]
  rfl
theorem se_scf (m : M) (full : Bool) (c imm : Int) (hg : Stpq.Good m) (hc : c = 55) (c0 : 0 ≤ c) (c1 : c ≤ 255) (i0 : 0 ≤ imm) (i1 : imm ≤ 65535) : (sem c false imm ⟨m, full⟩).1 = ⟨{ m with rf := bits .or .i64 (bits .and .i64 m.rf 128) 16 }, full⟩ := by
  subst hc
  rw [scf_flags hg.f hg.f16]
  rfl
theorem se_ccf (m : M) (full : Bool) (c imm : Int) (hg : Stpq.Good m) (hc : c = 63) (c0 : 0 ≤ c) (c1 : c ≤ 255) (i0 : 0 ≤ imm) (i1 : imm ≤ 65535) : (sem c false imm ⟨m, full⟩).1 = ⟨{ m with rf := bits .xor .i64 (bits .and .i64 m.rf 144) 16 }, full⟩ := by
  subst hc
  rw [ccf_flags hg.f hg.f16]
  rfl
theorem se_jr_e8 (m : M) (full : Bool) (c imm : Int) (hg : Stpq.Good m) (hc : c = 24) (c0 : 0 ≤ c) (c1 : c ≤ 255) (i0 : 0 ≤ imm) (i1 : imm ≤ 65535) : (sem c false imm ⟨m, full⟩).1 = ⟨{ m with pc := (m.pc + sgn imm) % 65536 }, full⟩ := by
  subst hc
  show (⟨{ m with pc := (m.pc + sgn imm + 65536) % 65536 }, full⟩ : S) = _
  rw [show (m.pc + sgn imm + 65536) % 65536 = (m.pc + sgn imm) % 65536 by omega]
theorem se_jr_Ce8 (m : M) (full : Bool) (c imm : Int) (hg : Stpq.Good m) (hc : c < 64 ∧ c % 8 = 0 ∧ 3 < c / 8) (c0 : 0 ≤ c) (c1 : c ≤ 255) (i0 : 0 ≤ imm) (i1 : imm ≤ 65535) (hm : cond m (c / 8 % 8 % 4) = true) : (sem c false imm ⟨m, full⟩).1 = ⟨{ m with pc := (m.pc + sgn imm) % 65536 }, full⟩ := by
  unfold sem
  rw [if_neg (by decide), if_pos (by omega)]
  unfold lowE
  rw [if_pos (by omega), if_neg (by omega), if_pos (.inr ⟨by omega, by rw [show c / 8 - 4 = c / 8 % 8 % 4 by omega]; exact hm⟩)]
  show (⟨{ m with pc := (m.pc + sgn imm + 65536) % 65536 }, full⟩ : S) = _
  rw [show (m.pc + sgn imm + 65536) % 65536 = (m.pc + sgn imm) % 65536 by omega]
theorem se_jp_n16 (m : M) (full : Bool) (c imm : Int) (hg : Stpq.Good m) (hc : c = 195) (c0 : 0 ≤ c) (c1 : c ≤ 255) (i0 : 0 ≤ imm) (i1 : imm ≤ 65535) : (sem c false imm ⟨m, full⟩).1 = ⟨{ m with pc := imm }, full⟩ := by
  subst hc
  rfl
theorem se_jp_Cn16 (m : M) (full : Bool) (c imm : Int) (hg : Stpq.Good m) (hc : 192 ≤ c ∧ c % 8 = 2 ∧ c / 8 % 8 < 4) (c0 : 0 ≤ c) (c1 : c ≤ 255) (i0 : 0 ≤ imm) (i1 : imm ≤ 65535) (hm : cond m (c / 8 % 8 % 4) = true) : (sem c false imm ⟨m, full⟩).1 = ⟨{ m with pc := imm }, full⟩ := by
  unfold sem
  rw [if_neg (by decide), if_neg (by omega), if_neg (by omega), if_neg (by omega), if_neg (by omega)]
  unfold topE
  rw [if_neg (by rintro (⟨h1, _, _⟩ | h1 | h1) <;> omega), if_neg (by omega), if_neg (by omega), if_neg (by omega), if_neg (by omega), if_neg (by omega), if_neg (by omega), if_neg (by omega), if_neg (by omega), if_neg (by omega), if_neg (by omega), if_neg (by omega), if_neg (by omega), if_pos (by exact .inl ⟨by omega, by omega, by rw [show c / 8 % 8 = c / 8 % 8 % 4 by omega]; exact hm⟩)]
theorem se_jp_hl (m : M) (full : Bool) (c imm : Int) (hg : Stpq.Good m) (hc : c = 233) (c0 : 0 ≤ c) (c1 : c ≤ 255) (i0 : 0 ≤ imm) (i1 : imm ≤ 65535) : (sem c false imm ⟨m, full⟩).1 = ⟨{ m with pc := hl m }, full⟩ := by
  subst hc
  rfl
theorem se_call_n16 (m : M) (full : Bool) (c imm : Int) (hg : Stpq.Good m) (hc : c = 205) (c0 : 0 ≤ c) (c1 : c ≤ 255) (i0 : 0 ≤ imm) (i1 : imm ≤ 65535) : (sem c false imm ⟨m, full⟩).1 = callE imm ⟨m, full⟩ := by
  subst hc
  rfl
theorem se_call_Cn16 (m : M) (full : Bool) (c imm : Int) (hg : Stpq.Good m) (hc : 192 ≤ c ∧ c % 8 = 4 ∧ c / 8 % 8 < 4) (c0 : 0 ≤ c) (c1 : c ≤ 255) (i0 : 0 ≤ imm) (i1 : imm ≤ 65535) (hm : cond m (c / 8 % 8 % 4) = true) : (sem c false imm ⟨m, full⟩).1 = callE imm ⟨m, full⟩ := by
  unfold sem
  rw [if_neg (by decide), if_neg (by omega), if_neg (by omega), if_neg (by omega), if_neg (by omega)]
  unfold topE
  rw [if_neg (by rintro (⟨h1, _, _⟩ | h1 | h1) <;> omega), if_neg (by omega), if_neg (by omega), if_neg (by omega), if_neg (by omega), if_neg (by omega), if_neg (by omega), if_neg (by omega), if_neg (by omega), if_neg (by omega), if_neg (by omega), if_neg (by omega), if_neg (by omega), if_neg (by rintro (⟨h1, _, _⟩ | h1) <;> omega), if_neg (by omega), if_pos (by exact .inl ⟨by omega, by rw [show c / 8 % 8 = c / 8 % 8 % 4 by omega]; exact hm⟩)]
theorem se_rst_H (m : M) (full : Bool) (c imm : Int) (hg : Stpq.Good m) (hc : 192 ≤ c ∧ c % 8 = 7) (c0 : 0 ≤ c) (c1 : c ≤ 255) (i0 : 0 ≤ imm) (i1 : imm ≤ 65535) : (sem c false imm ⟨m, full⟩).1 = callE (8 * (c / 8 % 8)) ⟨m, full⟩ := by
  unfold sem
  rw [if_neg (by decide), if_neg (by omega), if_neg (by omega), if_neg (by omega), if_neg (by omega)]
  unfold topE
  rw [if_neg (by rintro (⟨h1, _, _⟩ | h1 | h1) <;> omega), if_neg (by omega), if_neg (by omega), if_neg (by omega), if_neg (by omega), if_neg (by omega), if_neg (by omega), if_neg (by omega), if_neg (by omega), if_neg (by omega), if_neg (by omega), if_neg (by omega), if_neg (by omega), if_neg (by rintro (⟨h1, _, _⟩ | h1) <;> omega), if_neg (by omega), if_neg (by rintro (⟨h1, _⟩ | h1) <;> omega), if_neg (by omega), if_pos (by omega)]
theorem se_ret (m : M) (full : Bool) (c imm : Int) (hg : Stpq.Good m) (hc : c = 201) (c0 : 0 ≤ c) (c1 : c ≤ 255) (i0 : 0 ≤ imm) (i1 : imm ≤ 65535) : (sem c false imm ⟨m, full⟩).1 = ⟨{ popM m with pc := popV m }, full⟩ := by
  subst hc
  show (⟨{ popM m with pc := popV m, ime := m.ime || false }, full⟩ : S) = _
  rw [Bool.or_false]
  rfl
theorem se_ret_C (m : M) (full : Bool) (c imm : Int) (hg : Stpq.Good m) (hc : 192 ≤ c ∧ c % 8 = 0 ∧ c / 8 % 8 < 4) (c0 : 0 ≤ c) (c1 : c ≤ 255) (i0 : 0 ≤ imm) (i1 : imm ≤ 65535) (hm : cond m (c / 8 % 8 % 4) = true) : (sem c false imm ⟨m, full⟩).1 = ⟨{ popM m with pc := popV m }, full⟩ := by
  unfold sem
  rw [if_neg (by decide), if_neg (by omega), if_neg (by omega), if_neg (by omega), if_neg (by omega)]
  unfold topE
  rw [if_pos (by exact .inl ⟨by omega, by omega, by rw [show c / 8 % 8 = c / 8 % 8 % 4 by omega]; exact hm⟩)]
  show (retE (decide (c = 217)) ⟨m, full⟩) = _
  rw [show decide (c = 217) = false from decide_eq_false (by omega)]
  unfold retE
  rw [Bool.or_false]
  rfl
theorem se_reti (m : M) (full : Bool) (c imm : Int) (hg : Stpq.Good m) (hc : c = 217) (c0 : 0 ≤ c) (c1 : c ≤ 255) (i0 : 0 ≤ imm) (i1 : imm ≤ 65535) : (sem c false imm ⟨m, full⟩).1 = ⟨{ popM m with pc := popV m, ime := true }, full⟩ := by
  subst hc
  show (⟨{ popM m with pc := popV m, ime := m.ime || true }, full⟩ : S) = _
  rw [Bool.or_true]
theorem se_di (m : M) (full : Bool) (c imm : Int) (hg : Stpq.Good m) (hc : c = 243) (c0 : 0 ≤ c) (c1 : c ≤ 255) (i0 : 0 ≤ imm) (i1 : imm ≤ 65535) : (sem c false imm ⟨m, full⟩).1 = ⟨{ m with ime := false }, full⟩ := by
  subst hc
  rfl
theorem se_ei (m : M) (full : Bool) (c imm : Int) (hg : Stpq.Good m) (hc : c = 251) (c0 : 0 ≤ c) (c1 : c ≤ 255) (i0 : 0 ≤ imm) (i1 : imm ≤ 65535) : (sem c false imm ⟨m, full⟩).1 = ⟨{ m with ime := true }, full⟩ := by
  subst hc
  rfl
theorem se_halt (m : M) (full : Bool) (c imm : Int) (hg : Stpq.Good m) (hc : c = 118) (c0 : 0 ≤ c) (c1 : c ≤ 255) (i0 : 0 ≤ imm) (i1 : imm ≤ 65535) : (sem c false imm ⟨m, full⟩).1 = ⟨{ m with hal := true }, full⟩ := by
  subst hc
  rfl
theorem se_nop (m : M) (full : Bool) (c imm : Int) (hg : Stpq.Good m) (hc : c = 0) (c0 : 0 ≤ c) (c1 : c ≤ 255) (i0 : 0 ≤ imm) (i1 : imm ≤ 65535) : (sem c false imm ⟨m, full⟩).1 = ⟨m, full⟩ := by
  subst hc
  rfl
theorem se_stop_n8 (m : M) (full : Bool) (c imm : Int) (hg : Stpq.Good m) (hc : c = 16) (c0 : 0 ≤ c) (c1 : c ≤ 255) (i0 : 0 ≤ imm) (i1 : imm ≤ 65535) : (sem c false imm ⟨m, full⟩).1 = ⟨m, full⟩ := by
  subst hc
  rfl
end Go.Proofs.YtkfehdkjeodbmaaGreatDoor.Stpf
