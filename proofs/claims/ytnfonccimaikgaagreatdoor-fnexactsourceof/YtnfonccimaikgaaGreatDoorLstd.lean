/-
  Contracts of ours for both Listed.
-/
import Derived.Test.YtnfonccimaikgaaGreatDoorLstc
namespace Go.Proofs.YtnfonccimaikgaaGreatDoor.Lstd
open Go.ChangeShapes Go.WideShapes Go.ChangeAt Go.RowKit Go.Deep
open Signed (inB l1In_any ret_bool ret_int)
open HolI LenX InsX Texi ReadI Lstp Lsta Lstb Lstc
open Txts (Texts infoS)
set_option linter.unusedVariables false
set_option maxRecDepth 20000

def romB (n : Nat) : Bool := decide (n % 256 = 0 ∧ 512 ≤ n ∧ n ≤ 4096)
def banks (n : Nat) : Int := if n % 256 = 0 ∧ 512 ≤ n ∧ n ≤ 4096 then n / 256 else 0
theorem romOk_any (rom : ByteArray) (w : World) (hs : rom.size ≤ 1048576) :
    Calls Tryz.prog 15 #[.string rom] w fun e w' => e = .returned (.bool (romB rom.size)) ∧ w' = w := by
  go_enter Tryz.func15, Tryz.ntmps15
  go_wp2
  all_goals go_ret
  all_goals exact ⟨ret_bool (by rw [Bool.eq_iff_iff]; simp [romB]; try omega), rfl⟩
set_option maxHeartbeats 1000000 in
theorem l5Banks_any (rom : ByteArray) (w : World) (hs : rom.size ≤ 1048576) :
    Calls Tryz.prog 13 #[.string rom] w fun e w' => e = .returned (.int .i64 (banks rom.size)) ∧ w' = w := by
  go_enter Tryz.func13, Tryz.ntmps13
  go_wp2_with (go_at_call 12; refine (l1In_any _ _ _ _).mono ?_; rintro e w' ⟨rfl, rfl⟩)
  all_goals go_ret
  all_goals exact ⟨ret_int (by unfold banks; simp_all [inB]; try omega), rfl⟩
theorem banksOf_any (rom : ByteArray) (w : World) (hs : rom.size ≤ 1048576) :
    Calls Tryz.prog 16 #[.string rom] w fun e w' => e = .returned (.int .i64 ((rom.size : Int) / 256)) ∧ w' = w := by
  go_enter Tryz.func16, Tryz.ntmps16
  go_wp2
  go_ret
  exact ⟨rfl, rfl⟩
/-- Is there such a bank? -/
def okL (rom : ByteArray) (bank : Int) : Bool := romB rom.size && decide (0 ≤ bank ∧ bank < (rom.size : Int) / 256)
def outL (rom : ByteArray) (bank : Int) : List ByteArray := if okL rom bank = true then listL (bankB rom bank) (baseV bank) 0 else []
theorem out_no {rom : ByteArray} {bank : Int} (h : okL rom bank = false) : outL rom bank = [] := if_neg (by rw [h]; decide)
theorem out_yes {rom : ByteArray} {bank : Int} (h : okL rom bank = true) : outL rom bank = listL (bankB rom bank) (baseV bank) 0 := if_pos h
theorem ok_rom {rom : ByteArray} {bank : Int} (h : okL rom bank = true) : romB rom.size = true ∧ rom.size ≤ 4096 ∧ 512 ≤ rom.size ∧ banks rom.size = (rom.size : Int) / 256 ∧ 0 ≤ bank ∧ bank < (rom.size : Int) / 256 ∧ bank * 256 + 256 ≤ rom.size := by
  unfold okL at h
  rw [Bool.and_eq_true] at h
  have h1 := of_decide_eq_true h.1
  have h2 := of_decide_eq_true h.2
  refine ⟨h.1, h1.2.2, h1.2.1, by unfold banks; rw [if_pos h1], h2.1, h2.2, by omega⟩
theorem out_len {rom : ByteArray} {bank : Int} : (outL rom bank).length ≤ 256 := by
  cases h : okL rom bank
  · rw [out_no h]; simp
  · obtain ⟨_, _, _, _, h0, _, h1⟩ := ok_rom h
    rw [out_yes h]
    have := list_len (bankB rom bank) (baseV bank) 0
    rw [bank_size h0 h1] at this
    omega
set_option maxHeartbeats 1000000 in
theorem implListed_any (rom : ByteArray) (bank : Int) (w : World) (hT : PartN.Tables w) (hP : Pow w) (hm : MaxL w) (hs : rom.size ≤ 1048576) :
    Calls Tryz.prog 6 #[.string rom, .int .i64 bank] w fun e w' => ∃ v, e = .returned (.tuple #[v, .bool (okL rom bank)]) ∧ Owned w w' v (outL rom bank) := by
  have HX : Hid (PartN.Tables w ∧ Pow w ∧ MaxL w) := ⟨hT, hP, hm⟩
  clear hT hP hm
  have c1 := fun w => romOk_any rom w hs
  have c2 := fun w => banksOf_any rom w hs
  cases h : okL rom bank
  · rw [out_no h]
    have h' : romB rom.size = false ∨ (romB rom.size = true ∧ (bank < 0 ∨ (0 ≤ bank ∧ (rom.size : Int) / 256 ≤ bank))) := by
      unfold okL at h
      cases hr : romB rom.size
      · exact .inl rfl
      · rw [hr, Bool.true_and] at h
        have := of_decide_eq_false h
        exact .inr ⟨rfl, by omega⟩
    clear h
    rcases h' with hr | ⟨hr, hb | ⟨hb0, hb⟩⟩
    · rw [hr] at c1
      go_enter Tryz.func6, Tryz.ntmps6
      go_wp2_with first | (go_at_call 15; refine (c1 _).mono ?_; rintro e w' ⟨rfl, hw⟩; have hw := hw.symm; subst hw) | (go_at_call 16; refine (c2 _).mono ?_; rintro e w' ⟨rfl, hw⟩; have hw := hw.symm; subst hw)
      go_ret2
      exact ⟨_, rfl, World.ownsRow_nil _ _ _ _, Below.refl _ _⟩
    · rw [hr] at c1
      have d : decide (bank < 0) = true := decide_eq_true hb
      go_enter Tryz.func6, Tryz.ntmps6
      go_wp2_with first | (go_at_call 15; refine (c1 _).mono ?_; rintro e w' ⟨rfl, hw⟩; have hw := hw.symm; subst hw) | (go_at_call 16; refine (c2 _).mono ?_; rintro e w' ⟨rfl, hw⟩; have hw := hw.symm; subst hw)
      go_ret2
      exact ⟨_, rfl, World.ownsRow_nil _ _ _ _, Below.refl _ _⟩
    · rw [hr] at c1
      generalize (rom.size : Int) / 256 = n at c2 hb
      have d : decide (bank < 0) = false := decide_eq_false (by omega)
      have d2 : decide (n ≤ bank) = true := decide_eq_true hb
      go_enter Tryz.func6, Tryz.ntmps6
      go_wp2_with first | (go_at_call 15; refine (c1 _).mono ?_; rintro e w' ⟨rfl, hw⟩; have hw := hw.symm; subst hw) | (go_at_call 16; refine (c2 _).mono ?_; rintro e w' ⟨rfl, hw⟩; have hw := hw.symm; subst hw)
      go_ret2
      exact ⟨_, rfl, World.ownsRow_nil _ _ _ _, Below.refl _ _⟩
  · obtain ⟨hr, _, _, _, b0, b1, b2⟩ := ok_rom h
    rw [out_yes h]
    rw [hr] at c1
    have cl := fun w hT hP hm => listed_any rom bank w hT hP hm b0 b2 hs
    generalize listL (bankB rom bank) (baseV bank) 0 = L at cl ⊢
    generalize (rom.size : Int) / 256 = n at c2 b1
    have d : decide (bank < 0) = false := decide_eq_false (by omega)
    have d2 : decide (n ≤ bank) = false := decide_eq_false (by omega)
    clear h
    go_enter Tryz.func6, Tryz.ntmps6
    go_wp2_with first | (go_at_call 15; refine (c1 _).mono ?_; rintro e w' ⟨rfl, hw⟩; have hw := hw.symm; subst hw) | (go_at_call 16; refine (c2 _).mono ?_; rintro e w' ⟨rfl, hw⟩; have hw := hw.symm; subst hw) | fail
    refine (cl _ HX.out.1 HX.out.2.1 HX.out.2.2).mono ?_
    rintro e w1 ⟨v, rfl, own⟩
    have OW : Hid (Owned w w1 v L) := own
    clear own
    go_wp2
    go_ret2
    exact ⟨_, rfl, OW.out⟩
set_option maxHeartbeats 1000000 in
theorem specListed_any (rom : ByteArray) (bank : Int) (w : World) (hs : rom.size ≤ 1048576) :
    Calls Tryz.prog 5 #[.string rom, .int .i64 bank] w fun e w' => ∃ v, e = .returned (.tuple #[v, .bool (okL rom bank)]) ∧ Owned w w' v (outL rom bank) := by
  have c1 := fun w => l5Banks_any rom w hs
  have c2 := fun lo hi w => l1In_any bank lo hi w
  have hbk : 0 ≤ banks rom.size ∧ banks rom.size ≤ 16 := by unfold banks; split <;> omega
  have hv : inB bank 0 (banks rom.size - 1) = okL rom bank := by
    unfold inB okL romB banks
    by_cases h : rom.size % 256 = 0 ∧ 512 ≤ rom.size ∧ rom.size ≤ 4096
    · rw [if_pos h, decide_eq_true h, Bool.true_and]
      rw [Bool.eq_iff_iff]
      simp
      omega
    · rw [if_neg h, decide_eq_false h, Bool.false_and]
      simp
      omega
  have d0 : IntKind.i64.wrap (banks rom.size - 1) = banks rom.size - 1 := by rw [IntKind.wrap_i64]; omega
  have c3 := fun w => c2 0 (banks rom.size - 1) w
  rw [hv] at c3
  cases h : okL rom bank
  · rw [out_no h]
    rw [h] at c3
    clear hv h c2
    generalize banks rom.size = n at c1 c3 d0 hbk
    go_enter Tryz.func5, Tryz.ntmps5
    go_wp2_with first | (go_at_call 13; refine (c1 _).mono ?_; rintro e w' ⟨rfl, hw⟩; have hw := hw.symm; subst hw) | (go_at_call 12; refine (c3 _).mono ?_; rintro e w' ⟨rfl, hw⟩; have hw := hw.symm; subst hw)
    go_ret2
    exact ⟨_, rfl, World.ownsRow_nil _ _ _ _, Below.refl _ _⟩
  · obtain ⟨hr, _, _, _, b0, b1, b2⟩ := ok_rom h
    rw [out_yes h]
    rw [h] at c3
    have hz := bank_size b0 b2
    have hbs := base_bd bank
    have cl := fun w => specList_any (bankB rom bank) (baseV bank) w (by omega) hbs.1 hbs.2
    have hb0 : baseV bank = if bank = 0 then 0 else 256 := rfl
    have d1 : IntKind.i64.wrap (bank * 256) = bank * 256 := by rw [IntKind.wrap_i64]; omega
    have d2 : IntKind.i64.wrap (bank + 1) = bank + 1 := by rw [IntKind.wrap_i64]; omega
    have d3 : IntKind.i64.wrap ((bank + 1) * 256) = bank * 256 + 256 := by rw [IntKind.wrap_i64]; omega
    have sl : ∀ w, (Instr.slice 9 (.string rom) (some (.int .i64 (bank * 256))) (some (.int .i64 (bank * 256 + 256))) none).run Tryz.prog w = .ok (.string (bankB rom bank)) w := fun w => run_slice_string w 9 rom .i64 .i64 (bank * 256) (bank * 256 + 256) Tryz.underlying9 (by omega) (by omega) (by omega)
    generalize listL (bankB rom bank) (baseV bank) 0 = L at cl ⊢
    generalize bankB rom bank = S at cl sl
    clear hv h c2 hr hz hbs
    generalize banks rom.size = n at c1 c3 d0 hbk
    by_cases hb : bank = 0
    · rw [if_pos hb] at hb0
      rw [hb0] at cl
      have e0 : decide (0 < bank) = false := decide_eq_false (by omega)
      have HB : Hid (bank = 0) := hb
      clear hb hb0
      go_enter Tryz.func5, Tryz.ntmps5
      go_wp2_with first | (go_at_call 13; refine (c1 _).mono ?_; rintro e w' ⟨rfl, hw⟩; have hw := hw.symm; subst hw) | (go_at_call 12; refine (c3 _).mono ?_; rintro e w' ⟨rfl, hw⟩; have hw := hw.symm; subst hw) | fail
      refine (cl _).mono ?_
      rintro e w1 ⟨v, rfl, own⟩
      have OW : Hid (Owned w w1 v L) := own
      clear own
      go_wp2
      go_ret2
      exact ⟨_, rfl, OW.out⟩
    · rw [if_neg hb] at hb0
      rw [hb0] at cl
      have e0 : decide (0 < bank) = true := decide_eq_true (by omega)
      have HB : Hid (¬ bank = 0) := hb
      clear hb hb0
      go_enter Tryz.func5, Tryz.ntmps5
      go_wp2_with first | (go_at_call 13; refine (c1 _).mono ?_; rintro e w' ⟨rfl, hw⟩; have hw := hw.symm; subst hw) | (go_at_call 12; refine (c3 _).mono ?_; rintro e w' ⟨rfl, hw⟩; have hw := hw.symm; subst hw) | fail
      refine (cl _).mono ?_
      rintro e w1 ⟨v, rfl, own⟩
      have OW : Hid (Owned w w1 v L) := own
      clear own
      go_wp2
      go_ret2
      exact ⟨_, rfl, OW.out⟩
end Go.Proofs.YtnfonccimaikgaaGreatDoor.Lstd
