/-
  Contracts of ours for what reads an instruction's text: impl.holeValue, impl.inHole, spec.l3Imm, spec.l3Fits.
-/
import Derived.Test.YtoajaadobieekaaGreatDoorTexj
import Derived.Test.YtoajaadobieekaaGreatDoorNums
import Derived.Test.YtoajaadobieekaaGreatDoorShelg
namespace Go.Proofs.YtoajaadobieekaaGreatDoor.Fits
open Go.ChangeShapes Go.WideShapes Go.ChangeAt Go.RowKit
open Signed (inB l1In_any)
open HoleX (n8 n16 e8 holeT holeP)
open HolI LenX InsX Texi
set_option linter.unusedVariables false
set_option maxRecDepth 20000

def minus : ByteArray := ⟨#[45]⟩
def hv (s : ByteArray) : Int := if Lib.hasPrefix s.data.toList minus.data.toList = true then 256 - (Nums.num ⟨(Lib.trimPrefix s.data.toList minus.data.toList).toArray⟩).getD 0 else (Nums.num ⟨(Lib.trimPrefix s.data.toList minus.data.toList).toArray⟩).getD 0
theorem word_bd {b : Int} (hb : 0 ≤ b) : ∀ (l : List UInt8) (n m : Int), 0 ≤ n → n ≤ 65535 → Nums.word b n l = some m → 0 ≤ m ∧ m ≤ 65535
  | [], n, m, h0, h1, h => by simp only [Nums.word, Option.some.injEq] at h; omega
  | c :: r, n, m, h0, h1, h => by
    simp only [Nums.word] at h
    split at h
    · cases h
    split at h
    · cases h
    · rename_i h2 h3
      have := (Nums.digS_bd (c.toNat : Int)).1
      have := Int.mul_nonneg h0 hb
      exact word_bd hb r _ m (by omega) (by omega) h
theorem base_bd {b : Int} (hb : 0 ≤ b) {s : ByteArray} {m : Int} (h : Nums.base s b = some m) : 0 ≤ m ∧ m ≤ 65535 := by
  unfold Nums.base at h
  split at h
  · cases h
  · exact word_bd hb _ 0 m (by omega) (by omega) h
theorem num_some {s : ByteArray} {m : Int} (h : Nums.num s = some m) : 0 ≤ m ∧ m ≤ 65535 := by
  unfold Nums.num at h
  split at h
  · cases h
  split at h
  · exact base_bd (by omega) h
  split at h
  · exact base_bd (by omega) h
  · exact base_bd (by omega) h
theorem num_bd (s : ByteArray) : 0 ≤ (Nums.num s).getD 0 ∧ (Nums.num s).getD 0 ≤ 65535 := by
  cases h : Nums.num s with
  | none => exact ⟨by decide, by decide⟩
  | some m => exact num_some h
set_option maxHeartbeats 400000 in
theorem holeValue_any (s : ByteArray) (w : World) (hT : PartN.Tables w) (hs : s.size ≤ 1048576) :
    Calls Tryz.prog 49 #[.string s] w fun e w' => e = .returned (.int .i64 (hv s)) ∧ w' = w := by
  have c := fun w => Tryz.strings_CutPrefix s ⟨#[45]⟩ w
  have hz : (Lib.trimPrefix s.data.toList [45]).length ≤ s.size := by
    have := Lib.trimPrefix_le s.data.toList [45]
    rwa [Array.length_toList] at this
  have cn := fun w hT => Nums.implNum_any ⟨(Lib.trimPrefix s.data.toList (⟨#[45]⟩ : ByteArray).data.toList).toArray⟩ w hT (by unfold maxLen; show (Lib.trimPrefix s.data.toList [45]).toArray.size ≤ _; simp; omega)
  have bd := num_bd ⟨(Lib.trimPrefix s.data.toList (⟨#[45]⟩ : ByteArray).data.toList).toArray⟩
  have HT : Hid (PartN.Tables w) := hT
  clear hT hz
  have HV : Hid (hv s = if Lib.hasPrefix s.data.toList (⟨#[45]⟩ : ByteArray).data.toList = true then 256 - (Nums.num ⟨(Lib.trimPrefix s.data.toList (⟨#[45]⟩ : ByteArray).data.toList).toArray⟩).getD 0 else (Nums.num ⟨(Lib.trimPrefix s.data.toList (⟨#[45]⟩ : ByteArray).data.toList).toArray⟩).getD 0) := rfl
  generalize (Nums.num ⟨(Lib.trimPrefix s.data.toList (⟨#[45]⟩ : ByteArray).data.toList).toArray⟩).isSome = o at cn
  generalize (Nums.num ⟨(Lib.trimPrefix s.data.toList (⟨#[45]⟩ : ByteArray).data.toList).toArray⟩).getD 0 = n at cn bd HV
  generalize (⟨(Lib.trimPrefix s.data.toList (⟨#[45]⟩ : ByteArray).data.toList).toArray⟩ : ByteArray) = d at c cn
  generalize Lib.hasPrefix s.data.toList (⟨#[45]⟩ : ByteArray).data.toList = b at c HV
  have HK : Hid (wrap64 (256 - n) = 256 - n) := by show _ = _; unfold wrap64; omega
  clear bd
  cases b
  all_goals
    go_enter Tryz.func49, Tryz.ntmps49
    go_wp2_with first | (go_at_call 71; refine (c _).mono ?_; rintro e w' ⟨rfl, hw⟩; have hw := hw.symm; subst hw) | (go_at_call 73; refine (cn _ HT.out.hex).mono ?_; rintro e w' ⟨rfl, hw⟩; have hw := hw.symm; subst hw)
    go_ret
    first
      | exact ⟨congrArg (fun x => Ending.returned (.int .i64 x)) HV.out.symm, rfl⟩
      | exact ⟨congrArg (fun x => Ending.returned (.int .i64 x)) (HK.out.trans HV.out.symm), rfl⟩
def im (s : ByteArray) : Int :=
  if 1 < s.size ∧ (s.data.getD 0 0).toNat = 45 then (if (Nums.num (s.extract 1 s.size)).isSome = true ∧ 1 ≤ (Nums.num (s.extract 1 s.size)).getD 0 ∧ (Nums.num (s.extract 1 s.size)).getD 0 ≤ 128 then 256 - (Nums.num (s.extract 1 s.size)).getD 0 else -1)
  else if (Nums.num s).isSome = true then (Nums.num s).getD 0 else -1
theorem num_cases (s : ByteArray) : (Nums.num s).isSome = true ∨ (Nums.num s).isSome = false := by cases (Nums.num s).isSome <;> simp
set_option maxHeartbeats 400000 in
theorem l3Imm_any (s : ByteArray) (w : World) (hs : s.size ≤ 1048576) :
    Calls Tryz.prog 33 #[.string s] w fun e w' => e = .returned (.int .i64 (im s)) ∧ w' = w := by
  by_cases h1 : 1 < s.size ∧ (s.data.getD 0 0).toNat = 45
  · have hx : ∀ w, (Instr.index 9 (.string s) (.int .i64 0)).run Tryz.prog w = .ok (.int .u8 45) w := fun w => by
      rw [run_index_string w 9 s .i64 0 Tryz.underlying9, dif_pos ⟨by omega, by omega⟩]
      have e : (s[(0 : Int).toNat]'(by show 0 < _; omega)).toNat = 45 := by
        have := h1.2
        rw [show s.data.getD 0 0 = s[0]'(by omega) from Nums.getD_at s (by omega)] at this
        exact this
      rw [e]
      rfl
    have sl : ∀ w, (Instr.slice 9 (.string s) (some (.int .i64 1)) none none).run Tryz.prog w = .ok (.string (s.extract 1 s.size)) w := fun w => run_slice_string_l w (t := 9) (s := s) Tryz.underlying9 .i64 1 (by omega) (by omega)
    have hz := h1.1
    have hz' : (1 : Int) < (s.size : Int) := by omega
    have cn := fun w => Nums.specNum_any (s.extract 1 s.size) w (by unfold maxLen; simp; omega)
    have bd := num_bd (s.extract 1 s.size)
    have HV : Hid (im s = if (Nums.num (s.extract 1 s.size)).isSome = true ∧ 1 ≤ (Nums.num (s.extract 1 s.size)).getD 0 ∧ (Nums.num (s.extract 1 s.size)).getD 0 ≤ 128 then 256 - (Nums.num (s.extract 1 s.size)).getD 0 else -1) := by show _ = _; unfold im; rw [if_pos h1]
    generalize (Nums.num (s.extract 1 s.size)).isSome = o at cn HV
    generalize (Nums.num (s.extract 1 s.size)).getD 0 = n at cn HV bd
    generalize s.extract 1 s.size = d at sl cn
    have ci := fun w => l1In_any n 1 128 w
    have hk : wrap64 (256 - n) = 256 - n := by unfold wrap64; omega
    clear h1
    by_cases hin : 1 ≤ n ∧ n ≤ 128
    · rw [show inB n 1 128 = true from decide_eq_true hin] at ci
      cases o
      · have HE : Hid (im s = -1) := by show _ = _; rw [HV.out, if_neg (by simp)]
        clear HV hin
        go_enter Tryz.func33, Tryz.ntmps33
        go_wp2_with first | (go_at_call 62; refine (cn _).mono ?_; rintro e w' ⟨rfl, hw⟩; have hw := hw.symm; subst hw) | (go_at_call 51; refine (ci _).mono ?_; rintro e w' ⟨rfl, hw⟩; have hw := hw.symm; subst hw)
        go_ret
        exact ⟨congrArg (fun x => Ending.returned (.int .i64 x)) HE.out.symm, rfl⟩
      · have HE : Hid (im s = 256 - n) := by show _ = _; rw [HV.out, if_pos ⟨rfl, hin⟩]
        have HK : Hid (wrap64 (256 - n) = 256 - n) := hk
        clear HV hin
        go_enter Tryz.func33, Tryz.ntmps33
        go_wp2_with first | (go_at_call 62; refine (cn _).mono ?_; rintro e w' ⟨rfl, hw⟩; have hw := hw.symm; subst hw) | (go_at_call 51; refine (ci _).mono ?_; rintro e w' ⟨rfl, hw⟩; have hw := hw.symm; subst hw)
        go_ret
        first
          | exact ⟨congrArg (fun x => Ending.returned (.int .i64 x)) HE.out.symm, rfl⟩
          | exact ⟨congrArg (fun x => Ending.returned (.int .i64 x)) (HK.out.trans HE.out.symm), rfl⟩
    · rw [show inB n 1 128 = false from decide_eq_false hin] at ci
      have HE : Hid (im s = -1) := by show _ = _; rw [HV.out, if_neg (fun h => hin h.2)]
      clear HV hin
      cases o
      all_goals
        go_enter Tryz.func33, Tryz.ntmps33
        go_wp2_with first | (go_at_call 62; refine (cn _).mono ?_; rintro e w' ⟨rfl, hw⟩; have hw := hw.symm; subst hw) | (go_at_call 51; refine (ci _).mono ?_; rintro e w' ⟨rfl, hw⟩; have hw := hw.symm; subst hw)
        go_ret
        exact ⟨congrArg (fun x => Ending.returned (.int .i64 x)) HE.out.symm, rfl⟩
  · have cn := fun w => Nums.specNum_any s w (by unfold maxLen; omega)
    have HV : Hid (im s = if (Nums.num s).isSome = true then (Nums.num s).getD 0 else -1) := by show _ = _; unfold im; rw [if_neg h1]
    generalize (Nums.num s).isSome = o at cn HV
    generalize (Nums.num s).getD 0 = n at cn HV
    by_cases hz : 1 < s.size
    · have hz' : (1 : Int) < (s.size : Int) := by omega
      obtain ⟨b, hb, hx⟩ : ∃ b : Int, (b == 45) = false ∧ ∀ w, (Instr.index 9 (.string s) (.int .i64 0)).run Tryz.prog w = .ok (.int .u8 b) w := by
        refine ⟨((s[0]'(by omega)).toNat : Int), ?_, fun w => ?_⟩
        · have : ¬ (s[0]'(by omega)).toNat = 45 := fun h => h1 ⟨hz, by rw [Nums.getD_at s (by omega)]; exact h⟩
          simp
          omega
        · rw [run_index_string w 9 s .i64 0 Tryz.underlying9, dif_pos ⟨by omega, by omega⟩]
          rfl
      clear h1
      cases o
      all_goals
        go_enter Tryz.func33, Tryz.ntmps33
        go_wp2_with (go_at_call 62; refine (cn _).mono ?_; rintro e w' ⟨rfl, hw⟩; have hw := hw.symm; subst hw)
        go_ret
        exact ⟨congrArg (fun x => Ending.returned (.int .i64 x)) HV.out.symm, rfl⟩
    · have hz' : (s.size : Int) ≤ 1 := by omega
      clear h1
      cases o
      all_goals
        go_enter Tryz.func33, Tryz.ntmps33
        go_wp2_with (go_at_call 62; refine (cn _).mono ?_; rintro e w' ⟨rfl, hw⟩; have hw := hw.symm; subst hw)
        go_ret
        exact ⟨congrArg (fun x => Ending.returned (.int .i64 x)) HV.out.symm, rfl⟩
def inner (s A Z : ByteArray) : ByteArray := ⟨(Lib.trimSuffix (Lib.trimPrefix s.data.toList A.data.toList) Z.data.toList).toArray⟩
def stands (s A Z : ByteArray) : Bool := Lib.hasPrefix s.data.toList A.data.toList && Lib.hasSuffix (Lib.trimPrefix s.data.toList A.data.toList) Z.data.toList
set_option maxHeartbeats 400000 in
theorem inHole_any (s T h A Z : ByteArray) (w : World) (hm : MaxL w) (hs : s.size ≤ 1048576) (ht : T.size ≤ 40) (hA : (⟨(Lib.cut T.data.toList h.data.toList).1.toArray⟩ : ByteArray) = A) (hZ : (⟨(Lib.cut T.data.toList h.data.toList).2.1.toArray⟩ : ByteArray) = Z) :
    Calls Tryz.prog 48 #[.string s, .string T, .string h] w fun e w' => e = .returned (.tuple #[.string (inner s A Z), .bool (stands s A Z)]) ∧ Below w.heap.size w w' := by
  obtain ⟨mm, hmm⟩ := hm
  have cc := Tryz.strings_Cut T h mm w (by omega) hmm
  rw [hA, hZ] at cc
  generalize (Lib.cut T.data.toList h.data.toList).2.2 = f at cc
  have cp := fun w => Tryz.strings_CutPrefix s A w
  have hz : (Lib.trimPrefix s.data.toList A.data.toList).length ≤ s.size := by
    have := Lib.trimPrefix_le s.data.toList A.data.toList
    rwa [Array.length_toList] at this
  have cf := fun w => Tryz.strings_CutSuffix ⟨(Lib.trimPrefix s.data.toList A.data.toList).toArray⟩ Z w (by show (Lib.trimPrefix s.data.toList A.data.toList).toArray.size ≤ _; simp; omega)
  have HR : Hid ((inner s A Z = ⟨(Lib.trimSuffix (⟨(Lib.trimPrefix s.data.toList A.data.toList).toArray⟩ : ByteArray).data.toList Z.data.toList).toArray⟩) ∧ (stands s A Z = (Lib.hasPrefix s.data.toList A.data.toList && Lib.hasSuffix (⟨(Lib.trimPrefix s.data.toList A.data.toList).toArray⟩ : ByteArray).data.toList Z.data.toList))) := ⟨rfl, rfl⟩
  generalize (⟨(Lib.trimSuffix (⟨(Lib.trimPrefix s.data.toList A.data.toList).toArray⟩ : ByteArray).data.toList Z.data.toList).toArray⟩ : ByteArray) = I at cf HR
  generalize Lib.hasSuffix (⟨(Lib.trimPrefix s.data.toList A.data.toList).toArray⟩ : ByteArray).data.toList Z.data.toList = g at cf HR
  generalize (⟨(Lib.trimPrefix s.data.toList A.data.toList).toArray⟩ : ByteArray) = M at cp cf
  generalize Lib.hasPrefix s.data.toList A.data.toList = b at cp HR
  clear hA hZ hz hmm
  cases b
  all_goals
    go_enter Tryz.func48, Tryz.ntmps48
    go_wp2_with fail
    refine cc.mono ?_
    rintro e w1 ⟨rfl, k, hw1⟩
    subst hw1
    go_wp2_with first | (go_at_call 71; refine (cp _).mono ?_; rintro e w' ⟨rfl, hw⟩; subst hw) | (go_at_call 72; refine (cf _).mono ?_; rintro e w' ⟨rfl, hw⟩; subst hw)
    go_ret2
    exact ⟨by rw [HR.out.1, HR.out.2]; rfl, Hole.below_drewN (Below.refl _ _) k⟩
end Go.Proofs.YtoajaadobieekaaGreatDoor.Fits
