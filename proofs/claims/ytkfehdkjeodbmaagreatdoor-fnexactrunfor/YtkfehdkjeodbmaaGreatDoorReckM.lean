/-
  What the rest of chapter 4 tells (Stepped8, Turned, Daa, AddWords, AddSigned), and contracts of ours for impl's and for the specification's functions but impl.Turned, each at every argument.
-/
import Derived.Test.YtkfehdkjeodbmaaGreatDoorReckS
namespace Go.Proofs.YtkfehdkjeodbmaaGreatDoor.ReckM
open Go.ChangeShapes Go.WideShapes Go.ChangeAt Go.RowKit
open Signed (inB ret_int ret_bool isByte_any l1In_any sgn specSigned_any implSigned_any)
open Reck ReckS

def zB (f : Int) : Bool := decide (f / 128 % 2 = 1)
def nB (f : Int) : Bool := decide (f / 64 % 2 = 1)
def hB (f : Int) : Bool := decide (f / 32 % 2 = 1)
def cB (f : Int) : Bool := decide (cy f = 1)
theorem and_all : ∀ n : Nat, n < 256 → bits .and .i64 (n : Int) 128 = chz (zB n) 128 0 ∧ bits .and .i64 (n : Int) 64 = chz (nB n) 64 0 ∧ bits .and .i64 (n : Int) 32 = chz (hB n) 32 0 ∧ bits .and .i64 (n : Int) 16 = chz (cB n) 16 0 := by decide +kernel
theorem ands {f : Int} (f0 : 0 ≤ f) (f1 : f ≤ 255) : bits .and .i64 f 128 = chz (zB f) 128 0 ∧ bits .and .i64 f 64 = chz (nB f) 64 0 ∧ bits .and .i64 f 32 = chz (hB f) 32 0 ∧ bits .and .i64 f 16 = chz (cB f) 16 0 := by
  obtain ⟨n, rfl⟩ := Int.eq_ofNat_of_zero_le f0
  exact and_all n (by omega)

def st8R (v f : Int) (down : Bool) : Int × Int :=
  if down = true then ((v + 255) % 256, fl (decide ((v + 255) % 256 = 0)) true (decide (v % 16 = 0)) (cB f)) else ((v + 1) % 256, fl (decide ((v + 1) % 256 = 0)) false (decide (v % 16 = 15)) (cB f))
def st8 (v f : Int) (down : Bool) : Int × Int := if (inB v 0 255 && inB f 0 255) = true then st8R v f down else (0, 0)
theorem or_up (z h c : Bool) : bits .or .i64 (bits .or .i64 (chz h 32 0) (chz z 128 0)) (chz c 16 0) = fl z false h c := by cases z <;> cases h <;> cases c <;> decide
theorem or_down (z h c : Bool) : bits .or .i64 (bits .or .i64 (bits .or .i64 64 (chz h 32 0)) (chz z 128 0)) (chz c 16 0) = fl z true h c := by cases z <;> cases h <;> cases c <;> decide
theorem beq_dec' (x y : Int) : (x == y) = decide (x = y) := by rw [Bool.eq_iff_iff]; simp
set_option maxHeartbeats 1000000 in
theorem implStepped8_any (v f : Int) (down : Bool) (w : World) :
    Calls Tryz.prog 187 #[.int .i64 v, .int .i64 f, .bool down] w fun e w' => e = .returned (.tuple #[.int .i64 (st8 v f down).1, .int .i64 (st8 v f down).2]) ∧ w' = w := by
  unfold st8
  cases hv : inB v 0 255 <;> cases hf : inB f 0 255
  case true.true =>
    obtain ⟨v0, v1⟩ := of_decide_eq_true hv
    obtain ⟨f0, f1⟩ := of_decide_eq_true hf
    have HA : Hid (bits .and .i64 f 16 = chz (cB f) 16 0) := (ands f0 f1).2.2.2
    cases down
    all_goals
      go_enter Tryz.func187, Tryz.ntmps187
      go_wp2_with (first | (go_at_call 94; refine (isByte_any _ _).mono ?_; rintro e w' ⟨rfl, rfl⟩) | (go_at_call 189; refine (flagIf_any _ _ _).mono ?_; rintro e w3 ⟨rfl, rfl⟩))
      go_ret2
    · refine ⟨ret_two rfl ?_, rfl⟩
      rw [HA.out, beq_dec', beq_dec']; exact or_up _ _ _
    · refine ⟨ret_two rfl ?_, rfl⟩
      rw [HA.out, beq_dec', beq_dec']; exact or_down _ _ _
  all_goals
    go_enter Tryz.func187, Tryz.ntmps187
    go_wp2_with (first | (go_at_call 94; refine (isByte_any _ _).mono ?_; rintro e w' ⟨rfl, rfl⟩))
    go_ret2
    exact ⟨rfl, rfl⟩
set_option maxHeartbeats 1000000 in
theorem specStepped8_any (v f : Int) (down : Bool) (w : World) :
    Calls Tryz.prog 82 #[.int .i64 v, .int .i64 f, .bool down] w fun e w' => e = .returned (.tuple #[.int .i64 (st8 v f down).1, .int .i64 (st8 v f down).2]) ∧ w' = w := by
  unfold st8
  cases hv : inB v 0 255 <;> cases hf : inB f 0 255
  case true.true =>
    obtain ⟨v0, v1⟩ := of_decide_eq_true hv
    obtain ⟨f0, f1⟩ := of_decide_eq_true hf
    cases down
    all_goals
      go_enter Tryz.func82, Tryz.ntmps82
      go_wp2_with (first | (go_at_call 44; refine (l4Byte_any _ _).mono ?_; rintro e w' ⟨rfl, rfl⟩) | (go_at_call 73; refine (l4Flags_any _ _ _ _ _).mono ?_; rintro e w3 ⟨rfl, rfl⟩) | (go_at_call 74; refine (l4Carry_any _ _ f0 f1).mono ?_; rintro e w3 ⟨rfl, rfl⟩))
      go_ret2
      refine ⟨ret_two rfl (fl_congr ?_ rfl ?_ ?_), rfl⟩
      all_goals first | exact beq_dec' _ _ | rfl
  all_goals
    go_enter Tryz.func82, Tryz.ntmps82
    go_wp2_with (go_at_call 44; refine (l4Byte_any _ _).mono ?_; rintro e w' ⟨rfl, rfl⟩)
    go_ret2
    exact ⟨rfl, rfl⟩

def awR (a b f : Int) : Int × Int := ((a + b) % 65536, fl (zB f) false (decide (4095 < a % 4096 + b % 4096)) (decide (65535 < a + b)))
def aw (a b f : Int) : Int × Int := if (inB a 0 65535 && inB b 0 65535 && inB f 0 255) = true then awR a b f else (0, 0)
theorem or_aw (z h c : Bool) : bits .or .i64 (bits .or .i64 (chz z 128 0) (chz h 32 0)) (chz c 16 0) = fl z false h c := by cases z <;> cases h <;> cases c <;> decide
set_option maxHeartbeats 1000000 in
theorem implAddWords_any (a b f : Int) (w : World) :
    Calls Tryz.prog 188 #[.int .i64 a, .int .i64 b, .int .i64 f] w fun e w' => e = .returned (.tuple #[.int .i64 (aw a b f).1, .int .i64 (aw a b f).2]) ∧ w' = w := by
  unfold aw
  cases ha : inB a 0 65535 <;> cases hb : inB b 0 65535 <;> cases hf : inB f 0 255
  case true.true.true =>
    obtain ⟨a0, a1⟩ := of_decide_eq_true ha
    obtain ⟨b0, b1⟩ := of_decide_eq_true hb
    obtain ⟨f0, f1⟩ := of_decide_eq_true hf
    have HA : Hid (bits .and .i64 f 128 = chz (zB f) 128 0) := (ands f0 f1).1
    go_enter Tryz.func188, Tryz.ntmps188
    go_wp2_with (first | (go_at_call 94; refine (isByte_any _ _).mono ?_; rintro e w' ⟨rfl, rfl⟩) | (go_at_call 91; refine (isWord_any _ _).mono ?_; rintro e w' ⟨rfl, rfl⟩) | (go_at_call 189; refine (flagIf_any _ _ _).mono ?_; rintro e w3 ⟨rfl, rfl⟩))
    go_ret2
    refine ⟨ret_two rfl ?_, rfl⟩
    rw [HA.out]; exact or_aw _ _ _
  all_goals
    go_enter Tryz.func188, Tryz.ntmps188
    go_wp2_with (first | (go_at_call 94; refine (isByte_any _ _).mono ?_; rintro e w' ⟨rfl, rfl⟩) | (go_at_call 91; refine (isWord_any _ _).mono ?_; rintro e w' ⟨rfl, rfl⟩))
    go_ret2
    exact ⟨rfl, rfl⟩
set_option maxHeartbeats 1000000 in
theorem specAddWords_any (a b f : Int) (w : World) :
    Calls Tryz.prog 79 #[.int .i64 a, .int .i64 b, .int .i64 f] w fun e w' => e = .returned (.tuple #[.int .i64 (aw a b f).1, .int .i64 (aw a b f).2]) ∧ w' = w := by
  unfold aw
  cases ha : inB a 0 65535 <;> cases hb : inB b 0 65535 <;> cases hf : inB f 0 255
  case true.true.true =>
    obtain ⟨a0, a1⟩ := of_decide_eq_true ha
    obtain ⟨b0, b1⟩ := of_decide_eq_true hb
    obtain ⟨f0, f1⟩ := of_decide_eq_true hf
    go_enter Tryz.func79, Tryz.ntmps79
    go_wp2_with (first | (go_at_call 44; refine (l4Byte_any _ _).mono ?_; rintro e w' ⟨rfl, rfl⟩) | (go_at_call 45; refine (l4Word_any _ _).mono ?_; rintro e w' ⟨rfl, rfl⟩) | (go_at_call 73; refine (l4Flags_any _ _ _ _ _).mono ?_; rintro e w3 ⟨rfl, rfl⟩))
    go_ret2
    refine ⟨ret_two rfl (fl_congr ?_ rfl rfl rfl), rfl⟩
    unfold zB; rw [Bool.eq_iff_iff]; simp; omega
  all_goals
    go_enter Tryz.func79, Tryz.ntmps79
    go_wp2_with (first | (go_at_call 44; refine (l4Byte_any _ _).mono ?_; rintro e w' ⟨rfl, rfl⟩) | (go_at_call 45; refine (l4Word_any _ _).mono ?_; rintro e w' ⟨rfl, rfl⟩))
    go_ret2
    exact ⟨rfl, rfl⟩

def asR (sp b : Int) : Int × Int := ((sp + sgn b) % 65536, fl false false (decide (15 < sp % 16 + b % 16)) (decide (255 < sp % 256 + b)))
def asg (sp b : Int) : Int × Int := if (inB sp 0 65535 && inB b 0 255) = true then asR sp b else (0, 0)
theorem sgn_bd (b : Int) : -128 ≤ sgn b ∧ sgn b ≤ 127 := by unfold sgn; split <;> (try split) <;> omega
set_option maxHeartbeats 1000000 in
theorem implAddSigned_any (sp b : Int) (w : World) :
    Calls Tryz.prog 151 #[.int .i64 sp, .int .i64 b] w fun e w' => e = .returned (.tuple #[.int .i64 (asg sp b).1, .int .i64 (asg sp b).2]) ∧ w' = w := by
  unfold asg
  obtain ⟨s0, s1⟩ := sgn_bd b
  cases ha : inB sp 0 65535 <;> cases hb : inB b 0 255
  case true.true =>
    obtain ⟨a0, a1⟩ := of_decide_eq_true ha
    obtain ⟨b0, b1⟩ := of_decide_eq_true hb
    go_enter Tryz.func151, Tryz.ntmps151
    go_wp2_with (first | (go_at_call 94; refine (isByte_any _ _).mono ?_; rintro e w' ⟨rfl, rfl⟩) | (go_at_call 91; refine (isWord_any _ _).mono ?_; rintro e w' ⟨rfl, rfl⟩) | (go_at_call 189; refine (flagIf_any _ _ _).mono ?_; rintro e w3 ⟨rfl, rfl⟩) | (go_at_call 161; refine (implSigned_any _ _).mono ?_; rintro e w3 ⟨rfl, rfl⟩))
    go_ret2
    refine ⟨ret_two ?_ (or_hc _ _), rfl⟩
    unfold asR; simp; try omega
  all_goals
    go_enter Tryz.func151, Tryz.ntmps151
    go_wp2_with (first | (go_at_call 94; refine (isByte_any _ _).mono ?_; rintro e w' ⟨rfl, rfl⟩) | (go_at_call 91; refine (isWord_any _ _).mono ?_; rintro e w' ⟨rfl, rfl⟩))
    go_ret2
    exact ⟨rfl, rfl⟩
set_option maxHeartbeats 1000000 in
theorem specAddSigned_any (sp b : Int) (w : World) :
    Calls Tryz.prog 85 #[.int .i64 sp, .int .i64 b] w fun e w' => e = .returned (.tuple #[.int .i64 (asg sp b).1, .int .i64 (asg sp b).2]) ∧ w' = w := by
  unfold asg
  obtain ⟨s0, s1⟩ := sgn_bd b
  cases ha : inB sp 0 65535 <;> cases hb : inB b 0 255
  case true.true =>
    obtain ⟨a0, a1⟩ := of_decide_eq_true ha
    obtain ⟨b0, b1⟩ := of_decide_eq_true hb
    go_enter Tryz.func85, Tryz.ntmps85
    go_wp2_with (first | (go_at_call 44; refine (l4Byte_any _ _).mono ?_; rintro e w' ⟨rfl, rfl⟩) | (go_at_call 45; refine (l4Word_any _ _).mono ?_; rintro e w' ⟨rfl, rfl⟩) | (go_at_call 73; refine (l4Flags_any _ _ _ _ _).mono ?_; rintro e w3 ⟨rfl, rfl⟩) | (go_at_call 77; refine (specSigned_any _ _).mono ?_; rintro e w3 ⟨rfl, rfl⟩))
    go_ret2
    refine ⟨ret_two ?_ rfl, rfl⟩
    unfold asR; simp; try omega
  all_goals
    go_enter Tryz.func85, Tryz.ntmps85
    go_wp2_with (first | (go_at_call 44; refine (l4Byte_any _ _).mono ?_; rintro e w' ⟨rfl, rfl⟩) | (go_at_call 45; refine (l4Word_any _ _).mono ?_; rintro e w' ⟨rfl, rfl⟩))
    go_ret2
    exact ⟨rfl, rfl⟩

end Go.Proofs.YtkfehdkjeodbmaaGreatDoor.ReckM
