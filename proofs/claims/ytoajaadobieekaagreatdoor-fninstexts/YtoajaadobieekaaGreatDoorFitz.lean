/-
  A contract of ours for spec.l3Fits: whether a text is of a template, and what it has in the hole.
-/
import Derived.Test.YtoajaadobieekaaGreatDoorFits
namespace Go.Proofs.YtoajaadobieekaaGreatDoor.Fitz
open Go.ChangeShapes Go.WideShapes Go.ChangeAt Go.RowKit
open HoleX (n8 n16 e8 holeT holeP)
open HolI LenX InsX Texi Fits
set_option linter.unusedVariables false
set_option maxRecDepth 20000

def tailT (T : ByteArray) : ByteArray := T.extract ((holeP T).toNat + (holeT T).size) T.size
def fits (s T : ByteArray) : Bool :=
  if holeP T < 0 then s.toList == T.toList
  else if (s.size : Int) ≤ holeP T + ((tailT T).size : Int) then false
  else if ((s.extract 0 (holeP T).toNat).toList == (T.extract 0 (holeP T).toNat).toList) = false then false
  else (s.extract (s.size - (tailT T).size) s.size).toList == (tailT T).toList
def fitT (s T : ByteArray) : ByteArray := if holeP T < 0 then ⟨#[]⟩ else if fits s T = true then s.extract (holeP T).toNat (s.size - (tailT T).size) else ⟨#[]⟩
set_option maxHeartbeats 1000000 in
theorem fits_any (s T : ByteArray) (w : World) (hs : s.size ≤ 1048576) (ht : T.size ≤ 1000) (hp : 0 ≤ holeP T → (holeP T).toNat + (holeT T).size ≤ T.size) :
    Calls Tryz.prog 32 #[.string s, .string T] w fun e w' => e = .returned (.tuple #[.string (fitT s T), .bool (fits s T)]) ∧ Below w.heap.size w w' := by
  have ch := fun w => HoleX.hole_any T w ht
  unfold HoleX.ret at ch
  by_cases hn : holeP T < 0
  · have HE : Hid (fitT s T = ⟨#[]⟩ ∧ fits s T = (s.toList == T.toList)) := by
      refine ⟨?_, ?_⟩
      · unfold fitT; rw [if_pos hn]
      · unfold fits; rw [if_pos hn]
    generalize holeP T = P at ch hn
    generalize holeT T = G at ch
    clear hp
    go_enter Tryz.func32, Tryz.ntmps32
    go_wp2_with fail
    refine (ch _).mono ?_
    rintro e w1 ⟨rfl, b1⟩
    have B1 : Hid (Below _ _ w1) := b1
    clear b1 ch
    go_wp2
    go_ret2
    exact ⟨by rw [HE.out.1, HE.out.2]; rfl, by repeat' (with_reducible first | exact B1.out | refine Hole.below_drewN ?_ _)⟩
  · have h0 : 0 ≤ holeP T := by omega
    have h1 := hp h0
    have zt : (tailT T).size ≤ 1000 := by unfold tailT; simp; omega
    have s0 : ∀ w, (Instr.slice 9 (.string T) (some (.int .i64 (holeP T + ((holeT T).size : Int)))) none none).run Tryz.prog w = .ok (.string (tailT T)) w := fun w => by
      have := run_slice_string_l w (t := 9) (s := T) Tryz.underlying9 .i64 (holeP T + ((holeT T).size : Int)) (by omega) (by omega)
      rwa [show (holeP T + ((holeT T).size : Int)).toNat = (holeP T).toNat + (holeT T).size by omega] at this
    have p1 : IntKind.i64.wrap (holeP T + ((holeT T).size : Int)) = holeP T + ((holeT T).size : Int) := by rw [IntKind.wrap_i64]; omega
    have p2 : wrap64 (holeP T + ((holeT T).size : Int)) = holeP T + ((holeT T).size : Int) := by unfold wrap64; omega
    have p3 : IntKind.i64.wrap (holeP T + ((tailT T).size : Int)) = holeP T + ((tailT T).size : Int) := by rw [IntKind.wrap_i64]; omega
    have p4 : wrap64 (holeP T + ((tailT T).size : Int)) = holeP T + ((tailT T).size : Int) := by unfold wrap64; omega
    have q0 : ¬ holeP T + ((holeT T).size : Int) < 0 := by omega
    have q1 : 0 ≤ holeP T + ((holeT T).size : Int) := by omega
    have q2 : holeP T + ((holeT T).size : Int) ≤ (T.size : Int) := by omega
    by_cases hl : (s.size : Int) ≤ holeP T + ((tailT T).size : Int)
    · have hf : fits s T = false := by unfold fits; rw [if_neg hn, if_pos hl]
      have HE : Hid (fitT s T = ⟨#[]⟩ ∧ fits s T = false) := ⟨by unfold fitT; rw [if_neg hn, hf]; rfl, hf⟩
      clear hf hp h1
      generalize tailT T = Z at *
      generalize holeP T = P at *
      generalize holeT T = G at *
      go_enter Tryz.func32, Tryz.ntmps32
      go_wp2_with fail
      refine (ch _).mono ?_
      rintro e w1 ⟨rfl, b1⟩
      have B1 : Hid (Below _ _ w1) := b1
      clear b1 ch
      have d1 : decide ((s.size : Int) ≤ P + (Z.size : Int)) = true := decide_eq_true hl
      go_wp2_with fail
      go_quiet (fail)
      all_goals
        go_wp2
        go_ret2
        exact ⟨by rw [HE.out.1, HE.out.2]; rfl, by repeat' (with_reducible first | exact B1.out | refine Hole.below_drewN ?_ _)⟩
    · have s1 : ∀ w, (Instr.slice 9 (.string s) none (some (.int .i64 (holeP T))) none).run Tryz.prog w = .ok (.string (s.extract 0 (holeP T).toNat)) w := fun w => run_slice_string_h w (t := 9) (s := s) Tryz.underlying9 .i64 (holeP T) h0 (by omega)
      have s2 : ∀ w, (Instr.slice 9 (.string T) none (some (.int .i64 (holeP T))) none).run Tryz.prog w = .ok (.string (T.extract 0 (holeP T).toNat)) w := fun w => run_slice_string_h w (t := 9) (s := T) Tryz.underlying9 .i64 (holeP T) h0 (by omega)
      have s3 : ∀ w, (Instr.slice 9 (.string s) (some (.int .i64 ((s.size : Int) - ((tailT T).size : Int)))) none none).run Tryz.prog w = .ok (.string (s.extract (s.size - (tailT T).size) s.size)) w := fun w => by
        have := run_slice_string_l w (t := 9) (s := s) Tryz.underlying9 .i64 ((s.size : Int) - ((tailT T).size : Int)) (by omega) (by omega)
        rwa [show ((s.size : Int) - ((tailT T).size : Int)).toNat = s.size - (tailT T).size by omega] at this
      have s4 : ∀ w, (Instr.slice 9 (.string s) (some (.int .i64 (holeP T))) (some (.int .i64 ((s.size : Int) - ((tailT T).size : Int)))) none).run Tryz.prog w = .ok (.string (s.extract (holeP T).toNat (s.size - (tailT T).size))) w := fun w => by
        have := run_slice_string (P := Tryz.prog) w 9 s .i64 .i64 (holeP T) ((s.size : Int) - ((tailT T).size : Int)) Tryz.underlying9 (by omega) (by omega) (by omega)
        rwa [show ((s.size : Int) - ((tailT T).size : Int)).toNat = s.size - (tailT T).size by omega] at this
      have p5 : IntKind.i64.wrap ((s.size : Int) - ((tailT T).size : Int)) = (s.size : Int) - ((tailT T).size : Int) := by rw [IntKind.wrap_i64]; omega
      have p6 : wrap64 ((s.size : Int) - ((tailT T).size : Int)) = (s.size : Int) - ((tailT T).size : Int) := by unfold wrap64; omega
      have q3 : holeP T ≤ (s.size : Int) := by omega
      have q4 : holeP T ≤ (T.size : Int) := by omega
      have q5 : 0 ≤ (s.size : Int) - ((tailT T).size : Int) := by omega
      have q6 : (s.size : Int) - ((tailT T).size : Int) ≤ (s.size : Int) := by omega
      have q7 : holeP T ≤ (s.size : Int) - ((tailT T).size : Int) := by omega
      have hf : fits s T = if ((s.extract 0 (holeP T).toNat).toList == (T.extract 0 (holeP T).toNat).toList) = false then false else (s.extract (s.size - (tailT T).size) s.size).toList == (tailT T).toList := by unfold fits; rw [if_neg hn, if_neg hl]
      have ht : fitT s T = if fits s T = true then s.extract (holeP T).toNat (s.size - (tailT T).size) else ⟨#[]⟩ := by unfold fitT; rw [if_neg hn]
      have HE : Hid (fits s T = (if ((s.extract 0 (holeP T).toNat).toList == (T.extract 0 (holeP T).toNat).toList) = false then false else (s.extract (s.size - (tailT T).size) s.size).toList == (tailT T).toList) ∧ fitT s T = if fits s T = true then s.extract (holeP T).toNat (s.size - (tailT T).size) else ⟨#[]⟩) := ⟨hf, ht⟩
      clear hf ht hp h1
      generalize s.extract (holeP T).toNat (s.size - (tailT T).size) = S4 at *
      generalize s.extract (s.size - (tailT T).size) s.size = S3 at *
      generalize s.extract 0 (holeP T).toNat = S1 at *
      generalize T.extract 0 (holeP T).toNat = S2 at *
      generalize tailT T = Z at *
      generalize holeP T = P at *
      generalize holeT T = G at *
      have hl' : P + (Z.size : Int) < (s.size : Int) := by omega
      have d1 : decide ((s.size : Int) ≤ P + (Z.size : Int)) = false := decide_eq_false hl
      rcases Bool.eq_false_or_eq_true (S1.toList == S2.toList) with e1 | e1 <;> rcases Bool.eq_false_or_eq_true (S3.toList == Z.toList) with e2 | e2
      all_goals
        have e3 : (S1.toList != S2.toList) = !(S1.toList == S2.toList) := rfl
        have e4 : (S3.toList != Z.toList) = !(S3.toList == Z.toList) := rfl
        rw [e1] at e3
        rw [e2] at e4
        simp only [Bool.not_true, Bool.not_false] at e3 e4
        go_enter Tryz.func32, Tryz.ntmps32
        go_wp2_with fail
        refine (ch _).mono ?_
        rintro e w1 ⟨rfl, b1⟩
        have B1 : Hid (Below _ _ w1) := b1
        clear b1
        go_wp2_with fail
        go_quiet (fail)
        all_goals
          go_wp2_with fail
          try go_quiet (fail)
          go_wp2
          go_ret2
          obtain ⟨x1, x2⟩ := HE.out
          rw [e1, e2] at x1
          have x1 := x1
          simp only [Bool.true_eq_false, if_true, if_false] at x1
          rw [x1] at x2
          simp only [Bool.false_eq_true, if_true, if_false] at x2
          exact ⟨by rw [x1, x2]; rfl, by repeat' (with_reducible first | exact B1.out | refine Hole.below_drewN ?_ _)⟩
end Go.Proofs.YtoajaadobieekaaGreatDoor.Fitz
