/-
  Of numbers alone: what an instruction does leaves the clock alone, and does not look at it.
-/
import Derived.Test.YtkfehdkjeodbmaaGreatDoorStpq
namespace Go.Proofs.YtkfehdkjeodbmaaGreatDoor.Stpt
open Go.ChangeShapes Go.WideShapes Go.ChangeAt Go.RowKit
set_option linter.unusedVariables false
set_option linter.unusedSimpArgs false
open Signed (inB sgn)
open Reck ReckS ReckM ReckD TurnS
open Busw (M wrM Rt)
open Stpp
def cm (c : Int) (m : M) : M := { m with cyc := c }
def cy (c : Int) (s : S) : S := ⟨cm c s.m, s.full⟩
theorem wrM_cm (c : Int) (m : M) (a v : Int) : wrM (cm c m) a v = (wrM m a v).map (cm c) := by
  unfold wrM
  by_cases h1 : inB a 49152 49407 = true
  · rw [if_pos h1, if_pos h1]; rfl
  rw [if_neg h1, if_neg h1]
  by_cases h2 : inB a 65408 65534 = true
  · rw [if_pos h2, if_pos h2]; rfl
  rw [if_neg h2, if_neg h2]
  by_cases h3 : a = 65281
  · rw [if_pos h3, if_pos h3]
    by_cases h4 : 100 ≤ m.out.length
    · have h5 : 100 ≤ (cm c m).out.length := h4
      rw [if_pos h4, if_pos h5]; rfl
    · have h5 : ¬ 100 ≤ (cm c m).out.length := h4
      rw [if_neg h4, if_neg h5]; rfl
  · rw [if_neg h3, if_neg h3]; rfl
theorem wr_cy (c : Int) (s : S) (a v : Int) : wr (cy c s) a v = cy c (wr s a v) := by
  unfold wr
  have h := wrM_cm c s.m (a % 65536) v
  rw [show (cy c s).m = cm c s.m from rfl, h]
  cases wrM s.m (a % 65536) v <;> rfl
theorem setR_cm (c : Int) (m : M) (n v : Int) : setR (cm c m) n v = cm c (setR m n v) := by
  unfold setR
  repeat' split
  all_goals rfl
theorem setP_cm (c : Int) (m : M) (n v : Int) : setP (cm c m) n v = cm c (setP m n v) := by
  unfold setP
  repeat' split
  all_goals rfl
theorem setQ_cm (c : Int) (m : M) (n v : Int) : setQ (cm c m) n v = cm c (setQ m n v) := by
  unfold setQ
  split
  · rfl
  · exact setP_cm c m n v
theorem put_cy (c : Int) (s : S) (n v : Int) : put (cy c s) n v = cy c (put s n v) := by
  unfold put
  split
  · exact wr_cy c s _ v
  · show (⟨setR (cm c s.m) n v, s.full⟩ : S) = _
    rw [setR_cm]; rfl
theorem F_cy (c : Int) (s : S) (f : Int) : F (cy c s) f = cy c (F s f) := rfl
theorem AF_cy (c : Int) (s : S) (p : Int × Int) : AF (cy c s) p = cy c (AF s p) := rfl
theorem A_cy (c : Int) (s : S) (v : Int) : A (cy c s) v = cy c (A s v) := rfl
theorem push_cy (c : Int) (s : S) (v : Int) : push (cy c s) v = cy c (push s v) := by
  unfold push
  rw [show (cy c s).m.sp = s.m.sp from rfl, wr_cy, wr_cy]
  rfl
theorem call_cy (c : Int) (s : S) (v : Int) : callE v (cy c s) = cy c (callE v s) := by
  unfold callE
  rw [show (cy c s).m.pc = s.m.pc from rfl, push_cy]
  rfl
theorem cb_cy (c : Int) (code : Int) (s : S) : cbE code (cy c s) = cy c (cbE code s) := by
  unfold cbE
  repeat' split
  · rw [put_cy]; rfl
  · rfl
  · exact put_cy c s _ _
  · exact put_cy c s _ _
theorem odd_cy (c : Int) (y : Int) (s : S) : oddE y (cy c s) = cy c (oddE y s) := by
  unfold oddE
  repeat' split
  all_goals rfl
theorem stepHl_cm (c : Int) (m : M) (p : Int) : stepHl (cm c m) p = cm c (stepHl m p) := by
  unfold stepHl
  split
  · exact setP_cm c m _ _
  · rfl
def cp (c : Int) (r : S × Bool) : S × Bool := (cy c r.1, r.2)
theorem ite_cp {p : Prop} [Decidable p] {c : Int} {a b x y : S × Bool} (h1 : a = cp c x) (h2 : b = cp c y) : (if p then a else b) = cp c (if p then x else y) := by
  split
  · exact h1
  · exact h2
theorem pair_cp {c : Int} {a x : S} {b : Bool} (h : a = cy c x) : (a, b) = cp c (x, b) := by rw [h]; rfl
theorem low_cy (c : Int) (code imm : Int) (s : S) : lowE code imm (cy c s) = cp c (lowE code imm s) := by
  unfold lowE
  refine ite_cp (ite_cp (pair_cp ?_) (ite_cp (pair_cp rfl) (pair_cp rfl))) (ite_cp (ite_cp (pair_cp ?_) (pair_cp ?_)) (ite_cp (ite_cp (pair_cp ?_) (pair_cp ?_)) (ite_cp (pair_cp ?_) (ite_cp (pair_cp ?_) (ite_cp (pair_cp ?_) (ite_cp (pair_cp ?_) (pair_cp ?_)))))))
  · unfold spE
    rw [show (cy c s).m.sp = s.m.sp from rfl, wr_cy, wr_cy]
  · show (⟨setP (cm c s.m) _ _, s.full⟩ : S) = _
    rw [setP_cm]; rfl
  · unfold addE
    show (⟨{ setP (cm c s.m) 2 _ with rf := _ }, s.full⟩ : S) = _
    rw [setP_cm]; rfl
  · unfold stE
    rw [show placeOf (cy c s).m (code / 8 / 2) = placeOf s.m (code / 8 / 2) from rfl, show (cy c s).m.ra = s.m.ra from rfl, wr_cy]
    show (⟨stepHl (cm c (wr s _ _).m) _, (wr s _ _).full⟩ : S) = _
    rw [stepHl_cm]; rfl
  · unfold ldE
    show (⟨stepHl (cm c { s.m with ra := _ }) _, s.full⟩ : S) = _
    rw [stepHl_cm]; rfl
  · show (⟨setP (cm c s.m) _ _, s.full⟩ : S) = _
    rw [setP_cm]; rfl
  · rw [put_cy]; rfl
  · rw [put_cy]; rfl
  · exact put_cy c s _ _
  · exact odd_cy c _ s
theorem top_cy (c : Int) (code imm : Int) (s : S) : topE code imm (cy c s) = cp c (topE code imm s) := by
  unfold topE
  refine ite_cp (pair_cp rfl) (ite_cp (pair_cp (wr_cy c s _ _)) (ite_cp (pair_cp (wr_cy c s _ _)) (ite_cp (pair_cp rfl) (ite_cp (pair_cp rfl) (ite_cp (pair_cp (wr_cy c s _ _)) (ite_cp (pair_cp rfl) (ite_cp (pair_cp rfl) (ite_cp (pair_cp ?_) (ite_cp (pair_cp rfl) (ite_cp (pair_cp rfl) (ite_cp (pair_cp ?_) (ite_cp (pair_cp (push_cy c s _)) (ite_cp (pair_cp rfl) (ite_cp (pair_cp rfl) (ite_cp (pair_cp (call_cy c s _)) (ite_cp (pair_cp rfl) (ite_cp (pair_cp (call_cy c s _)) (pair_cp rfl))))))))))))))))))
  · show (⟨{ setP (cm c s.m) 2 _ with rf := _ }, s.full⟩ : S) = _
    rw [setP_cm]; rfl
  · show (⟨setQ (cm c (popM s.m)) _ _, s.full⟩ : S) = _
    rw [setQ_cm]; rfl
theorem sem_cy (c : Int) (code : Int) (cb : Bool) (imm : Int) (s : S) : sem code cb imm (cy c s) = cp c (sem code cb imm s) := by
  unfold sem
  exact ite_cp (pair_cp (cb_cy c code s)) (ite_cp (low_cy c code imm s) (ite_cp (pair_cp rfl) (ite_cp (pair_cp (put_cy c s _ _)) (ite_cp (pair_cp rfl) (top_cy c code imm s)))))
end Go.Proofs.YtkfehdkjeodbmaaGreatDoor.Stpt
