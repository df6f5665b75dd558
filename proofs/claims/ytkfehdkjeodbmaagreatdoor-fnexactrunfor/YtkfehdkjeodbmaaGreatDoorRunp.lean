/-
  Pure: a run of at most so many steps; what it keeps.
-/
import Derived.Test.YtkfehdkjeodbmaaGreatDoorStdh
namespace Go.Proofs.YtkfehdkjeodbmaaGreatDoor.Runp
open Go.ChangeShapes Go.WideShapes Go.ChangeAt Go.RowKit Go.Deep
set_option linter.unusedVariables false
set_option linter.unusedSimpArgs false
open Busw Busx Stpp Stpq Stpo Stpt
/-- A right machine whose clock is right. -/
def Fine (m : M) : Prop := Stpq.Good m ∧ 0 ≤ m.cyc ∧ m.cyc ≤ 1000000000
/-- At most k steps, i of them done. -/
def runP : Nat → Int → M → M × Int × Int
  | 0, i, m => (m, 0, i)
  | k + 1, i, m => if (stepP m).2 = 0 then runP k (i + 1) (stepP m).1 else (m, (stepP m).2, i)
/-- A run of any machine. -/
def runV (m : M) (n : Int) : M × Int × Int := if okMM m = true ∧ 0 ≤ n ∧ n ≤ 500 then runP n.toNat 0 m else (Z0, 3, 0)
/-- A step that isn't done leaves the machine. -/
theorem step_stays {m : M} (h : ¬ (stepP m).2 = 0) : (stepP m).1 = m := by
  unfold stepP at h ⊢
  split
  · rfl
  split
  · rfl
  split
  · rfl
  · rename_i h1 h2 h3
    rw [if_neg h1, if_neg h2, if_neg h3] at h
    exact absurd rfl h
theorem step_fine {m : M} (h : Fine m) : Fine (stepP m).1 := by
  unfold stepP
  split
  · exact h
  split
  · exact h
  split
  · exact h
  · rename_i h1 h2 h3
    have hI := ins_of m h2
    have hpc := h.1.pc
    have hG : Stpq.Good (semOf m).1.m := by
      refine sem_good ?_ _ _ _ hI.cbd.1 hI.cbd.2 hI.iok
      exact good_pc h.1 _ (by omega) (by omega)
    have hr := CycX.range (insOf m).1 (insOf m).2.1 (semOf m).2 hI.cbd.1 hI.cbd.2 hI.non
    have hc : ¬ 1000000000 < cycOf m := fun e => h3 (.inr e)
    have h0 : 0 ≤ cycOf m := by unfold cycOf; have := h.2.1; omega
    exact ⟨good_i hG (semOf m).1.m.ime (semOf m).1.m.hal (cycOf m), h0, by show cycOf m ≤ _; omega⟩
theorem run_fine (k : Nat) (i : Int) (m : M) (h : Fine m) : Fine (runP k i m).1 := by
  induction k generalizing i m with
  | zero => exact h
  | succ k ih =>
    unfold runP
    split
    · exact ih _ _ (step_fine h)
    · exact h
theorem runV_len {m : M} {n : Int} (hs : Sm m) : (runV m n).1.out.length ≤ 1048576 := by
  unfold runV
  split
  · rename_i h
    exact Nat.le_trans (run_fine _ _ _ (good_of h.1 hs)).1.rt.out (by decide)
  · show Z0.out.length ≤ _
    simp [Z0]
/-- What both runs tell: the machine, its code, the steps done; its row is the call's own. -/
def Told3 (m : M) (n : Int) (w : World) (e : Ending) (w' : World) : Prop := (∃ po cap, e = .returned (.tuple #[.agg (cellsM (runV m n).1 po cap), .int .i64 (runV m n).2.1, .int .i64 (runV m n).2.2]) ∧ w'.ownsRow w.heap.size 2 1 (.slice po (runV m n).1.out.length cap) (runV m n).1.out.length (outC (runV m n).1.out)) ∧ Below w.heap.size w w'
theorem results_three {P : Program} {fn : Func} {p q r : Tmp} {ty : TypeId} (h : fn.results = #[.cell p ty, .tmp q, .tmp r]) (tmps : Array Value) (w : World) (g : Nat) (t : TypeId) (cs : Array Value) (fr : Nat × Nat) (d : TypeDesc) (v x : Value)
    (hp : tmps.getD p undef = .pointer (some ⟨g, 0, none⟩)) (hq : tmps.getD q undef = v) (hr : tmps.getD r undef = x) (hg : w.heap[g]? = some (.cells cs t fr))
    (hu : P.underlying ty = some d) (hd : (match d with | .struct _ | .array _ _ => true | _ => false) = true) (hi : (P.info? ty).map (·.size) = some cs.size) :
    (results fn tmps).run P w = .ok (.tuple #[.agg cs, v, x]) w := by
  have hp' : tmps[p]?.getD undef = .pointer (some ⟨g, 0, none⟩) := by simpa using hp
  have hq' : tmps[q]?.getD undef = v := by simpa using hq
  have hr' : tmps[r]?.getD undef = x := by simpa using hr
  simp [results, h, hp', hq', hr', asAddr, run_loadVar_row w g t ty cs fr d hg hu hd hi]
/-- A run goes on behind a step that is done. -/
theorem run_go {k : Nat} {i : Int} {m : M} (h : (stepP m).2 = 0) : runP (k + 1) i m = runP k (i + 1) (stepP m).1 := by
  show (if _ then _ else _) = _
  rw [if_pos h]
theorem run_stop {k : Nat} {i : Int} {m : M} (h : ¬ (stepP m).2 = 0) : runP (k + 1) i m = (m, (stepP m).2, i) := by
  show (if _ then _ else _) = _
  rw [if_neg h]
end Go.Proofs.YtkfehdkjeodbmaaGreatDoor.Runp
