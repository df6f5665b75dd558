/-
  What impl.actionOf tells of each shape.
-/
import Derived.Test.YtkfehdkjeodbmaaGreatDoorStpb
import Derived.Laws.EntriesVeiled
namespace Go.Proofs.YtkfehdkjeodbmaaGreatDoor.Stpd
open Go.ChangeShapes Go.WideShapes Go.ChangeAt Go.RowKit Go.Deep
set_option linter.unusedVariables false
set_option linter.unusedSimpArgs false
set_option maxRecDepth 20000
open Busw Busx Stpp Stpq Stpi Stpj Stpr Stpk Stpm Stpn Stpu Stpx Stpy Stpv Stpz Stpw Stpb
theorem fam_0 (w : World) : (Instr.index 134 (.agg #[.func (.func 101) #[] #[], .func (.func 102) #[] #[], .func (.func 103) #[] #[]]) (.int .i64 0)).run Tryz.prog w = .ok (.func (.func 101) #[] #[]) w := by kernel_rfl
theorem fam_1 (w : World) : (Instr.index 134 (.agg #[.func (.func 101) #[] #[], .func (.func 102) #[] #[], .func (.func 103) #[] #[]]) (.int .i64 1)).run Tryz.prog w = .ok (.func (.func 102) #[] #[]) w := by kernel_rfl
theorem fam_2 (w : World) : (Instr.index 134 (.agg #[.func (.func 101) #[] #[], .func (.func 102) #[] #[], .func (.func 103) #[] #[]]) (.int .i64 2)).run Tryz.prog w = .ok (.func (.func 103) #[] #[]) w := by kernel_rfl
theorem neq_nil (w : World) : (binOp .neq 101 .nilFunc .nilFunc).run Tryz.prog w = .ok (.bool false) w := by kernel_rfl
theorem neq_func (F : FuncId) (cap : Array Value) (w : World) : (binOp .neq 101 (.func (.func F) #[] cap) .nilFunc).run Tryz.prog w = .ok (.bool true) w := by rfl
set_option maxHeartbeats 1000000 in
theorem act_0 (s : ByteArray) (F : FuncId) (w : World) (h0 : ∀ W, Calls Tryz.prog 101 #[.string s] W fun e w' => e = .returned (.func (.func F) #[] #[]) ∧ w' = W) : Calls Tryz.prog 63 #[.string s] w fun e w' => e = .returned (.func (.func F) #[] #[]) ∧ w' = w := by
  have x0 := fam_0
  have x1 := fam_1
  have x2 := fam_2
  have y0 := neq_nil
  have y1 := neq_func
  go_enter Tryz.func63, Tryz.ntmps63
  go_wp2_with (go_at_call 101; refine (h0 _).mono ?_; rintro e w' ⟨rfl, hw'⟩; have hw' := hw'.symm; subst hw')
  refine wp_loop_rounds 1 ?_
  rw [rounds_succ]
  go_wp2_with (go_at_call 101; refine (h0 _).mono ?_; rintro e w' ⟨rfl, hw'⟩; have hw' := hw'.symm; subst hw')
  go_ret
  exact ⟨rfl, rfl⟩
set_option maxHeartbeats 1000000 in
theorem act_1 (s : ByteArray) (F : FuncId) (w : World) (h0 : ∀ W, Calls Tryz.prog 101 #[.string s] W fun e w' => e = .returned (.nilFunc) ∧ w' = W) (h1 : ∀ W, Calls Tryz.prog 102 #[.string s] W fun e w' => e = .returned (.func (.func F) #[] #[]) ∧ w' = W) : Calls Tryz.prog 63 #[.string s] w fun e w' => e = .returned (.func (.func F) #[] #[]) ∧ w' = w := by
  have x0 := fam_0
  have x1 := fam_1
  have x2 := fam_2
  have y0 := neq_nil
  have y1 := neq_func
  go_enter Tryz.func63, Tryz.ntmps63
  go_wp2_with first | (go_at_call 101; refine (h0 _).mono ?_; rintro e w' ⟨rfl, hw'⟩; have hw' := hw'.symm; subst hw') | (go_at_call 102; refine (h1 _).mono ?_; rintro e w' ⟨rfl, hw'⟩; have hw' := hw'.symm; subst hw')
  refine wp_loop_rounds 2 ?_
  rw [rounds_succ]
  go_wp2_with first | (go_at_call 101; refine (h0 _).mono ?_; rintro e w' ⟨rfl, hw'⟩; have hw' := hw'.symm; subst hw') | (go_at_call 102; refine (h1 _).mono ?_; rintro e w' ⟨rfl, hw'⟩; have hw' := hw'.symm; subst hw')
  rw [rounds_succ]
  go_wp2_with first | (go_at_call 101; refine (h0 _).mono ?_; rintro e w' ⟨rfl, hw'⟩; have hw' := hw'.symm; subst hw') | (go_at_call 102; refine (h1 _).mono ?_; rintro e w' ⟨rfl, hw'⟩; have hw' := hw'.symm; subst hw')
  go_ret
  exact ⟨rfl, rfl⟩
set_option maxHeartbeats 1000000 in
theorem act_2 (s : ByteArray) (F : FuncId) (w : World) (h0 : ∀ W, Calls Tryz.prog 101 #[.string s] W fun e w' => e = .returned (.nilFunc) ∧ w' = W) (h1 : ∀ W, Calls Tryz.prog 102 #[.string s] W fun e w' => e = .returned (.nilFunc) ∧ w' = W) (h2 : ∀ W, Calls Tryz.prog 103 #[.string s] W fun e w' => e = .returned (.func (.func F) #[] #[]) ∧ w' = W) : Calls Tryz.prog 63 #[.string s] w fun e w' => e = .returned (.func (.func F) #[] #[]) ∧ w' = w := by
  have x0 := fam_0
  have x1 := fam_1
  have x2 := fam_2
  have y0 := neq_nil
  have y1 := neq_func
  go_enter Tryz.func63, Tryz.ntmps63
  go_wp2_with first | (go_at_call 101; refine (h0 _).mono ?_; rintro e w' ⟨rfl, hw'⟩; have hw' := hw'.symm; subst hw') | (go_at_call 102; refine (h1 _).mono ?_; rintro e w' ⟨rfl, hw'⟩; have hw' := hw'.symm; subst hw') | (go_at_call 103; refine (h2 _).mono ?_; rintro e w' ⟨rfl, hw'⟩; have hw' := hw'.symm; subst hw')
  refine wp_loop_rounds 3 ?_
  rw [rounds_succ]
  go_wp2_with first | (go_at_call 101; refine (h0 _).mono ?_; rintro e w' ⟨rfl, hw'⟩; have hw' := hw'.symm; subst hw') | (go_at_call 102; refine (h1 _).mono ?_; rintro e w' ⟨rfl, hw'⟩; have hw' := hw'.symm; subst hw') | (go_at_call 103; refine (h2 _).mono ?_; rintro e w' ⟨rfl, hw'⟩; have hw' := hw'.symm; subst hw')
  rw [rounds_succ]
  go_wp2_with first | (go_at_call 101; refine (h0 _).mono ?_; rintro e w' ⟨rfl, hw'⟩; have hw' := hw'.symm; subst hw') | (go_at_call 102; refine (h1 _).mono ?_; rintro e w' ⟨rfl, hw'⟩; have hw' := hw'.symm; subst hw') | (go_at_call 103; refine (h2 _).mono ?_; rintro e w' ⟨rfl, hw'⟩; have hw' := hw'.symm; subst hw')
  rw [rounds_succ]
  go_wp2_with first | (go_at_call 101; refine (h0 _).mono ?_; rintro e w' ⟨rfl, hw'⟩; have hw' := hw'.symm; subst hw') | (go_at_call 102; refine (h1 _).mono ?_; rintro e w' ⟨rfl, hw'⟩; have hw' := hw'.symm; subst hw') | (go_at_call 103; refine (h2 _).mono ?_; rintro e w' ⟨rfl, hw'⟩; have hw' := hw'.symm; subst hw')
  go_ret
  exact ⟨rfl, rfl⟩
set_option maxHeartbeats 1000000 in
theorem act_3 (s : ByteArray) (w : World) (h0 : ∀ W, Calls Tryz.prog 101 #[.string s] W fun e w' => e = .returned (.nilFunc) ∧ w' = W) (h1 : ∀ W, Calls Tryz.prog 102 #[.string s] W fun e w' => e = .returned (.nilFunc) ∧ w' = W) (h2 : ∀ W, Calls Tryz.prog 103 #[.string s] W fun e w' => e = .returned (.nilFunc) ∧ w' = W) : Calls Tryz.prog 63 #[.string s] w fun e w' => e = .returned (.func (.func 104) #[] #[]) ∧ w' = w := by
  have x0 := fam_0
  have x1 := fam_1
  have x2 := fam_2
  have y0 := neq_nil
  have y1 := neq_func
  go_enter Tryz.func63, Tryz.ntmps63
  go_wp2_with first | (go_at_call 101; refine (h0 _).mono ?_; rintro e w' ⟨rfl, hw'⟩; have hw' := hw'.symm; subst hw') | (go_at_call 102; refine (h1 _).mono ?_; rintro e w' ⟨rfl, hw'⟩; have hw' := hw'.symm; subst hw') | (go_at_call 103; refine (h2 _).mono ?_; rintro e w' ⟨rfl, hw'⟩; have hw' := hw'.symm; subst hw')
  refine wp_loop_rounds 4 ?_
  rw [rounds_succ]
  go_wp2_with first | (go_at_call 101; refine (h0 _).mono ?_; rintro e w' ⟨rfl, hw'⟩; have hw' := hw'.symm; subst hw') | (go_at_call 102; refine (h1 _).mono ?_; rintro e w' ⟨rfl, hw'⟩; have hw' := hw'.symm; subst hw') | (go_at_call 103; refine (h2 _).mono ?_; rintro e w' ⟨rfl, hw'⟩; have hw' := hw'.symm; subst hw')
  rw [rounds_succ]
  go_wp2_with first | (go_at_call 101; refine (h0 _).mono ?_; rintro e w' ⟨rfl, hw'⟩; have hw' := hw'.symm; subst hw') | (go_at_call 102; refine (h1 _).mono ?_; rintro e w' ⟨rfl, hw'⟩; have hw' := hw'.symm; subst hw') | (go_at_call 103; refine (h2 _).mono ?_; rintro e w' ⟨rfl, hw'⟩; have hw' := hw'.symm; subst hw')
  rw [rounds_succ]
  go_wp2_with first | (go_at_call 101; refine (h0 _).mono ?_; rintro e w' ⟨rfl, hw'⟩; have hw' := hw'.symm; subst hw') | (go_at_call 102; refine (h1 _).mono ?_; rintro e w' ⟨rfl, hw'⟩; have hw' := hw'.symm; subst hw') | (go_at_call 103; refine (h2 _).mono ?_; rintro e w' ⟨rfl, hw'⟩; have hw' := hw'.symm; subst hw')
  rw [rounds_succ]
  go_wp2_with first | (go_at_call 101; refine (h0 _).mono ?_; rintro e w' ⟨rfl, hw'⟩; have hw' := hw'.symm; subst hw') | (go_at_call 102; refine (h1 _).mono ?_; rintro e w' ⟨rfl, hw'⟩; have hw' := hw'.symm; subst hw') | (go_at_call 103; refine (h2 _).mono ?_; rintro e w' ⟨rfl, hw'⟩; have hw' := hw'.symm; subst hw')
  go_ret
  exact ⟨rfl, rfl⟩
set_option maxHeartbeats 1000000 in
theorem act_4 (s : ByteArray) (F : FuncId) (v : Value) (w : World) (h0 : ∀ W, Calls Tryz.prog 101 #[.string s] W fun e w' => e = .returned (.func (.func F) #[] #[.pointer (some ⟨W.heap.size, 0, none⟩)]) ∧ w' = W.alloc (.cells #[v] 165)) : Calls Tryz.prog 63 #[.string s] w fun e w' => e = .returned (.func (.func F) #[] #[.pointer (some ⟨w.heap.size, 0, none⟩)]) ∧ w' = w.alloc (.cells #[v] 165) := by
  have x0 := fam_0
  have x1 := fam_1
  have x2 := fam_2
  have y0 := neq_nil
  have y1 := neq_func
  go_enter Tryz.func63, Tryz.ntmps63
  go_wp2_with (go_at_call 101; refine (h0 _).mono ?_; rintro e w' ⟨rfl, rfl⟩)
  refine wp_loop_rounds 1 ?_
  rw [rounds_succ]
  go_wp2_with (go_at_call 101; refine (h0 _).mono ?_; rintro e w' ⟨rfl, rfl⟩)
  go_ret
  exact ⟨rfl, rfl⟩
end Go.Proofs.YtkfehdkjeodbmaaGreatDoor.Stpd
