import Derived.Test.YteglcgnhhoenbaaGreatDoorQ07
set_option linter.all false
set_option maxRecDepth 20000
set_option maxHeartbeats 8000000
open Go.ChangeShapes Go.WideShapes Go.ChangeAt Go.RowKit
open Go.Proofs.Tryz
namespace Go.Proofs.YteglcgnhhoenbaaGreatDoor
namespace CycA
open Tabs (bD)
open CycD Cyc
theorem aKQ (a0 a1 a2 a3 a4 a5 a6 a7:Int) (w:World):(Instr.index 142 (.agg #[.int .i64 a0,.int .i64 a1,.int .i64 a2,.int .i64 a3,.int .i64 a4,.int .i64 a5,.int .i64 a6,.int .i64 a7]) (.int .i64 0)).run prog w=.ok (.int .i64 a0) w:=by kernel_rfl
theorem aKR (a0 a1 a2 a3 a4 a5 a6 a7:Int) (w:World):(Instr.index 142 (.agg #[.int .i64 a0,.int .i64 a1,.int .i64 a2,.int .i64 a3,.int .i64 a4,.int .i64 a5,.int .i64 a6,.int .i64 a7]) (.int .i64 1)).run prog w=.ok (.int .i64 a1) w:=by kernel_rfl
theorem aKS (a0 a1 a2 a3 a4 a5 a6 a7:Int) (w:World):(Instr.index 142 (.agg #[.int .i64 a0,.int .i64 a1,.int .i64 a2,.int .i64 a3,.int .i64 a4,.int .i64 a5,.int .i64 a6,.int .i64 a7]) (.int .i64 2)).run prog w=.ok (.int .i64 a2) w:=by kernel_rfl
theorem aKT (a0 a1 a2 a3 a4 a5 a6 a7:Int) (w:World):(Instr.index 142 (.agg #[.int .i64 a0,.int .i64 a1,.int .i64 a2,.int .i64 a3,.int .i64 a4,.int .i64 a5,.int .i64 a6,.int .i64 a7]) (.int .i64 3)).run prog w=.ok (.int .i64 a3) w:=by kernel_rfl
theorem aKU (a0 a1 a2 a3 a4 a5 a6 a7:Int) (w:World):(Instr.index 142 (.agg #[.int .i64 a0,.int .i64 a1,.int .i64 a2,.int .i64 a3,.int .i64 a4,.int .i64 a5,.int .i64 a6,.int .i64 a7]) (.int .i64 4)).run prog w=.ok (.int .i64 a4) w:=by kernel_rfl
theorem aKV (a0 a1 a2 a3 a4 a5 a6 a7:Int) (w:World):(Instr.index 142 (.agg #[.int .i64 a0,.int .i64 a1,.int .i64 a2,.int .i64 a3,.int .i64 a4,.int .i64 a5,.int .i64 a6,.int .i64 a7]) (.int .i64 5)).run prog w=.ok (.int .i64 a5) w:=by kernel_rfl
theorem aKW (a0 a1 a2 a3 a4 a5 a6 a7:Int) (w:World):(Instr.index 142 (.agg #[.int .i64 a0,.int .i64 a1,.int .i64 a2,.int .i64 a3,.int .i64 a4,.int .i64 a5,.int .i64 a6,.int .i64 a7]) (.int .i64 6)).run prog w=.ok (.int .i64 a6) w:=by kernel_rfl
theorem aKX (a0 a1 a2 a3 a4 a5 a6 a7:Int) (w:World):(Instr.index 142 (.agg #[.int .i64 a0,.int .i64 a1,.int .i64 a2,.int .i64 a3,.int .i64 a4,.int .i64 a5,.int .i64 a6,.int .i64 a7]) (.int .i64 7)).run prog w=.ok (.int .i64 a7) w:=by kernel_rfl
theorem aKY (a0 a1 a2:Int) (w:World):(Instr.index 181 (.agg #[.int .i64 a0,.int .i64 a1,.int .i64 a2]) (.int .i64 0)).run prog w=.ok (.int .i64 a0) w:=by kernel_rfl
theorem aKZ (a0 a1 a2:Int) (w:World):(Instr.index 181 (.agg #[.int .i64 a0,.int .i64 a1,.int .i64 a2]) (.int .i64 1)).run prog w=.ok (.int .i64 a1) w:=by kernel_rfl
theorem aLA (a0 a1 a2:Int) (w:World):(Instr.index 181 (.agg #[.int .i64 a0,.int .i64 a1,.int .i64 a2]) (.int .i64 2)).run prog w=.ok (.int .i64 a2) w:=by kernel_rfl
theorem aLB (a0 a1:Int) (w:World):(Instr.index 160 (.agg #[.int .i64 a0,.int .i64 a1]) (.int .i64 0)).run prog w=.ok (.int .i64 a0) w:=by kernel_rfl
theorem aLC (a0 a1:Int) (w:World):(Instr.index 160 (.agg #[.int .i64 a0,.int .i64 a1]) (.int .i64 1)).run prog w=.ok (.int .i64 a1) w:=by kernel_rfl
theorem sA (x y z p q:Int) (t:Bool) (w:World) (hq:q=y%2) (y0:0<=y) (y1:y<=7) (z0:0<=z) (z1:z<=7) :
  Calls prog 138 #[.agg #[.int .i64 x,.int .i64 y,.int .i64 z,.int .i64 p,.int .i64 q],.bool t] w fun e w'=>e=.returned (.int .i64 (aKO y z t))/\Below w.heap.size w w':=by
 have c:=fun y n w=>gO t y n w
 have i80:=aKQ;have i81:=aKR;have i82:=aKS;have i83:=aKT;have i84:=aKU;have i85:=aKV;have i86:=aKW;have i87:=aKX;have i30:=aKY;have i31:=aKZ;have i32:=aLA;have i20:=aLB;have i21:=aLC;rcases bD z0 z1 with rfl|rfl|rfl|rfl|rfl|rfl|rfl|rfl <;> rcases bD y0 y1 with rfl|rfl|rfl|rfl|rfl|rfl|rfl|rfl
 all_goals
  rw [show (_:Int)%2=_ from rfl] at hq
  subst hq
  cases t
 all_goals
  simp only [if_true,if_false,Bool.false_eq_true] at c
  go_enter func138,ntmps138
  go_wp2_with (go_at_call 168;refine (c _ _ _).mono ?_;rintro e w' ⟨rfl,hw'⟩;have hw':=hw'.symm;subst hw')
  go_ret;refine ⟨Signed.aG (by decide),?_⟩
  repeat' with_reducible first|exact zRf|refine aF ?_|refine grow ?_ rfl _
end CycA
end Go.Proofs.YteglcgnhhoenbaaGreatDoor
