import Derived.Test.YteglcgnhhoenbaaGreatDoorP06
set_option linter.all false
set_option maxRecDepth 20000
set_option maxHeartbeats 8000000
open Go.ChangeShapes Go.WideShapes Go.ChangeAt Go.RowKit
open Go.Proofs.Tryz
namespace Go.Proofs.YteglcgnhhoenbaaGreatDoor
namespace CycB
open Tabs (cases8)
open CycD Cyc
theorem ix8_0 (a0 a1 a2 a3 a4 a5 a6 a7:Int) (w:World):(Instr.index 142 (.agg #[.int .i64 a0,.int .i64 a1,.int .i64 a2,.int .i64 a3,.int .i64 a4,.int .i64 a5,.int .i64 a6,.int .i64 a7]) (.int .i64 0)).run prog w=.ok (.int .i64 a0) w:=by kernel_rfl
theorem ix8_1 (a0 a1 a2 a3 a4 a5 a6 a7:Int) (w:World):(Instr.index 142 (.agg #[.int .i64 a0,.int .i64 a1,.int .i64 a2,.int .i64 a3,.int .i64 a4,.int .i64 a5,.int .i64 a6,.int .i64 a7]) (.int .i64 1)).run prog w=.ok (.int .i64 a1) w:=by kernel_rfl
theorem ix8_2 (a0 a1 a2 a3 a4 a5 a6 a7:Int) (w:World):(Instr.index 142 (.agg #[.int .i64 a0,.int .i64 a1,.int .i64 a2,.int .i64 a3,.int .i64 a4,.int .i64 a5,.int .i64 a6,.int .i64 a7]) (.int .i64 2)).run prog w=.ok (.int .i64 a2) w:=by kernel_rfl
theorem ix8_3 (a0 a1 a2 a3 a4 a5 a6 a7:Int) (w:World):(Instr.index 142 (.agg #[.int .i64 a0,.int .i64 a1,.int .i64 a2,.int .i64 a3,.int .i64 a4,.int .i64 a5,.int .i64 a6,.int .i64 a7]) (.int .i64 3)).run prog w=.ok (.int .i64 a3) w:=by kernel_rfl
theorem ix8_4 (a0 a1 a2 a3 a4 a5 a6 a7:Int) (w:World):(Instr.index 142 (.agg #[.int .i64 a0,.int .i64 a1,.int .i64 a2,.int .i64 a3,.int .i64 a4,.int .i64 a5,.int .i64 a6,.int .i64 a7]) (.int .i64 4)).run prog w=.ok (.int .i64 a4) w:=by kernel_rfl
theorem ix8_5 (a0 a1 a2 a3 a4 a5 a6 a7:Int) (w:World):(Instr.index 142 (.agg #[.int .i64 a0,.int .i64 a1,.int .i64 a2,.int .i64 a3,.int .i64 a4,.int .i64 a5,.int .i64 a6,.int .i64 a7]) (.int .i64 5)).run prog w=.ok (.int .i64 a5) w:=by kernel_rfl
theorem ix8_6 (a0 a1 a2 a3 a4 a5 a6 a7:Int) (w:World):(Instr.index 142 (.agg #[.int .i64 a0,.int .i64 a1,.int .i64 a2,.int .i64 a3,.int .i64 a4,.int .i64 a5,.int .i64 a6,.int .i64 a7]) (.int .i64 6)).run prog w=.ok (.int .i64 a6) w:=by kernel_rfl
theorem ix8_7 (a0 a1 a2 a3 a4 a5 a6 a7:Int) (w:World):(Instr.index 142 (.agg #[.int .i64 a0,.int .i64 a1,.int .i64 a2,.int .i64 a3,.int .i64 a4,.int .i64 a5,.int .i64 a6,.int .i64 a7]) (.int .i64 7)).run prog w=.ok (.int .i64 a7) w:=by kernel_rfl
theorem ix3_0 (a0 a1 a2:Int) (w:World):(Instr.index 181 (.agg #[.int .i64 a0,.int .i64 a1,.int .i64 a2]) (.int .i64 0)).run prog w=.ok (.int .i64 a0) w:=by kernel_rfl
theorem ix3_1 (a0 a1 a2:Int) (w:World):(Instr.index 181 (.agg #[.int .i64 a0,.int .i64 a1,.int .i64 a2]) (.int .i64 1)).run prog w=.ok (.int .i64 a1) w:=by kernel_rfl
theorem ix3_2 (a0 a1 a2:Int) (w:World):(Instr.index 181 (.agg #[.int .i64 a0,.int .i64 a1,.int .i64 a2]) (.int .i64 2)).run prog w=.ok (.int .i64 a2) w:=by kernel_rfl
theorem ix2_0 (a0 a1:Int) (w:World):(Instr.index 160 (.agg #[.int .i64 a0,.int .i64 a1]) (.int .i64 0)).run prog w=.ok (.int .i64 a0) w:=by kernel_rfl
theorem ix2_1 (a0 a1:Int) (w:World):(Instr.index 160 (.agg #[.int .i64 a0,.int .i64 a1]) (.int .i64 1)).run prog w=.ok (.int .i64 a1) w:=by kernel_rfl
theorem highCycles_any (x y z p q:Int) (t:Bool) (w:World) (hq:q=y%2) (y0:0<=y) (y1:y<=7) (z0:0<=z) (z1:z<=7) (hg:¬ goneB y z=true) :
  Calls prog 139 #[.agg #[.int .i64 x,.int .i64 y,.int .i64 z,.int .i64 p,.int .i64 q],.bool t] w fun e w'=>e=.returned (.int .i64 (topC y z t))/\Below w.heap.size w w':=by
 have c:=fun y n w=>chosen_any t y n w
 have i80:=ix8_0
 have i81:=ix8_1
 have i82:=ix8_2
 have i83:=ix8_3
 have i84:=ix8_4
 have i85:=ix8_5
 have i86:=ix8_6
 have i87:=ix8_7
 have i30:=ix3_0
 have i31:=ix3_1
 have i32:=ix3_2
 have i20:=ix2_0
 have i21:=ix2_1
 rcases cases8 z0 z1 with rfl|rfl|rfl|rfl|rfl|rfl|rfl|rfl <;> rcases cases8 y0 y1 with rfl|rfl|rfl|rfl|rfl|rfl|rfl|rfl
 all_goals first|exact absurd (by decide) hg|skip
 all_goals
  rw [show (_:Int)%2=_ from rfl] at hq
  subst hq
  cases t
 all_goals
  simp only [if_true,if_false,Bool.false_eq_true] at c
  go_enter func139,ntmps139
  go_wp2_with (go_at_call 168;refine (c _ _ _).mono ?_;rintro e w' ⟨rfl,hw'⟩;have hw':=hw'.symm;subst hw')
  go_ret
  refine ⟨Signed.ret_int (by decide),?_⟩
  repeat' with_reducible first|exact zRf|refine below_of_drew ?_|refine grow ?_ rfl _
end CycB
end Go.Proofs.YteglcgnhhoenbaaGreatDoor
