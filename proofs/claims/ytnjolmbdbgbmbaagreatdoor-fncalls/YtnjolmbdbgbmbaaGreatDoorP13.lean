/-
  Contracts and facts of ours, joined: TurnI, Stpv.
-/
import Derived.Test.YtnjolmbdbgbmbaaGreatDoorP06
import Derived.Test.YtnjolmbdbgbmbaaGreatDoorP12
import Derived.Lib.QuietBelow
import Derived.BigQuiet
import Derived.Test.YtnjolmbdbgbmbaaGreatDoorP00
set_option linter.unusedVariables false
set_option linter.unusedSimpArgs false
set_option maxRecDepth 20000
set_option maxHeartbeats 8000000
open Go.ChangeShapes Go.WideShapes Go.ChangeAt Go.RowKit
open Go.Proofs.Tryz
namespace Go.Proofs.YtnjolmbdbgbmbaaGreatDoor.TurnI
open Signed (inB ret_int ret_bool isByte_any l1In_any)
open Reck ReckS ReckM TurnS
theorem intoRight_any (v b:Int) (w:World) (v0:0<=v) (v1:v<=255) (b0:0<=b) (b1:b<=1) :
  Calls prog 265 #[.int .i64 v,.int .i64 b] w fun e w'=>e=.returned (.tuple #[.int .i64 (v*2%256+b),.int .i64 (v / 128)])/\w'=w:=by
 go_enter func265,ntmps265
 go_wp2
 go_ret2
 exact ⟨rfl,rfl⟩
theorem intoLeft_any (v b:Int) (w:World) (v0:0<=v) (v1:v<=255) (b0:0<=b) (b1:b<=1) :
  Calls prog 266 #[.int .i64 v,.int .i64 b] w fun e w'=>e=.returned (.tuple #[.int .i64 (v / 2+128*b),.int .i64 (v%2)])/\w'=w:=by
 go_enter func266,ntmps266
 go_wp2
 go_ret2
 exact ⟨rfl,rfl⟩
theorem roundLeft_any (v c:Int) (w:World) (v0:0<=v) (v1:v<=255) (c0:0<=c) (c1:c<=1) :
  Calls prog 256 #[.int .i64 v,.int .i64 c] w fun e w'=>e=.returned (.tuple #[.int .i64 (v*2%256+v / 128),.int .i64 (v / 128)])/\w'=w:=by
 go_enter func256,ntmps256
 go_wp2_with (go_at_call 265;refine (intoRight_any _ _ _ v0 v1 (by omega) (by omega)).mono ?_;rintro e w' ⟨rfl,rfl⟩)
 go_ret2
 exact ⟨ret_two (by omega) rfl,rfl⟩
theorem roundRight_any (v c:Int) (w:World) (v0:0<=v) (v1:v<=255) (c0:0<=c) (c1:c<=1) :
  Calls prog 257 #[.int .i64 v,.int .i64 c] w fun e w'=>e=.returned (.tuple #[.int .i64 (v / 2+128*(v%2)),.int .i64 (v%2)])/\w'=w:=by
 go_enter func257,ntmps257
 go_wp2_with (go_at_call 266;refine (intoLeft_any _ _ _ v0 v1 (by omega) (by omega)).mono ?_;rintro e w' ⟨rfl,rfl⟩)
 go_ret2
 exact ⟨ret_two (by omega) rfl,rfl⟩
theorem carryLeft_any (v c:Int) (w:World) (v0:0<=v) (v1:v<=255) (c0:0<=c) (c1:c<=1) :
  Calls prog 258 #[.int .i64 v,.int .i64 c] w fun e w'=>e=.returned (.tuple #[.int .i64 (v*2%256+c),.int .i64 (v / 128)])/\w'=w:=by
 go_enter func258,ntmps258
 go_wp2_with (go_at_call 265;refine (intoRight_any _ _ _ v0 v1 (by omega) (by omega)).mono ?_;rintro e w' ⟨rfl,rfl⟩)
 go_ret2
 exact ⟨ret_two (by omega) rfl,rfl⟩
theorem carryRight_any (v c:Int) (w:World) (v0:0<=v) (v1:v<=255) (c0:0<=c) (c1:c<=1) :
  Calls prog 259 #[.int .i64 v,.int .i64 c] w fun e w'=>e=.returned (.tuple #[.int .i64 (v / 2+128*c),.int .i64 (v%2)])/\w'=w:=by
 go_enter func259,ntmps259
 go_wp2_with (go_at_call 266;refine (intoLeft_any _ _ _ v0 v1 (by omega) (by omega)).mono ?_;rintro e w' ⟨rfl,rfl⟩)
 go_ret2
 exact ⟨ret_two (by omega) rfl,rfl⟩
theorem shiftLeft_any (v c:Int) (w:World) (v0:0<=v) (v1:v<=255) (c0:0<=c) (c1:c<=1) :
  Calls prog 260 #[.int .i64 v,.int .i64 c] w fun e w'=>e=.returned (.tuple #[.int .i64 (v*2%256),.int .i64 (v / 128)])/\w'=w:=by
 go_enter func260,ntmps260
 go_wp2_with (go_at_call 265;refine (intoRight_any _ _ _ v0 v1 (by omega) (by omega)).mono ?_;rintro e w' ⟨rfl,rfl⟩)
 go_ret2
 exact ⟨ret_two (by omega) rfl,rfl⟩
theorem shiftSigned_any (v c:Int) (w:World) (v0:0<=v) (v1:v<=255) (c0:0<=c) (c1:c<=1) :
  Calls prog 261 #[.int .i64 v,.int .i64 c] w fun e w'=>e=.returned (.tuple #[.int .i64 (v / 2+128*(v / 128)),.int .i64 (v%2)])/\w'=w:=by
 go_enter func261,ntmps261
 go_wp2_with (go_at_call 266;refine (intoLeft_any _ _ _ v0 v1 (by omega) (by omega)).mono ?_;rintro e w' ⟨rfl,rfl⟩)
 go_ret2
 exact ⟨ret_two (by omega) rfl,rfl⟩
theorem swapHalves_any (v c:Int) (w:World) (v0:0<=v) (v1:v<=255) (c0:0<=c) (c1:c<=1) :
  Calls prog 262 #[.int .i64 v,.int .i64 c] w fun e w'=>e=.returned (.tuple #[.int .i64 (v%16*16+v / 16),.int .i64 (0)])/\w'=w:=by
 go_enter func262,ntmps262
 go_wp2
 go_ret2
 exact ⟨ret_two (by omega) rfl,rfl⟩
theorem shiftRight_any (v c:Int) (w:World) (v0:0<=v) (v1:v<=255) (c0:0<=c) (c1:c<=1) :
  Calls prog 263 #[.int .i64 v,.int .i64 c] w fun e w'=>e=.returned (.tuple #[.int .i64 (v / 2),.int .i64 (v%2)])/\w'=w:=by
 go_enter func263,ntmps263
 go_wp2_with (go_at_call 266;refine (intoLeft_any _ _ _ v0 v1 (by omega) (by omega)).mono ?_;rintro e w' ⟨rfl,rfl⟩)
 go_ret2
 exact ⟨ret_two (by omega) rfl,rfl⟩
theorem turnOps_any (w:World) :
  Calls prog 241 #[] w fun e w'=>e=.returned (.agg #[.func (.func 256) #[] #[],.func (.func 257) #[] #[],.func (.func 258) #[] #[],.func (.func 259) #[] #[],.func (.func 260) #[] #[],.func (.func 261) #[] #[],.func (.func 262) #[] #[],.func (.func 263) #[] #[]])/\Below w.heap.size w w':=by
 go_enter func241,ntmps241
 go_wp2
 refine bodyPost_ret (v:=.agg #[.func (.func 256) #[] #[],.func (.func 257) #[] #[],.func (.func 258) #[] #[],.func (.func 259) #[] #[],.func (.func 260) #[] #[],.func (.func 261) #[] #[],.func (.func 262) #[] #[],.func (.func 263) #[] #[]]) (by simp [results,results241,go_sem]) rfl ⟨rfl,?_⟩
 exact zAl _ _
theorem implTurned_0 (v f:Int) (w:World) (v0:0<=v) (v1:v<=255) (f0:0<=f) (f1:f<=255) :
  Calls prog 227 #[.int .i64 0,.int .i64 v,.int .i64 f] w fun e w'=>e=.returned (.tuple #[.int .i64 (trnR 0 v f).1,.int .i64 (trnR 0 v f).2])/\Below w.heap.size w w':=by
 have hv:inB v 0 255=true:=decide_eq_true (by omega)
 have hf:inB f 0 255=true:=decide_eq_true (by omega)
 obtain ⟨c0,c1⟩:=cy_bd f
 have hi:∀ w:World,(Instr.index 200 (.agg #[.func (.func 256) #[] #[],.func (.func 257) #[] #[],.func (.func 258) #[] #[],.func (.func 259) #[] #[],.func (.func 260) #[] #[],.func (.func 261) #[] #[],.func (.func 262) #[] #[],.func (.func 263) #[] #[]]) (.int .i64 0)).run prog w=.ok (.func (.func 256) #[] #[]) w:=fun _=>by kernel_rfl
 go_enter func227,ntmps227
 go_wp2_with (go_at_call 107;refine (isByte_any _ _).mono ?_;rintro e w' ⟨rfl,rfl⟩)
 go_region_with (first|(go_at_call 241;refine (turnOps_any _).mono ?_;rintro e w1 ⟨rfl,hbe⟩)|(go_at_call 240;refine (carryOf_any _ _ f0 f1).mono ?_;rintro e w2 ⟨rfl,rfl⟩)|(go_at_call 256;refine (roundLeft_any _ _ _ v0 v1 c0 c1).mono ?_;rintro e w2 ⟨rfl,rfl⟩))
 all_goals go_wp2_with (go_at_call 226;refine (flagIf_any _ _ _).mono ?_;rintro e w3 ⟨rfl,rfl⟩)
 all_goals go_ret2
 all_goals
  refine ⟨ret_two rfl ?_,below_of_drew hbe⟩
  try rw [beq_dec']
  try rw [beq_dec']
  exact or_trn _ _
theorem implTurned_1 (v f:Int) (w:World) (v0:0<=v) (v1:v<=255) (f0:0<=f) (f1:f<=255) :
  Calls prog 227 #[.int .i64 1,.int .i64 v,.int .i64 f] w fun e w'=>e=.returned (.tuple #[.int .i64 (trnR 1 v f).1,.int .i64 (trnR 1 v f).2])/\Below w.heap.size w w':=by
 have hv:inB v 0 255=true:=decide_eq_true (by omega)
 have hf:inB f 0 255=true:=decide_eq_true (by omega)
 obtain ⟨c0,c1⟩:=cy_bd f
 have hi:∀ w:World,(Instr.index 200 (.agg #[.func (.func 256) #[] #[],.func (.func 257) #[] #[],.func (.func 258) #[] #[],.func (.func 259) #[] #[],.func (.func 260) #[] #[],.func (.func 261) #[] #[],.func (.func 262) #[] #[],.func (.func 263) #[] #[]]) (.int .i64 1)).run prog w=.ok (.func (.func 257) #[] #[]) w:=fun _=>by kernel_rfl
 go_enter func227,ntmps227
 go_wp2_with (go_at_call 107;refine (isByte_any _ _).mono ?_;rintro e w' ⟨rfl,rfl⟩)
 go_region_with (first|(go_at_call 241;refine (turnOps_any _).mono ?_;rintro e w1 ⟨rfl,hbe⟩)|(go_at_call 240;refine (carryOf_any _ _ f0 f1).mono ?_;rintro e w2 ⟨rfl,rfl⟩)|(go_at_call 257;refine (roundRight_any _ _ _ v0 v1 c0 c1).mono ?_;rintro e w2 ⟨rfl,rfl⟩))
 all_goals go_wp2_with (go_at_call 226;refine (flagIf_any _ _ _).mono ?_;rintro e w3 ⟨rfl,rfl⟩)
 all_goals go_ret2
 all_goals
  refine ⟨ret_two rfl ?_,below_of_drew hbe⟩
  try rw [beq_dec']
  try rw [beq_dec']
  exact or_trn _ _
theorem implTurned_2 (v f:Int) (w:World) (v0:0<=v) (v1:v<=255) (f0:0<=f) (f1:f<=255) :
  Calls prog 227 #[.int .i64 2,.int .i64 v,.int .i64 f] w fun e w'=>e=.returned (.tuple #[.int .i64 (trnR 2 v f).1,.int .i64 (trnR 2 v f).2])/\Below w.heap.size w w':=by
 have hv:inB v 0 255=true:=decide_eq_true (by omega)
 have hf:inB f 0 255=true:=decide_eq_true (by omega)
 obtain ⟨c0,c1⟩:=cy_bd f
 have hi:∀ w:World,(Instr.index 200 (.agg #[.func (.func 256) #[] #[],.func (.func 257) #[] #[],.func (.func 258) #[] #[],.func (.func 259) #[] #[],.func (.func 260) #[] #[],.func (.func 261) #[] #[],.func (.func 262) #[] #[],.func (.func 263) #[] #[]]) (.int .i64 2)).run prog w=.ok (.func (.func 258) #[] #[]) w:=fun _=>by kernel_rfl
 go_enter func227,ntmps227
 go_wp2_with (go_at_call 107;refine (isByte_any _ _).mono ?_;rintro e w' ⟨rfl,rfl⟩)
 go_region_with (first|(go_at_call 241;refine (turnOps_any _).mono ?_;rintro e w1 ⟨rfl,hbe⟩)|(go_at_call 240;refine (carryOf_any _ _ f0 f1).mono ?_;rintro e w2 ⟨rfl,rfl⟩)|(go_at_call 258;refine (carryLeft_any _ _ _ v0 v1 c0 c1).mono ?_;rintro e w2 ⟨rfl,rfl⟩))
 all_goals go_wp2_with (go_at_call 226;refine (flagIf_any _ _ _).mono ?_;rintro e w3 ⟨rfl,rfl⟩)
 all_goals go_ret2
 all_goals
  refine ⟨ret_two rfl ?_,below_of_drew hbe⟩
  try rw [beq_dec']
  try rw [beq_dec']
  exact or_trn _ _
theorem implTurned_3 (v f:Int) (w:World) (v0:0<=v) (v1:v<=255) (f0:0<=f) (f1:f<=255) :
  Calls prog 227 #[.int .i64 3,.int .i64 v,.int .i64 f] w fun e w'=>e=.returned (.tuple #[.int .i64 (trnR 3 v f).1,.int .i64 (trnR 3 v f).2])/\Below w.heap.size w w':=by
 have hv:inB v 0 255=true:=decide_eq_true (by omega)
 have hf:inB f 0 255=true:=decide_eq_true (by omega)
 obtain ⟨c0,c1⟩:=cy_bd f
 have hi:∀ w:World,(Instr.index 200 (.agg #[.func (.func 256) #[] #[],.func (.func 257) #[] #[],.func (.func 258) #[] #[],.func (.func 259) #[] #[],.func (.func 260) #[] #[],.func (.func 261) #[] #[],.func (.func 262) #[] #[],.func (.func 263) #[] #[]]) (.int .i64 3)).run prog w=.ok (.func (.func 259) #[] #[]) w:=fun _=>by kernel_rfl
 go_enter func227,ntmps227
 go_wp2_with (go_at_call 107;refine (isByte_any _ _).mono ?_;rintro e w' ⟨rfl,rfl⟩)
 go_region_with (first|(go_at_call 241;refine (turnOps_any _).mono ?_;rintro e w1 ⟨rfl,hbe⟩)|(go_at_call 240;refine (carryOf_any _ _ f0 f1).mono ?_;rintro e w2 ⟨rfl,rfl⟩)|(go_at_call 259;refine (carryRight_any _ _ _ v0 v1 c0 c1).mono ?_;rintro e w2 ⟨rfl,rfl⟩))
 all_goals go_wp2_with (go_at_call 226;refine (flagIf_any _ _ _).mono ?_;rintro e w3 ⟨rfl,rfl⟩)
 all_goals go_ret2
 all_goals
  refine ⟨ret_two rfl ?_,below_of_drew hbe⟩
  try rw [beq_dec']
  try rw [beq_dec']
  exact or_trn _ _
theorem implTurned_4 (v f:Int) (w:World) (v0:0<=v) (v1:v<=255) (f0:0<=f) (f1:f<=255) :
  Calls prog 227 #[.int .i64 4,.int .i64 v,.int .i64 f] w fun e w'=>e=.returned (.tuple #[.int .i64 (trnR 4 v f).1,.int .i64 (trnR 4 v f).2])/\Below w.heap.size w w':=by
 have hv:inB v 0 255=true:=decide_eq_true (by omega)
 have hf:inB f 0 255=true:=decide_eq_true (by omega)
 obtain ⟨c0,c1⟩:=cy_bd f
 have hi:∀ w:World,(Instr.index 200 (.agg #[.func (.func 256) #[] #[],.func (.func 257) #[] #[],.func (.func 258) #[] #[],.func (.func 259) #[] #[],.func (.func 260) #[] #[],.func (.func 261) #[] #[],.func (.func 262) #[] #[],.func (.func 263) #[] #[]]) (.int .i64 4)).run prog w=.ok (.func (.func 260) #[] #[]) w:=fun _=>by kernel_rfl
 go_enter func227,ntmps227
 go_wp2_with (go_at_call 107;refine (isByte_any _ _).mono ?_;rintro e w' ⟨rfl,rfl⟩)
 go_region_with (first|(go_at_call 241;refine (turnOps_any _).mono ?_;rintro e w1 ⟨rfl,hbe⟩)|(go_at_call 240;refine (carryOf_any _ _ f0 f1).mono ?_;rintro e w2 ⟨rfl,rfl⟩)|(go_at_call 260;refine (shiftLeft_any _ _ _ v0 v1 c0 c1).mono ?_;rintro e w2 ⟨rfl,rfl⟩))
 all_goals go_wp2_with (go_at_call 226;refine (flagIf_any _ _ _).mono ?_;rintro e w3 ⟨rfl,rfl⟩)
 all_goals go_ret2
 all_goals
  refine ⟨ret_two rfl ?_,below_of_drew hbe⟩
  try rw [beq_dec']
  try rw [beq_dec']
  exact or_trn _ _
theorem implTurned_5 (v f:Int) (w:World) (v0:0<=v) (v1:v<=255) (f0:0<=f) (f1:f<=255) :
  Calls prog 227 #[.int .i64 5,.int .i64 v,.int .i64 f] w fun e w'=>e=.returned (.tuple #[.int .i64 (trnR 5 v f).1,.int .i64 (trnR 5 v f).2])/\Below w.heap.size w w':=by
 have hv:inB v 0 255=true:=decide_eq_true (by omega)
 have hf:inB f 0 255=true:=decide_eq_true (by omega)
 obtain ⟨c0,c1⟩:=cy_bd f
 have hi:∀ w:World,(Instr.index 200 (.agg #[.func (.func 256) #[] #[],.func (.func 257) #[] #[],.func (.func 258) #[] #[],.func (.func 259) #[] #[],.func (.func 260) #[] #[],.func (.func 261) #[] #[],.func (.func 262) #[] #[],.func (.func 263) #[] #[]]) (.int .i64 5)).run prog w=.ok (.func (.func 261) #[] #[]) w:=fun _=>by kernel_rfl
 go_enter func227,ntmps227
 go_wp2_with (go_at_call 107;refine (isByte_any _ _).mono ?_;rintro e w' ⟨rfl,rfl⟩)
 go_region_with (first|(go_at_call 241;refine (turnOps_any _).mono ?_;rintro e w1 ⟨rfl,hbe⟩)|(go_at_call 240;refine (carryOf_any _ _ f0 f1).mono ?_;rintro e w2 ⟨rfl,rfl⟩)|(go_at_call 261;refine (shiftSigned_any _ _ _ v0 v1 c0 c1).mono ?_;rintro e w2 ⟨rfl,rfl⟩))
 all_goals go_wp2_with (go_at_call 226;refine (flagIf_any _ _ _).mono ?_;rintro e w3 ⟨rfl,rfl⟩)
 all_goals go_ret2
 all_goals
  refine ⟨ret_two rfl ?_,below_of_drew hbe⟩
  try rw [beq_dec']
  try rw [beq_dec']
  exact or_trn _ _
theorem implTurned_6 (v f:Int) (w:World) (v0:0<=v) (v1:v<=255) (f0:0<=f) (f1:f<=255) :
  Calls prog 227 #[.int .i64 6,.int .i64 v,.int .i64 f] w fun e w'=>e=.returned (.tuple #[.int .i64 (trnR 6 v f).1,.int .i64 (trnR 6 v f).2])/\Below w.heap.size w w':=by
 have hv:inB v 0 255=true:=decide_eq_true (by omega)
 have hf:inB f 0 255=true:=decide_eq_true (by omega)
 obtain ⟨c0,c1⟩:=cy_bd f
 have hi:∀ w:World,(Instr.index 200 (.agg #[.func (.func 256) #[] #[],.func (.func 257) #[] #[],.func (.func 258) #[] #[],.func (.func 259) #[] #[],.func (.func 260) #[] #[],.func (.func 261) #[] #[],.func (.func 262) #[] #[],.func (.func 263) #[] #[]]) (.int .i64 6)).run prog w=.ok (.func (.func 262) #[] #[]) w:=fun _=>by kernel_rfl
 go_enter func227,ntmps227
 go_wp2_with (go_at_call 107;refine (isByte_any _ _).mono ?_;rintro e w' ⟨rfl,rfl⟩)
 go_region_with (first|(go_at_call 241;refine (turnOps_any _).mono ?_;rintro e w1 ⟨rfl,hbe⟩)|(go_at_call 240;refine (carryOf_any _ _ f0 f1).mono ?_;rintro e w2 ⟨rfl,rfl⟩)|(go_at_call 262;refine (swapHalves_any _ _ _ v0 v1 c0 c1).mono ?_;rintro e w2 ⟨rfl,rfl⟩))
 all_goals go_wp2_with (go_at_call 226;refine (flagIf_any _ _ _).mono ?_;rintro e w3 ⟨rfl,rfl⟩)
 all_goals go_ret2
 all_goals
  refine ⟨ret_two rfl ?_,below_of_drew hbe⟩
  try rw [beq_dec']
  try rw [beq_dec']
  exact or_trn _ _
theorem implTurned_7 (v f:Int) (w:World) (v0:0<=v) (v1:v<=255) (f0:0<=f) (f1:f<=255) :
  Calls prog 227 #[.int .i64 7,.int .i64 v,.int .i64 f] w fun e w'=>e=.returned (.tuple #[.int .i64 (trnR 7 v f).1,.int .i64 (trnR 7 v f).2])/\Below w.heap.size w w':=by
 have hv:inB v 0 255=true:=decide_eq_true (by omega)
 have hf:inB f 0 255=true:=decide_eq_true (by omega)
 obtain ⟨c0,c1⟩:=cy_bd f
 have hi:∀ w:World,(Instr.index 200 (.agg #[.func (.func 256) #[] #[],.func (.func 257) #[] #[],.func (.func 258) #[] #[],.func (.func 259) #[] #[],.func (.func 260) #[] #[],.func (.func 261) #[] #[],.func (.func 262) #[] #[],.func (.func 263) #[] #[]]) (.int .i64 7)).run prog w=.ok (.func (.func 263) #[] #[]) w:=fun _=>by kernel_rfl
 go_enter func227,ntmps227
 go_wp2_with (go_at_call 107;refine (isByte_any _ _).mono ?_;rintro e w' ⟨rfl,rfl⟩)
 go_region_with (first|(go_at_call 241;refine (turnOps_any _).mono ?_;rintro e w1 ⟨rfl,hbe⟩)|(go_at_call 240;refine (carryOf_any _ _ f0 f1).mono ?_;rintro e w2 ⟨rfl,rfl⟩)|(go_at_call 263;refine (shiftRight_any _ _ _ v0 v1 c0 c1).mono ?_;rintro e w2 ⟨rfl,rfl⟩))
 all_goals go_wp2_with (go_at_call 226;refine (flagIf_any _ _ _).mono ?_;rintro e w3 ⟨rfl,rfl⟩)
 all_goals go_ret2
 all_goals
  refine ⟨ret_two rfl ?_,below_of_drew hbe⟩
  try rw [beq_dec']
  try rw [beq_dec']
  exact or_trn _ _
theorem implTurned_any (op v f:Int) (w:World) :
  Calls prog 227 #[.int .i64 op,.int .i64 v,.int .i64 f] w fun e w'=>e=.returned (.tuple #[.int .i64 (trn op v f).1,.int .i64 (trn op v f).2])/\Below w.heap.size w w':=by
 by_cases h:(inB op 0 7 && inB v 0 255 && inB f 0 255)=true
 ·have e:trn op v f=trnR op v f:=by unfold trn;rw [if_pos h]
  rw [e]
  simp only [Bool.and_eq_true,inB,decide_eq_true_eq] at h
  obtain ⟨⟨⟨o0,o1⟩,v0,v1⟩,f0,f1⟩:=h
  have ho:op=0 \/ op=1 \/ op=2 \/ op=3 \/ op=4 \/ op=5 \/ op=6 \/ op=7:=by omega
  rcases ho with rfl|rfl|rfl|rfl|rfl|rfl|rfl|rfl
  ·exact implTurned_0 v f w v0 v1 f0 f1
  ·exact implTurned_1 v f w v0 v1 f0 f1
  ·exact implTurned_2 v f w v0 v1 f0 f1
  ·exact implTurned_3 v f w v0 v1 f0 f1
  ·exact implTurned_4 v f w v0 v1 f0 f1
  ·exact implTurned_5 v f w v0 v1 f0 f1
  ·exact implTurned_6 v f w v0 v1 f0 f1
  ·exact implTurned_7 v f w v0 v1 f0 f1
 ·have e:trn op v f=(0,0):=by unfold trn;rw [if_neg h]
  rw [e]
  have h:(inB op 0 7 && inB v 0 255 && inB f 0 255)=false:=by simpa using h
  by_cases ho:op<0
  ·go_enter func227,ntmps227
   go_wp2
   go_ret2
   exact ⟨rfl,Below.refl _ _⟩
  by_cases ho':7<op
  ·go_enter func227,ntmps227
   go_wp2
   go_ret2
   exact ⟨rfl,Below.refl _ _⟩
  have hop:inB op 0 7=true:=decide_eq_true (by omega)
  have h7:decide (7<op)=false:=decide_eq_false ho'
  rw [hop] at h
  cases hv:inB v 0 255
  ·go_enter func227,ntmps227
   go_wp2_with (go_at_call 107;refine (isByte_any _ _).mono ?_;rintro e w' ⟨rfl,rfl⟩)
   go_ret2
   exact ⟨rfl,Below.refl _ _⟩
  cases hf:inB f 0 255
  ·go_enter func227,ntmps227
   go_wp2_with (go_at_call 107;refine (isByte_any _ _).mono ?_;rintro e w' ⟨rfl,rfl⟩)
   go_ret2
   exact ⟨rfl,Below.refl _ _⟩
  rw [hv,hf] at h
  exact absurd h (by decide)
end Go.Proofs.YtnjolmbdbgbmbaaGreatDoor.TurnI
namespace Go.Proofs.YtnjolmbdbgbmbaaGreatDoor.Stpv
open Go.Deep
open Signed (inB sgn ret_int ret_bool)
open Busw Busx Stpp Stpq Stpi Stpj Stpr Stpk Stpm Stpn Stpu
open Reck ReckS ReckM ReckD TurnS
theorem alu_in {o a b f:Int} (h0:0<=o/\o<=7) (h1:0<=a/\a<=255) (h2:0<=b/\b<=255) (h3:0<=f/\f<=255):alu o a b f=aluR o a b f:=by unfold alu;rw [inT h0,inT h1,inT h2,inT h3];rfl
theorem st8_in {v f:Int} {d:Bool} (h1:0<=v/\v<=255) (h3:0<=f/\f<=255):st8 v f d=st8R v f d:=by unfold st8;rw [inT h1,inT h3];rfl
theorem aw_in {a b f:Int} (h1:0<=a/\a<=65535) (h2:0<=b/\b<=65535) (h3:0<=f/\f<=255):aw a b f=awR a b f:=by unfold aw;rw [inT h1,inT h2,inT h3];rfl
theorem daa_in {a f:Int} (h1:0<=a/\a<=255) (h3:0<=f/\f<=255):daa a f=daaR a f:=by unfold daa;rw [inT h1,inT h3];rfl
theorem trn_in {o v f:Int} (h0:0<=o/\o<=7) (h1:0<=v/\v<=255) (h3:0<=f/\f<=255):trn o v f=trnR o v f:=by unfold trn;rw [inT h0,inT h1,inT h3];rfl
theorem reckon (g:G) (m:M) (full:Bool) (v:Int) (v0:0<=v) (v1:v<=255) (w:World) (h:In g w m full) (hg:Stpq.Good m) (hp:Pt g) :
  Calls prog 176 #[.pointer (some ⟨g.K,0,none⟩),.int .i64 v] w fun e w'=>e=.returned (.tuple #[])/\In g w' (⟨{ m with ra:=(aluR g.y m.ra v m.rf).1,rf:=(aluR g.y m.ra v m.rf).2 },full⟩ : S).m (⟨{ m with ra:=(aluR g.y m.ra v m.rf).1,rf:=(aluR g.y m.ra v m.rf).2 },full⟩ : S).full:=by
 have c1:Rg 223 #[.int .i64 g.y,.int .i64 m.ra,.int .i64 v,.int .i64 m.rf] w (.tuple #[.int .i64 (aluR g.y m.ra v m.rf).1,.int .i64 (aluR g.y m.ra v m.rf).2]):=rg fun W hb=>(AluI.implAlu_any g.y m.ra v m.rf W).mono fun e w' h=>⟨by rw [<- alu_in hp.y hg.a ⟨v0,v1⟩ hg.f];exact h.1,h.2⟩
 generalize (aluR g.y m.ra v m.rf).1=a1 at *
 generalize (aluR g.y m.ra v m.rf).2=f1 at *
 have r0:=cell_regrown (h.k_cpu)
 have r1:=cell_regrown (h.k_y)
 have r2:=cell_regrown (h.c_ra)
 have r3:=cell_regrown (h.c_rf)
 have HI:Hid (In g w m full):=h
 clear h hg hp v0 v1
 go_enter func176,ntmps176
 go_wp2_with fail
 refine Qflo.tail_late 31 32 (by kernel_rfl) (by kernel_rfl) (fun _ _ _ _ _ h=>h) ?_
 simp only [List.take_succ_cons,List.take_zero,List.drop_succ_cons,List.drop_zero]
 repeat (go_big_quiet_step (first|with_reducible exact c1 _ _))
 refine wpQuiet_nil ?_
 intro _ hw'
 obtain ⟨⟨dq,osq⟩,hw''⟩:=hw'
 subst hw''
 have H2:=zHd (HI.out.below (below_regrown w dq osq))
 generalize Go.Sort.grow (redrawn w dq) osq=W2 at *
 clear HI r0 r1 r2 r3 c1
 have q_k_cpu:=H2.out.k_cpu
 have q_c_ra:=H2.out.c_ra
 have q_c_rf:=H2.out.c_rf
 have f_ra:=H2.out.fro 0
 have f_rf:=H2.out.fro 1
 have lB:=H2.out.ltB
 have HF:Hid (In g ((W2.setCell ⟨g.B,0,none⟩ (.int .i64 a1)).setCell ⟨g.B,1,none⟩ (.int .i64 f1)) { m with ra:=a1,rf:=f1 } full):=(H2.out.s_ra a1).s_rf f1
 clear H2
 go_wp2
 go_end0
 exact ⟨rfl,HF.out⟩
theorem rk1 (g:G) (m:M) (full:Bool)  (w:World) (h:In g w m full) (hg:Stpq.Good m) (hp:Pt g) :
  Calls prog 175 #[.pointer (some ⟨g.K,0,none⟩)] w fun e w'=>e=.returned (.tuple #[])/\In g w' (⟨{ m with ra:=(aluR g.y m.ra (Stpp.get m g.z) m.rf).1,rf:=(aluR g.y m.ra (Stpp.get m g.z) m.rf).2 },full⟩ : S).m (⟨{ m with ra:=(aluR g.y m.ra (Stpp.get m g.z) m.rf).1,rf:=(aluR g.y m.ra (Stpp.get m g.z) m.rf).2 },full⟩ : S).full:=by
 have c1:Hid (∀ W,In g W m full->Calls prog 155 #[.pointer (some ⟨g.K,0,none⟩),.int .i64 g.z] W fun e w'=>e=.returned (.int .i64 (Stpp.get m g.z))/\Below W.heap.size W w'):=fun W hi=>get_any g m full g.z W hi hg hp.z.1 hp.z.2
 have bd:=get_bd hg g.z
 have c2:Hid (∀ W,In g W m full->Calls prog 176 #[.pointer (some ⟨g.K,0,none⟩),.int .i64 (Stpp.get m g.z)] W fun e w'=>e=.returned (.tuple #[])/\In g w' (⟨{ m with ra:=(aluR g.y m.ra (Stpp.get m g.z) m.rf).1,rf:=(aluR g.y m.ra (Stpp.get m g.z) m.rf).2 },full⟩ : S).m (⟨{ m with ra:=(aluR g.y m.ra (Stpp.get m g.z) m.rf).1,rf:=(aluR g.y m.ra (Stpp.get m g.z) m.rf).2 },full⟩ : S).full):=fun W hi=>reckon g m full _ bd.1 bd.2 W hi hg hp
 generalize (⟨{ m with ra:=(aluR g.y m.ra (Stpp.get m g.z) m.rf).1,rf:=(aluR g.y m.ra (Stpp.get m g.z) m.rf).2 },full⟩ : S)=t at *
 generalize Stpp.get m g.z=v at *
 have q_z:=h.k_z
 have HI:Hid (In g w m full):=h
 clear h hg hp bd
 go_enter func175,ntmps175
 go_wp2_with fail
 refine Calls.mono (c1.out _ HI.out) ?_
 rintro e w1 ⟨rfl,hb1⟩
 have H1:=zHd (HI.out.below hb1)
 clear hb1 HI c1
 go_wp2_with fail
 refine Calls.mono (c2.out _ H1.out) ?_
 rintro e w2 ⟨rfl,hi1⟩
 have H3:Hid (In g w2 t.m t.full):=hi1
 clear hi1 H1 c2
 go_wp2
 go_end0
 exact ⟨rfl,H3.out⟩
theorem rk2 (g:G) (m:M) (full:Bool) (i0:0<=g.imm) (i1:g.imm<=255) (w:World) (h:In g w m full) (hg:Stpq.Good m) (hp:Pt g) :
  Calls prog 177 #[.pointer (some ⟨g.K,0,none⟩)] w fun e w'=>e=.returned (.tuple #[])/\In g w' (⟨{ m with ra:=(aluR g.y m.ra g.imm m.rf).1,rf:=(aluR g.y m.ra g.imm m.rf).2 },full⟩ : S).m (⟨{ m with ra:=(aluR g.y m.ra g.imm m.rf).1,rf:=(aluR g.y m.ra g.imm m.rf).2 },full⟩ : S).full:=by
 have c2:Hid (∀ W,In g W m full->Calls prog 176 #[.pointer (some ⟨g.K,0,none⟩),.int .i64 g.imm] W fun e w'=>e=.returned (.tuple #[])/\In g w' (⟨{ m with ra:=(aluR g.y m.ra g.imm m.rf).1,rf:=(aluR g.y m.ra g.imm m.rf).2 },full⟩ : S).m (⟨{ m with ra:=(aluR g.y m.ra g.imm m.rf).1,rf:=(aluR g.y m.ra g.imm m.rf).2 },full⟩ : S).full):=fun W hi=>reckon g m full _ i0 i1 W hi hg hp
 generalize (⟨{ m with ra:=(aluR g.y m.ra g.imm m.rf).1,rf:=(aluR g.y m.ra g.imm m.rf).2 },full⟩ : S)=t at *
 have q_i:=h.k_imm
 have HI:Hid (In g w m full):=h
 clear h hg hp i0 i1
 go_enter func177,ntmps177
 go_wp2_with fail
 refine Calls.mono (c2.out _ HI.out) ?_
 rintro e w2 ⟨rfl,hi1⟩
 have H3:Hid (In g w2 t.m t.full):=hi1
 clear hi1 HI c2
 go_wp2
 go_end0
 exact ⟨rfl,H3.out⟩
theorem stepByte (g:G) (m:M) (full:Bool) (down:Bool) (w:World) (h:In g w m full) (hg:Stpq.Good m) (hp:Pt g) :
  Calls prog 179 #[.pointer (some ⟨g.K,0,none⟩),.bool down] w fun e w'=>e=.returned (.tuple #[])/\In g w' (F (put ⟨m,full⟩ g.y (st8R (Stpp.get m g.y) m.rf down).1) (st8R (Stpp.get m g.y) m.rf down).2).m (F (put ⟨m,full⟩ g.y (st8R (Stpp.get m g.y) m.rf down).1) (st8R (Stpp.get m g.y) m.rf down).2).full:=by
 have c1:Rg 155 #[.pointer (some ⟨g.K,0,none⟩),.int .i64 g.y] w (.int .i64 (Stpp.get m g.y)):=rg fun W hb=>get_any g m full g.y W (h.below hb) hg hp.y.1 hp.y.2
 have c2:Rg 224 #[.int .i64 (Stpp.get m g.y),.int .i64 m.rf,.bool down] w (.tuple #[.int .i64 (st8R (Stpp.get m g.y) m.rf down).1,.int .i64 (st8R (Stpp.get m g.y) m.rf down).2]):=rg fun W hb=>(implStepped8_any (Stpp.get m g.y) m.rf down W).mono fun e w' h=>⟨by rw [<- st8_in (get_bd hg g.y) hg.f];exact h.1,by rw [h.2];exact zRf⟩
 have bd:=st8_bd (v:=Stpp.get m g.y) (f:=m.rf) down
 generalize (st8R (Stpp.get m g.y) m.rf down).1=v at *
 generalize (st8R (Stpp.get m g.y) m.rf down).2=f at *
 generalize Stpp.get m g.y=x at *
 have c3:Hid (∀ W,In g W m full->Calls prog 154 #[.pointer (some ⟨g.K,0,none⟩),.int .i64 g.y,.int .i64 v] W fun e w'=>e=.returned (.tuple #[])/\In g w' (put ⟨m,full⟩ g.y v).m (put ⟨m,full⟩ g.y v).full):=fun W hi=>put_any g m full _ _ W hi hg hp.y.1 hp.y.2 bd.1 bd.2.1
 generalize put ⟨m,full⟩ g.y v=t at *
 have r0:=cell_regrown (h.k_cpu)
 have r1:=cell_regrown (h.k_y)
 have r2:=cell_regrown (h.c_rf)
 have HI:Hid (In g w m full):=h
 clear h hg hp bd
 go_enter func179,ntmps179
 go_wp2_with fail
 refine wp_region_quiet_below (by kernel_rfl) (by kernel_rfl) ?_
 repeat (go_big_quiet_step (first|with_reducible exact c1 _ _|with_reducible exact c2 _ _))
 refine wpQuiet_nil ?_
 intro _ hw'
 obtain ⟨⟨dq,osq⟩,hw''⟩:=hw'
 subst hw''
 have H2:=zHd (HI.out.below (below_regrown w dq osq))
 generalize Go.Sort.grow (redrawn w dq) osq=W2 at *
 clear HI r0 r1 r2 c1 c2
 have q_y:=H2.out.k_y
 go_wp2_with fail
 refine Calls.mono (c3.out _ H2.out) ?_
 rintro e w1 ⟨rfl,hi1⟩
 have H3':Hid (In g w1 t.m t.full):=hi1
 clear hi1 H2 c3
 have q_k_cpu:=H3'.out.k_cpu
 have q_c_rf:=H3'.out.c_rf
 have f_rf:=H3'.out.fro 1
 have H3:=H3'.out.s_rf f
 have HF:Hid (In g (w1.setCell ⟨g.B,1,none⟩ (.int .i64 f)) { t.m with rf:=f } t.full):=H3
 clear H3 H3'
 go_wp2
 go_end0
 exact ⟨rfl,HF.out⟩
theorem rk3 (g:G) (m:M) (full:Bool)  (w:World) (h:In g w m full) (hg:Stpq.Good m) (hp:Pt g) :
  Calls prog 178 #[.pointer (some ⟨g.K,0,none⟩)] w fun e w'=>e=.returned (.tuple #[])/\In g w' (F (put ⟨m,full⟩ g.y (st8R (Stpp.get m g.y) m.rf false).1) (st8R (Stpp.get m g.y) m.rf false).2).m (F (put ⟨m,full⟩ g.y (st8R (Stpp.get m g.y) m.rf false).1) (st8R (Stpp.get m g.y) m.rf false).2).full:=by
 have c2:Hid (∀ W,In g W m full->Calls prog 179 #[.pointer (some ⟨g.K,0,none⟩),.bool false] W fun e w'=>e=.returned (.tuple #[])/\In g w' (F (put ⟨m,full⟩ g.y (st8R (Stpp.get m g.y) m.rf false).1) (st8R (Stpp.get m g.y) m.rf false).2).m (F (put ⟨m,full⟩ g.y (st8R (Stpp.get m g.y) m.rf false).1) (st8R (Stpp.get m g.y) m.rf false).2).full):=fun W hi=>stepByte g m full false W hi hg hp
 generalize F (put ⟨m,full⟩ g.y (st8R (Stpp.get m g.y) m.rf false).1) (st8R (Stpp.get m g.y) m.rf false).2=t at *
 have HI:Hid (In g w m full):=h
 clear h hg hp
 go_enter func178,ntmps178
 go_wp2_with fail
 refine Calls.mono (c2.out _ HI.out) ?_
 rintro e w2 ⟨rfl,hi1⟩
 have H3:Hid (In g w2 t.m t.full):=hi1
 clear hi1 HI c2
 go_wp2
 go_end0
 exact ⟨rfl,H3.out⟩
theorem rk4 (g:G) (m:M) (full:Bool)  (w:World) (h:In g w m full) (hg:Stpq.Good m) (hp:Pt g) :
  Calls prog 180 #[.pointer (some ⟨g.K,0,none⟩)] w fun e w'=>e=.returned (.tuple #[])/\In g w' (F (put ⟨m,full⟩ g.y (st8R (Stpp.get m g.y) m.rf true).1) (st8R (Stpp.get m g.y) m.rf true).2).m (F (put ⟨m,full⟩ g.y (st8R (Stpp.get m g.y) m.rf true).1) (st8R (Stpp.get m g.y) m.rf true).2).full:=by
 have c2:Hid (∀ W,In g W m full->Calls prog 179 #[.pointer (some ⟨g.K,0,none⟩),.bool true] W fun e w'=>e=.returned (.tuple #[])/\In g w' (F (put ⟨m,full⟩ g.y (st8R (Stpp.get m g.y) m.rf true).1) (st8R (Stpp.get m g.y) m.rf true).2).m (F (put ⟨m,full⟩ g.y (st8R (Stpp.get m g.y) m.rf true).1) (st8R (Stpp.get m g.y) m.rf true).2).full):=fun W hi=>stepByte g m full true W hi hg hp
 generalize F (put ⟨m,full⟩ g.y (st8R (Stpp.get m g.y) m.rf true).1) (st8R (Stpp.get m g.y) m.rf true).2=t at *
 have HI:Hid (In g w m full):=h
 clear h hg hp
 go_enter func180,ntmps180
 go_wp2_with fail
 refine Calls.mono (c2.out _ HI.out) ?_
 rintro e w2 ⟨rfl,hi1⟩
 have H3:Hid (In g w2 t.m t.full):=hi1
 clear hi1 HI c2
 go_wp2
 go_end0
 exact ⟨rfl,H3.out⟩
end Go.Proofs.YtnjolmbdbgbmbaaGreatDoor.Stpv
