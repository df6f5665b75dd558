/-
  Contracts and facts of ours, joined: ReckD, TurnS.
-/
import Derived.Test.YtnjolmbdbgbmbaaGreatDoorP05
import Derived.Test.YtnjolmbdbgbmbaaGreatDoorP00
set_option linter.unusedVariables false
set_option linter.unusedSimpArgs false
set_option maxRecDepth 20000
set_option maxHeartbeats 8000000
open Go.ChangeShapes Go.WideShapes Go.ChangeAt Go.RowKit
open Go.Proofs.Tryz
namespace Go.Proofs.YtnjolmbdbgbmbaaGreatDoor.ReckD
open Signed (inB ret_int ret_bool isByte_any l1In_any)
open Reck ReckS ReckM
def daaK (n h c p q:Bool):Int:=let k:=(if (h || (!n && p))=true then 6 else 0)+(if (c || (!n && q))=true then 96 else 0);if n=true then 256-k else k
def daaP (a:Int) (n h c p q:Bool):Int × Int:=((a+daaK n h c p q)%256,fl (decide ((a+daaK n h c p q)%256=0)) n false (c || (!n && q)))
def daaR (a f:Int):Int × Int:=daaP a (nB f) (hB f) (cB f) (decide (9<a%16)) (decide (153<a))
def daa (a f:Int):Int × Int:=if (inB a 0 255 && inB f 0 255)=true then daaR a f else (0,0)
theorem or_daa0 (z c:Bool):bits .or .i64 (bits .or .i64 (chz z 128 0) 0) (chz c 16 0)=fl z false false c:=by cases z <;> cases c <;> decide
theorem or_daa1 (z c:Bool):bits .or .i64 (bits .or .i64 (chz z 128 0) 64) (chz c 16 0)=fl z true false c:=by cases z <;> cases c <;> decide
theorem fl_close {z z' n c:Bool} (e0:z=z'):fl z n false c=fl z' n false c:=by rw [e0]
theorem implDaa_0 (a f:Int) (w:World) (a0:0<=a) (a1:a<=255) (f0:0<=f) (f1:f<=255) (e64:bits .and .i64 f 64=0) (e32:bits .and .i64 f 32=0) (e16:bits .and .i64 f 16=0) (d9:decide (9<a%16)=false) (d153:decide (153<a)=false) (p9:¬ 9<a%16) (p153:¬ 153<a) :
  Calls prog 191 #[.int .i64 a,.int .i64 f] w fun e w'=>e=.returned (.tuple #[.int .i64 ((a+0)%256),.int .i64 (fl (decide ((a+0)%256=0)) false false false)])/\w'=w:=by
 have ha:inB a 0 255=true:=decide_eq_true (by omega)
 have hf:inB f 0 255=true:=decide_eq_true (by omega)
 have q1:chz true 6 0=6:=rfl
 have q2:chz false 6 0=0:=rfl
 have q3:chz true 96 0=96:=rfl
 have q4:chz false 96 0=0:=rfl
 go_enter func191,ntmps191
 go_wp2_with (first|(go_at_call 107;refine (isByte_any _ _).mono ?_;rintro e w' ⟨rfl,rfl⟩)|(go_at_call 226;refine (flagIf_any _ _ _).mono ?_;rintro e w3 ⟨rfl,rfl⟩)|(go_at_call 115;refine (chosen_any _ _ _ _).mono ?_;rintro e w3 ⟨rfl,rfl⟩))
 go_ret2
 rw [or_daa0,beq_dec]
 refine ⟨ret_two (by omega) (fl_close (congrArg (fun x:Int=>decide (x=0)) (by omega))),rfl⟩
theorem implDaa_1 (a f:Int) (w:World) (a0:0<=a) (a1:a<=255) (f0:0<=f) (f1:f<=255) (e64:bits .and .i64 f 64=0) (e32:bits .and .i64 f 32=0) (e16:bits .and .i64 f 16=0) (d9:decide (9<a%16)=false) (d153:decide (153<a)=true) (p9:¬ 9<a%16) (p153:153<a) :
  Calls prog 191 #[.int .i64 a,.int .i64 f] w fun e w'=>e=.returned (.tuple #[.int .i64 ((a+96)%256),.int .i64 (fl (decide ((a+96)%256=0)) false false true)])/\w'=w:=by
 have ha:inB a 0 255=true:=decide_eq_true (by omega)
 have hf:inB f 0 255=true:=decide_eq_true (by omega)
 have q1:chz true 6 0=6:=rfl
 have q2:chz false 6 0=0:=rfl
 have q3:chz true 96 0=96:=rfl
 have q4:chz false 96 0=0:=rfl
 go_enter func191,ntmps191
 go_wp2_with (first|(go_at_call 107;refine (isByte_any _ _).mono ?_;rintro e w' ⟨rfl,rfl⟩)|(go_at_call 226;refine (flagIf_any _ _ _).mono ?_;rintro e w3 ⟨rfl,rfl⟩)|(go_at_call 115;refine (chosen_any _ _ _ _).mono ?_;rintro e w3 ⟨rfl,rfl⟩))
 go_ret2
 rw [or_daa0,beq_dec]
 refine ⟨ret_two (by omega) (fl_close (congrArg (fun x:Int=>decide (x=0)) (by omega))),rfl⟩
theorem implDaa_2 (a f:Int) (w:World) (a0:0<=a) (a1:a<=255) (f0:0<=f) (f1:f<=255) (e64:bits .and .i64 f 64=0) (e32:bits .and .i64 f 32=0) (e16:bits .and .i64 f 16=0) (d9:decide (9<a%16)=true) (d153:decide (153<a)=false) (p9:9<a%16) (p153:¬ 153<a) :
  Calls prog 191 #[.int .i64 a,.int .i64 f] w fun e w'=>e=.returned (.tuple #[.int .i64 ((a+6)%256),.int .i64 (fl (decide ((a+6)%256=0)) false false false)])/\w'=w:=by
 have ha:inB a 0 255=true:=decide_eq_true (by omega)
 have hf:inB f 0 255=true:=decide_eq_true (by omega)
 have q1:chz true 6 0=6:=rfl
 have q2:chz false 6 0=0:=rfl
 have q3:chz true 96 0=96:=rfl
 have q4:chz false 96 0=0:=rfl
 go_enter func191,ntmps191
 go_wp2_with (first|(go_at_call 107;refine (isByte_any _ _).mono ?_;rintro e w' ⟨rfl,rfl⟩)|(go_at_call 226;refine (flagIf_any _ _ _).mono ?_;rintro e w3 ⟨rfl,rfl⟩)|(go_at_call 115;refine (chosen_any _ _ _ _).mono ?_;rintro e w3 ⟨rfl,rfl⟩))
 go_ret2
 rw [or_daa0,beq_dec]
 refine ⟨ret_two (by omega) (fl_close (congrArg (fun x:Int=>decide (x=0)) (by omega))),rfl⟩
theorem implDaa_3 (a f:Int) (w:World) (a0:0<=a) (a1:a<=255) (f0:0<=f) (f1:f<=255) (e64:bits .and .i64 f 64=0) (e32:bits .and .i64 f 32=0) (e16:bits .and .i64 f 16=0) (d9:decide (9<a%16)=true) (d153:decide (153<a)=true) (p9:9<a%16) (p153:153<a) :
  Calls prog 191 #[.int .i64 a,.int .i64 f] w fun e w'=>e=.returned (.tuple #[.int .i64 ((a+102)%256),.int .i64 (fl (decide ((a+102)%256=0)) false false true)])/\w'=w:=by
 have ha:inB a 0 255=true:=decide_eq_true (by omega)
 have hf:inB f 0 255=true:=decide_eq_true (by omega)
 have q1:chz true 6 0=6:=rfl
 have q2:chz false 6 0=0:=rfl
 have q3:chz true 96 0=96:=rfl
 have q4:chz false 96 0=0:=rfl
 go_enter func191,ntmps191
 go_wp2_with (first|(go_at_call 107;refine (isByte_any _ _).mono ?_;rintro e w' ⟨rfl,rfl⟩)|(go_at_call 226;refine (flagIf_any _ _ _).mono ?_;rintro e w3 ⟨rfl,rfl⟩)|(go_at_call 115;refine (chosen_any _ _ _ _).mono ?_;rintro e w3 ⟨rfl,rfl⟩))
 go_ret2
 rw [or_daa0,beq_dec]
 refine ⟨ret_two (by omega) (fl_close (congrArg (fun x:Int=>decide (x=0)) (by omega))),rfl⟩
theorem implDaa_4 (a f:Int) (w:World) (a0:0<=a) (a1:a<=255) (f0:0<=f) (f1:f<=255) (e64:bits .and .i64 f 64=0) (e32:bits .and .i64 f 32=0) (e16:bits .and .i64 f 16=16) (d9:decide (9<a%16)=false) (d153:decide (153<a)=false) (p9:¬ 9<a%16) (p153:¬ 153<a) :
  Calls prog 191 #[.int .i64 a,.int .i64 f] w fun e w'=>e=.returned (.tuple #[.int .i64 ((a+96)%256),.int .i64 (fl (decide ((a+96)%256=0)) false false true)])/\w'=w:=by
 have ha:inB a 0 255=true:=decide_eq_true (by omega)
 have hf:inB f 0 255=true:=decide_eq_true (by omega)
 have q1:chz true 6 0=6:=rfl
 have q2:chz false 6 0=0:=rfl
 have q3:chz true 96 0=96:=rfl
 have q4:chz false 96 0=0:=rfl
 go_enter func191,ntmps191
 go_wp2_with (first|(go_at_call 107;refine (isByte_any _ _).mono ?_;rintro e w' ⟨rfl,rfl⟩)|(go_at_call 226;refine (flagIf_any _ _ _).mono ?_;rintro e w3 ⟨rfl,rfl⟩)|(go_at_call 115;refine (chosen_any _ _ _ _).mono ?_;rintro e w3 ⟨rfl,rfl⟩))
 go_ret2
 rw [or_daa0,beq_dec]
 refine ⟨ret_two (by omega) (fl_close (congrArg (fun x:Int=>decide (x=0)) (by omega))),rfl⟩
theorem implDaa_5 (a f:Int) (w:World) (a0:0<=a) (a1:a<=255) (f0:0<=f) (f1:f<=255) (e64:bits .and .i64 f 64=0) (e32:bits .and .i64 f 32=0) (e16:bits .and .i64 f 16=16) (d9:decide (9<a%16)=false) (d153:decide (153<a)=true) (p9:¬ 9<a%16) (p153:153<a) :
  Calls prog 191 #[.int .i64 a,.int .i64 f] w fun e w'=>e=.returned (.tuple #[.int .i64 ((a+96)%256),.int .i64 (fl (decide ((a+96)%256=0)) false false true)])/\w'=w:=by
 have ha:inB a 0 255=true:=decide_eq_true (by omega)
 have hf:inB f 0 255=true:=decide_eq_true (by omega)
 have q1:chz true 6 0=6:=rfl
 have q2:chz false 6 0=0:=rfl
 have q3:chz true 96 0=96:=rfl
 have q4:chz false 96 0=0:=rfl
 go_enter func191,ntmps191
 go_wp2_with (first|(go_at_call 107;refine (isByte_any _ _).mono ?_;rintro e w' ⟨rfl,rfl⟩)|(go_at_call 226;refine (flagIf_any _ _ _).mono ?_;rintro e w3 ⟨rfl,rfl⟩)|(go_at_call 115;refine (chosen_any _ _ _ _).mono ?_;rintro e w3 ⟨rfl,rfl⟩))
 go_ret2
 rw [or_daa0,beq_dec]
 refine ⟨ret_two (by omega) (fl_close (congrArg (fun x:Int=>decide (x=0)) (by omega))),rfl⟩
theorem implDaa_6 (a f:Int) (w:World) (a0:0<=a) (a1:a<=255) (f0:0<=f) (f1:f<=255) (e64:bits .and .i64 f 64=0) (e32:bits .and .i64 f 32=0) (e16:bits .and .i64 f 16=16) (d9:decide (9<a%16)=true) (d153:decide (153<a)=false) (p9:9<a%16) (p153:¬ 153<a) :
  Calls prog 191 #[.int .i64 a,.int .i64 f] w fun e w'=>e=.returned (.tuple #[.int .i64 ((a+102)%256),.int .i64 (fl (decide ((a+102)%256=0)) false false true)])/\w'=w:=by
 have ha:inB a 0 255=true:=decide_eq_true (by omega)
 have hf:inB f 0 255=true:=decide_eq_true (by omega)
 have q1:chz true 6 0=6:=rfl
 have q2:chz false 6 0=0:=rfl
 have q3:chz true 96 0=96:=rfl
 have q4:chz false 96 0=0:=rfl
 go_enter func191,ntmps191
 go_wp2_with (first|(go_at_call 107;refine (isByte_any _ _).mono ?_;rintro e w' ⟨rfl,rfl⟩)|(go_at_call 226;refine (flagIf_any _ _ _).mono ?_;rintro e w3 ⟨rfl,rfl⟩)|(go_at_call 115;refine (chosen_any _ _ _ _).mono ?_;rintro e w3 ⟨rfl,rfl⟩))
 go_ret2
 rw [or_daa0,beq_dec]
 refine ⟨ret_two (by omega) (fl_close (congrArg (fun x:Int=>decide (x=0)) (by omega))),rfl⟩
theorem implDaa_7 (a f:Int) (w:World) (a0:0<=a) (a1:a<=255) (f0:0<=f) (f1:f<=255) (e64:bits .and .i64 f 64=0) (e32:bits .and .i64 f 32=0) (e16:bits .and .i64 f 16=16) (d9:decide (9<a%16)=true) (d153:decide (153<a)=true) (p9:9<a%16) (p153:153<a) :
  Calls prog 191 #[.int .i64 a,.int .i64 f] w fun e w'=>e=.returned (.tuple #[.int .i64 ((a+102)%256),.int .i64 (fl (decide ((a+102)%256=0)) false false true)])/\w'=w:=by
 have ha:inB a 0 255=true:=decide_eq_true (by omega)
 have hf:inB f 0 255=true:=decide_eq_true (by omega)
 have q1:chz true 6 0=6:=rfl
 have q2:chz false 6 0=0:=rfl
 have q3:chz true 96 0=96:=rfl
 have q4:chz false 96 0=0:=rfl
 go_enter func191,ntmps191
 go_wp2_with (first|(go_at_call 107;refine (isByte_any _ _).mono ?_;rintro e w' ⟨rfl,rfl⟩)|(go_at_call 226;refine (flagIf_any _ _ _).mono ?_;rintro e w3 ⟨rfl,rfl⟩)|(go_at_call 115;refine (chosen_any _ _ _ _).mono ?_;rintro e w3 ⟨rfl,rfl⟩))
 go_ret2
 rw [or_daa0,beq_dec]
 refine ⟨ret_two (by omega) (fl_close (congrArg (fun x:Int=>decide (x=0)) (by omega))),rfl⟩
theorem implDaa_8 (a f:Int) (w:World) (a0:0<=a) (a1:a<=255) (f0:0<=f) (f1:f<=255) (e64:bits .and .i64 f 64=0) (e32:bits .and .i64 f 32=32) (e16:bits .and .i64 f 16=0) (d9:decide (9<a%16)=false) (d153:decide (153<a)=false) (p9:¬ 9<a%16) (p153:¬ 153<a) :
  Calls prog 191 #[.int .i64 a,.int .i64 f] w fun e w'=>e=.returned (.tuple #[.int .i64 ((a+6)%256),.int .i64 (fl (decide ((a+6)%256=0)) false false false)])/\w'=w:=by
 have ha:inB a 0 255=true:=decide_eq_true (by omega)
 have hf:inB f 0 255=true:=decide_eq_true (by omega)
 have q1:chz true 6 0=6:=rfl
 have q2:chz false 6 0=0:=rfl
 have q3:chz true 96 0=96:=rfl
 have q4:chz false 96 0=0:=rfl
 go_enter func191,ntmps191
 go_wp2_with (first|(go_at_call 107;refine (isByte_any _ _).mono ?_;rintro e w' ⟨rfl,rfl⟩)|(go_at_call 226;refine (flagIf_any _ _ _).mono ?_;rintro e w3 ⟨rfl,rfl⟩)|(go_at_call 115;refine (chosen_any _ _ _ _).mono ?_;rintro e w3 ⟨rfl,rfl⟩))
 go_ret2
 rw [or_daa0,beq_dec]
 refine ⟨ret_two (by omega) (fl_close (congrArg (fun x:Int=>decide (x=0)) (by omega))),rfl⟩
theorem implDaa_9 (a f:Int) (w:World) (a0:0<=a) (a1:a<=255) (f0:0<=f) (f1:f<=255) (e64:bits .and .i64 f 64=0) (e32:bits .and .i64 f 32=32) (e16:bits .and .i64 f 16=0) (d9:decide (9<a%16)=false) (d153:decide (153<a)=true) (p9:¬ 9<a%16) (p153:153<a) :
  Calls prog 191 #[.int .i64 a,.int .i64 f] w fun e w'=>e=.returned (.tuple #[.int .i64 ((a+102)%256),.int .i64 (fl (decide ((a+102)%256=0)) false false true)])/\w'=w:=by
 have ha:inB a 0 255=true:=decide_eq_true (by omega)
 have hf:inB f 0 255=true:=decide_eq_true (by omega)
 have q1:chz true 6 0=6:=rfl
 have q2:chz false 6 0=0:=rfl
 have q3:chz true 96 0=96:=rfl
 have q4:chz false 96 0=0:=rfl
 go_enter func191,ntmps191
 go_wp2_with (first|(go_at_call 107;refine (isByte_any _ _).mono ?_;rintro e w' ⟨rfl,rfl⟩)|(go_at_call 226;refine (flagIf_any _ _ _).mono ?_;rintro e w3 ⟨rfl,rfl⟩)|(go_at_call 115;refine (chosen_any _ _ _ _).mono ?_;rintro e w3 ⟨rfl,rfl⟩))
 go_ret2
 rw [or_daa0,beq_dec]
 refine ⟨ret_two (by omega) (fl_close (congrArg (fun x:Int=>decide (x=0)) (by omega))),rfl⟩
theorem implDaa_10 (a f:Int) (w:World) (a0:0<=a) (a1:a<=255) (f0:0<=f) (f1:f<=255) (e64:bits .and .i64 f 64=0) (e32:bits .and .i64 f 32=32) (e16:bits .and .i64 f 16=0) (d9:decide (9<a%16)=true) (d153:decide (153<a)=false) (p9:9<a%16) (p153:¬ 153<a) :
  Calls prog 191 #[.int .i64 a,.int .i64 f] w fun e w'=>e=.returned (.tuple #[.int .i64 ((a+6)%256),.int .i64 (fl (decide ((a+6)%256=0)) false false false)])/\w'=w:=by
 have ha:inB a 0 255=true:=decide_eq_true (by omega)
 have hf:inB f 0 255=true:=decide_eq_true (by omega)
 have q1:chz true 6 0=6:=rfl
 have q2:chz false 6 0=0:=rfl
 have q3:chz true 96 0=96:=rfl
 have q4:chz false 96 0=0:=rfl
 go_enter func191,ntmps191
 go_wp2_with (first|(go_at_call 107;refine (isByte_any _ _).mono ?_;rintro e w' ⟨rfl,rfl⟩)|(go_at_call 226;refine (flagIf_any _ _ _).mono ?_;rintro e w3 ⟨rfl,rfl⟩)|(go_at_call 115;refine (chosen_any _ _ _ _).mono ?_;rintro e w3 ⟨rfl,rfl⟩))
 go_ret2
 rw [or_daa0,beq_dec]
 refine ⟨ret_two (by omega) (fl_close (congrArg (fun x:Int=>decide (x=0)) (by omega))),rfl⟩
theorem implDaa_11 (a f:Int) (w:World) (a0:0<=a) (a1:a<=255) (f0:0<=f) (f1:f<=255) (e64:bits .and .i64 f 64=0) (e32:bits .and .i64 f 32=32) (e16:bits .and .i64 f 16=0) (d9:decide (9<a%16)=true) (d153:decide (153<a)=true) (p9:9<a%16) (p153:153<a) :
  Calls prog 191 #[.int .i64 a,.int .i64 f] w fun e w'=>e=.returned (.tuple #[.int .i64 ((a+102)%256),.int .i64 (fl (decide ((a+102)%256=0)) false false true)])/\w'=w:=by
 have ha:inB a 0 255=true:=decide_eq_true (by omega)
 have hf:inB f 0 255=true:=decide_eq_true (by omega)
 have q1:chz true 6 0=6:=rfl
 have q2:chz false 6 0=0:=rfl
 have q3:chz true 96 0=96:=rfl
 have q4:chz false 96 0=0:=rfl
 go_enter func191,ntmps191
 go_wp2_with (first|(go_at_call 107;refine (isByte_any _ _).mono ?_;rintro e w' ⟨rfl,rfl⟩)|(go_at_call 226;refine (flagIf_any _ _ _).mono ?_;rintro e w3 ⟨rfl,rfl⟩)|(go_at_call 115;refine (chosen_any _ _ _ _).mono ?_;rintro e w3 ⟨rfl,rfl⟩))
 go_ret2
 rw [or_daa0,beq_dec]
 refine ⟨ret_two (by omega) (fl_close (congrArg (fun x:Int=>decide (x=0)) (by omega))),rfl⟩
theorem implDaa_12 (a f:Int) (w:World) (a0:0<=a) (a1:a<=255) (f0:0<=f) (f1:f<=255) (e64:bits .and .i64 f 64=0) (e32:bits .and .i64 f 32=32) (e16:bits .and .i64 f 16=16) (d9:decide (9<a%16)=false) (d153:decide (153<a)=false) (p9:¬ 9<a%16) (p153:¬ 153<a) :
  Calls prog 191 #[.int .i64 a,.int .i64 f] w fun e w'=>e=.returned (.tuple #[.int .i64 ((a+102)%256),.int .i64 (fl (decide ((a+102)%256=0)) false false true)])/\w'=w:=by
 have ha:inB a 0 255=true:=decide_eq_true (by omega)
 have hf:inB f 0 255=true:=decide_eq_true (by omega)
 have q1:chz true 6 0=6:=rfl
 have q2:chz false 6 0=0:=rfl
 have q3:chz true 96 0=96:=rfl
 have q4:chz false 96 0=0:=rfl
 go_enter func191,ntmps191
 go_wp2_with (first|(go_at_call 107;refine (isByte_any _ _).mono ?_;rintro e w' ⟨rfl,rfl⟩)|(go_at_call 226;refine (flagIf_any _ _ _).mono ?_;rintro e w3 ⟨rfl,rfl⟩)|(go_at_call 115;refine (chosen_any _ _ _ _).mono ?_;rintro e w3 ⟨rfl,rfl⟩))
 go_ret2
 rw [or_daa0,beq_dec]
 refine ⟨ret_two (by omega) (fl_close (congrArg (fun x:Int=>decide (x=0)) (by omega))),rfl⟩
theorem implDaa_13 (a f:Int) (w:World) (a0:0<=a) (a1:a<=255) (f0:0<=f) (f1:f<=255) (e64:bits .and .i64 f 64=0) (e32:bits .and .i64 f 32=32) (e16:bits .and .i64 f 16=16) (d9:decide (9<a%16)=false) (d153:decide (153<a)=true) (p9:¬ 9<a%16) (p153:153<a) :
  Calls prog 191 #[.int .i64 a,.int .i64 f] w fun e w'=>e=.returned (.tuple #[.int .i64 ((a+102)%256),.int .i64 (fl (decide ((a+102)%256=0)) false false true)])/\w'=w:=by
 have ha:inB a 0 255=true:=decide_eq_true (by omega)
 have hf:inB f 0 255=true:=decide_eq_true (by omega)
 have q1:chz true 6 0=6:=rfl
 have q2:chz false 6 0=0:=rfl
 have q3:chz true 96 0=96:=rfl
 have q4:chz false 96 0=0:=rfl
 go_enter func191,ntmps191
 go_wp2_with (first|(go_at_call 107;refine (isByte_any _ _).mono ?_;rintro e w' ⟨rfl,rfl⟩)|(go_at_call 226;refine (flagIf_any _ _ _).mono ?_;rintro e w3 ⟨rfl,rfl⟩)|(go_at_call 115;refine (chosen_any _ _ _ _).mono ?_;rintro e w3 ⟨rfl,rfl⟩))
 go_ret2
 rw [or_daa0,beq_dec]
 refine ⟨ret_two (by omega) (fl_close (congrArg (fun x:Int=>decide (x=0)) (by omega))),rfl⟩
theorem implDaa_14 (a f:Int) (w:World) (a0:0<=a) (a1:a<=255) (f0:0<=f) (f1:f<=255) (e64:bits .and .i64 f 64=0) (e32:bits .and .i64 f 32=32) (e16:bits .and .i64 f 16=16) (d9:decide (9<a%16)=true) (d153:decide (153<a)=false) (p9:9<a%16) (p153:¬ 153<a) :
  Calls prog 191 #[.int .i64 a,.int .i64 f] w fun e w'=>e=.returned (.tuple #[.int .i64 ((a+102)%256),.int .i64 (fl (decide ((a+102)%256=0)) false false true)])/\w'=w:=by
 have ha:inB a 0 255=true:=decide_eq_true (by omega)
 have hf:inB f 0 255=true:=decide_eq_true (by omega)
 have q1:chz true 6 0=6:=rfl
 have q2:chz false 6 0=0:=rfl
 have q3:chz true 96 0=96:=rfl
 have q4:chz false 96 0=0:=rfl
 go_enter func191,ntmps191
 go_wp2_with (first|(go_at_call 107;refine (isByte_any _ _).mono ?_;rintro e w' ⟨rfl,rfl⟩)|(go_at_call 226;refine (flagIf_any _ _ _).mono ?_;rintro e w3 ⟨rfl,rfl⟩)|(go_at_call 115;refine (chosen_any _ _ _ _).mono ?_;rintro e w3 ⟨rfl,rfl⟩))
 go_ret2
 rw [or_daa0,beq_dec]
 refine ⟨ret_two (by omega) (fl_close (congrArg (fun x:Int=>decide (x=0)) (by omega))),rfl⟩
theorem implDaa_15 (a f:Int) (w:World) (a0:0<=a) (a1:a<=255) (f0:0<=f) (f1:f<=255) (e64:bits .and .i64 f 64=0) (e32:bits .and .i64 f 32=32) (e16:bits .and .i64 f 16=16) (d9:decide (9<a%16)=true) (d153:decide (153<a)=true) (p9:9<a%16) (p153:153<a) :
  Calls prog 191 #[.int .i64 a,.int .i64 f] w fun e w'=>e=.returned (.tuple #[.int .i64 ((a+102)%256),.int .i64 (fl (decide ((a+102)%256=0)) false false true)])/\w'=w:=by
 have ha:inB a 0 255=true:=decide_eq_true (by omega)
 have hf:inB f 0 255=true:=decide_eq_true (by omega)
 have q1:chz true 6 0=6:=rfl
 have q2:chz false 6 0=0:=rfl
 have q3:chz true 96 0=96:=rfl
 have q4:chz false 96 0=0:=rfl
 go_enter func191,ntmps191
 go_wp2_with (first|(go_at_call 107;refine (isByte_any _ _).mono ?_;rintro e w' ⟨rfl,rfl⟩)|(go_at_call 226;refine (flagIf_any _ _ _).mono ?_;rintro e w3 ⟨rfl,rfl⟩)|(go_at_call 115;refine (chosen_any _ _ _ _).mono ?_;rintro e w3 ⟨rfl,rfl⟩))
 go_ret2
 rw [or_daa0,beq_dec]
 refine ⟨ret_two (by omega) (fl_close (congrArg (fun x:Int=>decide (x=0)) (by omega))),rfl⟩
theorem implDaa_16 (a f:Int) (w:World) (a0:0<=a) (a1:a<=255) (f0:0<=f) (f1:f<=255) (e64:bits .and .i64 f 64=64) (e32:bits .and .i64 f 32=0) (e16:bits .and .i64 f 16=0) (d9:decide (9<a%16)=false) (d153:decide (153<a)=false) (p9:¬ 9<a%16) (p153:¬ 153<a) :
  Calls prog 191 #[.int .i64 a,.int .i64 f] w fun e w'=>e=.returned (.tuple #[.int .i64 ((a+256)%256),.int .i64 (fl (decide ((a+256)%256=0)) true false false)])/\w'=w:=by
 have ha:inB a 0 255=true:=decide_eq_true (by omega)
 have hf:inB f 0 255=true:=decide_eq_true (by omega)
 have q1:chz true 6 0=6:=rfl
 have q2:chz false 6 0=0:=rfl
 have q3:chz true 96 0=96:=rfl
 have q4:chz false 96 0=0:=rfl
 go_enter func191,ntmps191
 go_wp2_with (first|(go_at_call 107;refine (isByte_any _ _).mono ?_;rintro e w' ⟨rfl,rfl⟩)|(go_at_call 226;refine (flagIf_any _ _ _).mono ?_;rintro e w3 ⟨rfl,rfl⟩)|(go_at_call 115;refine (chosen_any _ _ _ _).mono ?_;rintro e w3 ⟨rfl,rfl⟩))
 go_ret2
 rw [or_daa1,beq_dec]
 refine ⟨ret_two (by omega) (fl_close (congrArg (fun x:Int=>decide (x=0)) (by omega))),rfl⟩
theorem implDaa_17 (a f:Int) (w:World) (a0:0<=a) (a1:a<=255) (f0:0<=f) (f1:f<=255) (e64:bits .and .i64 f 64=64) (e32:bits .and .i64 f 32=0) (e16:bits .and .i64 f 16=0) (d9:decide (9<a%16)=false) (d153:decide (153<a)=true) (p9:¬ 9<a%16) (p153:153<a) :
  Calls prog 191 #[.int .i64 a,.int .i64 f] w fun e w'=>e=.returned (.tuple #[.int .i64 ((a+256)%256),.int .i64 (fl (decide ((a+256)%256=0)) true false false)])/\w'=w:=by
 have ha:inB a 0 255=true:=decide_eq_true (by omega)
 have hf:inB f 0 255=true:=decide_eq_true (by omega)
 have q1:chz true 6 0=6:=rfl
 have q2:chz false 6 0=0:=rfl
 have q3:chz true 96 0=96:=rfl
 have q4:chz false 96 0=0:=rfl
 go_enter func191,ntmps191
 go_wp2_with (first|(go_at_call 107;refine (isByte_any _ _).mono ?_;rintro e w' ⟨rfl,rfl⟩)|(go_at_call 226;refine (flagIf_any _ _ _).mono ?_;rintro e w3 ⟨rfl,rfl⟩)|(go_at_call 115;refine (chosen_any _ _ _ _).mono ?_;rintro e w3 ⟨rfl,rfl⟩))
 go_ret2
 rw [or_daa1,beq_dec]
 refine ⟨ret_two (by omega) (fl_close (congrArg (fun x:Int=>decide (x=0)) (by omega))),rfl⟩
theorem implDaa_18 (a f:Int) (w:World) (a0:0<=a) (a1:a<=255) (f0:0<=f) (f1:f<=255) (e64:bits .and .i64 f 64=64) (e32:bits .and .i64 f 32=0) (e16:bits .and .i64 f 16=0) (d9:decide (9<a%16)=true) (d153:decide (153<a)=false) (p9:9<a%16) (p153:¬ 153<a) :
  Calls prog 191 #[.int .i64 a,.int .i64 f] w fun e w'=>e=.returned (.tuple #[.int .i64 ((a+256)%256),.int .i64 (fl (decide ((a+256)%256=0)) true false false)])/\w'=w:=by
 have ha:inB a 0 255=true:=decide_eq_true (by omega)
 have hf:inB f 0 255=true:=decide_eq_true (by omega)
 have q1:chz true 6 0=6:=rfl
 have q2:chz false 6 0=0:=rfl
 have q3:chz true 96 0=96:=rfl
 have q4:chz false 96 0=0:=rfl
 go_enter func191,ntmps191
 go_wp2_with (first|(go_at_call 107;refine (isByte_any _ _).mono ?_;rintro e w' ⟨rfl,rfl⟩)|(go_at_call 226;refine (flagIf_any _ _ _).mono ?_;rintro e w3 ⟨rfl,rfl⟩)|(go_at_call 115;refine (chosen_any _ _ _ _).mono ?_;rintro e w3 ⟨rfl,rfl⟩))
 go_ret2
 rw [or_daa1,beq_dec]
 refine ⟨ret_two (by omega) (fl_close (congrArg (fun x:Int=>decide (x=0)) (by omega))),rfl⟩
theorem implDaa_19 (a f:Int) (w:World) (a0:0<=a) (a1:a<=255) (f0:0<=f) (f1:f<=255) (e64:bits .and .i64 f 64=64) (e32:bits .and .i64 f 32=0) (e16:bits .and .i64 f 16=0) (d9:decide (9<a%16)=true) (d153:decide (153<a)=true) (p9:9<a%16) (p153:153<a) :
  Calls prog 191 #[.int .i64 a,.int .i64 f] w fun e w'=>e=.returned (.tuple #[.int .i64 ((a+256)%256),.int .i64 (fl (decide ((a+256)%256=0)) true false false)])/\w'=w:=by
 have ha:inB a 0 255=true:=decide_eq_true (by omega)
 have hf:inB f 0 255=true:=decide_eq_true (by omega)
 have q1:chz true 6 0=6:=rfl
 have q2:chz false 6 0=0:=rfl
 have q3:chz true 96 0=96:=rfl
 have q4:chz false 96 0=0:=rfl
 go_enter func191,ntmps191
 go_wp2_with (first|(go_at_call 107;refine (isByte_any _ _).mono ?_;rintro e w' ⟨rfl,rfl⟩)|(go_at_call 226;refine (flagIf_any _ _ _).mono ?_;rintro e w3 ⟨rfl,rfl⟩)|(go_at_call 115;refine (chosen_any _ _ _ _).mono ?_;rintro e w3 ⟨rfl,rfl⟩))
 go_ret2
 rw [or_daa1,beq_dec]
 refine ⟨ret_two (by omega) (fl_close (congrArg (fun x:Int=>decide (x=0)) (by omega))),rfl⟩
theorem implDaa_20 (a f:Int) (w:World) (a0:0<=a) (a1:a<=255) (f0:0<=f) (f1:f<=255) (e64:bits .and .i64 f 64=64) (e32:bits .and .i64 f 32=0) (e16:bits .and .i64 f 16=16) (d9:decide (9<a%16)=false) (d153:decide (153<a)=false) (p9:¬ 9<a%16) (p153:¬ 153<a) :
  Calls prog 191 #[.int .i64 a,.int .i64 f] w fun e w'=>e=.returned (.tuple #[.int .i64 ((a+160)%256),.int .i64 (fl (decide ((a+160)%256=0)) true false true)])/\w'=w:=by
 have ha:inB a 0 255=true:=decide_eq_true (by omega)
 have hf:inB f 0 255=true:=decide_eq_true (by omega)
 have q1:chz true 6 0=6:=rfl
 have q2:chz false 6 0=0:=rfl
 have q3:chz true 96 0=96:=rfl
 have q4:chz false 96 0=0:=rfl
 go_enter func191,ntmps191
 go_wp2_with (first|(go_at_call 107;refine (isByte_any _ _).mono ?_;rintro e w' ⟨rfl,rfl⟩)|(go_at_call 226;refine (flagIf_any _ _ _).mono ?_;rintro e w3 ⟨rfl,rfl⟩)|(go_at_call 115;refine (chosen_any _ _ _ _).mono ?_;rintro e w3 ⟨rfl,rfl⟩))
 go_ret2
 rw [or_daa1,beq_dec]
 refine ⟨ret_two (by omega) (fl_close (congrArg (fun x:Int=>decide (x=0)) (by omega))),rfl⟩
theorem implDaa_21 (a f:Int) (w:World) (a0:0<=a) (a1:a<=255) (f0:0<=f) (f1:f<=255) (e64:bits .and .i64 f 64=64) (e32:bits .and .i64 f 32=0) (e16:bits .and .i64 f 16=16) (d9:decide (9<a%16)=false) (d153:decide (153<a)=true) (p9:¬ 9<a%16) (p153:153<a) :
  Calls prog 191 #[.int .i64 a,.int .i64 f] w fun e w'=>e=.returned (.tuple #[.int .i64 ((a+160)%256),.int .i64 (fl (decide ((a+160)%256=0)) true false true)])/\w'=w:=by
 have ha:inB a 0 255=true:=decide_eq_true (by omega)
 have hf:inB f 0 255=true:=decide_eq_true (by omega)
 have q1:chz true 6 0=6:=rfl
 have q2:chz false 6 0=0:=rfl
 have q3:chz true 96 0=96:=rfl
 have q4:chz false 96 0=0:=rfl
 go_enter func191,ntmps191
 go_wp2_with (first|(go_at_call 107;refine (isByte_any _ _).mono ?_;rintro e w' ⟨rfl,rfl⟩)|(go_at_call 226;refine (flagIf_any _ _ _).mono ?_;rintro e w3 ⟨rfl,rfl⟩)|(go_at_call 115;refine (chosen_any _ _ _ _).mono ?_;rintro e w3 ⟨rfl,rfl⟩))
 go_ret2
 rw [or_daa1,beq_dec]
 refine ⟨ret_two (by omega) (fl_close (congrArg (fun x:Int=>decide (x=0)) (by omega))),rfl⟩
theorem implDaa_22 (a f:Int) (w:World) (a0:0<=a) (a1:a<=255) (f0:0<=f) (f1:f<=255) (e64:bits .and .i64 f 64=64) (e32:bits .and .i64 f 32=0) (e16:bits .and .i64 f 16=16) (d9:decide (9<a%16)=true) (d153:decide (153<a)=false) (p9:9<a%16) (p153:¬ 153<a) :
  Calls prog 191 #[.int .i64 a,.int .i64 f] w fun e w'=>e=.returned (.tuple #[.int .i64 ((a+160)%256),.int .i64 (fl (decide ((a+160)%256=0)) true false true)])/\w'=w:=by
 have ha:inB a 0 255=true:=decide_eq_true (by omega)
 have hf:inB f 0 255=true:=decide_eq_true (by omega)
 have q1:chz true 6 0=6:=rfl
 have q2:chz false 6 0=0:=rfl
 have q3:chz true 96 0=96:=rfl
 have q4:chz false 96 0=0:=rfl
 go_enter func191,ntmps191
 go_wp2_with (first|(go_at_call 107;refine (isByte_any _ _).mono ?_;rintro e w' ⟨rfl,rfl⟩)|(go_at_call 226;refine (flagIf_any _ _ _).mono ?_;rintro e w3 ⟨rfl,rfl⟩)|(go_at_call 115;refine (chosen_any _ _ _ _).mono ?_;rintro e w3 ⟨rfl,rfl⟩))
 go_ret2
 rw [or_daa1,beq_dec]
 refine ⟨ret_two (by omega) (fl_close (congrArg (fun x:Int=>decide (x=0)) (by omega))),rfl⟩
theorem implDaa_23 (a f:Int) (w:World) (a0:0<=a) (a1:a<=255) (f0:0<=f) (f1:f<=255) (e64:bits .and .i64 f 64=64) (e32:bits .and .i64 f 32=0) (e16:bits .and .i64 f 16=16) (d9:decide (9<a%16)=true) (d153:decide (153<a)=true) (p9:9<a%16) (p153:153<a) :
  Calls prog 191 #[.int .i64 a,.int .i64 f] w fun e w'=>e=.returned (.tuple #[.int .i64 ((a+160)%256),.int .i64 (fl (decide ((a+160)%256=0)) true false true)])/\w'=w:=by
 have ha:inB a 0 255=true:=decide_eq_true (by omega)
 have hf:inB f 0 255=true:=decide_eq_true (by omega)
 have q1:chz true 6 0=6:=rfl
 have q2:chz false 6 0=0:=rfl
 have q3:chz true 96 0=96:=rfl
 have q4:chz false 96 0=0:=rfl
 go_enter func191,ntmps191
 go_wp2_with (first|(go_at_call 107;refine (isByte_any _ _).mono ?_;rintro e w' ⟨rfl,rfl⟩)|(go_at_call 226;refine (flagIf_any _ _ _).mono ?_;rintro e w3 ⟨rfl,rfl⟩)|(go_at_call 115;refine (chosen_any _ _ _ _).mono ?_;rintro e w3 ⟨rfl,rfl⟩))
 go_ret2
 rw [or_daa1,beq_dec]
 refine ⟨ret_two (by omega) (fl_close (congrArg (fun x:Int=>decide (x=0)) (by omega))),rfl⟩
theorem implDaa_24 (a f:Int) (w:World) (a0:0<=a) (a1:a<=255) (f0:0<=f) (f1:f<=255) (e64:bits .and .i64 f 64=64) (e32:bits .and .i64 f 32=32) (e16:bits .and .i64 f 16=0) (d9:decide (9<a%16)=false) (d153:decide (153<a)=false) (p9:¬ 9<a%16) (p153:¬ 153<a) :
  Calls prog 191 #[.int .i64 a,.int .i64 f] w fun e w'=>e=.returned (.tuple #[.int .i64 ((a+250)%256),.int .i64 (fl (decide ((a+250)%256=0)) true false false)])/\w'=w:=by
 have ha:inB a 0 255=true:=decide_eq_true (by omega)
 have hf:inB f 0 255=true:=decide_eq_true (by omega)
 have q1:chz true 6 0=6:=rfl
 have q2:chz false 6 0=0:=rfl
 have q3:chz true 96 0=96:=rfl
 have q4:chz false 96 0=0:=rfl
 go_enter func191,ntmps191
 go_wp2_with (first|(go_at_call 107;refine (isByte_any _ _).mono ?_;rintro e w' ⟨rfl,rfl⟩)|(go_at_call 226;refine (flagIf_any _ _ _).mono ?_;rintro e w3 ⟨rfl,rfl⟩)|(go_at_call 115;refine (chosen_any _ _ _ _).mono ?_;rintro e w3 ⟨rfl,rfl⟩))
 go_ret2
 rw [or_daa1,beq_dec]
 refine ⟨ret_two (by omega) (fl_close (congrArg (fun x:Int=>decide (x=0)) (by omega))),rfl⟩
theorem implDaa_25 (a f:Int) (w:World) (a0:0<=a) (a1:a<=255) (f0:0<=f) (f1:f<=255) (e64:bits .and .i64 f 64=64) (e32:bits .and .i64 f 32=32) (e16:bits .and .i64 f 16=0) (d9:decide (9<a%16)=false) (d153:decide (153<a)=true) (p9:¬ 9<a%16) (p153:153<a) :
  Calls prog 191 #[.int .i64 a,.int .i64 f] w fun e w'=>e=.returned (.tuple #[.int .i64 ((a+250)%256),.int .i64 (fl (decide ((a+250)%256=0)) true false false)])/\w'=w:=by
 have ha:inB a 0 255=true:=decide_eq_true (by omega)
 have hf:inB f 0 255=true:=decide_eq_true (by omega)
 have q1:chz true 6 0=6:=rfl
 have q2:chz false 6 0=0:=rfl
 have q3:chz true 96 0=96:=rfl
 have q4:chz false 96 0=0:=rfl
 go_enter func191,ntmps191
 go_wp2_with (first|(go_at_call 107;refine (isByte_any _ _).mono ?_;rintro e w' ⟨rfl,rfl⟩)|(go_at_call 226;refine (flagIf_any _ _ _).mono ?_;rintro e w3 ⟨rfl,rfl⟩)|(go_at_call 115;refine (chosen_any _ _ _ _).mono ?_;rintro e w3 ⟨rfl,rfl⟩))
 go_ret2
 rw [or_daa1,beq_dec]
 refine ⟨ret_two (by omega) (fl_close (congrArg (fun x:Int=>decide (x=0)) (by omega))),rfl⟩
theorem implDaa_26 (a f:Int) (w:World) (a0:0<=a) (a1:a<=255) (f0:0<=f) (f1:f<=255) (e64:bits .and .i64 f 64=64) (e32:bits .and .i64 f 32=32) (e16:bits .and .i64 f 16=0) (d9:decide (9<a%16)=true) (d153:decide (153<a)=false) (p9:9<a%16) (p153:¬ 153<a) :
  Calls prog 191 #[.int .i64 a,.int .i64 f] w fun e w'=>e=.returned (.tuple #[.int .i64 ((a+250)%256),.int .i64 (fl (decide ((a+250)%256=0)) true false false)])/\w'=w:=by
 have ha:inB a 0 255=true:=decide_eq_true (by omega)
 have hf:inB f 0 255=true:=decide_eq_true (by omega)
 have q1:chz true 6 0=6:=rfl
 have q2:chz false 6 0=0:=rfl
 have q3:chz true 96 0=96:=rfl
 have q4:chz false 96 0=0:=rfl
 go_enter func191,ntmps191
 go_wp2_with (first|(go_at_call 107;refine (isByte_any _ _).mono ?_;rintro e w' ⟨rfl,rfl⟩)|(go_at_call 226;refine (flagIf_any _ _ _).mono ?_;rintro e w3 ⟨rfl,rfl⟩)|(go_at_call 115;refine (chosen_any _ _ _ _).mono ?_;rintro e w3 ⟨rfl,rfl⟩))
 go_ret2
 rw [or_daa1,beq_dec]
 refine ⟨ret_two (by omega) (fl_close (congrArg (fun x:Int=>decide (x=0)) (by omega))),rfl⟩
theorem implDaa_27 (a f:Int) (w:World) (a0:0<=a) (a1:a<=255) (f0:0<=f) (f1:f<=255) (e64:bits .and .i64 f 64=64) (e32:bits .and .i64 f 32=32) (e16:bits .and .i64 f 16=0) (d9:decide (9<a%16)=true) (d153:decide (153<a)=true) (p9:9<a%16) (p153:153<a) :
  Calls prog 191 #[.int .i64 a,.int .i64 f] w fun e w'=>e=.returned (.tuple #[.int .i64 ((a+250)%256),.int .i64 (fl (decide ((a+250)%256=0)) true false false)])/\w'=w:=by
 have ha:inB a 0 255=true:=decide_eq_true (by omega)
 have hf:inB f 0 255=true:=decide_eq_true (by omega)
 have q1:chz true 6 0=6:=rfl
 have q2:chz false 6 0=0:=rfl
 have q3:chz true 96 0=96:=rfl
 have q4:chz false 96 0=0:=rfl
 go_enter func191,ntmps191
 go_wp2_with (first|(go_at_call 107;refine (isByte_any _ _).mono ?_;rintro e w' ⟨rfl,rfl⟩)|(go_at_call 226;refine (flagIf_any _ _ _).mono ?_;rintro e w3 ⟨rfl,rfl⟩)|(go_at_call 115;refine (chosen_any _ _ _ _).mono ?_;rintro e w3 ⟨rfl,rfl⟩))
 go_ret2
 rw [or_daa1,beq_dec]
 refine ⟨ret_two (by omega) (fl_close (congrArg (fun x:Int=>decide (x=0)) (by omega))),rfl⟩
theorem implDaa_28 (a f:Int) (w:World) (a0:0<=a) (a1:a<=255) (f0:0<=f) (f1:f<=255) (e64:bits .and .i64 f 64=64) (e32:bits .and .i64 f 32=32) (e16:bits .and .i64 f 16=16) (d9:decide (9<a%16)=false) (d153:decide (153<a)=false) (p9:¬ 9<a%16) (p153:¬ 153<a) :
  Calls prog 191 #[.int .i64 a,.int .i64 f] w fun e w'=>e=.returned (.tuple #[.int .i64 ((a+154)%256),.int .i64 (fl (decide ((a+154)%256=0)) true false true)])/\w'=w:=by
 have ha:inB a 0 255=true:=decide_eq_true (by omega)
 have hf:inB f 0 255=true:=decide_eq_true (by omega)
 have q1:chz true 6 0=6:=rfl
 have q2:chz false 6 0=0:=rfl
 have q3:chz true 96 0=96:=rfl
 have q4:chz false 96 0=0:=rfl
 go_enter func191,ntmps191
 go_wp2_with (first|(go_at_call 107;refine (isByte_any _ _).mono ?_;rintro e w' ⟨rfl,rfl⟩)|(go_at_call 226;refine (flagIf_any _ _ _).mono ?_;rintro e w3 ⟨rfl,rfl⟩)|(go_at_call 115;refine (chosen_any _ _ _ _).mono ?_;rintro e w3 ⟨rfl,rfl⟩))
 go_ret2
 rw [or_daa1,beq_dec]
 refine ⟨ret_two (by omega) (fl_close (congrArg (fun x:Int=>decide (x=0)) (by omega))),rfl⟩
theorem implDaa_29 (a f:Int) (w:World) (a0:0<=a) (a1:a<=255) (f0:0<=f) (f1:f<=255) (e64:bits .and .i64 f 64=64) (e32:bits .and .i64 f 32=32) (e16:bits .and .i64 f 16=16) (d9:decide (9<a%16)=false) (d153:decide (153<a)=true) (p9:¬ 9<a%16) (p153:153<a) :
  Calls prog 191 #[.int .i64 a,.int .i64 f] w fun e w'=>e=.returned (.tuple #[.int .i64 ((a+154)%256),.int .i64 (fl (decide ((a+154)%256=0)) true false true)])/\w'=w:=by
 have ha:inB a 0 255=true:=decide_eq_true (by omega)
 have hf:inB f 0 255=true:=decide_eq_true (by omega)
 have q1:chz true 6 0=6:=rfl
 have q2:chz false 6 0=0:=rfl
 have q3:chz true 96 0=96:=rfl
 have q4:chz false 96 0=0:=rfl
 go_enter func191,ntmps191
 go_wp2_with (first|(go_at_call 107;refine (isByte_any _ _).mono ?_;rintro e w' ⟨rfl,rfl⟩)|(go_at_call 226;refine (flagIf_any _ _ _).mono ?_;rintro e w3 ⟨rfl,rfl⟩)|(go_at_call 115;refine (chosen_any _ _ _ _).mono ?_;rintro e w3 ⟨rfl,rfl⟩))
 go_ret2
 rw [or_daa1,beq_dec]
 refine ⟨ret_two (by omega) (fl_close (congrArg (fun x:Int=>decide (x=0)) (by omega))),rfl⟩
theorem implDaa_30 (a f:Int) (w:World) (a0:0<=a) (a1:a<=255) (f0:0<=f) (f1:f<=255) (e64:bits .and .i64 f 64=64) (e32:bits .and .i64 f 32=32) (e16:bits .and .i64 f 16=16) (d9:decide (9<a%16)=true) (d153:decide (153<a)=false) (p9:9<a%16) (p153:¬ 153<a) :
  Calls prog 191 #[.int .i64 a,.int .i64 f] w fun e w'=>e=.returned (.tuple #[.int .i64 ((a+154)%256),.int .i64 (fl (decide ((a+154)%256=0)) true false true)])/\w'=w:=by
 have ha:inB a 0 255=true:=decide_eq_true (by omega)
 have hf:inB f 0 255=true:=decide_eq_true (by omega)
 have q1:chz true 6 0=6:=rfl
 have q2:chz false 6 0=0:=rfl
 have q3:chz true 96 0=96:=rfl
 have q4:chz false 96 0=0:=rfl
 go_enter func191,ntmps191
 go_wp2_with (first|(go_at_call 107;refine (isByte_any _ _).mono ?_;rintro e w' ⟨rfl,rfl⟩)|(go_at_call 226;refine (flagIf_any _ _ _).mono ?_;rintro e w3 ⟨rfl,rfl⟩)|(go_at_call 115;refine (chosen_any _ _ _ _).mono ?_;rintro e w3 ⟨rfl,rfl⟩))
 go_ret2
 rw [or_daa1,beq_dec]
 refine ⟨ret_two (by omega) (fl_close (congrArg (fun x:Int=>decide (x=0)) (by omega))),rfl⟩
theorem implDaa_31 (a f:Int) (w:World) (a0:0<=a) (a1:a<=255) (f0:0<=f) (f1:f<=255) (e64:bits .and .i64 f 64=64) (e32:bits .and .i64 f 32=32) (e16:bits .and .i64 f 16=16) (d9:decide (9<a%16)=true) (d153:decide (153<a)=true) (p9:9<a%16) (p153:153<a) :
  Calls prog 191 #[.int .i64 a,.int .i64 f] w fun e w'=>e=.returned (.tuple #[.int .i64 ((a+154)%256),.int .i64 (fl (decide ((a+154)%256=0)) true false true)])/\w'=w:=by
 have ha:inB a 0 255=true:=decide_eq_true (by omega)
 have hf:inB f 0 255=true:=decide_eq_true (by omega)
 have q1:chz true 6 0=6:=rfl
 have q2:chz false 6 0=0:=rfl
 have q3:chz true 96 0=96:=rfl
 have q4:chz false 96 0=0:=rfl
 go_enter func191,ntmps191
 go_wp2_with (first|(go_at_call 107;refine (isByte_any _ _).mono ?_;rintro e w' ⟨rfl,rfl⟩)|(go_at_call 226;refine (flagIf_any _ _ _).mono ?_;rintro e w3 ⟨rfl,rfl⟩)|(go_at_call 115;refine (chosen_any _ _ _ _).mono ?_;rintro e w3 ⟨rfl,rfl⟩))
 go_ret2
 rw [or_daa1,beq_dec]
 refine ⟨ret_two (by omega) (fl_close (congrArg (fun x:Int=>decide (x=0)) (by omega))),rfl⟩
theorem implDaa_any (a f:Int) (w:World) :
  Calls prog 191 #[.int .i64 a,.int .i64 f] w fun e w'=>e=.returned (.tuple #[.int .i64 (daa a f).1,.int .i64 (daa a f).2])/\w'=w:=by
 unfold daa
 cases ha:inB a 0 255 <;> cases hf:inB f 0 255
 case true.true =>
  obtain ⟨a0,a1⟩:=of_decide_eq_true ha
  obtain ⟨f0,f1⟩:=of_decide_eq_true hf
  show Calls _ _ _ _ fun e w'=>e=.returned (.tuple #[.int .i64 (daaR a f).1,.int .i64 (daaR a f).2])/\w'=w
  obtain ⟨-,e64,e32,e16⟩:=ands f0 f1
  unfold daaR
  cases hn:nB f <;> cases hh:hB f <;> cases hc:cB f <;> cases d9:decide (9<a%16) <;> cases d153:decide (153<a) <;> rw [hn] at e64 <;> rw [hh] at e32 <;> rw [hc] at e16
  ·exact implDaa_0 a f w a0 a1 f0 f1 e64 e32 e16 d9 d153 (of_decide_eq_false d9) (of_decide_eq_false d153)
  ·exact implDaa_1 a f w a0 a1 f0 f1 e64 e32 e16 d9 d153 (of_decide_eq_false d9) (of_decide_eq_true d153)
  ·exact implDaa_2 a f w a0 a1 f0 f1 e64 e32 e16 d9 d153 (of_decide_eq_true d9) (of_decide_eq_false d153)
  ·exact implDaa_3 a f w a0 a1 f0 f1 e64 e32 e16 d9 d153 (of_decide_eq_true d9) (of_decide_eq_true d153)
  ·exact implDaa_4 a f w a0 a1 f0 f1 e64 e32 e16 d9 d153 (of_decide_eq_false d9) (of_decide_eq_false d153)
  ·exact implDaa_5 a f w a0 a1 f0 f1 e64 e32 e16 d9 d153 (of_decide_eq_false d9) (of_decide_eq_true d153)
  ·exact implDaa_6 a f w a0 a1 f0 f1 e64 e32 e16 d9 d153 (of_decide_eq_true d9) (of_decide_eq_false d153)
  ·exact implDaa_7 a f w a0 a1 f0 f1 e64 e32 e16 d9 d153 (of_decide_eq_true d9) (of_decide_eq_true d153)
  ·exact implDaa_8 a f w a0 a1 f0 f1 e64 e32 e16 d9 d153 (of_decide_eq_false d9) (of_decide_eq_false d153)
  ·exact implDaa_9 a f w a0 a1 f0 f1 e64 e32 e16 d9 d153 (of_decide_eq_false d9) (of_decide_eq_true d153)
  ·exact implDaa_10 a f w a0 a1 f0 f1 e64 e32 e16 d9 d153 (of_decide_eq_true d9) (of_decide_eq_false d153)
  ·exact implDaa_11 a f w a0 a1 f0 f1 e64 e32 e16 d9 d153 (of_decide_eq_true d9) (of_decide_eq_true d153)
  ·exact implDaa_12 a f w a0 a1 f0 f1 e64 e32 e16 d9 d153 (of_decide_eq_false d9) (of_decide_eq_false d153)
  ·exact implDaa_13 a f w a0 a1 f0 f1 e64 e32 e16 d9 d153 (of_decide_eq_false d9) (of_decide_eq_true d153)
  ·exact implDaa_14 a f w a0 a1 f0 f1 e64 e32 e16 d9 d153 (of_decide_eq_true d9) (of_decide_eq_false d153)
  ·exact implDaa_15 a f w a0 a1 f0 f1 e64 e32 e16 d9 d153 (of_decide_eq_true d9) (of_decide_eq_true d153)
  ·exact implDaa_16 a f w a0 a1 f0 f1 e64 e32 e16 d9 d153 (of_decide_eq_false d9) (of_decide_eq_false d153)
  ·exact implDaa_17 a f w a0 a1 f0 f1 e64 e32 e16 d9 d153 (of_decide_eq_false d9) (of_decide_eq_true d153)
  ·exact implDaa_18 a f w a0 a1 f0 f1 e64 e32 e16 d9 d153 (of_decide_eq_true d9) (of_decide_eq_false d153)
  ·exact implDaa_19 a f w a0 a1 f0 f1 e64 e32 e16 d9 d153 (of_decide_eq_true d9) (of_decide_eq_true d153)
  ·exact implDaa_20 a f w a0 a1 f0 f1 e64 e32 e16 d9 d153 (of_decide_eq_false d9) (of_decide_eq_false d153)
  ·exact implDaa_21 a f w a0 a1 f0 f1 e64 e32 e16 d9 d153 (of_decide_eq_false d9) (of_decide_eq_true d153)
  ·exact implDaa_22 a f w a0 a1 f0 f1 e64 e32 e16 d9 d153 (of_decide_eq_true d9) (of_decide_eq_false d153)
  ·exact implDaa_23 a f w a0 a1 f0 f1 e64 e32 e16 d9 d153 (of_decide_eq_true d9) (of_decide_eq_true d153)
  ·exact implDaa_24 a f w a0 a1 f0 f1 e64 e32 e16 d9 d153 (of_decide_eq_false d9) (of_decide_eq_false d153)
  ·exact implDaa_25 a f w a0 a1 f0 f1 e64 e32 e16 d9 d153 (of_decide_eq_false d9) (of_decide_eq_true d153)
  ·exact implDaa_26 a f w a0 a1 f0 f1 e64 e32 e16 d9 d153 (of_decide_eq_true d9) (of_decide_eq_false d153)
  ·exact implDaa_27 a f w a0 a1 f0 f1 e64 e32 e16 d9 d153 (of_decide_eq_true d9) (of_decide_eq_true d153)
  ·exact implDaa_28 a f w a0 a1 f0 f1 e64 e32 e16 d9 d153 (of_decide_eq_false d9) (of_decide_eq_false d153)
  ·exact implDaa_29 a f w a0 a1 f0 f1 e64 e32 e16 d9 d153 (of_decide_eq_false d9) (of_decide_eq_true d153)
  ·exact implDaa_30 a f w a0 a1 f0 f1 e64 e32 e16 d9 d153 (of_decide_eq_true d9) (of_decide_eq_false d153)
  ·exact implDaa_31 a f w a0 a1 f0 f1 e64 e32 e16 d9 d153 (of_decide_eq_true d9) (of_decide_eq_true d153)
 all_goals
  go_enter func191,ntmps191
  go_wp2_with (go_at_call 107;refine (isByte_any _ _).mono ?_;rintro e w' ⟨rfl,rfl⟩)
  go_ret2
  exact ⟨rfl,rfl⟩
end Go.Proofs.YtnjolmbdbgbmbaaGreatDoor.ReckD
namespace Go.Proofs.YtnjolmbdbgbmbaaGreatDoor.TurnS
open Signed (inB ret_int ret_bool isByte_any l1In_any)
open Reck ReckS ReckM
def trnP (op v c:Int):Int × Int :=
 if op=0 then (v*2%256+v / 128,v / 128) else
 if op=1 then (v / 2+128*(v%2),v%2) else
 if op=2 then (v*2%256+c,v / 128) else
 if op=3 then (v / 2+128*c,v%2) else
 if op=4 then (v*2%256,v / 128) else
 if op=5 then (v / 2+128*(v / 128),v%2) else
 if op=6 then (v%16*16+v / 16,0) else
 (v / 2,v%2)
def trnR (op v f:Int):Int × Int:=((trnP op v (cy f)).1,fl (decide ((trnP op v (cy f)).1=0)) false false (decide ((trnP op v (cy f)).2=1)))
def trn (op v f:Int):Int × Int:=if (inB op 0 7 && inB v 0 255 && inB f 0 255)=true then trnR op v f else (0,0)
theorem or_trn (z c:Bool):bits .or .i64 (chz z 128 0) (chz c 16 0)=fl z false false c:=by cases z <;> cases c <;> decide
end Go.Proofs.YtnjolmbdbgbmbaaGreatDoor.TurnS
