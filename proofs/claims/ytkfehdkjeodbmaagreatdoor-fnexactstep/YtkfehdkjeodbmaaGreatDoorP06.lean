/-
  Contracts and facts of ours, joined: ReckD.
-/
import Derived.Test.YtkfehdkjeodbmaaGreatDoorP05
import Derived.Test.YtkfehdkjeodbmaaGreatDoorP00
set_option linter.unusedVariables false
set_option linter.unusedSimpArgs false
set_option maxRecDepth 20000
set_option maxHeartbeats 8000000
open Go.ChangeShapes Go.WideShapes Go.ChangeAt Go.RowKit
open Go.Proofs.Tryz
namespace Go.Proofs.YtkfehdkjeodbmaaGreatDoor.ReckD
open Signed (inB ret_int ret_bool isByte_any l1In_any)
open Reck ReckS ReckM
def daaK (n h c p q:Bool):Int:=let k:=(if (h || (!n && p))=true then 6 else 0)+(if (c || (!n && q))=true then 96 else 0);if n=true then 256-k else k
def daaP (a:Int) (n h c p q:Bool):Int × Int:=((a+daaK n h c p q)%256,fl (decide ((a+daaK n h c p q)%256=0)) n false (c || (!n && q)))
def daaR (a f:Int):Int × Int:=daaP a (nB f) (hB f) (cB f) (decide (9<a%16)) (decide (153<a))
def daa (a f:Int):Int × Int:=if (inB a 0 255 && inB f 0 255)=true then daaR a f else (0,0)
theorem or_daa0 (z c:Bool):bits .or .i64 (bits .or .i64 (chz z 128 0) 0) (chz c 16 0)=fl z false false c:=by cases z <;> cases c <;> decide
theorem or_daa1 (z c:Bool):bits .or .i64 (bits .or .i64 (chz z 128 0) 64) (chz c 16 0)=fl z true false c:=by cases z <;> cases c <;> decide
theorem fl_close {z z' n c:Bool} (e0:z=z'):fl z n false c=fl z' n false c:=by rw [e0]
theorem implDaa_0 (a f:Int) (w:World) (a0:0<=a) (a1:a<=255) (f0:0<=f) (f1:f<=255) (e64:bits .and .i64 f 64=0) (e32:bits .and .i64 f 32=0) (e16:bits .and .i64 f 16=0) (d9:decide (9<a%16)=false) (d153:decide (153<a)=false) (p9:¬ 9<a%16) (p153:¬ 153<a) :
  Calls prog 156 #[.int .i64 a,.int .i64 f] w fun e w'=>e=.returned (.tuple #[.int .i64 ((a+0)%256),.int .i64 (fl (decide ((a+0)%256=0)) false false false)])/\w'=w:=by
 have ha:inB a 0 255=true:=decide_eq_true (by omega)
 have hf:inB f 0 255=true:=decide_eq_true (by omega)
 have q1:chz true 6 0=6:=rfl
 have q2:chz false 6 0=0:=rfl
 have q3:chz true 96 0=96:=rfl
 have q4:chz false 96 0=0:=rfl
 go_enter func156,ntmps156
 go_wp2_with (first|(go_at_call 94;refine (isByte_any _ _).mono ?_;rintro e w' ⟨rfl,rfl⟩)|(go_at_call 189;refine (flagIf_any _ _ _).mono ?_;rintro e w3 ⟨rfl,rfl⟩)|(go_at_call 117;refine (chosen_any _ _ _ _).mono ?_;rintro e w3 ⟨rfl,rfl⟩))
 go_ret2
 rw [or_daa0,beq_dec]
 refine ⟨ret_two (by omega) (fl_close (congrArg (fun x:Int=>decide (x=0)) (by omega))),rfl⟩
theorem implDaa_1 (a f:Int) (w:World) (a0:0<=a) (a1:a<=255) (f0:0<=f) (f1:f<=255) (e64:bits .and .i64 f 64=0) (e32:bits .and .i64 f 32=0) (e16:bits .and .i64 f 16=0) (d9:decide (9<a%16)=false) (d153:decide (153<a)=true) (p9:¬ 9<a%16) (p153:153<a) :
  Calls prog 156 #[.int .i64 a,.int .i64 f] w fun e w'=>e=.returned (.tuple #[.int .i64 ((a+96)%256),.int .i64 (fl (decide ((a+96)%256=0)) false false true)])/\w'=w:=by
 have ha:inB a 0 255=true:=decide_eq_true (by omega)
 have hf:inB f 0 255=true:=decide_eq_true (by omega)
 have q1:chz true 6 0=6:=rfl
 have q2:chz false 6 0=0:=rfl
 have q3:chz true 96 0=96:=rfl
 have q4:chz false 96 0=0:=rfl
 go_enter func156,ntmps156
 go_wp2_with (first|(go_at_call 94;refine (isByte_any _ _).mono ?_;rintro e w' ⟨rfl,rfl⟩)|(go_at_call 189;refine (flagIf_any _ _ _).mono ?_;rintro e w3 ⟨rfl,rfl⟩)|(go_at_call 117;refine (chosen_any _ _ _ _).mono ?_;rintro e w3 ⟨rfl,rfl⟩))
 go_ret2
 rw [or_daa0,beq_dec]
 refine ⟨ret_two (by omega) (fl_close (congrArg (fun x:Int=>decide (x=0)) (by omega))),rfl⟩
theorem implDaa_2 (a f:Int) (w:World) (a0:0<=a) (a1:a<=255) (f0:0<=f) (f1:f<=255) (e64:bits .and .i64 f 64=0) (e32:bits .and .i64 f 32=0) (e16:bits .and .i64 f 16=0) (d9:decide (9<a%16)=true) (d153:decide (153<a)=false) (p9:9<a%16) (p153:¬ 153<a) :
  Calls prog 156 #[.int .i64 a,.int .i64 f] w fun e w'=>e=.returned (.tuple #[.int .i64 ((a+6)%256),.int .i64 (fl (decide ((a+6)%256=0)) false false false)])/\w'=w:=by
 have ha:inB a 0 255=true:=decide_eq_true (by omega)
 have hf:inB f 0 255=true:=decide_eq_true (by omega)
 have q1:chz true 6 0=6:=rfl
 have q2:chz false 6 0=0:=rfl
 have q3:chz true 96 0=96:=rfl
 have q4:chz false 96 0=0:=rfl
 go_enter func156,ntmps156
 go_wp2_with (first|(go_at_call 94;refine (isByte_any _ _).mono ?_;rintro e w' ⟨rfl,rfl⟩)|(go_at_call 189;refine (flagIf_any _ _ _).mono ?_;rintro e w3 ⟨rfl,rfl⟩)|(go_at_call 117;refine (chosen_any _ _ _ _).mono ?_;rintro e w3 ⟨rfl,rfl⟩))
 go_ret2
 rw [or_daa0,beq_dec]
 refine ⟨ret_two (by omega) (fl_close (congrArg (fun x:Int=>decide (x=0)) (by omega))),rfl⟩
theorem implDaa_3 (a f:Int) (w:World) (a0:0<=a) (a1:a<=255) (f0:0<=f) (f1:f<=255) (e64:bits .and .i64 f 64=0) (e32:bits .and .i64 f 32=0) (e16:bits .and .i64 f 16=0) (d9:decide (9<a%16)=true) (d153:decide (153<a)=true) (p9:9<a%16) (p153:153<a) :
  Calls prog 156 #[.int .i64 a,.int .i64 f] w fun e w'=>e=.returned (.tuple #[.int .i64 ((a+102)%256),.int .i64 (fl (decide ((a+102)%256=0)) false false true)])/\w'=w:=by
 have ha:inB a 0 255=true:=decide_eq_true (by omega)
 have hf:inB f 0 255=true:=decide_eq_true (by omega)
 have q1:chz true 6 0=6:=rfl
 have q2:chz false 6 0=0:=rfl
 have q3:chz true 96 0=96:=rfl
 have q4:chz false 96 0=0:=rfl
 go_enter func156,ntmps156
 go_wp2_with (first|(go_at_call 94;refine (isByte_any _ _).mono ?_;rintro e w' ⟨rfl,rfl⟩)|(go_at_call 189;refine (flagIf_any _ _ _).mono ?_;rintro e w3 ⟨rfl,rfl⟩)|(go_at_call 117;refine (chosen_any _ _ _ _).mono ?_;rintro e w3 ⟨rfl,rfl⟩))
 go_ret2
 rw [or_daa0,beq_dec]
 refine ⟨ret_two (by omega) (fl_close (congrArg (fun x:Int=>decide (x=0)) (by omega))),rfl⟩
theorem implDaa_4 (a f:Int) (w:World) (a0:0<=a) (a1:a<=255) (f0:0<=f) (f1:f<=255) (e64:bits .and .i64 f 64=0) (e32:bits .and .i64 f 32=0) (e16:bits .and .i64 f 16=16) (d9:decide (9<a%16)=false) (d153:decide (153<a)=false) (p9:¬ 9<a%16) (p153:¬ 153<a) :
  Calls prog 156 #[.int .i64 a,.int .i64 f] w fun e w'=>e=.returned (.tuple #[.int .i64 ((a+96)%256),.int .i64 (fl (decide ((a+96)%256=0)) false false true)])/\w'=w:=by
 have ha:inB a 0 255=true:=decide_eq_true (by omega)
 have hf:inB f 0 255=true:=decide_eq_true (by omega)
 have q1:chz true 6 0=6:=rfl
 have q2:chz false 6 0=0:=rfl
 have q3:chz true 96 0=96:=rfl
 have q4:chz false 96 0=0:=rfl
 go_enter func156,ntmps156
 go_wp2_with (first|(go_at_call 94;refine (isByte_any _ _).mono ?_;rintro e w' ⟨rfl,rfl⟩)|(go_at_call 189;refine (flagIf_any _ _ _).mono ?_;rintro e w3 ⟨rfl,rfl⟩)|(go_at_call 117;refine (chosen_any _ _ _ _).mono ?_;rintro e w3 ⟨rfl,rfl⟩))
 go_ret2
 rw [or_daa0,beq_dec]
 refine ⟨ret_two (by omega) (fl_close (congrArg (fun x:Int=>decide (x=0)) (by omega))),rfl⟩
theorem implDaa_5 (a f:Int) (w:World) (a0:0<=a) (a1:a<=255) (f0:0<=f) (f1:f<=255) (e64:bits .and .i64 f 64=0) (e32:bits .and .i64 f 32=0) (e16:bits .and .i64 f 16=16) (d9:decide (9<a%16)=false) (d153:decide (153<a)=true) (p9:¬ 9<a%16) (p153:153<a) :
  Calls prog 156 #[.int .i64 a,.int .i64 f] w fun e w'=>e=.returned (.tuple #[.int .i64 ((a+96)%256),.int .i64 (fl (decide ((a+96)%256=0)) false false true)])/\w'=w:=by
 have ha:inB a 0 255=true:=decide_eq_true (by omega)
 have hf:inB f 0 255=true:=decide_eq_true (by omega)
 have q1:chz true 6 0=6:=rfl
 have q2:chz false 6 0=0:=rfl
 have q3:chz true 96 0=96:=rfl
 have q4:chz false 96 0=0:=rfl
 go_enter func156,ntmps156
 go_wp2_with (first|(go_at_call 94;refine (isByte_any _ _).mono ?_;rintro e w' ⟨rfl,rfl⟩)|(go_at_call 189;refine (flagIf_any _ _ _).mono ?_;rintro e w3 ⟨rfl,rfl⟩)|(go_at_call 117;refine (chosen_any _ _ _ _).mono ?_;rintro e w3 ⟨rfl,rfl⟩))
 go_ret2
 rw [or_daa0,beq_dec]
 refine ⟨ret_two (by omega) (fl_close (congrArg (fun x:Int=>decide (x=0)) (by omega))),rfl⟩
theorem implDaa_6 (a f:Int) (w:World) (a0:0<=a) (a1:a<=255) (f0:0<=f) (f1:f<=255) (e64:bits .and .i64 f 64=0) (e32:bits .and .i64 f 32=0) (e16:bits .and .i64 f 16=16) (d9:decide (9<a%16)=true) (d153:decide (153<a)=false) (p9:9<a%16) (p153:¬ 153<a) :
  Calls prog 156 #[.int .i64 a,.int .i64 f] w fun e w'=>e=.returned (.tuple #[.int .i64 ((a+102)%256),.int .i64 (fl (decide ((a+102)%256=0)) false false true)])/\w'=w:=by
 have ha:inB a 0 255=true:=decide_eq_true (by omega)
 have hf:inB f 0 255=true:=decide_eq_true (by omega)
 have q1:chz true 6 0=6:=rfl
 have q2:chz false 6 0=0:=rfl
 have q3:chz true 96 0=96:=rfl
 have q4:chz false 96 0=0:=rfl
 go_enter func156,ntmps156
 go_wp2_with (first|(go_at_call 94;refine (isByte_any _ _).mono ?_;rintro e w' ⟨rfl,rfl⟩)|(go_at_call 189;refine (flagIf_any _ _ _).mono ?_;rintro e w3 ⟨rfl,rfl⟩)|(go_at_call 117;refine (chosen_any _ _ _ _).mono ?_;rintro e w3 ⟨rfl,rfl⟩))
 go_ret2
 rw [or_daa0,beq_dec]
 refine ⟨ret_two (by omega) (fl_close (congrArg (fun x:Int=>decide (x=0)) (by omega))),rfl⟩
theorem implDaa_7 (a f:Int) (w:World) (a0:0<=a) (a1:a<=255) (f0:0<=f) (f1:f<=255) (e64:bits .and .i64 f 64=0) (e32:bits .and .i64 f 32=0) (e16:bits .and .i64 f 16=16) (d9:decide (9<a%16)=true) (d153:decide (153<a)=true) (p9:9<a%16) (p153:153<a) :
  Calls prog 156 #[.int .i64 a,.int .i64 f] w fun e w'=>e=.returned (.tuple #[.int .i64 ((a+102)%256),.int .i64 (fl (decide ((a+102)%256=0)) false false true)])/\w'=w:=by
 have ha:inB a 0 255=true:=decide_eq_true (by omega)
 have hf:inB f 0 255=true:=decide_eq_true (by omega)
 have q1:chz true 6 0=6:=rfl
 have q2:chz false 6 0=0:=rfl
 have q3:chz true 96 0=96:=rfl
 have q4:chz false 96 0=0:=rfl
 go_enter func156,ntmps156
 go_wp2_with (first|(go_at_call 94;refine (isByte_any _ _).mono ?_;rintro e w' ⟨rfl,rfl⟩)|(go_at_call 189;refine (flagIf_any _ _ _).mono ?_;rintro e w3 ⟨rfl,rfl⟩)|(go_at_call 117;refine (chosen_any _ _ _ _).mono ?_;rintro e w3 ⟨rfl,rfl⟩))
 go_ret2
 rw [or_daa0,beq_dec]
 refine ⟨ret_two (by omega) (fl_close (congrArg (fun x:Int=>decide (x=0)) (by omega))),rfl⟩
theorem implDaa_8 (a f:Int) (w:World) (a0:0<=a) (a1:a<=255) (f0:0<=f) (f1:f<=255) (e64:bits .and .i64 f 64=0) (e32:bits .and .i64 f 32=32) (e16:bits .and .i64 f 16=0) (d9:decide (9<a%16)=false) (d153:decide (153<a)=false) (p9:¬ 9<a%16) (p153:¬ 153<a) :
  Calls prog 156 #[.int .i64 a,.int .i64 f] w fun e w'=>e=.returned (.tuple #[.int .i64 ((a+6)%256),.int .i64 (fl (decide ((a+6)%256=0)) false false false)])/\w'=w:=by
 have ha:inB a 0 255=true:=decide_eq_true (by omega)
 have hf:inB f 0 255=true:=decide_eq_true (by omega)
 have q1:chz true 6 0=6:=rfl
 have q2:chz false 6 0=0:=rfl
 have q3:chz true 96 0=96:=rfl
 have q4:chz false 96 0=0:=rfl
 go_enter func156,ntmps156
 go_wp2_with (first|(go_at_call 94;refine (isByte_any _ _).mono ?_;rintro e w' ⟨rfl,rfl⟩)|(go_at_call 189;refine (flagIf_any _ _ _).mono ?_;rintro e w3 ⟨rfl,rfl⟩)|(go_at_call 117;refine (chosen_any _ _ _ _).mono ?_;rintro e w3 ⟨rfl,rfl⟩))
 go_ret2
 rw [or_daa0,beq_dec]
 refine ⟨ret_two (by omega) (fl_close (congrArg (fun x:Int=>decide (x=0)) (by omega))),rfl⟩
theorem implDaa_9 (a f:Int) (w:World) (a0:0<=a) (a1:a<=255) (f0:0<=f) (f1:f<=255) (e64:bits .and .i64 f 64=0) (e32:bits .and .i64 f 32=32) (e16:bits .and .i64 f 16=0) (d9:decide (9<a%16)=false) (d153:decide (153<a)=true) (p9:¬ 9<a%16) (p153:153<a) :
  Calls prog 156 #[.int .i64 a,.int .i64 f] w fun e w'=>e=.returned (.tuple #[.int .i64 ((a+102)%256),.int .i64 (fl (decide ((a+102)%256=0)) false false true)])/\w'=w:=by
 have ha:inB a 0 255=true:=decide_eq_true (by omega)
 have hf:inB f 0 255=true:=decide_eq_true (by omega)
 have q1:chz true 6 0=6:=rfl
 have q2:chz false 6 0=0:=rfl
 have q3:chz true 96 0=96:=rfl
 have q4:chz false 96 0=0:=rfl
 go_enter func156,ntmps156
 go_wp2_with (first|(go_at_call 94;refine (isByte_any _ _).mono ?_;rintro e w' ⟨rfl,rfl⟩)|(go_at_call 189;refine (flagIf_any _ _ _).mono ?_;rintro e w3 ⟨rfl,rfl⟩)|(go_at_call 117;refine (chosen_any _ _ _ _).mono ?_;rintro e w3 ⟨rfl,rfl⟩))
 go_ret2
 rw [or_daa0,beq_dec]
 refine ⟨ret_two (by omega) (fl_close (congrArg (fun x:Int=>decide (x=0)) (by omega))),rfl⟩
theorem implDaa_10 (a f:Int) (w:World) (a0:0<=a) (a1:a<=255) (f0:0<=f) (f1:f<=255) (e64:bits .and .i64 f 64=0) (e32:bits .and .i64 f 32=32) (e16:bits .and .i64 f 16=0) (d9:decide (9<a%16)=true) (d153:decide (153<a)=false) (p9:9<a%16) (p153:¬ 153<a) :
  Calls prog 156 #[.int .i64 a,.int .i64 f] w fun e w'=>e=.returned (.tuple #[.int .i64 ((a+6)%256),.int .i64 (fl (decide ((a+6)%256=0)) false false false)])/\w'=w:=by
 have ha:inB a 0 255=true:=decide_eq_true (by omega)
 have hf:inB f 0 255=true:=decide_eq_true (by omega)
 have q1:chz true 6 0=6:=rfl
 have q2:chz false 6 0=0:=rfl
 have q3:chz true 96 0=96:=rfl
 have q4:chz false 96 0=0:=rfl
 go_enter func156,ntmps156
 go_wp2_with (first|(go_at_call 94;refine (isByte_any _ _).mono ?_;rintro e w' ⟨rfl,rfl⟩)|(go_at_call 189;refine (flagIf_any _ _ _).mono ?_;rintro e w3 ⟨rfl,rfl⟩)|(go_at_call 117;refine (chosen_any _ _ _ _).mono ?_;rintro e w3 ⟨rfl,rfl⟩))
 go_ret2
 rw [or_daa0,beq_dec]
 refine ⟨ret_two (by omega) (fl_close (congrArg (fun x:Int=>decide (x=0)) (by omega))),rfl⟩
theorem implDaa_11 (a f:Int) (w:World) (a0:0<=a) (a1:a<=255) (f0:0<=f) (f1:f<=255) (e64:bits .and .i64 f 64=0) (e32:bits .and .i64 f 32=32) (e16:bits .and .i64 f 16=0) (d9:decide (9<a%16)=true) (d153:decide (153<a)=true) (p9:9<a%16) (p153:153<a) :
  Calls prog 156 #[.int .i64 a,.int .i64 f] w fun e w'=>e=.returned (.tuple #[.int .i64 ((a+102)%256),.int .i64 (fl (decide ((a+102)%256=0)) false false true)])/\w'=w:=by
 have ha:inB a 0 255=true:=decide_eq_true (by omega)
 have hf:inB f 0 255=true:=decide_eq_true (by omega)
 have q1:chz true 6 0=6:=rfl
 have q2:chz false 6 0=0:=rfl
 have q3:chz true 96 0=96:=rfl
 have q4:chz false 96 0=0:=rfl
 go_enter func156,ntmps156
 go_wp2_with (first|(go_at_call 94;refine (isByte_any _ _).mono ?_;rintro e w' ⟨rfl,rfl⟩)|(go_at_call 189;refine (flagIf_any _ _ _).mono ?_;rintro e w3 ⟨rfl,rfl⟩)|(go_at_call 117;refine (chosen_any _ _ _ _).mono ?_;rintro e w3 ⟨rfl,rfl⟩))
 go_ret2
 rw [or_daa0,beq_dec]
 refine ⟨ret_two (by omega) (fl_close (congrArg (fun x:Int=>decide (x=0)) (by omega))),rfl⟩
theorem implDaa_12 (a f:Int) (w:World) (a0:0<=a) (a1:a<=255) (f0:0<=f) (f1:f<=255) (e64:bits .and .i64 f 64=0) (e32:bits .and .i64 f 32=32) (e16:bits .and .i64 f 16=16) (d9:decide (9<a%16)=false) (d153:decide (153<a)=false) (p9:¬ 9<a%16) (p153:¬ 153<a) :
  Calls prog 156 #[.int .i64 a,.int .i64 f] w fun e w'=>e=.returned (.tuple #[.int .i64 ((a+102)%256),.int .i64 (fl (decide ((a+102)%256=0)) false false true)])/\w'=w:=by
 have ha:inB a 0 255=true:=decide_eq_true (by omega)
 have hf:inB f 0 255=true:=decide_eq_true (by omega)
 have q1:chz true 6 0=6:=rfl
 have q2:chz false 6 0=0:=rfl
 have q3:chz true 96 0=96:=rfl
 have q4:chz false 96 0=0:=rfl
 go_enter func156,ntmps156
 go_wp2_with (first|(go_at_call 94;refine (isByte_any _ _).mono ?_;rintro e w' ⟨rfl,rfl⟩)|(go_at_call 189;refine (flagIf_any _ _ _).mono ?_;rintro e w3 ⟨rfl,rfl⟩)|(go_at_call 117;refine (chosen_any _ _ _ _).mono ?_;rintro e w3 ⟨rfl,rfl⟩))
 go_ret2
 rw [or_daa0,beq_dec]
 refine ⟨ret_two (by omega) (fl_close (congrArg (fun x:Int=>decide (x=0)) (by omega))),rfl⟩
theorem implDaa_13 (a f:Int) (w:World) (a0:0<=a) (a1:a<=255) (f0:0<=f) (f1:f<=255) (e64:bits .and .i64 f 64=0) (e32:bits .and .i64 f 32=32) (e16:bits .and .i64 f 16=16) (d9:decide (9<a%16)=false) (d153:decide (153<a)=true) (p9:¬ 9<a%16) (p153:153<a) :
  Calls prog 156 #[.int .i64 a,.int .i64 f] w fun e w'=>e=.returned (.tuple #[.int .i64 ((a+102)%256),.int .i64 (fl (decide ((a+102)%256=0)) false false true)])/\w'=w:=by
 have ha:inB a 0 255=true:=decide_eq_true (by omega)
 have hf:inB f 0 255=true:=decide_eq_true (by omega)
 have q1:chz true 6 0=6:=rfl
 have q2:chz false 6 0=0:=rfl
 have q3:chz true 96 0=96:=rfl
 have q4:chz false 96 0=0:=rfl
 go_enter func156,ntmps156
 go_wp2_with (first|(go_at_call 94;refine (isByte_any _ _).mono ?_;rintro e w' ⟨rfl,rfl⟩)|(go_at_call 189;refine (flagIf_any _ _ _).mono ?_;rintro e w3 ⟨rfl,rfl⟩)|(go_at_call 117;refine (chosen_any _ _ _ _).mono ?_;rintro e w3 ⟨rfl,rfl⟩))
 go_ret2
 rw [or_daa0,beq_dec]
 refine ⟨ret_two (by omega) (fl_close (congrArg (fun x:Int=>decide (x=0)) (by omega))),rfl⟩
theorem implDaa_14 (a f:Int) (w:World) (a0:0<=a) (a1:a<=255) (f0:0<=f) (f1:f<=255) (e64:bits .and .i64 f 64=0) (e32:bits .and .i64 f 32=32) (e16:bits .and .i64 f 16=16) (d9:decide (9<a%16)=true) (d153:decide (153<a)=false) (p9:9<a%16) (p153:¬ 153<a) :
  Calls prog 156 #[.int .i64 a,.int .i64 f] w fun e w'=>e=.returned (.tuple #[.int .i64 ((a+102)%256),.int .i64 (fl (decide ((a+102)%256=0)) false false true)])/\w'=w:=by
 have ha:inB a 0 255=true:=decide_eq_true (by omega)
 have hf:inB f 0 255=true:=decide_eq_true (by omega)
 have q1:chz true 6 0=6:=rfl
 have q2:chz false 6 0=0:=rfl
 have q3:chz true 96 0=96:=rfl
 have q4:chz false 96 0=0:=rfl
 go_enter func156,ntmps156
 go_wp2_with (first|(go_at_call 94;refine (isByte_any _ _).mono ?_;rintro e w' ⟨rfl,rfl⟩)|(go_at_call 189;refine (flagIf_any _ _ _).mono ?_;rintro e w3 ⟨rfl,rfl⟩)|(go_at_call 117;refine (chosen_any _ _ _ _).mono ?_;rintro e w3 ⟨rfl,rfl⟩))
 go_ret2
 rw [or_daa0,beq_dec]
 refine ⟨ret_two (by omega) (fl_close (congrArg (fun x:Int=>decide (x=0)) (by omega))),rfl⟩
theorem implDaa_15 (a f:Int) (w:World) (a0:0<=a) (a1:a<=255) (f0:0<=f) (f1:f<=255) (e64:bits .and .i64 f 64=0) (e32:bits .and .i64 f 32=32) (e16:bits .and .i64 f 16=16) (d9:decide (9<a%16)=true) (d153:decide (153<a)=true) (p9:9<a%16) (p153:153<a) :
  Calls prog 156 #[.int .i64 a,.int .i64 f] w fun e w'=>e=.returned (.tuple #[.int .i64 ((a+102)%256),.int .i64 (fl (decide ((a+102)%256=0)) false false true)])/\w'=w:=by
 have ha:inB a 0 255=true:=decide_eq_true (by omega)
 have hf:inB f 0 255=true:=decide_eq_true (by omega)
 have q1:chz true 6 0=6:=rfl
 have q2:chz false 6 0=0:=rfl
 have q3:chz true 96 0=96:=rfl
 have q4:chz false 96 0=0:=rfl
 go_enter func156,ntmps156
 go_wp2_with (first|(go_at_call 94;refine (isByte_any _ _).mono ?_;rintro e w' ⟨rfl,rfl⟩)|(go_at_call 189;refine (flagIf_any _ _ _).mono ?_;rintro e w3 ⟨rfl,rfl⟩)|(go_at_call 117;refine (chosen_any _ _ _ _).mono ?_;rintro e w3 ⟨rfl,rfl⟩))
 go_ret2
 rw [or_daa0,beq_dec]
 refine ⟨ret_two (by omega) (fl_close (congrArg (fun x:Int=>decide (x=0)) (by omega))),rfl⟩
theorem implDaa_16 (a f:Int) (w:World) (a0:0<=a) (a1:a<=255) (f0:0<=f) (f1:f<=255) (e64:bits .and .i64 f 64=64) (e32:bits .and .i64 f 32=0) (e16:bits .and .i64 f 16=0) (d9:decide (9<a%16)=false) (d153:decide (153<a)=false) (p9:¬ 9<a%16) (p153:¬ 153<a) :
  Calls prog 156 #[.int .i64 a,.int .i64 f] w fun e w'=>e=.returned (.tuple #[.int .i64 ((a+256)%256),.int .i64 (fl (decide ((a+256)%256=0)) true false false)])/\w'=w:=by
 have ha:inB a 0 255=true:=decide_eq_true (by omega)
 have hf:inB f 0 255=true:=decide_eq_true (by omega)
 have q1:chz true 6 0=6:=rfl
 have q2:chz false 6 0=0:=rfl
 have q3:chz true 96 0=96:=rfl
 have q4:chz false 96 0=0:=rfl
 go_enter func156,ntmps156
 go_wp2_with (first|(go_at_call 94;refine (isByte_any _ _).mono ?_;rintro e w' ⟨rfl,rfl⟩)|(go_at_call 189;refine (flagIf_any _ _ _).mono ?_;rintro e w3 ⟨rfl,rfl⟩)|(go_at_call 117;refine (chosen_any _ _ _ _).mono ?_;rintro e w3 ⟨rfl,rfl⟩))
 go_ret2
 rw [or_daa1,beq_dec]
 refine ⟨ret_two (by omega) (fl_close (congrArg (fun x:Int=>decide (x=0)) (by omega))),rfl⟩
theorem implDaa_17 (a f:Int) (w:World) (a0:0<=a) (a1:a<=255) (f0:0<=f) (f1:f<=255) (e64:bits .and .i64 f 64=64) (e32:bits .and .i64 f 32=0) (e16:bits .and .i64 f 16=0) (d9:decide (9<a%16)=false) (d153:decide (153<a)=true) (p9:¬ 9<a%16) (p153:153<a) :
  Calls prog 156 #[.int .i64 a,.int .i64 f] w fun e w'=>e=.returned (.tuple #[.int .i64 ((a+256)%256),.int .i64 (fl (decide ((a+256)%256=0)) true false false)])/\w'=w:=by
 have ha:inB a 0 255=true:=decide_eq_true (by omega)
 have hf:inB f 0 255=true:=decide_eq_true (by omega)
 have q1:chz true 6 0=6:=rfl
 have q2:chz false 6 0=0:=rfl
 have q3:chz true 96 0=96:=rfl
 have q4:chz false 96 0=0:=rfl
 go_enter func156,ntmps156
 go_wp2_with (first|(go_at_call 94;refine (isByte_any _ _).mono ?_;rintro e w' ⟨rfl,rfl⟩)|(go_at_call 189;refine (flagIf_any _ _ _).mono ?_;rintro e w3 ⟨rfl,rfl⟩)|(go_at_call 117;refine (chosen_any _ _ _ _).mono ?_;rintro e w3 ⟨rfl,rfl⟩))
 go_ret2
 rw [or_daa1,beq_dec]
 refine ⟨ret_two (by omega) (fl_close (congrArg (fun x:Int=>decide (x=0)) (by omega))),rfl⟩
theorem implDaa_18 (a f:Int) (w:World) (a0:0<=a) (a1:a<=255) (f0:0<=f) (f1:f<=255) (e64:bits .and .i64 f 64=64) (e32:bits .and .i64 f 32=0) (e16:bits .and .i64 f 16=0) (d9:decide (9<a%16)=true) (d153:decide (153<a)=false) (p9:9<a%16) (p153:¬ 153<a) :
  Calls prog 156 #[.int .i64 a,.int .i64 f] w fun e w'=>e=.returned (.tuple #[.int .i64 ((a+256)%256),.int .i64 (fl (decide ((a+256)%256=0)) true false false)])/\w'=w:=by
 have ha:inB a 0 255=true:=decide_eq_true (by omega)
 have hf:inB f 0 255=true:=decide_eq_true (by omega)
 have q1:chz true 6 0=6:=rfl
 have q2:chz false 6 0=0:=rfl
 have q3:chz true 96 0=96:=rfl
 have q4:chz false 96 0=0:=rfl
 go_enter func156,ntmps156
 go_wp2_with (first|(go_at_call 94;refine (isByte_any _ _).mono ?_;rintro e w' ⟨rfl,rfl⟩)|(go_at_call 189;refine (flagIf_any _ _ _).mono ?_;rintro e w3 ⟨rfl,rfl⟩)|(go_at_call 117;refine (chosen_any _ _ _ _).mono ?_;rintro e w3 ⟨rfl,rfl⟩))
 go_ret2
 rw [or_daa1,beq_dec]
 refine ⟨ret_two (by omega) (fl_close (congrArg (fun x:Int=>decide (x=0)) (by omega))),rfl⟩
theorem implDaa_19 (a f:Int) (w:World) (a0:0<=a) (a1:a<=255) (f0:0<=f) (f1:f<=255) (e64:bits .and .i64 f 64=64) (e32:bits .and .i64 f 32=0) (e16:bits .and .i64 f 16=0) (d9:decide (9<a%16)=true) (d153:decide (153<a)=true) (p9:9<a%16) (p153:153<a) :
  Calls prog 156 #[.int .i64 a,.int .i64 f] w fun e w'=>e=.returned (.tuple #[.int .i64 ((a+256)%256),.int .i64 (fl (decide ((a+256)%256=0)) true false false)])/\w'=w:=by
 have ha:inB a 0 255=true:=decide_eq_true (by omega)
 have hf:inB f 0 255=true:=decide_eq_true (by omega)
 have q1:chz true 6 0=6:=rfl
 have q2:chz false 6 0=0:=rfl
 have q3:chz true 96 0=96:=rfl
 have q4:chz false 96 0=0:=rfl
 go_enter func156,ntmps156
 go_wp2_with (first|(go_at_call 94;refine (isByte_any _ _).mono ?_;rintro e w' ⟨rfl,rfl⟩)|(go_at_call 189;refine (flagIf_any _ _ _).mono ?_;rintro e w3 ⟨rfl,rfl⟩)|(go_at_call 117;refine (chosen_any _ _ _ _).mono ?_;rintro e w3 ⟨rfl,rfl⟩))
 go_ret2
 rw [or_daa1,beq_dec]
 refine ⟨ret_two (by omega) (fl_close (congrArg (fun x:Int=>decide (x=0)) (by omega))),rfl⟩
theorem implDaa_20 (a f:Int) (w:World) (a0:0<=a) (a1:a<=255) (f0:0<=f) (f1:f<=255) (e64:bits .and .i64 f 64=64) (e32:bits .and .i64 f 32=0) (e16:bits .and .i64 f 16=16) (d9:decide (9<a%16)=false) (d153:decide (153<a)=false) (p9:¬ 9<a%16) (p153:¬ 153<a) :
  Calls prog 156 #[.int .i64 a,.int .i64 f] w fun e w'=>e=.returned (.tuple #[.int .i64 ((a+160)%256),.int .i64 (fl (decide ((a+160)%256=0)) true false true)])/\w'=w:=by
 have ha:inB a 0 255=true:=decide_eq_true (by omega)
 have hf:inB f 0 255=true:=decide_eq_true (by omega)
 have q1:chz true 6 0=6:=rfl
 have q2:chz false 6 0=0:=rfl
 have q3:chz true 96 0=96:=rfl
 have q4:chz false 96 0=0:=rfl
 go_enter func156,ntmps156
 go_wp2_with (first|(go_at_call 94;refine (isByte_any _ _).mono ?_;rintro e w' ⟨rfl,rfl⟩)|(go_at_call 189;refine (flagIf_any _ _ _).mono ?_;rintro e w3 ⟨rfl,rfl⟩)|(go_at_call 117;refine (chosen_any _ _ _ _).mono ?_;rintro e w3 ⟨rfl,rfl⟩))
 go_ret2
 rw [or_daa1,beq_dec]
 refine ⟨ret_two (by omega) (fl_close (congrArg (fun x:Int=>decide (x=0)) (by omega))),rfl⟩
theorem implDaa_21 (a f:Int) (w:World) (a0:0<=a) (a1:a<=255) (f0:0<=f) (f1:f<=255) (e64:bits .and .i64 f 64=64) (e32:bits .and .i64 f 32=0) (e16:bits .and .i64 f 16=16) (d9:decide (9<a%16)=false) (d153:decide (153<a)=true) (p9:¬ 9<a%16) (p153:153<a) :
  Calls prog 156 #[.int .i64 a,.int .i64 f] w fun e w'=>e=.returned (.tuple #[.int .i64 ((a+160)%256),.int .i64 (fl (decide ((a+160)%256=0)) true false true)])/\w'=w:=by
 have ha:inB a 0 255=true:=decide_eq_true (by omega)
 have hf:inB f 0 255=true:=decide_eq_true (by omega)
 have q1:chz true 6 0=6:=rfl
 have q2:chz false 6 0=0:=rfl
 have q3:chz true 96 0=96:=rfl
 have q4:chz false 96 0=0:=rfl
 go_enter func156,ntmps156
 go_wp2_with (first|(go_at_call 94;refine (isByte_any _ _).mono ?_;rintro e w' ⟨rfl,rfl⟩)|(go_at_call 189;refine (flagIf_any _ _ _).mono ?_;rintro e w3 ⟨rfl,rfl⟩)|(go_at_call 117;refine (chosen_any _ _ _ _).mono ?_;rintro e w3 ⟨rfl,rfl⟩))
 go_ret2
 rw [or_daa1,beq_dec]
 refine ⟨ret_two (by omega) (fl_close (congrArg (fun x:Int=>decide (x=0)) (by omega))),rfl⟩
theorem implDaa_22 (a f:Int) (w:World) (a0:0<=a) (a1:a<=255) (f0:0<=f) (f1:f<=255) (e64:bits .and .i64 f 64=64) (e32:bits .and .i64 f 32=0) (e16:bits .and .i64 f 16=16) (d9:decide (9<a%16)=true) (d153:decide (153<a)=false) (p9:9<a%16) (p153:¬ 153<a) :
  Calls prog 156 #[.int .i64 a,.int .i64 f] w fun e w'=>e=.returned (.tuple #[.int .i64 ((a+160)%256),.int .i64 (fl (decide ((a+160)%256=0)) true false true)])/\w'=w:=by
 have ha:inB a 0 255=true:=decide_eq_true (by omega)
 have hf:inB f 0 255=true:=decide_eq_true (by omega)
 have q1:chz true 6 0=6:=rfl
 have q2:chz false 6 0=0:=rfl
 have q3:chz true 96 0=96:=rfl
 have q4:chz false 96 0=0:=rfl
 go_enter func156,ntmps156
 go_wp2_with (first|(go_at_call 94;refine (isByte_any _ _).mono ?_;rintro e w' ⟨rfl,rfl⟩)|(go_at_call 189;refine (flagIf_any _ _ _).mono ?_;rintro e w3 ⟨rfl,rfl⟩)|(go_at_call 117;refine (chosen_any _ _ _ _).mono ?_;rintro e w3 ⟨rfl,rfl⟩))
 go_ret2
 rw [or_daa1,beq_dec]
 refine ⟨ret_two (by omega) (fl_close (congrArg (fun x:Int=>decide (x=0)) (by omega))),rfl⟩
theorem implDaa_23 (a f:Int) (w:World) (a0:0<=a) (a1:a<=255) (f0:0<=f) (f1:f<=255) (e64:bits .and .i64 f 64=64) (e32:bits .and .i64 f 32=0) (e16:bits .and .i64 f 16=16) (d9:decide (9<a%16)=true) (d153:decide (153<a)=true) (p9:9<a%16) (p153:153<a) :
  Calls prog 156 #[.int .i64 a,.int .i64 f] w fun e w'=>e=.returned (.tuple #[.int .i64 ((a+160)%256),.int .i64 (fl (decide ((a+160)%256=0)) true false true)])/\w'=w:=by
 have ha:inB a 0 255=true:=decide_eq_true (by omega)
 have hf:inB f 0 255=true:=decide_eq_true (by omega)
 have q1:chz true 6 0=6:=rfl
 have q2:chz false 6 0=0:=rfl
 have q3:chz true 96 0=96:=rfl
 have q4:chz false 96 0=0:=rfl
 go_enter func156,ntmps156
 go_wp2_with (first|(go_at_call 94;refine (isByte_any _ _).mono ?_;rintro e w' ⟨rfl,rfl⟩)|(go_at_call 189;refine (flagIf_any _ _ _).mono ?_;rintro e w3 ⟨rfl,rfl⟩)|(go_at_call 117;refine (chosen_any _ _ _ _).mono ?_;rintro e w3 ⟨rfl,rfl⟩))
 go_ret2
 rw [or_daa1,beq_dec]
 refine ⟨ret_two (by omega) (fl_close (congrArg (fun x:Int=>decide (x=0)) (by omega))),rfl⟩
theorem implDaa_24 (a f:Int) (w:World) (a0:0<=a) (a1:a<=255) (f0:0<=f) (f1:f<=255) (e64:bits .and .i64 f 64=64) (e32:bits .and .i64 f 32=32) (e16:bits .and .i64 f 16=0) (d9:decide (9<a%16)=false) (d153:decide (153<a)=false) (p9:¬ 9<a%16) (p153:¬ 153<a) :
  Calls prog 156 #[.int .i64 a,.int .i64 f] w fun e w'=>e=.returned (.tuple #[.int .i64 ((a+250)%256),.int .i64 (fl (decide ((a+250)%256=0)) true false false)])/\w'=w:=by
 have ha:inB a 0 255=true:=decide_eq_true (by omega)
 have hf:inB f 0 255=true:=decide_eq_true (by omega)
 have q1:chz true 6 0=6:=rfl
 have q2:chz false 6 0=0:=rfl
 have q3:chz true 96 0=96:=rfl
 have q4:chz false 96 0=0:=rfl
 go_enter func156,ntmps156
 go_wp2_with (first|(go_at_call 94;refine (isByte_any _ _).mono ?_;rintro e w' ⟨rfl,rfl⟩)|(go_at_call 189;refine (flagIf_any _ _ _).mono ?_;rintro e w3 ⟨rfl,rfl⟩)|(go_at_call 117;refine (chosen_any _ _ _ _).mono ?_;rintro e w3 ⟨rfl,rfl⟩))
 go_ret2
 rw [or_daa1,beq_dec]
 refine ⟨ret_two (by omega) (fl_close (congrArg (fun x:Int=>decide (x=0)) (by omega))),rfl⟩
theorem implDaa_25 (a f:Int) (w:World) (a0:0<=a) (a1:a<=255) (f0:0<=f) (f1:f<=255) (e64:bits .and .i64 f 64=64) (e32:bits .and .i64 f 32=32) (e16:bits .and .i64 f 16=0) (d9:decide (9<a%16)=false) (d153:decide (153<a)=true) (p9:¬ 9<a%16) (p153:153<a) :
  Calls prog 156 #[.int .i64 a,.int .i64 f] w fun e w'=>e=.returned (.tuple #[.int .i64 ((a+250)%256),.int .i64 (fl (decide ((a+250)%256=0)) true false false)])/\w'=w:=by
 have ha:inB a 0 255=true:=decide_eq_true (by omega)
 have hf:inB f 0 255=true:=decide_eq_true (by omega)
 have q1:chz true 6 0=6:=rfl
 have q2:chz false 6 0=0:=rfl
 have q3:chz true 96 0=96:=rfl
 have q4:chz false 96 0=0:=rfl
 go_enter func156,ntmps156
 go_wp2_with (first|(go_at_call 94;refine (isByte_any _ _).mono ?_;rintro e w' ⟨rfl,rfl⟩)|(go_at_call 189;refine (flagIf_any _ _ _).mono ?_;rintro e w3 ⟨rfl,rfl⟩)|(go_at_call 117;refine (chosen_any _ _ _ _).mono ?_;rintro e w3 ⟨rfl,rfl⟩))
 go_ret2
 rw [or_daa1,beq_dec]
 refine ⟨ret_two (by omega) (fl_close (congrArg (fun x:Int=>decide (x=0)) (by omega))),rfl⟩
theorem implDaa_26 (a f:Int) (w:World) (a0:0<=a) (a1:a<=255) (f0:0<=f) (f1:f<=255) (e64:bits .and .i64 f 64=64) (e32:bits .and .i64 f 32=32) (e16:bits .and .i64 f 16=0) (d9:decide (9<a%16)=true) (d153:decide (153<a)=false) (p9:9<a%16) (p153:¬ 153<a) :
  Calls prog 156 #[.int .i64 a,.int .i64 f] w fun e w'=>e=.returned (.tuple #[.int .i64 ((a+250)%256),.int .i64 (fl (decide ((a+250)%256=0)) true false false)])/\w'=w:=by
 have ha:inB a 0 255=true:=decide_eq_true (by omega)
 have hf:inB f 0 255=true:=decide_eq_true (by omega)
 have q1:chz true 6 0=6:=rfl
 have q2:chz false 6 0=0:=rfl
 have q3:chz true 96 0=96:=rfl
 have q4:chz false 96 0=0:=rfl
 go_enter func156,ntmps156
 go_wp2_with (first|(go_at_call 94;refine (isByte_any _ _).mono ?_;rintro e w' ⟨rfl,rfl⟩)|(go_at_call 189;refine (flagIf_any _ _ _).mono ?_;rintro e w3 ⟨rfl,rfl⟩)|(go_at_call 117;refine (chosen_any _ _ _ _).mono ?_;rintro e w3 ⟨rfl,rfl⟩))
 go_ret2
 rw [or_daa1,beq_dec]
 refine ⟨ret_two (by omega) (fl_close (congrArg (fun x:Int=>decide (x=0)) (by omega))),rfl⟩
theorem implDaa_27 (a f:Int) (w:World) (a0:0<=a) (a1:a<=255) (f0:0<=f) (f1:f<=255) (e64:bits .and .i64 f 64=64) (e32:bits .and .i64 f 32=32) (e16:bits .and .i64 f 16=0) (d9:decide (9<a%16)=true) (d153:decide (153<a)=true) (p9:9<a%16) (p153:153<a) :
  Calls prog 156 #[.int .i64 a,.int .i64 f] w fun e w'=>e=.returned (.tuple #[.int .i64 ((a+250)%256),.int .i64 (fl (decide ((a+250)%256=0)) true false false)])/\w'=w:=by
 have ha:inB a 0 255=true:=decide_eq_true (by omega)
 have hf:inB f 0 255=true:=decide_eq_true (by omega)
 have q1:chz true 6 0=6:=rfl
 have q2:chz false 6 0=0:=rfl
 have q3:chz true 96 0=96:=rfl
 have q4:chz false 96 0=0:=rfl
 go_enter func156,ntmps156
 go_wp2_with (first|(go_at_call 94;refine (isByte_any _ _).mono ?_;rintro e w' ⟨rfl,rfl⟩)|(go_at_call 189;refine (flagIf_any _ _ _).mono ?_;rintro e w3 ⟨rfl,rfl⟩)|(go_at_call 117;refine (chosen_any _ _ _ _).mono ?_;rintro e w3 ⟨rfl,rfl⟩))
 go_ret2
 rw [or_daa1,beq_dec]
 refine ⟨ret_two (by omega) (fl_close (congrArg (fun x:Int=>decide (x=0)) (by omega))),rfl⟩
theorem implDaa_28 (a f:Int) (w:World) (a0:0<=a) (a1:a<=255) (f0:0<=f) (f1:f<=255) (e64:bits .and .i64 f 64=64) (e32:bits .and .i64 f 32=32) (e16:bits .and .i64 f 16=16) (d9:decide (9<a%16)=false) (d153:decide (153<a)=false) (p9:¬ 9<a%16) (p153:¬ 153<a) :
  Calls prog 156 #[.int .i64 a,.int .i64 f] w fun e w'=>e=.returned (.tuple #[.int .i64 ((a+154)%256),.int .i64 (fl (decide ((a+154)%256=0)) true false true)])/\w'=w:=by
 have ha:inB a 0 255=true:=decide_eq_true (by omega)
 have hf:inB f 0 255=true:=decide_eq_true (by omega)
 have q1:chz true 6 0=6:=rfl
 have q2:chz false 6 0=0:=rfl
 have q3:chz true 96 0=96:=rfl
 have q4:chz false 96 0=0:=rfl
 go_enter func156,ntmps156
 go_wp2_with (first|(go_at_call 94;refine (isByte_any _ _).mono ?_;rintro e w' ⟨rfl,rfl⟩)|(go_at_call 189;refine (flagIf_any _ _ _).mono ?_;rintro e w3 ⟨rfl,rfl⟩)|(go_at_call 117;refine (chosen_any _ _ _ _).mono ?_;rintro e w3 ⟨rfl,rfl⟩))
 go_ret2
 rw [or_daa1,beq_dec]
 refine ⟨ret_two (by omega) (fl_close (congrArg (fun x:Int=>decide (x=0)) (by omega))),rfl⟩
theorem implDaa_29 (a f:Int) (w:World) (a0:0<=a) (a1:a<=255) (f0:0<=f) (f1:f<=255) (e64:bits .and .i64 f 64=64) (e32:bits .and .i64 f 32=32) (e16:bits .and .i64 f 16=16) (d9:decide (9<a%16)=false) (d153:decide (153<a)=true) (p9:¬ 9<a%16) (p153:153<a) :
  Calls prog 156 #[.int .i64 a,.int .i64 f] w fun e w'=>e=.returned (.tuple #[.int .i64 ((a+154)%256),.int .i64 (fl (decide ((a+154)%256=0)) true false true)])/\w'=w:=by
 have ha:inB a 0 255=true:=decide_eq_true (by omega)
 have hf:inB f 0 255=true:=decide_eq_true (by omega)
 have q1:chz true 6 0=6:=rfl
 have q2:chz false 6 0=0:=rfl
 have q3:chz true 96 0=96:=rfl
 have q4:chz false 96 0=0:=rfl
 go_enter func156,ntmps156
 go_wp2_with (first|(go_at_call 94;refine (isByte_any _ _).mono ?_;rintro e w' ⟨rfl,rfl⟩)|(go_at_call 189;refine (flagIf_any _ _ _).mono ?_;rintro e w3 ⟨rfl,rfl⟩)|(go_at_call 117;refine (chosen_any _ _ _ _).mono ?_;rintro e w3 ⟨rfl,rfl⟩))
 go_ret2
 rw [or_daa1,beq_dec]
 refine ⟨ret_two (by omega) (fl_close (congrArg (fun x:Int=>decide (x=0)) (by omega))),rfl⟩
theorem implDaa_30 (a f:Int) (w:World) (a0:0<=a) (a1:a<=255) (f0:0<=f) (f1:f<=255) (e64:bits .and .i64 f 64=64) (e32:bits .and .i64 f 32=32) (e16:bits .and .i64 f 16=16) (d9:decide (9<a%16)=true) (d153:decide (153<a)=false) (p9:9<a%16) (p153:¬ 153<a) :
  Calls prog 156 #[.int .i64 a,.int .i64 f] w fun e w'=>e=.returned (.tuple #[.int .i64 ((a+154)%256),.int .i64 (fl (decide ((a+154)%256=0)) true false true)])/\w'=w:=by
 have ha:inB a 0 255=true:=decide_eq_true (by omega)
 have hf:inB f 0 255=true:=decide_eq_true (by omega)
 have q1:chz true 6 0=6:=rfl
 have q2:chz false 6 0=0:=rfl
 have q3:chz true 96 0=96:=rfl
 have q4:chz false 96 0=0:=rfl
 go_enter func156,ntmps156
 go_wp2_with (first|(go_at_call 94;refine (isByte_any _ _).mono ?_;rintro e w' ⟨rfl,rfl⟩)|(go_at_call 189;refine (flagIf_any _ _ _).mono ?_;rintro e w3 ⟨rfl,rfl⟩)|(go_at_call 117;refine (chosen_any _ _ _ _).mono ?_;rintro e w3 ⟨rfl,rfl⟩))
 go_ret2
 rw [or_daa1,beq_dec]
 refine ⟨ret_two (by omega) (fl_close (congrArg (fun x:Int=>decide (x=0)) (by omega))),rfl⟩
theorem implDaa_31 (a f:Int) (w:World) (a0:0<=a) (a1:a<=255) (f0:0<=f) (f1:f<=255) (e64:bits .and .i64 f 64=64) (e32:bits .and .i64 f 32=32) (e16:bits .and .i64 f 16=16) (d9:decide (9<a%16)=true) (d153:decide (153<a)=true) (p9:9<a%16) (p153:153<a) :
  Calls prog 156 #[.int .i64 a,.int .i64 f] w fun e w'=>e=.returned (.tuple #[.int .i64 ((a+154)%256),.int .i64 (fl (decide ((a+154)%256=0)) true false true)])/\w'=w:=by
 have ha:inB a 0 255=true:=decide_eq_true (by omega)
 have hf:inB f 0 255=true:=decide_eq_true (by omega)
 have q1:chz true 6 0=6:=rfl
 have q2:chz false 6 0=0:=rfl
 have q3:chz true 96 0=96:=rfl
 have q4:chz false 96 0=0:=rfl
 go_enter func156,ntmps156
 go_wp2_with (first|(go_at_call 94;refine (isByte_any _ _).mono ?_;rintro e w' ⟨rfl,rfl⟩)|(go_at_call 189;refine (flagIf_any _ _ _).mono ?_;rintro e w3 ⟨rfl,rfl⟩)|(go_at_call 117;refine (chosen_any _ _ _ _).mono ?_;rintro e w3 ⟨rfl,rfl⟩))
 go_ret2
 rw [or_daa1,beq_dec]
 refine ⟨ret_two (by omega) (fl_close (congrArg (fun x:Int=>decide (x=0)) (by omega))),rfl⟩
theorem implDaa_any (a f:Int) (w:World) :
  Calls prog 156 #[.int .i64 a,.int .i64 f] w fun e w'=>e=.returned (.tuple #[.int .i64 (daa a f).1,.int .i64 (daa a f).2])/\w'=w:=by
 unfold daa
 cases ha:inB a 0 255 <;> cases hf:inB f 0 255
 case true.true =>
  obtain ⟨a0,a1⟩:=of_decide_eq_true ha
  obtain ⟨f0,f1⟩:=of_decide_eq_true hf
  show Calls _ _ _ _ fun e w'=>e=.returned (.tuple #[.int .i64 (daaR a f).1,.int .i64 (daaR a f).2])/\w'=w
  obtain ⟨-,e64,e32,e16⟩:=ands f0 f1
  unfold daaR
  cases hn:nB f <;> cases hh:hB f <;> cases hc:cB f <;> cases d9:decide (9<a%16) <;> cases d153:decide (153<a) <;> rw [hn] at e64 <;> rw [hh] at e32 <;> rw [hc] at e16
  ·exact implDaa_0 a f w a0 a1 f0 f1 e64 e32 e16 d9 d153 (of_decide_eq_false d9) (of_decide_eq_false d153)
  ·exact implDaa_1 a f w a0 a1 f0 f1 e64 e32 e16 d9 d153 (of_decide_eq_false d9) (of_decide_eq_true d153)
  ·exact implDaa_2 a f w a0 a1 f0 f1 e64 e32 e16 d9 d153 (of_decide_eq_true d9) (of_decide_eq_false d153)
  ·exact implDaa_3 a f w a0 a1 f0 f1 e64 e32 e16 d9 d153 (of_decide_eq_true d9) (of_decide_eq_true d153)
  ·exact implDaa_4 a f w a0 a1 f0 f1 e64 e32 e16 d9 d153 (of_decide_eq_false d9) (of_decide_eq_false d153)
  ·exact implDaa_5 a f w a0 a1 f0 f1 e64 e32 e16 d9 d153 (of_decide_eq_false d9) (of_decide_eq_true d153)
  ·exact implDaa_6 a f w a0 a1 f0 f1 e64 e32 e16 d9 d153 (of_decide_eq_true d9) (of_decide_eq_false d153)
  ·exact implDaa_7 a f w a0 a1 f0 f1 e64 e32 e16 d9 d153 (of_decide_eq_true d9) (of_decide_eq_true d153)
  ·exact implDaa_8 a f w a0 a1 f0 f1 e64 e32 e16 d9 d153 (of_decide_eq_false d9) (of_decide_eq_false d153)
  ·exact implDaa_9 a f w a0 a1 f0 f1 e64 e32 e16 d9 d153 (of_decide_eq_false d9) (of_decide_eq_true d153)
  ·exact implDaa_10 a f w a0 a1 f0 f1 e64 e32 e16 d9 d153 (of_decide_eq_true d9) (of_decide_eq_false d153)
  ·exact implDaa_11 a f w a0 a1 f0 f1 e64 e32 e16 d9 d153 (of_decide_eq_true d9) (of_decide_eq_true d153)
  ·exact implDaa_12 a f w a0 a1 f0 f1 e64 e32 e16 d9 d153 (of_decide_eq_false d9) (of_decide_eq_false d153)
  ·exact implDaa_13 a f w a0 a1 f0 f1 e64 e32 e16 d9 d153 (of_decide_eq_false d9) (of_decide_eq_true d153)
  ·exact implDaa_14 a f w a0 a1 f0 f1 e64 e32 e16 d9 d153 (of_decide_eq_true d9) (of_decide_eq_false d153)
  ·exact implDaa_15 a f w a0 a1 f0 f1 e64 e32 e16 d9 d153 (of_decide_eq_true d9) (of_decide_eq_true d153)
  ·exact implDaa_16 a f w a0 a1 f0 f1 e64 e32 e16 d9 d153 (of_decide_eq_false d9) (of_decide_eq_false d153)
  ·exact implDaa_17 a f w a0 a1 f0 f1 e64 e32 e16 d9 d153 (of_decide_eq_false d9) (of_decide_eq_true d153)
  ·exact implDaa_18 a f w a0 a1 f0 f1 e64 e32 e16 d9 d153 (of_decide_eq_true d9) (of_decide_eq_false d153)
  ·exact implDaa_19 a f w a0 a1 f0 f1 e64 e32 e16 d9 d153 (of_decide_eq_true d9) (of_decide_eq_true d153)
  ·exact implDaa_20 a f w a0 a1 f0 f1 e64 e32 e16 d9 d153 (of_decide_eq_false d9) (of_decide_eq_false d153)
  ·exact implDaa_21 a f w a0 a1 f0 f1 e64 e32 e16 d9 d153 (of_decide_eq_false d9) (of_decide_eq_true d153)
  ·exact implDaa_22 a f w a0 a1 f0 f1 e64 e32 e16 d9 d153 (of_decide_eq_true d9) (of_decide_eq_false d153)
  ·exact implDaa_23 a f w a0 a1 f0 f1 e64 e32 e16 d9 d153 (of_decide_eq_true d9) (of_decide_eq_true d153)
  ·exact implDaa_24 a f w a0 a1 f0 f1 e64 e32 e16 d9 d153 (of_decide_eq_false d9) (of_decide_eq_false d153)
  ·exact implDaa_25 a f w a0 a1 f0 f1 e64 e32 e16 d9 d153 (of_decide_eq_false d9) (of_decide_eq_true d153)
  ·exact implDaa_26 a f w a0 a1 f0 f1 e64 e32 e16 d9 d153 (of_decide_eq_true d9) (of_decide_eq_false d153)
  ·exact implDaa_27 a f w a0 a1 f0 f1 e64 e32 e16 d9 d153 (of_decide_eq_true d9) (of_decide_eq_true d153)
  ·exact implDaa_28 a f w a0 a1 f0 f1 e64 e32 e16 d9 d153 (of_decide_eq_false d9) (of_decide_eq_false d153)
  ·exact implDaa_29 a f w a0 a1 f0 f1 e64 e32 e16 d9 d153 (of_decide_eq_false d9) (of_decide_eq_true d153)
  ·exact implDaa_30 a f w a0 a1 f0 f1 e64 e32 e16 d9 d153 (of_decide_eq_true d9) (of_decide_eq_false d153)
  ·exact implDaa_31 a f w a0 a1 f0 f1 e64 e32 e16 d9 d153 (of_decide_eq_true d9) (of_decide_eq_true d153)
 all_goals
  go_enter func156,ntmps156
  go_wp2_with (go_at_call 94;refine (isByte_any _ _).mono ?_;rintro e w' ⟨rfl,rfl⟩)
  go_ret2
  exact ⟨rfl,rfl⟩
theorem specDaa_0 (a f:Int) (w:World) (a0:0<=a) (a1:a<=255) (f0:0<=f) (f1:f<=255) (g64:f / 64%2=0) (g32:f / 32%2=0) (g16:cy f=0) (d9:decide (9<a%16)=false) (d153:decide (153<a)=false) (p9:¬ 9<a%16) (p153:¬ 153<a) :
  Calls prog 111 #[.int .i64 a,.int .i64 f] w fun e w'=>e=.returned (.tuple #[.int .i64 ((a+0)%256),.int .i64 (fl (decide ((a+0)%256=0)) false false false)])/\w'=w:=by
 have ha:inB a 0 255=true:=decide_eq_true (by omega)
 have hf:inB f 0 255=true:=decide_eq_true (by omega)
 go_enter func111,ntmps111
 go_wp2_with (first|(go_at_call 44;refine (l4Byte_any _ _).mono ?_;rintro e w' ⟨rfl,rfl⟩)|(go_at_call 73;refine (l4Flags_any _ _ _ _ _).mono ?_;rintro e w3 ⟨rfl,rfl⟩)|(go_at_call 74;refine (l4Carry_any _ _ f0 f1).mono ?_;rintro e w3 ⟨rfl,rfl⟩))
 go_ret2
 rw [beq_dec]
 refine ⟨ret_two (by omega) (fl_close (congrArg (fun x:Int=>decide (x=0)) (by omega))),rfl⟩
theorem specDaa_1 (a f:Int) (w:World) (a0:0<=a) (a1:a<=255) (f0:0<=f) (f1:f<=255) (g64:f / 64%2=0) (g32:f / 32%2=0) (g16:cy f=0) (d9:decide (9<a%16)=false) (d153:decide (153<a)=true) (p9:¬ 9<a%16) (p153:153<a) :
  Calls prog 111 #[.int .i64 a,.int .i64 f] w fun e w'=>e=.returned (.tuple #[.int .i64 ((a+96)%256),.int .i64 (fl (decide ((a+96)%256=0)) false false true)])/\w'=w:=by
 have ha:inB a 0 255=true:=decide_eq_true (by omega)
 have hf:inB f 0 255=true:=decide_eq_true (by omega)
 go_enter func111,ntmps111
 go_wp2_with (first|(go_at_call 44;refine (l4Byte_any _ _).mono ?_;rintro e w' ⟨rfl,rfl⟩)|(go_at_call 73;refine (l4Flags_any _ _ _ _ _).mono ?_;rintro e w3 ⟨rfl,rfl⟩)|(go_at_call 74;refine (l4Carry_any _ _ f0 f1).mono ?_;rintro e w3 ⟨rfl,rfl⟩))
 go_ret2
 rw [beq_dec]
 refine ⟨ret_two (by omega) (fl_close (congrArg (fun x:Int=>decide (x=0)) (by omega))),rfl⟩
theorem specDaa_2 (a f:Int) (w:World) (a0:0<=a) (a1:a<=255) (f0:0<=f) (f1:f<=255) (g64:f / 64%2=0) (g32:f / 32%2=0) (g16:cy f=0) (d9:decide (9<a%16)=true) (d153:decide (153<a)=false) (p9:9<a%16) (p153:¬ 153<a) :
  Calls prog 111 #[.int .i64 a,.int .i64 f] w fun e w'=>e=.returned (.tuple #[.int .i64 ((a+6)%256),.int .i64 (fl (decide ((a+6)%256=0)) false false false)])/\w'=w:=by
 have ha:inB a 0 255=true:=decide_eq_true (by omega)
 have hf:inB f 0 255=true:=decide_eq_true (by omega)
 go_enter func111,ntmps111
 go_wp2_with (first|(go_at_call 44;refine (l4Byte_any _ _).mono ?_;rintro e w' ⟨rfl,rfl⟩)|(go_at_call 73;refine (l4Flags_any _ _ _ _ _).mono ?_;rintro e w3 ⟨rfl,rfl⟩)|(go_at_call 74;refine (l4Carry_any _ _ f0 f1).mono ?_;rintro e w3 ⟨rfl,rfl⟩))
 go_ret2
 rw [beq_dec]
 refine ⟨ret_two (by omega) (fl_close (congrArg (fun x:Int=>decide (x=0)) (by omega))),rfl⟩
theorem specDaa_3 (a f:Int) (w:World) (a0:0<=a) (a1:a<=255) (f0:0<=f) (f1:f<=255) (g64:f / 64%2=0) (g32:f / 32%2=0) (g16:cy f=0) (d9:decide (9<a%16)=true) (d153:decide (153<a)=true) (p9:9<a%16) (p153:153<a) :
  Calls prog 111 #[.int .i64 a,.int .i64 f] w fun e w'=>e=.returned (.tuple #[.int .i64 ((a+102)%256),.int .i64 (fl (decide ((a+102)%256=0)) false false true)])/\w'=w:=by
 have ha:inB a 0 255=true:=decide_eq_true (by omega)
 have hf:inB f 0 255=true:=decide_eq_true (by omega)
 go_enter func111,ntmps111
 go_wp2_with (first|(go_at_call 44;refine (l4Byte_any _ _).mono ?_;rintro e w' ⟨rfl,rfl⟩)|(go_at_call 73;refine (l4Flags_any _ _ _ _ _).mono ?_;rintro e w3 ⟨rfl,rfl⟩)|(go_at_call 74;refine (l4Carry_any _ _ f0 f1).mono ?_;rintro e w3 ⟨rfl,rfl⟩))
 go_ret2
 rw [beq_dec]
 refine ⟨ret_two (by omega) (fl_close (congrArg (fun x:Int=>decide (x=0)) (by omega))),rfl⟩
theorem specDaa_4 (a f:Int) (w:World) (a0:0<=a) (a1:a<=255) (f0:0<=f) (f1:f<=255) (g64:f / 64%2=0) (g32:f / 32%2=0) (g16:cy f=1) (d9:decide (9<a%16)=false) (d153:decide (153<a)=false) (p9:¬ 9<a%16) (p153:¬ 153<a) :
  Calls prog 111 #[.int .i64 a,.int .i64 f] w fun e w'=>e=.returned (.tuple #[.int .i64 ((a+96)%256),.int .i64 (fl (decide ((a+96)%256=0)) false false true)])/\w'=w:=by
 have ha:inB a 0 255=true:=decide_eq_true (by omega)
 have hf:inB f 0 255=true:=decide_eq_true (by omega)
 go_enter func111,ntmps111
 go_wp2_with (first|(go_at_call 44;refine (l4Byte_any _ _).mono ?_;rintro e w' ⟨rfl,rfl⟩)|(go_at_call 73;refine (l4Flags_any _ _ _ _ _).mono ?_;rintro e w3 ⟨rfl,rfl⟩)|(go_at_call 74;refine (l4Carry_any _ _ f0 f1).mono ?_;rintro e w3 ⟨rfl,rfl⟩))
 go_ret2
 rw [beq_dec]
 refine ⟨ret_two (by omega) (fl_close (congrArg (fun x:Int=>decide (x=0)) (by omega))),rfl⟩
theorem specDaa_5 (a f:Int) (w:World) (a0:0<=a) (a1:a<=255) (f0:0<=f) (f1:f<=255) (g64:f / 64%2=0) (g32:f / 32%2=0) (g16:cy f=1) (d9:decide (9<a%16)=false) (d153:decide (153<a)=true) (p9:¬ 9<a%16) (p153:153<a) :
  Calls prog 111 #[.int .i64 a,.int .i64 f] w fun e w'=>e=.returned (.tuple #[.int .i64 ((a+96)%256),.int .i64 (fl (decide ((a+96)%256=0)) false false true)])/\w'=w:=by
 have ha:inB a 0 255=true:=decide_eq_true (by omega)
 have hf:inB f 0 255=true:=decide_eq_true (by omega)
 go_enter func111,ntmps111
 go_wp2_with (first|(go_at_call 44;refine (l4Byte_any _ _).mono ?_;rintro e w' ⟨rfl,rfl⟩)|(go_at_call 73;refine (l4Flags_any _ _ _ _ _).mono ?_;rintro e w3 ⟨rfl,rfl⟩)|(go_at_call 74;refine (l4Carry_any _ _ f0 f1).mono ?_;rintro e w3 ⟨rfl,rfl⟩))
 go_ret2
 rw [beq_dec]
 refine ⟨ret_two (by omega) (fl_close (congrArg (fun x:Int=>decide (x=0)) (by omega))),rfl⟩
theorem specDaa_6 (a f:Int) (w:World) (a0:0<=a) (a1:a<=255) (f0:0<=f) (f1:f<=255) (g64:f / 64%2=0) (g32:f / 32%2=0) (g16:cy f=1) (d9:decide (9<a%16)=true) (d153:decide (153<a)=false) (p9:9<a%16) (p153:¬ 153<a) :
  Calls prog 111 #[.int .i64 a,.int .i64 f] w fun e w'=>e=.returned (.tuple #[.int .i64 ((a+102)%256),.int .i64 (fl (decide ((a+102)%256=0)) false false true)])/\w'=w:=by
 have ha:inB a 0 255=true:=decide_eq_true (by omega)
 have hf:inB f 0 255=true:=decide_eq_true (by omega)
 go_enter func111,ntmps111
 go_wp2_with (first|(go_at_call 44;refine (l4Byte_any _ _).mono ?_;rintro e w' ⟨rfl,rfl⟩)|(go_at_call 73;refine (l4Flags_any _ _ _ _ _).mono ?_;rintro e w3 ⟨rfl,rfl⟩)|(go_at_call 74;refine (l4Carry_any _ _ f0 f1).mono ?_;rintro e w3 ⟨rfl,rfl⟩))
 go_ret2
 rw [beq_dec]
 refine ⟨ret_two (by omega) (fl_close (congrArg (fun x:Int=>decide (x=0)) (by omega))),rfl⟩
theorem specDaa_7 (a f:Int) (w:World) (a0:0<=a) (a1:a<=255) (f0:0<=f) (f1:f<=255) (g64:f / 64%2=0) (g32:f / 32%2=0) (g16:cy f=1) (d9:decide (9<a%16)=true) (d153:decide (153<a)=true) (p9:9<a%16) (p153:153<a) :
  Calls prog 111 #[.int .i64 a,.int .i64 f] w fun e w'=>e=.returned (.tuple #[.int .i64 ((a+102)%256),.int .i64 (fl (decide ((a+102)%256=0)) false false true)])/\w'=w:=by
 have ha:inB a 0 255=true:=decide_eq_true (by omega)
 have hf:inB f 0 255=true:=decide_eq_true (by omega)
 go_enter func111,ntmps111
 go_wp2_with (first|(go_at_call 44;refine (l4Byte_any _ _).mono ?_;rintro e w' ⟨rfl,rfl⟩)|(go_at_call 73;refine (l4Flags_any _ _ _ _ _).mono ?_;rintro e w3 ⟨rfl,rfl⟩)|(go_at_call 74;refine (l4Carry_any _ _ f0 f1).mono ?_;rintro e w3 ⟨rfl,rfl⟩))
 go_ret2
 rw [beq_dec]
 refine ⟨ret_two (by omega) (fl_close (congrArg (fun x:Int=>decide (x=0)) (by omega))),rfl⟩
theorem specDaa_8 (a f:Int) (w:World) (a0:0<=a) (a1:a<=255) (f0:0<=f) (f1:f<=255) (g64:f / 64%2=0) (g32:f / 32%2=1) (g16:cy f=0) (d9:decide (9<a%16)=false) (d153:decide (153<a)=false) (p9:¬ 9<a%16) (p153:¬ 153<a) :
  Calls prog 111 #[.int .i64 a,.int .i64 f] w fun e w'=>e=.returned (.tuple #[.int .i64 ((a+6)%256),.int .i64 (fl (decide ((a+6)%256=0)) false false false)])/\w'=w:=by
 have ha:inB a 0 255=true:=decide_eq_true (by omega)
 have hf:inB f 0 255=true:=decide_eq_true (by omega)
 go_enter func111,ntmps111
 go_wp2_with (first|(go_at_call 44;refine (l4Byte_any _ _).mono ?_;rintro e w' ⟨rfl,rfl⟩)|(go_at_call 73;refine (l4Flags_any _ _ _ _ _).mono ?_;rintro e w3 ⟨rfl,rfl⟩)|(go_at_call 74;refine (l4Carry_any _ _ f0 f1).mono ?_;rintro e w3 ⟨rfl,rfl⟩))
 go_ret2
 rw [beq_dec]
 refine ⟨ret_two (by omega) (fl_close (congrArg (fun x:Int=>decide (x=0)) (by omega))),rfl⟩
theorem specDaa_9 (a f:Int) (w:World) (a0:0<=a) (a1:a<=255) (f0:0<=f) (f1:f<=255) (g64:f / 64%2=0) (g32:f / 32%2=1) (g16:cy f=0) (d9:decide (9<a%16)=false) (d153:decide (153<a)=true) (p9:¬ 9<a%16) (p153:153<a) :
  Calls prog 111 #[.int .i64 a,.int .i64 f] w fun e w'=>e=.returned (.tuple #[.int .i64 ((a+102)%256),.int .i64 (fl (decide ((a+102)%256=0)) false false true)])/\w'=w:=by
 have ha:inB a 0 255=true:=decide_eq_true (by omega)
 have hf:inB f 0 255=true:=decide_eq_true (by omega)
 go_enter func111,ntmps111
 go_wp2_with (first|(go_at_call 44;refine (l4Byte_any _ _).mono ?_;rintro e w' ⟨rfl,rfl⟩)|(go_at_call 73;refine (l4Flags_any _ _ _ _ _).mono ?_;rintro e w3 ⟨rfl,rfl⟩)|(go_at_call 74;refine (l4Carry_any _ _ f0 f1).mono ?_;rintro e w3 ⟨rfl,rfl⟩))
 go_ret2
 rw [beq_dec]
 refine ⟨ret_two (by omega) (fl_close (congrArg (fun x:Int=>decide (x=0)) (by omega))),rfl⟩
theorem specDaa_10 (a f:Int) (w:World) (a0:0<=a) (a1:a<=255) (f0:0<=f) (f1:f<=255) (g64:f / 64%2=0) (g32:f / 32%2=1) (g16:cy f=0) (d9:decide (9<a%16)=true) (d153:decide (153<a)=false) (p9:9<a%16) (p153:¬ 153<a) :
  Calls prog 111 #[.int .i64 a,.int .i64 f] w fun e w'=>e=.returned (.tuple #[.int .i64 ((a+6)%256),.int .i64 (fl (decide ((a+6)%256=0)) false false false)])/\w'=w:=by
 have ha:inB a 0 255=true:=decide_eq_true (by omega)
 have hf:inB f 0 255=true:=decide_eq_true (by omega)
 go_enter func111,ntmps111
 go_wp2_with (first|(go_at_call 44;refine (l4Byte_any _ _).mono ?_;rintro e w' ⟨rfl,rfl⟩)|(go_at_call 73;refine (l4Flags_any _ _ _ _ _).mono ?_;rintro e w3 ⟨rfl,rfl⟩)|(go_at_call 74;refine (l4Carry_any _ _ f0 f1).mono ?_;rintro e w3 ⟨rfl,rfl⟩))
 go_ret2
 rw [beq_dec]
 refine ⟨ret_two (by omega) (fl_close (congrArg (fun x:Int=>decide (x=0)) (by omega))),rfl⟩
theorem specDaa_11 (a f:Int) (w:World) (a0:0<=a) (a1:a<=255) (f0:0<=f) (f1:f<=255) (g64:f / 64%2=0) (g32:f / 32%2=1) (g16:cy f=0) (d9:decide (9<a%16)=true) (d153:decide (153<a)=true) (p9:9<a%16) (p153:153<a) :
  Calls prog 111 #[.int .i64 a,.int .i64 f] w fun e w'=>e=.returned (.tuple #[.int .i64 ((a+102)%256),.int .i64 (fl (decide ((a+102)%256=0)) false false true)])/\w'=w:=by
 have ha:inB a 0 255=true:=decide_eq_true (by omega)
 have hf:inB f 0 255=true:=decide_eq_true (by omega)
 go_enter func111,ntmps111
 go_wp2_with (first|(go_at_call 44;refine (l4Byte_any _ _).mono ?_;rintro e w' ⟨rfl,rfl⟩)|(go_at_call 73;refine (l4Flags_any _ _ _ _ _).mono ?_;rintro e w3 ⟨rfl,rfl⟩)|(go_at_call 74;refine (l4Carry_any _ _ f0 f1).mono ?_;rintro e w3 ⟨rfl,rfl⟩))
 go_ret2
 rw [beq_dec]
 refine ⟨ret_two (by omega) (fl_close (congrArg (fun x:Int=>decide (x=0)) (by omega))),rfl⟩
theorem specDaa_12 (a f:Int) (w:World) (a0:0<=a) (a1:a<=255) (f0:0<=f) (f1:f<=255) (g64:f / 64%2=0) (g32:f / 32%2=1) (g16:cy f=1) (d9:decide (9<a%16)=false) (d153:decide (153<a)=false) (p9:¬ 9<a%16) (p153:¬ 153<a) :
  Calls prog 111 #[.int .i64 a,.int .i64 f] w fun e w'=>e=.returned (.tuple #[.int .i64 ((a+102)%256),.int .i64 (fl (decide ((a+102)%256=0)) false false true)])/\w'=w:=by
 have ha:inB a 0 255=true:=decide_eq_true (by omega)
 have hf:inB f 0 255=true:=decide_eq_true (by omega)
 go_enter func111,ntmps111
 go_wp2_with (first|(go_at_call 44;refine (l4Byte_any _ _).mono ?_;rintro e w' ⟨rfl,rfl⟩)|(go_at_call 73;refine (l4Flags_any _ _ _ _ _).mono ?_;rintro e w3 ⟨rfl,rfl⟩)|(go_at_call 74;refine (l4Carry_any _ _ f0 f1).mono ?_;rintro e w3 ⟨rfl,rfl⟩))
 go_ret2
 rw [beq_dec]
 refine ⟨ret_two (by omega) (fl_close (congrArg (fun x:Int=>decide (x=0)) (by omega))),rfl⟩
theorem specDaa_13 (a f:Int) (w:World) (a0:0<=a) (a1:a<=255) (f0:0<=f) (f1:f<=255) (g64:f / 64%2=0) (g32:f / 32%2=1) (g16:cy f=1) (d9:decide (9<a%16)=false) (d153:decide (153<a)=true) (p9:¬ 9<a%16) (p153:153<a) :
  Calls prog 111 #[.int .i64 a,.int .i64 f] w fun e w'=>e=.returned (.tuple #[.int .i64 ((a+102)%256),.int .i64 (fl (decide ((a+102)%256=0)) false false true)])/\w'=w:=by
 have ha:inB a 0 255=true:=decide_eq_true (by omega)
 have hf:inB f 0 255=true:=decide_eq_true (by omega)
 go_enter func111,ntmps111
 go_wp2_with (first|(go_at_call 44;refine (l4Byte_any _ _).mono ?_;rintro e w' ⟨rfl,rfl⟩)|(go_at_call 73;refine (l4Flags_any _ _ _ _ _).mono ?_;rintro e w3 ⟨rfl,rfl⟩)|(go_at_call 74;refine (l4Carry_any _ _ f0 f1).mono ?_;rintro e w3 ⟨rfl,rfl⟩))
 go_ret2
 rw [beq_dec]
 refine ⟨ret_two (by omega) (fl_close (congrArg (fun x:Int=>decide (x=0)) (by omega))),rfl⟩
theorem specDaa_14 (a f:Int) (w:World) (a0:0<=a) (a1:a<=255) (f0:0<=f) (f1:f<=255) (g64:f / 64%2=0) (g32:f / 32%2=1) (g16:cy f=1) (d9:decide (9<a%16)=true) (d153:decide (153<a)=false) (p9:9<a%16) (p153:¬ 153<a) :
  Calls prog 111 #[.int .i64 a,.int .i64 f] w fun e w'=>e=.returned (.tuple #[.int .i64 ((a+102)%256),.int .i64 (fl (decide ((a+102)%256=0)) false false true)])/\w'=w:=by
 have ha:inB a 0 255=true:=decide_eq_true (by omega)
 have hf:inB f 0 255=true:=decide_eq_true (by omega)
 go_enter func111,ntmps111
 go_wp2_with (first|(go_at_call 44;refine (l4Byte_any _ _).mono ?_;rintro e w' ⟨rfl,rfl⟩)|(go_at_call 73;refine (l4Flags_any _ _ _ _ _).mono ?_;rintro e w3 ⟨rfl,rfl⟩)|(go_at_call 74;refine (l4Carry_any _ _ f0 f1).mono ?_;rintro e w3 ⟨rfl,rfl⟩))
 go_ret2
 rw [beq_dec]
 refine ⟨ret_two (by omega) (fl_close (congrArg (fun x:Int=>decide (x=0)) (by omega))),rfl⟩
theorem specDaa_15 (a f:Int) (w:World) (a0:0<=a) (a1:a<=255) (f0:0<=f) (f1:f<=255) (g64:f / 64%2=0) (g32:f / 32%2=1) (g16:cy f=1) (d9:decide (9<a%16)=true) (d153:decide (153<a)=true) (p9:9<a%16) (p153:153<a) :
  Calls prog 111 #[.int .i64 a,.int .i64 f] w fun e w'=>e=.returned (.tuple #[.int .i64 ((a+102)%256),.int .i64 (fl (decide ((a+102)%256=0)) false false true)])/\w'=w:=by
 have ha:inB a 0 255=true:=decide_eq_true (by omega)
 have hf:inB f 0 255=true:=decide_eq_true (by omega)
 go_enter func111,ntmps111
 go_wp2_with (first|(go_at_call 44;refine (l4Byte_any _ _).mono ?_;rintro e w' ⟨rfl,rfl⟩)|(go_at_call 73;refine (l4Flags_any _ _ _ _ _).mono ?_;rintro e w3 ⟨rfl,rfl⟩)|(go_at_call 74;refine (l4Carry_any _ _ f0 f1).mono ?_;rintro e w3 ⟨rfl,rfl⟩))
 go_ret2
 rw [beq_dec]
 refine ⟨ret_two (by omega) (fl_close (congrArg (fun x:Int=>decide (x=0)) (by omega))),rfl⟩
theorem specDaa_16 (a f:Int) (w:World) (a0:0<=a) (a1:a<=255) (f0:0<=f) (f1:f<=255) (g64:f / 64%2=1) (g32:f / 32%2=0) (g16:cy f=0) (d9:decide (9<a%16)=false) (d153:decide (153<a)=false) (p9:¬ 9<a%16) (p153:¬ 153<a) :
  Calls prog 111 #[.int .i64 a,.int .i64 f] w fun e w'=>e=.returned (.tuple #[.int .i64 ((a+256)%256),.int .i64 (fl (decide ((a+256)%256=0)) true false false)])/\w'=w:=by
 have ha:inB a 0 255=true:=decide_eq_true (by omega)
 have hf:inB f 0 255=true:=decide_eq_true (by omega)
 go_enter func111,ntmps111
 go_wp2_with (first|(go_at_call 44;refine (l4Byte_any _ _).mono ?_;rintro e w' ⟨rfl,rfl⟩)|(go_at_call 73;refine (l4Flags_any _ _ _ _ _).mono ?_;rintro e w3 ⟨rfl,rfl⟩)|(go_at_call 74;refine (l4Carry_any _ _ f0 f1).mono ?_;rintro e w3 ⟨rfl,rfl⟩))
 go_ret2
 rw [beq_dec]
 refine ⟨ret_two (by omega) (fl_close (congrArg (fun x:Int=>decide (x=0)) (by omega))),rfl⟩
theorem specDaa_17 (a f:Int) (w:World) (a0:0<=a) (a1:a<=255) (f0:0<=f) (f1:f<=255) (g64:f / 64%2=1) (g32:f / 32%2=0) (g16:cy f=0) (d9:decide (9<a%16)=false) (d153:decide (153<a)=true) (p9:¬ 9<a%16) (p153:153<a) :
  Calls prog 111 #[.int .i64 a,.int .i64 f] w fun e w'=>e=.returned (.tuple #[.int .i64 ((a+256)%256),.int .i64 (fl (decide ((a+256)%256=0)) true false false)])/\w'=w:=by
 have ha:inB a 0 255=true:=decide_eq_true (by omega)
 have hf:inB f 0 255=true:=decide_eq_true (by omega)
 go_enter func111,ntmps111
 go_wp2_with (first|(go_at_call 44;refine (l4Byte_any _ _).mono ?_;rintro e w' ⟨rfl,rfl⟩)|(go_at_call 73;refine (l4Flags_any _ _ _ _ _).mono ?_;rintro e w3 ⟨rfl,rfl⟩)|(go_at_call 74;refine (l4Carry_any _ _ f0 f1).mono ?_;rintro e w3 ⟨rfl,rfl⟩))
 go_ret2
 rw [beq_dec]
 refine ⟨ret_two (by omega) (fl_close (congrArg (fun x:Int=>decide (x=0)) (by omega))),rfl⟩
theorem specDaa_18 (a f:Int) (w:World) (a0:0<=a) (a1:a<=255) (f0:0<=f) (f1:f<=255) (g64:f / 64%2=1) (g32:f / 32%2=0) (g16:cy f=0) (d9:decide (9<a%16)=true) (d153:decide (153<a)=false) (p9:9<a%16) (p153:¬ 153<a) :
  Calls prog 111 #[.int .i64 a,.int .i64 f] w fun e w'=>e=.returned (.tuple #[.int .i64 ((a+256)%256),.int .i64 (fl (decide ((a+256)%256=0)) true false false)])/\w'=w:=by
 have ha:inB a 0 255=true:=decide_eq_true (by omega)
 have hf:inB f 0 255=true:=decide_eq_true (by omega)
 go_enter func111,ntmps111
 go_wp2_with (first|(go_at_call 44;refine (l4Byte_any _ _).mono ?_;rintro e w' ⟨rfl,rfl⟩)|(go_at_call 73;refine (l4Flags_any _ _ _ _ _).mono ?_;rintro e w3 ⟨rfl,rfl⟩)|(go_at_call 74;refine (l4Carry_any _ _ f0 f1).mono ?_;rintro e w3 ⟨rfl,rfl⟩))
 go_ret2
 rw [beq_dec]
 refine ⟨ret_two (by omega) (fl_close (congrArg (fun x:Int=>decide (x=0)) (by omega))),rfl⟩
theorem specDaa_19 (a f:Int) (w:World) (a0:0<=a) (a1:a<=255) (f0:0<=f) (f1:f<=255) (g64:f / 64%2=1) (g32:f / 32%2=0) (g16:cy f=0) (d9:decide (9<a%16)=true) (d153:decide (153<a)=true) (p9:9<a%16) (p153:153<a) :
  Calls prog 111 #[.int .i64 a,.int .i64 f] w fun e w'=>e=.returned (.tuple #[.int .i64 ((a+256)%256),.int .i64 (fl (decide ((a+256)%256=0)) true false false)])/\w'=w:=by
 have ha:inB a 0 255=true:=decide_eq_true (by omega)
 have hf:inB f 0 255=true:=decide_eq_true (by omega)
 go_enter func111,ntmps111
 go_wp2_with (first|(go_at_call 44;refine (l4Byte_any _ _).mono ?_;rintro e w' ⟨rfl,rfl⟩)|(go_at_call 73;refine (l4Flags_any _ _ _ _ _).mono ?_;rintro e w3 ⟨rfl,rfl⟩)|(go_at_call 74;refine (l4Carry_any _ _ f0 f1).mono ?_;rintro e w3 ⟨rfl,rfl⟩))
 go_ret2
 rw [beq_dec]
 refine ⟨ret_two (by omega) (fl_close (congrArg (fun x:Int=>decide (x=0)) (by omega))),rfl⟩
theorem specDaa_20 (a f:Int) (w:World) (a0:0<=a) (a1:a<=255) (f0:0<=f) (f1:f<=255) (g64:f / 64%2=1) (g32:f / 32%2=0) (g16:cy f=1) (d9:decide (9<a%16)=false) (d153:decide (153<a)=false) (p9:¬ 9<a%16) (p153:¬ 153<a) :
  Calls prog 111 #[.int .i64 a,.int .i64 f] w fun e w'=>e=.returned (.tuple #[.int .i64 ((a+160)%256),.int .i64 (fl (decide ((a+160)%256=0)) true false true)])/\w'=w:=by
 have ha:inB a 0 255=true:=decide_eq_true (by omega)
 have hf:inB f 0 255=true:=decide_eq_true (by omega)
 go_enter func111,ntmps111
 go_wp2_with (first|(go_at_call 44;refine (l4Byte_any _ _).mono ?_;rintro e w' ⟨rfl,rfl⟩)|(go_at_call 73;refine (l4Flags_any _ _ _ _ _).mono ?_;rintro e w3 ⟨rfl,rfl⟩)|(go_at_call 74;refine (l4Carry_any _ _ f0 f1).mono ?_;rintro e w3 ⟨rfl,rfl⟩))
 go_ret2
 rw [beq_dec]
 refine ⟨ret_two (by omega) (fl_close (congrArg (fun x:Int=>decide (x=0)) (by omega))),rfl⟩
theorem specDaa_21 (a f:Int) (w:World) (a0:0<=a) (a1:a<=255) (f0:0<=f) (f1:f<=255) (g64:f / 64%2=1) (g32:f / 32%2=0) (g16:cy f=1) (d9:decide (9<a%16)=false) (d153:decide (153<a)=true) (p9:¬ 9<a%16) (p153:153<a) :
  Calls prog 111 #[.int .i64 a,.int .i64 f] w fun e w'=>e=.returned (.tuple #[.int .i64 ((a+160)%256),.int .i64 (fl (decide ((a+160)%256=0)) true false true)])/\w'=w:=by
 have ha:inB a 0 255=true:=decide_eq_true (by omega)
 have hf:inB f 0 255=true:=decide_eq_true (by omega)
 go_enter func111,ntmps111
 go_wp2_with (first|(go_at_call 44;refine (l4Byte_any _ _).mono ?_;rintro e w' ⟨rfl,rfl⟩)|(go_at_call 73;refine (l4Flags_any _ _ _ _ _).mono ?_;rintro e w3 ⟨rfl,rfl⟩)|(go_at_call 74;refine (l4Carry_any _ _ f0 f1).mono ?_;rintro e w3 ⟨rfl,rfl⟩))
 go_ret2
 rw [beq_dec]
 refine ⟨ret_two (by omega) (fl_close (congrArg (fun x:Int=>decide (x=0)) (by omega))),rfl⟩
theorem specDaa_22 (a f:Int) (w:World) (a0:0<=a) (a1:a<=255) (f0:0<=f) (f1:f<=255) (g64:f / 64%2=1) (g32:f / 32%2=0) (g16:cy f=1) (d9:decide (9<a%16)=true) (d153:decide (153<a)=false) (p9:9<a%16) (p153:¬ 153<a) :
  Calls prog 111 #[.int .i64 a,.int .i64 f] w fun e w'=>e=.returned (.tuple #[.int .i64 ((a+160)%256),.int .i64 (fl (decide ((a+160)%256=0)) true false true)])/\w'=w:=by
 have ha:inB a 0 255=true:=decide_eq_true (by omega)
 have hf:inB f 0 255=true:=decide_eq_true (by omega)
 go_enter func111,ntmps111
 go_wp2_with (first|(go_at_call 44;refine (l4Byte_any _ _).mono ?_;rintro e w' ⟨rfl,rfl⟩)|(go_at_call 73;refine (l4Flags_any _ _ _ _ _).mono ?_;rintro e w3 ⟨rfl,rfl⟩)|(go_at_call 74;refine (l4Carry_any _ _ f0 f1).mono ?_;rintro e w3 ⟨rfl,rfl⟩))
 go_ret2
 rw [beq_dec]
 refine ⟨ret_two (by omega) (fl_close (congrArg (fun x:Int=>decide (x=0)) (by omega))),rfl⟩
theorem specDaa_23 (a f:Int) (w:World) (a0:0<=a) (a1:a<=255) (f0:0<=f) (f1:f<=255) (g64:f / 64%2=1) (g32:f / 32%2=0) (g16:cy f=1) (d9:decide (9<a%16)=true) (d153:decide (153<a)=true) (p9:9<a%16) (p153:153<a) :
  Calls prog 111 #[.int .i64 a,.int .i64 f] w fun e w'=>e=.returned (.tuple #[.int .i64 ((a+160)%256),.int .i64 (fl (decide ((a+160)%256=0)) true false true)])/\w'=w:=by
 have ha:inB a 0 255=true:=decide_eq_true (by omega)
 have hf:inB f 0 255=true:=decide_eq_true (by omega)
 go_enter func111,ntmps111
 go_wp2_with (first|(go_at_call 44;refine (l4Byte_any _ _).mono ?_;rintro e w' ⟨rfl,rfl⟩)|(go_at_call 73;refine (l4Flags_any _ _ _ _ _).mono ?_;rintro e w3 ⟨rfl,rfl⟩)|(go_at_call 74;refine (l4Carry_any _ _ f0 f1).mono ?_;rintro e w3 ⟨rfl,rfl⟩))
 go_ret2
 rw [beq_dec]
 refine ⟨ret_two (by omega) (fl_close (congrArg (fun x:Int=>decide (x=0)) (by omega))),rfl⟩
theorem specDaa_24 (a f:Int) (w:World) (a0:0<=a) (a1:a<=255) (f0:0<=f) (f1:f<=255) (g64:f / 64%2=1) (g32:f / 32%2=1) (g16:cy f=0) (d9:decide (9<a%16)=false) (d153:decide (153<a)=false) (p9:¬ 9<a%16) (p153:¬ 153<a) :
  Calls prog 111 #[.int .i64 a,.int .i64 f] w fun e w'=>e=.returned (.tuple #[.int .i64 ((a+250)%256),.int .i64 (fl (decide ((a+250)%256=0)) true false false)])/\w'=w:=by
 have ha:inB a 0 255=true:=decide_eq_true (by omega)
 have hf:inB f 0 255=true:=decide_eq_true (by omega)
 go_enter func111,ntmps111
 go_wp2_with (first|(go_at_call 44;refine (l4Byte_any _ _).mono ?_;rintro e w' ⟨rfl,rfl⟩)|(go_at_call 73;refine (l4Flags_any _ _ _ _ _).mono ?_;rintro e w3 ⟨rfl,rfl⟩)|(go_at_call 74;refine (l4Carry_any _ _ f0 f1).mono ?_;rintro e w3 ⟨rfl,rfl⟩))
 go_ret2
 rw [beq_dec]
 refine ⟨ret_two (by omega) (fl_close (congrArg (fun x:Int=>decide (x=0)) (by omega))),rfl⟩
theorem specDaa_25 (a f:Int) (w:World) (a0:0<=a) (a1:a<=255) (f0:0<=f) (f1:f<=255) (g64:f / 64%2=1) (g32:f / 32%2=1) (g16:cy f=0) (d9:decide (9<a%16)=false) (d153:decide (153<a)=true) (p9:¬ 9<a%16) (p153:153<a) :
  Calls prog 111 #[.int .i64 a,.int .i64 f] w fun e w'=>e=.returned (.tuple #[.int .i64 ((a+250)%256),.int .i64 (fl (decide ((a+250)%256=0)) true false false)])/\w'=w:=by
 have ha:inB a 0 255=true:=decide_eq_true (by omega)
 have hf:inB f 0 255=true:=decide_eq_true (by omega)
 go_enter func111,ntmps111
 go_wp2_with (first|(go_at_call 44;refine (l4Byte_any _ _).mono ?_;rintro e w' ⟨rfl,rfl⟩)|(go_at_call 73;refine (l4Flags_any _ _ _ _ _).mono ?_;rintro e w3 ⟨rfl,rfl⟩)|(go_at_call 74;refine (l4Carry_any _ _ f0 f1).mono ?_;rintro e w3 ⟨rfl,rfl⟩))
 go_ret2
 rw [beq_dec]
 refine ⟨ret_two (by omega) (fl_close (congrArg (fun x:Int=>decide (x=0)) (by omega))),rfl⟩
theorem specDaa_26 (a f:Int) (w:World) (a0:0<=a) (a1:a<=255) (f0:0<=f) (f1:f<=255) (g64:f / 64%2=1) (g32:f / 32%2=1) (g16:cy f=0) (d9:decide (9<a%16)=true) (d153:decide (153<a)=false) (p9:9<a%16) (p153:¬ 153<a) :
  Calls prog 111 #[.int .i64 a,.int .i64 f] w fun e w'=>e=.returned (.tuple #[.int .i64 ((a+250)%256),.int .i64 (fl (decide ((a+250)%256=0)) true false false)])/\w'=w:=by
 have ha:inB a 0 255=true:=decide_eq_true (by omega)
 have hf:inB f 0 255=true:=decide_eq_true (by omega)
 go_enter func111,ntmps111
 go_wp2_with (first|(go_at_call 44;refine (l4Byte_any _ _).mono ?_;rintro e w' ⟨rfl,rfl⟩)|(go_at_call 73;refine (l4Flags_any _ _ _ _ _).mono ?_;rintro e w3 ⟨rfl,rfl⟩)|(go_at_call 74;refine (l4Carry_any _ _ f0 f1).mono ?_;rintro e w3 ⟨rfl,rfl⟩))
 go_ret2
 rw [beq_dec]
 refine ⟨ret_two (by omega) (fl_close (congrArg (fun x:Int=>decide (x=0)) (by omega))),rfl⟩
theorem specDaa_27 (a f:Int) (w:World) (a0:0<=a) (a1:a<=255) (f0:0<=f) (f1:f<=255) (g64:f / 64%2=1) (g32:f / 32%2=1) (g16:cy f=0) (d9:decide (9<a%16)=true) (d153:decide (153<a)=true) (p9:9<a%16) (p153:153<a) :
  Calls prog 111 #[.int .i64 a,.int .i64 f] w fun e w'=>e=.returned (.tuple #[.int .i64 ((a+250)%256),.int .i64 (fl (decide ((a+250)%256=0)) true false false)])/\w'=w:=by
 have ha:inB a 0 255=true:=decide_eq_true (by omega)
 have hf:inB f 0 255=true:=decide_eq_true (by omega)
 go_enter func111,ntmps111
 go_wp2_with (first|(go_at_call 44;refine (l4Byte_any _ _).mono ?_;rintro e w' ⟨rfl,rfl⟩)|(go_at_call 73;refine (l4Flags_any _ _ _ _ _).mono ?_;rintro e w3 ⟨rfl,rfl⟩)|(go_at_call 74;refine (l4Carry_any _ _ f0 f1).mono ?_;rintro e w3 ⟨rfl,rfl⟩))
 go_ret2
 rw [beq_dec]
 refine ⟨ret_two (by omega) (fl_close (congrArg (fun x:Int=>decide (x=0)) (by omega))),rfl⟩
theorem specDaa_28 (a f:Int) (w:World) (a0:0<=a) (a1:a<=255) (f0:0<=f) (f1:f<=255) (g64:f / 64%2=1) (g32:f / 32%2=1) (g16:cy f=1) (d9:decide (9<a%16)=false) (d153:decide (153<a)=false) (p9:¬ 9<a%16) (p153:¬ 153<a) :
  Calls prog 111 #[.int .i64 a,.int .i64 f] w fun e w'=>e=.returned (.tuple #[.int .i64 ((a+154)%256),.int .i64 (fl (decide ((a+154)%256=0)) true false true)])/\w'=w:=by
 have ha:inB a 0 255=true:=decide_eq_true (by omega)
 have hf:inB f 0 255=true:=decide_eq_true (by omega)
 go_enter func111,ntmps111
 go_wp2_with (first|(go_at_call 44;refine (l4Byte_any _ _).mono ?_;rintro e w' ⟨rfl,rfl⟩)|(go_at_call 73;refine (l4Flags_any _ _ _ _ _).mono ?_;rintro e w3 ⟨rfl,rfl⟩)|(go_at_call 74;refine (l4Carry_any _ _ f0 f1).mono ?_;rintro e w3 ⟨rfl,rfl⟩))
 go_ret2
 rw [beq_dec]
 refine ⟨ret_two (by omega) (fl_close (congrArg (fun x:Int=>decide (x=0)) (by omega))),rfl⟩
theorem specDaa_29 (a f:Int) (w:World) (a0:0<=a) (a1:a<=255) (f0:0<=f) (f1:f<=255) (g64:f / 64%2=1) (g32:f / 32%2=1) (g16:cy f=1) (d9:decide (9<a%16)=false) (d153:decide (153<a)=true) (p9:¬ 9<a%16) (p153:153<a) :
  Calls prog 111 #[.int .i64 a,.int .i64 f] w fun e w'=>e=.returned (.tuple #[.int .i64 ((a+154)%256),.int .i64 (fl (decide ((a+154)%256=0)) true false true)])/\w'=w:=by
 have ha:inB a 0 255=true:=decide_eq_true (by omega)
 have hf:inB f 0 255=true:=decide_eq_true (by omega)
 go_enter func111,ntmps111
 go_wp2_with (first|(go_at_call 44;refine (l4Byte_any _ _).mono ?_;rintro e w' ⟨rfl,rfl⟩)|(go_at_call 73;refine (l4Flags_any _ _ _ _ _).mono ?_;rintro e w3 ⟨rfl,rfl⟩)|(go_at_call 74;refine (l4Carry_any _ _ f0 f1).mono ?_;rintro e w3 ⟨rfl,rfl⟩))
 go_ret2
 rw [beq_dec]
 refine ⟨ret_two (by omega) (fl_close (congrArg (fun x:Int=>decide (x=0)) (by omega))),rfl⟩
theorem specDaa_30 (a f:Int) (w:World) (a0:0<=a) (a1:a<=255) (f0:0<=f) (f1:f<=255) (g64:f / 64%2=1) (g32:f / 32%2=1) (g16:cy f=1) (d9:decide (9<a%16)=true) (d153:decide (153<a)=false) (p9:9<a%16) (p153:¬ 153<a) :
  Calls prog 111 #[.int .i64 a,.int .i64 f] w fun e w'=>e=.returned (.tuple #[.int .i64 ((a+154)%256),.int .i64 (fl (decide ((a+154)%256=0)) true false true)])/\w'=w:=by
 have ha:inB a 0 255=true:=decide_eq_true (by omega)
 have hf:inB f 0 255=true:=decide_eq_true (by omega)
 go_enter func111,ntmps111
 go_wp2_with (first|(go_at_call 44;refine (l4Byte_any _ _).mono ?_;rintro e w' ⟨rfl,rfl⟩)|(go_at_call 73;refine (l4Flags_any _ _ _ _ _).mono ?_;rintro e w3 ⟨rfl,rfl⟩)|(go_at_call 74;refine (l4Carry_any _ _ f0 f1).mono ?_;rintro e w3 ⟨rfl,rfl⟩))
 go_ret2
 rw [beq_dec]
 refine ⟨ret_two (by omega) (fl_close (congrArg (fun x:Int=>decide (x=0)) (by omega))),rfl⟩
theorem specDaa_31 (a f:Int) (w:World) (a0:0<=a) (a1:a<=255) (f0:0<=f) (f1:f<=255) (g64:f / 64%2=1) (g32:f / 32%2=1) (g16:cy f=1) (d9:decide (9<a%16)=true) (d153:decide (153<a)=true) (p9:9<a%16) (p153:153<a) :
  Calls prog 111 #[.int .i64 a,.int .i64 f] w fun e w'=>e=.returned (.tuple #[.int .i64 ((a+154)%256),.int .i64 (fl (decide ((a+154)%256=0)) true false true)])/\w'=w:=by
 have ha:inB a 0 255=true:=decide_eq_true (by omega)
 have hf:inB f 0 255=true:=decide_eq_true (by omega)
 go_enter func111,ntmps111
 go_wp2_with (first|(go_at_call 44;refine (l4Byte_any _ _).mono ?_;rintro e w' ⟨rfl,rfl⟩)|(go_at_call 73;refine (l4Flags_any _ _ _ _ _).mono ?_;rintro e w3 ⟨rfl,rfl⟩)|(go_at_call 74;refine (l4Carry_any _ _ f0 f1).mono ?_;rintro e w3 ⟨rfl,rfl⟩))
 go_ret2
 rw [beq_dec]
 refine ⟨ret_two (by omega) (fl_close (congrArg (fun x:Int=>decide (x=0)) (by omega))),rfl⟩
theorem specDaa_any (a f:Int) (w:World) :
  Calls prog 111 #[.int .i64 a,.int .i64 f] w fun e w'=>e=.returned (.tuple #[.int .i64 (daa a f).1,.int .i64 (daa a f).2])/\w'=w:=by
 unfold daa
 cases ha:inB a 0 255 <;> cases hf:inB f 0 255
 case true.true =>
  obtain ⟨a0,a1⟩:=of_decide_eq_true ha
  obtain ⟨f0,f1⟩:=of_decide_eq_true hf
  show Calls _ _ _ _ fun e w'=>e=.returned (.tuple #[.int .i64 (daaR a f).1,.int .i64 (daaR a f).2])/\w'=w
  have cb:=cy_bd f
  unfold daaR
  cases hn:nB f <;> cases hh:hB f <;> cases hc:cB f <;> cases d9:decide (9<a%16) <;> cases d153:decide (153<a) <;> simp only [nB,hB,cB,decide_eq_true_eq,decide_eq_false_iff_not] at hn hh hc
  ·exact specDaa_0 a f w a0 a1 f0 f1 (by omega) (by omega) (by omega) d9 d153 (of_decide_eq_false d9) (of_decide_eq_false d153)
  ·exact specDaa_1 a f w a0 a1 f0 f1 (by omega) (by omega) (by omega) d9 d153 (of_decide_eq_false d9) (of_decide_eq_true d153)
  ·exact specDaa_2 a f w a0 a1 f0 f1 (by omega) (by omega) (by omega) d9 d153 (of_decide_eq_true d9) (of_decide_eq_false d153)
  ·exact specDaa_3 a f w a0 a1 f0 f1 (by omega) (by omega) (by omega) d9 d153 (of_decide_eq_true d9) (of_decide_eq_true d153)
  ·exact specDaa_4 a f w a0 a1 f0 f1 (by omega) (by omega) (by omega) d9 d153 (of_decide_eq_false d9) (of_decide_eq_false d153)
  ·exact specDaa_5 a f w a0 a1 f0 f1 (by omega) (by omega) (by omega) d9 d153 (of_decide_eq_false d9) (of_decide_eq_true d153)
  ·exact specDaa_6 a f w a0 a1 f0 f1 (by omega) (by omega) (by omega) d9 d153 (of_decide_eq_true d9) (of_decide_eq_false d153)
  ·exact specDaa_7 a f w a0 a1 f0 f1 (by omega) (by omega) (by omega) d9 d153 (of_decide_eq_true d9) (of_decide_eq_true d153)
  ·exact specDaa_8 a f w a0 a1 f0 f1 (by omega) (by omega) (by omega) d9 d153 (of_decide_eq_false d9) (of_decide_eq_false d153)
  ·exact specDaa_9 a f w a0 a1 f0 f1 (by omega) (by omega) (by omega) d9 d153 (of_decide_eq_false d9) (of_decide_eq_true d153)
  ·exact specDaa_10 a f w a0 a1 f0 f1 (by omega) (by omega) (by omega) d9 d153 (of_decide_eq_true d9) (of_decide_eq_false d153)
  ·exact specDaa_11 a f w a0 a1 f0 f1 (by omega) (by omega) (by omega) d9 d153 (of_decide_eq_true d9) (of_decide_eq_true d153)
  ·exact specDaa_12 a f w a0 a1 f0 f1 (by omega) (by omega) (by omega) d9 d153 (of_decide_eq_false d9) (of_decide_eq_false d153)
  ·exact specDaa_13 a f w a0 a1 f0 f1 (by omega) (by omega) (by omega) d9 d153 (of_decide_eq_false d9) (of_decide_eq_true d153)
  ·exact specDaa_14 a f w a0 a1 f0 f1 (by omega) (by omega) (by omega) d9 d153 (of_decide_eq_true d9) (of_decide_eq_false d153)
  ·exact specDaa_15 a f w a0 a1 f0 f1 (by omega) (by omega) (by omega) d9 d153 (of_decide_eq_true d9) (of_decide_eq_true d153)
  ·exact specDaa_16 a f w a0 a1 f0 f1 (by omega) (by omega) (by omega) d9 d153 (of_decide_eq_false d9) (of_decide_eq_false d153)
  ·exact specDaa_17 a f w a0 a1 f0 f1 (by omega) (by omega) (by omega) d9 d153 (of_decide_eq_false d9) (of_decide_eq_true d153)
  ·exact specDaa_18 a f w a0 a1 f0 f1 (by omega) (by omega) (by omega) d9 d153 (of_decide_eq_true d9) (of_decide_eq_false d153)
  ·exact specDaa_19 a f w a0 a1 f0 f1 (by omega) (by omega) (by omega) d9 d153 (of_decide_eq_true d9) (of_decide_eq_true d153)
  ·exact specDaa_20 a f w a0 a1 f0 f1 (by omega) (by omega) (by omega) d9 d153 (of_decide_eq_false d9) (of_decide_eq_false d153)
  ·exact specDaa_21 a f w a0 a1 f0 f1 (by omega) (by omega) (by omega) d9 d153 (of_decide_eq_false d9) (of_decide_eq_true d153)
  ·exact specDaa_22 a f w a0 a1 f0 f1 (by omega) (by omega) (by omega) d9 d153 (of_decide_eq_true d9) (of_decide_eq_false d153)
  ·exact specDaa_23 a f w a0 a1 f0 f1 (by omega) (by omega) (by omega) d9 d153 (of_decide_eq_true d9) (of_decide_eq_true d153)
  ·exact specDaa_24 a f w a0 a1 f0 f1 (by omega) (by omega) (by omega) d9 d153 (of_decide_eq_false d9) (of_decide_eq_false d153)
  ·exact specDaa_25 a f w a0 a1 f0 f1 (by omega) (by omega) (by omega) d9 d153 (of_decide_eq_false d9) (of_decide_eq_true d153)
  ·exact specDaa_26 a f w a0 a1 f0 f1 (by omega) (by omega) (by omega) d9 d153 (of_decide_eq_true d9) (of_decide_eq_false d153)
  ·exact specDaa_27 a f w a0 a1 f0 f1 (by omega) (by omega) (by omega) d9 d153 (of_decide_eq_true d9) (of_decide_eq_true d153)
  ·exact specDaa_28 a f w a0 a1 f0 f1 (by omega) (by omega) (by omega) d9 d153 (of_decide_eq_false d9) (of_decide_eq_false d153)
  ·exact specDaa_29 a f w a0 a1 f0 f1 (by omega) (by omega) (by omega) d9 d153 (of_decide_eq_false d9) (of_decide_eq_true d153)
  ·exact specDaa_30 a f w a0 a1 f0 f1 (by omega) (by omega) (by omega) d9 d153 (of_decide_eq_true d9) (of_decide_eq_false d153)
  ·exact specDaa_31 a f w a0 a1 f0 f1 (by omega) (by omega) (by omega) d9 d153 (of_decide_eq_true d9) (of_decide_eq_true d153)
 all_goals
  go_enter func111,ntmps111
  go_wp2_with (go_at_call 44;refine (l4Byte_any _ _).mono ?_;rintro e w' ⟨rfl,rfl⟩)
  go_ret2
  exact ⟨rfl,rfl⟩
end Go.Proofs.YtkfehdkjeodbmaaGreatDoor.ReckD
