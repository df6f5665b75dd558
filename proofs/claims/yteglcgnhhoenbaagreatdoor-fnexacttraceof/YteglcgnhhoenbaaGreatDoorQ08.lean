import Derived.Test.YteglcgnhhoenbaaGreatDoorQ07
set_option linter.all false
set_option maxRecDepth 20000
set_option maxHeartbeats 8000000
open Go.ChangeShapes Go.WideShapes Go.ChangeAt Go.RowKit
open Go.Proofs.Tryz
namespace Go.Proofs.YteglcgnhhoenbaaGreatDoor
namespace TurnI
open Signed (inB aG aB aC aE)
open Reck ReckS ReckM TurnS
theorem iM (v b:Int) (w:World) (v0:0<=v) (v1:v<=255) (b0:0<=b) (b1:b<=1) :
  Calls prog 296 #[.int .i64 v,.int .i64 b] w fun e w'=>e=.returned (.tuple #[.int .i64 (v*2%256+b),.int .i64 (v / 128)])/\w'=w:=by
 go_enter func296,ntmps296
 go_wp2;go_ret2;exact ⟨rfl,rfl⟩
theorem gG (v b:Int) (w:World) (v0:0<=v) (v1:v<=255) (b0:0<=b) (b1:b<=1) :
  Calls prog 297 #[.int .i64 v,.int .i64 b] w fun e w'=>e=.returned (.tuple #[.int .i64 (v / 2+128*b),.int .i64 (v%2)])/\w'=w:=by
 go_enter func297,ntmps297
 go_wp2;go_ret2;exact ⟨rfl,rfl⟩
theorem rX (v c:Int) (w:World) (v0:0<=v) (v1:v<=255) (c0:0<=c) (c1:c<=1) :
  Calls prog 282 #[.int .i64 v,.int .i64 c] w fun e w'=>e=.returned (.tuple #[.int .i64 (v*2%256+v / 128),.int .i64 (v / 128)])/\w'=w:=by
 go_enter func282,ntmps282
 go_wp2_with (go_at_call 296;refine (iM _ _ _ v0 v1 (by omega) (by omega)).mono ?_;rintro e w' ⟨rfl,rfl⟩)
 go_ret2;exact ⟨bE (by omega) rfl,rfl⟩
theorem qJ (v c:Int) (w:World) (v0:0<=v) (v1:v<=255) (c0:0<=c) (c1:c<=1) :
  Calls prog 283 #[.int .i64 v,.int .i64 c] w fun e w'=>e=.returned (.tuple #[.int .i64 (v / 2+128*(v%2)),.int .i64 (v%2)])/\w'=w:=by
 go_enter func283,ntmps283
 go_wp2_with (go_at_call 297;refine (gG _ _ _ v0 v1 (by omega) (by omega)).mono ?_;rintro e w' ⟨rfl,rfl⟩)
 go_ret2;exact ⟨bE (by omega) rfl,rfl⟩
theorem rY (v c:Int) (w:World) (v0:0<=v) (v1:v<=255) (c0:0<=c) (c1:c<=1) :
  Calls prog 284 #[.int .i64 v,.int .i64 c] w fun e w'=>e=.returned (.tuple #[.int .i64 (v*2%256+c),.int .i64 (v / 128)])/\w'=w:=by
 go_enter func284,ntmps284
 go_wp2_with (go_at_call 296;refine (iM _ _ _ v0 v1 (by omega) (by omega)).mono ?_;rintro e w' ⟨rfl,rfl⟩)
 go_ret2;exact ⟨bE (by omega) rfl,rfl⟩
theorem qK (v c:Int) (w:World) (v0:0<=v) (v1:v<=255) (c0:0<=c) (c1:c<=1) :
  Calls prog 285 #[.int .i64 v,.int .i64 c] w fun e w'=>e=.returned (.tuple #[.int .i64 (v / 2+128*c),.int .i64 (v%2)])/\w'=w:=by
 go_enter func285,ntmps285
 go_wp2_with (go_at_call 297;refine (gG _ _ _ v0 v1 (by omega) (by omega)).mono ?_;rintro e w' ⟨rfl,rfl⟩)
 go_ret2;exact ⟨bE (by omega) rfl,rfl⟩
theorem rZ (v c:Int) (w:World) (v0:0<=v) (v1:v<=255) (c0:0<=c) (c1:c<=1) :
  Calls prog 286 #[.int .i64 v,.int .i64 c] w fun e w'=>e=.returned (.tuple #[.int .i64 (v*2%256),.int .i64 (v / 128)])/\w'=w:=by
 go_enter func286,ntmps286
 go_wp2_with (go_at_call 296;refine (iM _ _ _ v0 v1 (by omega) (by omega)).mono ?_;rintro e w' ⟨rfl,rfl⟩)
 go_ret2;exact ⟨bE (by omega) rfl,rfl⟩
theorem pT (v c:Int) (w:World) (v0:0<=v) (v1:v<=255) (c0:0<=c) (c1:c<=1) :
  Calls prog 287 #[.int .i64 v,.int .i64 c] w fun e w'=>e=.returned (.tuple #[.int .i64 (v / 2+128*(v / 128)),.int .i64 (v%2)])/\w'=w:=by
 go_enter func287,ntmps287
 go_wp2_with (go_at_call 297;refine (gG _ _ _ v0 v1 (by omega) (by omega)).mono ?_;rintro e w' ⟨rfl,rfl⟩)
 go_ret2;exact ⟨bE (by omega) rfl,rfl⟩
theorem qL (v c:Int) (w:World) (v0:0<=v) (v1:v<=255) (c0:0<=c) (c1:c<=1) :
  Calls prog 288 #[.int .i64 v,.int .i64 c] w fun e w'=>e=.returned (.tuple #[.int .i64 (v%16*16+v / 16),.int .i64 (0)])/\w'=w:=by
 go_enter func288,ntmps288
 go_wp2;go_ret2;exact ⟨bE (by omega) rfl,rfl⟩
theorem qM (v c:Int) (w:World) (v0:0<=v) (v1:v<=255) (c0:0<=c) (c1:c<=1) :
  Calls prog 289 #[.int .i64 v,.int .i64 c] w fun e w'=>e=.returned (.tuple #[.int .i64 (v / 2),.int .i64 (v%2)])/\w'=w:=by
 go_enter func289,ntmps289
 go_wp2_with (go_at_call 297;refine (gG _ _ _ v0 v1 (by omega) (by omega)).mono ?_;rintro e w' ⟨rfl,rfl⟩)
 go_ret2;exact ⟨bE (by omega) rfl,rfl⟩
theorem dX (w:World) :
  Calls prog 264 #[] w fun e w'=>e=.returned (.agg #[.func (.func 282) #[] #[],.func (.func 283) #[] #[],.func (.func 284) #[] #[],.func (.func 285) #[] #[],.func (.func 286) #[] #[],.func (.func 287) #[] #[],.func (.func 288) #[] #[],.func (.func 289) #[] #[]])/\Below w.heap.size w w':=by
 go_enter func264,ntmps264
 go_wp2;refine bodyPost_ret (v:=.agg #[.func (.func 282) #[] #[],.func (.func 283) #[] #[],.func (.func 284) #[] #[],.func (.func 285) #[] #[],.func (.func 286) #[] #[],.func (.func 287) #[] #[],.func (.func 288) #[] #[],.func (.func 289) #[] #[]]) (by simp [results,results264,go_sem]) rfl ⟨rfl,?_⟩;exact zAl _ _
theorem tY (v f:Int) (w:World) (v0:0<=v) (v1:v<=255) (f0:0<=f) (f1:f<=255) :
  Calls prog 249 #[.int .i64 0,.int .i64 v,.int .i64 f] w fun e w'=>e=.returned (.tuple #[.int .i64 (cD 0 v f).1,.int .i64 (cD 0 v f).2])/\Below w.heap.size w w':=by
 have hv:inB v 0 255=true:=x9 (by omega);have hf:inB f 0 255=true:=x9 (by omega);obtain ⟨c0,c1⟩:=fA f;have hi:∀ w:World,(Instr.index 223 (.agg #[.func (.func 282) #[] #[],.func (.func 283) #[] #[],.func (.func 284) #[] #[],.func (.func 285) #[] #[],.func (.func 286) #[] #[],.func (.func 287) #[] #[],.func (.func 288) #[] #[],.func (.func 289) #[] #[]]) (.int .i64 0)).run prog w=.ok (.func (.func 282) #[] #[]) w:=fun _=>by kernel_rfl
 go_enter func249,ntmps249
 go_wp2_with (go_at_call 115;refine (aC _ _).mono ?_;rintro e w' ⟨rfl,rfl⟩)
 go_region_with (first|(go_at_call 264;refine (dX _).mono ?_;rintro e w1 ⟨rfl,hbe⟩)|(go_at_call 263;refine (bW _ _ f0 f1).mono ?_;rintro e w2 ⟨rfl,rfl⟩)|(go_at_call 282;refine (rX _ _ _ v0 v1 c0 c1).mono ?_;rintro e w2 ⟨rfl,rfl⟩))
 all_goals go_wp2_with (go_at_call 248;refine (bC _ _ _).mono ?_;rintro e w3 ⟨rfl,rfl⟩)
 all_goals go_ret2
 all_goals
  refine ⟨bE rfl ?_,aF hbe⟩;try rw [cG]
  try rw [cG]
  exact kM _ _
theorem tZ (v f:Int) (w:World) (v0:0<=v) (v1:v<=255) (f0:0<=f) (f1:f<=255) :
  Calls prog 249 #[.int .i64 1,.int .i64 v,.int .i64 f] w fun e w'=>e=.returned (.tuple #[.int .i64 (cD 1 v f).1,.int .i64 (cD 1 v f).2])/\Below w.heap.size w w':=by
 have hv:inB v 0 255=true:=x9 (by omega);have hf:inB f 0 255=true:=x9 (by omega);obtain ⟨c0,c1⟩:=fA f;have hi:∀ w:World,(Instr.index 223 (.agg #[.func (.func 282) #[] #[],.func (.func 283) #[] #[],.func (.func 284) #[] #[],.func (.func 285) #[] #[],.func (.func 286) #[] #[],.func (.func 287) #[] #[],.func (.func 288) #[] #[],.func (.func 289) #[] #[]]) (.int .i64 1)).run prog w=.ok (.func (.func 283) #[] #[]) w:=fun _=>by kernel_rfl
 go_enter func249,ntmps249
 go_wp2_with (go_at_call 115;refine (aC _ _).mono ?_;rintro e w' ⟨rfl,rfl⟩)
 go_region_with (first|(go_at_call 264;refine (dX _).mono ?_;rintro e w1 ⟨rfl,hbe⟩)|(go_at_call 263;refine (bW _ _ f0 f1).mono ?_;rintro e w2 ⟨rfl,rfl⟩)|(go_at_call 283;refine (qJ _ _ _ v0 v1 c0 c1).mono ?_;rintro e w2 ⟨rfl,rfl⟩))
 all_goals go_wp2_with (go_at_call 248;refine (bC _ _ _).mono ?_;rintro e w3 ⟨rfl,rfl⟩)
 all_goals go_ret2
 all_goals
  refine ⟨bE rfl ?_,aF hbe⟩;try rw [cG]
  try rw [cG]
  exact kM _ _
theorem uA (v f:Int) (w:World) (v0:0<=v) (v1:v<=255) (f0:0<=f) (f1:f<=255) :
  Calls prog 249 #[.int .i64 2,.int .i64 v,.int .i64 f] w fun e w'=>e=.returned (.tuple #[.int .i64 (cD 2 v f).1,.int .i64 (cD 2 v f).2])/\Below w.heap.size w w':=by
 have hv:inB v 0 255=true:=x9 (by omega);have hf:inB f 0 255=true:=x9 (by omega);obtain ⟨c0,c1⟩:=fA f;have hi:∀ w:World,(Instr.index 223 (.agg #[.func (.func 282) #[] #[],.func (.func 283) #[] #[],.func (.func 284) #[] #[],.func (.func 285) #[] #[],.func (.func 286) #[] #[],.func (.func 287) #[] #[],.func (.func 288) #[] #[],.func (.func 289) #[] #[]]) (.int .i64 2)).run prog w=.ok (.func (.func 284) #[] #[]) w:=fun _=>by kernel_rfl
 go_enter func249,ntmps249
 go_wp2_with (go_at_call 115;refine (aC _ _).mono ?_;rintro e w' ⟨rfl,rfl⟩)
 go_region_with (first|(go_at_call 264;refine (dX _).mono ?_;rintro e w1 ⟨rfl,hbe⟩)|(go_at_call 263;refine (bW _ _ f0 f1).mono ?_;rintro e w2 ⟨rfl,rfl⟩)|(go_at_call 284;refine (rY _ _ _ v0 v1 c0 c1).mono ?_;rintro e w2 ⟨rfl,rfl⟩))
 all_goals go_wp2_with (go_at_call 248;refine (bC _ _ _).mono ?_;rintro e w3 ⟨rfl,rfl⟩)
 all_goals go_ret2
 all_goals
  refine ⟨bE rfl ?_,aF hbe⟩;try rw [cG]
  try rw [cG]
  exact kM _ _
theorem uC (v f:Int) (w:World) (v0:0<=v) (v1:v<=255) (f0:0<=f) (f1:f<=255) :
  Calls prog 249 #[.int .i64 3,.int .i64 v,.int .i64 f] w fun e w'=>e=.returned (.tuple #[.int .i64 (cD 3 v f).1,.int .i64 (cD 3 v f).2])/\Below w.heap.size w w':=by
 have hv:inB v 0 255=true:=x9 (by omega);have hf:inB f 0 255=true:=x9 (by omega);obtain ⟨c0,c1⟩:=fA f;have hi:∀ w:World,(Instr.index 223 (.agg #[.func (.func 282) #[] #[],.func (.func 283) #[] #[],.func (.func 284) #[] #[],.func (.func 285) #[] #[],.func (.func 286) #[] #[],.func (.func 287) #[] #[],.func (.func 288) #[] #[],.func (.func 289) #[] #[]]) (.int .i64 3)).run prog w=.ok (.func (.func 285) #[] #[]) w:=fun _=>by kernel_rfl
 go_enter func249,ntmps249
 go_wp2_with (go_at_call 115;refine (aC _ _).mono ?_;rintro e w' ⟨rfl,rfl⟩)
 go_region_with (first|(go_at_call 264;refine (dX _).mono ?_;rintro e w1 ⟨rfl,hbe⟩)|(go_at_call 263;refine (bW _ _ f0 f1).mono ?_;rintro e w2 ⟨rfl,rfl⟩)|(go_at_call 285;refine (qK _ _ _ v0 v1 c0 c1).mono ?_;rintro e w2 ⟨rfl,rfl⟩))
 all_goals go_wp2_with (go_at_call 248;refine (bC _ _ _).mono ?_;rintro e w3 ⟨rfl,rfl⟩)
 all_goals go_ret2
 all_goals
  refine ⟨bE rfl ?_,aF hbe⟩;try rw [cG]
  try rw [cG]
  exact kM _ _
theorem uE (v f:Int) (w:World) (v0:0<=v) (v1:v<=255) (f0:0<=f) (f1:f<=255) :
  Calls prog 249 #[.int .i64 4,.int .i64 v,.int .i64 f] w fun e w'=>e=.returned (.tuple #[.int .i64 (cD 4 v f).1,.int .i64 (cD 4 v f).2])/\Below w.heap.size w w':=by
 have hv:inB v 0 255=true:=x9 (by omega);have hf:inB f 0 255=true:=x9 (by omega);obtain ⟨c0,c1⟩:=fA f;have hi:∀ w:World,(Instr.index 223 (.agg #[.func (.func 282) #[] #[],.func (.func 283) #[] #[],.func (.func 284) #[] #[],.func (.func 285) #[] #[],.func (.func 286) #[] #[],.func (.func 287) #[] #[],.func (.func 288) #[] #[],.func (.func 289) #[] #[]]) (.int .i64 4)).run prog w=.ok (.func (.func 286) #[] #[]) w:=fun _=>by kernel_rfl
 go_enter func249,ntmps249
 go_wp2_with (go_at_call 115;refine (aC _ _).mono ?_;rintro e w' ⟨rfl,rfl⟩)
 go_region_with (first|(go_at_call 264;refine (dX _).mono ?_;rintro e w1 ⟨rfl,hbe⟩)|(go_at_call 263;refine (bW _ _ f0 f1).mono ?_;rintro e w2 ⟨rfl,rfl⟩)|(go_at_call 286;refine (rZ _ _ _ v0 v1 c0 c1).mono ?_;rintro e w2 ⟨rfl,rfl⟩))
 all_goals go_wp2_with (go_at_call 248;refine (bC _ _ _).mono ?_;rintro e w3 ⟨rfl,rfl⟩)
 all_goals go_ret2
 all_goals
  refine ⟨bE rfl ?_,aF hbe⟩;try rw [cG]
  try rw [cG]
  exact kM _ _
theorem uF (v f:Int) (w:World) (v0:0<=v) (v1:v<=255) (f0:0<=f) (f1:f<=255) :
  Calls prog 249 #[.int .i64 5,.int .i64 v,.int .i64 f] w fun e w'=>e=.returned (.tuple #[.int .i64 (cD 5 v f).1,.int .i64 (cD 5 v f).2])/\Below w.heap.size w w':=by
 have hv:inB v 0 255=true:=x9 (by omega);have hf:inB f 0 255=true:=x9 (by omega);obtain ⟨c0,c1⟩:=fA f;have hi:∀ w:World,(Instr.index 223 (.agg #[.func (.func 282) #[] #[],.func (.func 283) #[] #[],.func (.func 284) #[] #[],.func (.func 285) #[] #[],.func (.func 286) #[] #[],.func (.func 287) #[] #[],.func (.func 288) #[] #[],.func (.func 289) #[] #[]]) (.int .i64 5)).run prog w=.ok (.func (.func 287) #[] #[]) w:=fun _=>by kernel_rfl
 go_enter func249,ntmps249
 go_wp2_with (go_at_call 115;refine (aC _ _).mono ?_;rintro e w' ⟨rfl,rfl⟩)
 go_region_with (first|(go_at_call 264;refine (dX _).mono ?_;rintro e w1 ⟨rfl,hbe⟩)|(go_at_call 263;refine (bW _ _ f0 f1).mono ?_;rintro e w2 ⟨rfl,rfl⟩)|(go_at_call 287;refine (pT _ _ _ v0 v1 c0 c1).mono ?_;rintro e w2 ⟨rfl,rfl⟩))
 all_goals go_wp2_with (go_at_call 248;refine (bC _ _ _).mono ?_;rintro e w3 ⟨rfl,rfl⟩)
 all_goals go_ret2
 all_goals
  refine ⟨bE rfl ?_,aF hbe⟩;try rw [cG]
  try rw [cG]
  exact kM _ _
theorem uG (v f:Int) (w:World) (v0:0<=v) (v1:v<=255) (f0:0<=f) (f1:f<=255) :
  Calls prog 249 #[.int .i64 6,.int .i64 v,.int .i64 f] w fun e w'=>e=.returned (.tuple #[.int .i64 (cD 6 v f).1,.int .i64 (cD 6 v f).2])/\Below w.heap.size w w':=by
 have hv:inB v 0 255=true:=x9 (by omega);have hf:inB f 0 255=true:=x9 (by omega);obtain ⟨c0,c1⟩:=fA f;have hi:∀ w:World,(Instr.index 223 (.agg #[.func (.func 282) #[] #[],.func (.func 283) #[] #[],.func (.func 284) #[] #[],.func (.func 285) #[] #[],.func (.func 286) #[] #[],.func (.func 287) #[] #[],.func (.func 288) #[] #[],.func (.func 289) #[] #[]]) (.int .i64 6)).run prog w=.ok (.func (.func 288) #[] #[]) w:=fun _=>by kernel_rfl
 go_enter func249,ntmps249
 go_wp2_with (go_at_call 115;refine (aC _ _).mono ?_;rintro e w' ⟨rfl,rfl⟩)
 go_region_with (first|(go_at_call 264;refine (dX _).mono ?_;rintro e w1 ⟨rfl,hbe⟩)|(go_at_call 263;refine (bW _ _ f0 f1).mono ?_;rintro e w2 ⟨rfl,rfl⟩)|(go_at_call 288;refine (qL _ _ _ v0 v1 c0 c1).mono ?_;rintro e w2 ⟨rfl,rfl⟩))
 all_goals go_wp2_with (go_at_call 248;refine (bC _ _ _).mono ?_;rintro e w3 ⟨rfl,rfl⟩)
 all_goals go_ret2
 all_goals
  refine ⟨bE rfl ?_,aF hbe⟩;try rw [cG]
  try rw [cG]
  exact kM _ _
theorem uH (v f:Int) (w:World) (v0:0<=v) (v1:v<=255) (f0:0<=f) (f1:f<=255) :
  Calls prog 249 #[.int .i64 7,.int .i64 v,.int .i64 f] w fun e w'=>e=.returned (.tuple #[.int .i64 (cD 7 v f).1,.int .i64 (cD 7 v f).2])/\Below w.heap.size w w':=by
 have hv:inB v 0 255=true:=x9 (by omega);have hf:inB f 0 255=true:=x9 (by omega);obtain ⟨c0,c1⟩:=fA f;have hi:∀ w:World,(Instr.index 223 (.agg #[.func (.func 282) #[] #[],.func (.func 283) #[] #[],.func (.func 284) #[] #[],.func (.func 285) #[] #[],.func (.func 286) #[] #[],.func (.func 287) #[] #[],.func (.func 288) #[] #[],.func (.func 289) #[] #[]]) (.int .i64 7)).run prog w=.ok (.func (.func 289) #[] #[]) w:=fun _=>by kernel_rfl
 go_enter func249,ntmps249
 go_wp2_with (go_at_call 115;refine (aC _ _).mono ?_;rintro e w' ⟨rfl,rfl⟩)
 go_region_with (first|(go_at_call 264;refine (dX _).mono ?_;rintro e w1 ⟨rfl,hbe⟩)|(go_at_call 263;refine (bW _ _ f0 f1).mono ?_;rintro e w2 ⟨rfl,rfl⟩)|(go_at_call 289;refine (qM _ _ _ v0 v1 c0 c1).mono ?_;rintro e w2 ⟨rfl,rfl⟩))
 all_goals go_wp2_with (go_at_call 248;refine (bC _ _ _).mono ?_;rintro e w3 ⟨rfl,rfl⟩)
 all_goals go_ret2
 all_goals
  refine ⟨bE rfl ?_,aF hbe⟩;try rw [cG]
  try rw [cG]
  exact kM _ _
theorem kP (op v f:Int) (w:World) :
  Calls prog 249 #[.int .i64 op,.int .i64 v,.int .i64 f] w fun e w'=>e=.returned (.tuple #[.int .i64 (trn op v f).1,.int .i64 (trn op v f).2])/\Below w.heap.size w w':=by
 by_cases h:(inB op 0 7 && inB v 0 255 && inB f 0 255)=true
 ·have e:trn op v f=cD op v f:=by unfold trn;rw [if_pos h]
  rw [e];simp only [Bool.and_eq_true,inB,decide_eq_true_eq] at h
  obtain ⟨⟨⟨o0,o1⟩,v0,v1⟩,f0,f1⟩:=h;have ho:op=0 \/ op=1 \/ op=2 \/ op=3 \/ op=4 \/ op=5 \/ op=6 \/ op=7:=by omega
  rcases ho with rfl|rfl|rfl|rfl|rfl|rfl|rfl|rfl
  ·exact tY v f w v0 v1 f0 f1
  ·exact tZ v f w v0 v1 f0 f1
  ·exact uA v f w v0 v1 f0 f1
  ·exact uC v f w v0 v1 f0 f1
  ·exact uE v f w v0 v1 f0 f1
  ·exact uF v f w v0 v1 f0 f1
  ·exact uG v f w v0 v1 f0 f1
  ·exact uH v f w v0 v1 f0 f1
 ·have e:trn op v f=(0,0):=by unfold trn;rw [if_neg h]
  rw [e];have h:(inB op 0 7 && inB v 0 255 && inB f 0 255)=false:=by simpa using h
  by_cases ho:op<0
  ·go_enter func249,ntmps249
   go_wp2;go_ret2;exact ⟨rfl,Below.refl _ _⟩
  by_cases ho':7<op
  ·go_enter func249,ntmps249
   go_wp2;go_ret2;exact ⟨rfl,Below.refl _ _⟩
  have hop:inB op 0 7=true:=x9 (by omega);have h7:decide (7<op)=false:=u6 ho';rw [hop] at h
  cases hv:inB v 0 255
  ·go_enter func249,ntmps249
   go_wp2_with (go_at_call 115;refine (aC _ _).mono ?_;rintro e w' ⟨rfl,rfl⟩)
   go_ret2;exact ⟨rfl,Below.refl _ _⟩
  cases hf:inB f 0 255
  ·go_enter func249,ntmps249
   go_wp2_with (go_at_call 115;refine (aC _ _).mono ?_;rintro e w' ⟨rfl,rfl⟩)
   go_ret2;exact ⟨rfl,Below.refl _ _⟩
  rw [hv,hf] at h
  exact absurd h (by decide)
end TurnI
end Go.Proofs.YteglcgnhhoenbaaGreatDoor
