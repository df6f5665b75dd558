import Derived.Test.YteglcgnhhoenbaaGreatDoorQ01
set_option linter.all false
set_option maxRecDepth 20000
set_option maxHeartbeats 8000000
open Go.ChangeShapes Go.WideShapes Go.ChangeAt Go.RowKit
open Go.Proofs.Tryz
namespace Go.Proofs.YteglcgnhhoenbaaGreatDoor
namespace AluI
open Signed (inB aG aB aC aE)
open Reck
theorem aFY (a b f:Int) (w:World) (a0:0<=a) (a1:a<=255) (b0:0<=b) (b1:b<=255) (f0:0<=f) (f1:f<=255) :
  Calls prog 245 #[.int .i64 0,.int .i64 a,.int .i64 b,.int .i64 f] w fun e w'=>e=.returned (.tuple #[.int .i64 (aS 0 a b f).1,.int .i64 (aS 0 a b f).2])/\Below w.heap.size w w':=by
 have ha:inB a 0 255=true:=x9 (by omega);have hb:inB b 0 255=true:=x9 (by omega);have hf:inB f 0 255=true:=x9 (by omega);obtain ⟨c0,c1⟩:=fA f;have hi:∀ w:World,(Instr.index 220 (.agg #[.func (.func 275) #[] #[],.func (.func 276) #[] #[],.func (.func 277) #[] #[],.func (.func 278) #[] #[],.func (.func 279) #[] #[],.func (.func 280) #[] #[],.func (.func 281) #[] #[],.func (.func 277) #[] #[]]) (.int .i64 0)).run prog w=.ok (.func (.func 275) #[] #[]) w:=fun _=>by kernel_rfl
 go_enter func245,ntmps245
 go_wp2_with (go_at_call 115;refine (aC _ _).mono ?_;rintro e w' ⟨rfl,rfl⟩)
 go_region_with (first|(go_at_call 262;refine (eI _).mono ?_;rintro e w1 ⟨rfl,hbe⟩)|(go_at_call 263;refine (bW _ _ f0 f1).mono ?_;rintro e w2 ⟨rfl,rfl⟩)|(go_at_call 275;refine (tP _ _ _ _ a0 a1 b0 b1).mono ?_;rintro e w2 ⟨rfl,rfl⟩))
 all_goals go_wp2_with (go_at_call 248;refine (bC _ _ _).mono ?_;rintro e w3 ⟨rfl,rfl⟩)
 all_goals go_ret2
 all_goals exact ⟨bE rfl (qE _ _ _ _ _ (eF _)),aF hbe⟩
theorem aFZ (a b f:Int) (w:World) (a0:0<=a) (a1:a<=255) (b0:0<=b) (b1:b<=255) (f0:0<=f) (f1:f<=255) :
  Calls prog 245 #[.int .i64 1,.int .i64 a,.int .i64 b,.int .i64 f] w fun e w'=>e=.returned (.tuple #[.int .i64 (aS 1 a b f).1,.int .i64 (aS 1 a b f).2])/\Below w.heap.size w w':=by
 have ha:inB a 0 255=true:=x9 (by omega);have hb:inB b 0 255=true:=x9 (by omega);have hf:inB f 0 255=true:=x9 (by omega);obtain ⟨c0,c1⟩:=fA f;have hi:∀ w:World,(Instr.index 220 (.agg #[.func (.func 275) #[] #[],.func (.func 276) #[] #[],.func (.func 277) #[] #[],.func (.func 278) #[] #[],.func (.func 279) #[] #[],.func (.func 280) #[] #[],.func (.func 281) #[] #[],.func (.func 277) #[] #[]]) (.int .i64 1)).run prog w=.ok (.func (.func 276) #[] #[]) w:=fun _=>by kernel_rfl
 go_enter func245,ntmps245
 go_wp2_with (go_at_call 115;refine (aC _ _).mono ?_;rintro e w' ⟨rfl,rfl⟩)
 go_region_with (first|(go_at_call 262;refine (eI _).mono ?_;rintro e w1 ⟨rfl,hbe⟩)|(go_at_call 263;refine (bW _ _ f0 f1).mono ?_;rintro e w2 ⟨rfl,rfl⟩)|(go_at_call 276;refine (kH _ _ _ _ a0 a1 b0 b1 c0 c1).mono ?_;rintro e w2 ⟨rfl,rfl⟩))
 all_goals go_wp2_with (go_at_call 248;refine (bC _ _ _).mono ?_;rintro e w3 ⟨rfl,rfl⟩)
 all_goals go_ret2
 all_goals exact ⟨bE rfl (qE _ _ _ _ _ (eF _)),aF hbe⟩
theorem aGA (a b f:Int) (w:World) (a0:0<=a) (a1:a<=255) (b0:0<=b) (b1:b<=255) (f0:0<=f) (f1:f<=255) :
  Calls prog 245 #[.int .i64 2,.int .i64 a,.int .i64 b,.int .i64 f] w fun e w'=>e=.returned (.tuple #[.int .i64 (aS 2 a b f).1,.int .i64 (aS 2 a b f).2])/\Below w.heap.size w w':=by
 have ha:inB a 0 255=true:=x9 (by omega);have hb:inB b 0 255=true:=x9 (by omega);have hf:inB f 0 255=true:=x9 (by omega);obtain ⟨c0,c1⟩:=fA f;have hi:∀ w:World,(Instr.index 220 (.agg #[.func (.func 275) #[] #[],.func (.func 276) #[] #[],.func (.func 277) #[] #[],.func (.func 278) #[] #[],.func (.func 279) #[] #[],.func (.func 280) #[] #[],.func (.func 281) #[] #[],.func (.func 277) #[] #[]]) (.int .i64 2)).run prog w=.ok (.func (.func 277) #[] #[]) w:=fun _=>by kernel_rfl
 go_enter func245,ntmps245
 go_wp2_with (go_at_call 115;refine (aC _ _).mono ?_;rintro e w' ⟨rfl,rfl⟩)
 go_region_with (first|(go_at_call 262;refine (eI _).mono ?_;rintro e w1 ⟨rfl,hbe⟩)|(go_at_call 263;refine (bW _ _ f0 f1).mono ?_;rintro e w2 ⟨rfl,rfl⟩)|(go_at_call 277;refine (mH _ _ _ _ a0 a1 b0 b1).mono ?_;rintro e w2 ⟨rfl,rfl⟩))
 all_goals go_wp2_with (go_at_call 248;refine (bC _ _ _).mono ?_;rintro e w3 ⟨rfl,rfl⟩)
 all_goals go_ret2
 all_goals exact ⟨bE rfl (qE _ _ _ _ _ (eF _)),aF hbe⟩
theorem aGB (a b f:Int) (w:World) (a0:0<=a) (a1:a<=255) (b0:0<=b) (b1:b<=255) (f0:0<=f) (f1:f<=255) :
  Calls prog 245 #[.int .i64 3,.int .i64 a,.int .i64 b,.int .i64 f] w fun e w'=>e=.returned (.tuple #[.int .i64 (aS 3 a b f).1,.int .i64 (aS 3 a b f).2])/\Below w.heap.size w w':=by
 have ha:inB a 0 255=true:=x9 (by omega);have hb:inB b 0 255=true:=x9 (by omega);have hf:inB f 0 255=true:=x9 (by omega);obtain ⟨c0,c1⟩:=fA f;have hi:∀ w:World,(Instr.index 220 (.agg #[.func (.func 275) #[] #[],.func (.func 276) #[] #[],.func (.func 277) #[] #[],.func (.func 278) #[] #[],.func (.func 279) #[] #[],.func (.func 280) #[] #[],.func (.func 281) #[] #[],.func (.func 277) #[] #[]]) (.int .i64 3)).run prog w=.ok (.func (.func 278) #[] #[]) w:=fun _=>by kernel_rfl
 go_enter func245,ntmps245
 go_wp2_with (go_at_call 115;refine (aC _ _).mono ?_;rintro e w' ⟨rfl,rfl⟩)
 go_region_with (first|(go_at_call 262;refine (eI _).mono ?_;rintro e w1 ⟨rfl,hbe⟩)|(go_at_call 263;refine (bW _ _ f0 f1).mono ?_;rintro e w2 ⟨rfl,rfl⟩)|(go_at_call 278;refine (kI _ _ _ _ a0 a1 b0 b1 c0 c1).mono ?_;rintro e w2 ⟨rfl,rfl⟩))
 all_goals go_wp2_with (go_at_call 248;refine (bC _ _ _).mono ?_;rintro e w3 ⟨rfl,rfl⟩)
 all_goals go_ret2
 all_goals exact ⟨bE rfl (qE _ _ _ _ _ (eF _)),aF hbe⟩
theorem aGC (a b f:Int) (w:World) (a0:0<=a) (a1:a<=255) (b0:0<=b) (b1:b<=255) (f0:0<=f) (f1:f<=255) :
  Calls prog 245 #[.int .i64 4,.int .i64 a,.int .i64 b,.int .i64 f] w fun e w'=>e=.returned (.tuple #[.int .i64 (aS 4 a b f).1,.int .i64 (aS 4 a b f).2])/\Below w.heap.size w w':=by
 have ha:inB a 0 255=true:=x9 (by omega);have hb:inB b 0 255=true:=x9 (by omega);have hf:inB f 0 255=true:=x9 (by omega);obtain ⟨c0,c1⟩:=fA f;have hi:∀ w:World,(Instr.index 220 (.agg #[.func (.func 275) #[] #[],.func (.func 276) #[] #[],.func (.func 277) #[] #[],.func (.func 278) #[] #[],.func (.func 279) #[] #[],.func (.func 280) #[] #[],.func (.func 281) #[] #[],.func (.func 277) #[] #[]]) (.int .i64 4)).run prog w=.ok (.func (.func 279) #[] #[]) w:=fun _=>by kernel_rfl
 go_enter func245,ntmps245
 go_wp2_with (go_at_call 115;refine (aC _ _).mono ?_;rintro e w' ⟨rfl,rfl⟩)
 go_region_with (first|(go_at_call 262;refine (eI _).mono ?_;rintro e w1 ⟨rfl,hbe⟩)|(go_at_call 263;refine (bW _ _ f0 f1).mono ?_;rintro e w2 ⟨rfl,rfl⟩)|(go_at_call 279;refine (wO _ _ _ _ ).mono ?_;rintro e w2 ⟨rfl,rfl⟩))
 all_goals go_wp2_with (go_at_call 248;refine (bC _ _ _).mono ?_;rintro e w3 ⟨rfl,rfl⟩)
 all_goals go_ret2
 all_goals exact ⟨bE rfl (bFL _ _ (eF _)),aF hbe⟩
theorem aGD (a b f:Int) (w:World) (a0:0<=a) (a1:a<=255) (b0:0<=b) (b1:b<=255) (f0:0<=f) (f1:f<=255) :
  Calls prog 245 #[.int .i64 5,.int .i64 a,.int .i64 b,.int .i64 f] w fun e w'=>e=.returned (.tuple #[.int .i64 (aS 5 a b f).1,.int .i64 (aS 5 a b f).2])/\Below w.heap.size w w':=by
 have ha:inB a 0 255=true:=x9 (by omega);have hb:inB b 0 255=true:=x9 (by omega);have hf:inB f 0 255=true:=x9 (by omega);obtain ⟨c0,c1⟩:=fA f;have hi:∀ w:World,(Instr.index 220 (.agg #[.func (.func 275) #[] #[],.func (.func 276) #[] #[],.func (.func 277) #[] #[],.func (.func 278) #[] #[],.func (.func 279) #[] #[],.func (.func 280) #[] #[],.func (.func 281) #[] #[],.func (.func 277) #[] #[]]) (.int .i64 5)).run prog w=.ok (.func (.func 280) #[] #[]) w:=fun _=>by kernel_rfl
 go_enter func245,ntmps245
 go_wp2_with (go_at_call 115;refine (aC _ _).mono ?_;rintro e w' ⟨rfl,rfl⟩)
 go_region_with (first|(go_at_call 262;refine (eI _).mono ?_;rintro e w1 ⟨rfl,hbe⟩)|(go_at_call 263;refine (bW _ _ f0 f1).mono ?_;rintro e w2 ⟨rfl,rfl⟩)|(go_at_call 280;refine (wP _ _ _ _ ).mono ?_;rintro e w2 ⟨rfl,rfl⟩))
 all_goals go_wp2_with (go_at_call 248;refine (bC _ _ _).mono ?_;rintro e w3 ⟨rfl,rfl⟩)
 all_goals go_ret2
 all_goals exact ⟨bE rfl (bFM _ _ (eF _)),aF hbe⟩
theorem aGE (a b f:Int) (w:World) (a0:0<=a) (a1:a<=255) (b0:0<=b) (b1:b<=255) (f0:0<=f) (f1:f<=255) :
  Calls prog 245 #[.int .i64 6,.int .i64 a,.int .i64 b,.int .i64 f] w fun e w'=>e=.returned (.tuple #[.int .i64 (aS 6 a b f).1,.int .i64 (aS 6 a b f).2])/\Below w.heap.size w w':=by
 have ha:inB a 0 255=true:=x9 (by omega);have hb:inB b 0 255=true:=x9 (by omega);have hf:inB f 0 255=true:=x9 (by omega);obtain ⟨c0,c1⟩:=fA f;have hi:∀ w:World,(Instr.index 220 (.agg #[.func (.func 275) #[] #[],.func (.func 276) #[] #[],.func (.func 277) #[] #[],.func (.func 278) #[] #[],.func (.func 279) #[] #[],.func (.func 280) #[] #[],.func (.func 281) #[] #[],.func (.func 277) #[] #[]]) (.int .i64 6)).run prog w=.ok (.func (.func 281) #[] #[]) w:=fun _=>by kernel_rfl
 go_enter func245,ntmps245
 go_wp2_with (go_at_call 115;refine (aC _ _).mono ?_;rintro e w' ⟨rfl,rfl⟩)
 go_region_with (first|(go_at_call 262;refine (eI _).mono ?_;rintro e w1 ⟨rfl,hbe⟩)|(go_at_call 263;refine (bW _ _ f0 f1).mono ?_;rintro e w2 ⟨rfl,rfl⟩)|(go_at_call 281;refine (aAM _ _ _ _ ).mono ?_;rintro e w2 ⟨rfl,rfl⟩))
 all_goals go_wp2_with (go_at_call 248;refine (bC _ _ _).mono ?_;rintro e w3 ⟨rfl,rfl⟩)
 all_goals go_ret2
 all_goals exact ⟨bE rfl (bFM _ _ (eF _)),aF hbe⟩
theorem aGF (a b f:Int) (w:World) (a0:0<=a) (a1:a<=255) (b0:0<=b) (b1:b<=255) (f0:0<=f) (f1:f<=255) :
  Calls prog 245 #[.int .i64 7,.int .i64 a,.int .i64 b,.int .i64 f] w fun e w'=>e=.returned (.tuple #[.int .i64 (aS 7 a b f).1,.int .i64 (aS 7 a b f).2])/\Below w.heap.size w w':=by
 have ha:inB a 0 255=true:=x9 (by omega);have hb:inB b 0 255=true:=x9 (by omega);have hf:inB f 0 255=true:=x9 (by omega);obtain ⟨c0,c1⟩:=fA f;have hi:∀ w:World,(Instr.index 220 (.agg #[.func (.func 275) #[] #[],.func (.func 276) #[] #[],.func (.func 277) #[] #[],.func (.func 278) #[] #[],.func (.func 279) #[] #[],.func (.func 280) #[] #[],.func (.func 281) #[] #[],.func (.func 277) #[] #[]]) (.int .i64 7)).run prog w=.ok (.func (.func 277) #[] #[]) w:=fun _=>by kernel_rfl
 go_enter func245,ntmps245
 go_wp2_with (go_at_call 115;refine (aC _ _).mono ?_;rintro e w' ⟨rfl,rfl⟩)
 go_region_with (first|(go_at_call 262;refine (eI _).mono ?_;rintro e w1 ⟨rfl,hbe⟩)|(go_at_call 263;refine (bW _ _ f0 f1).mono ?_;rintro e w2 ⟨rfl,rfl⟩)|(go_at_call 277;refine (mH _ _ _ _ a0 a1 b0 b1).mono ?_;rintro e w2 ⟨rfl,rfl⟩))
 all_goals go_wp2_with (go_at_call 248;refine (bC _ _ _).mono ?_;rintro e w3 ⟨rfl,rfl⟩)
 all_goals go_ret2
 all_goals exact ⟨bE rfl (qE _ _ _ _ _ (eF _)),aF hbe⟩
theorem wZ (op a b f:Int) (w:World) :
  Calls prog 245 #[.int .i64 op,.int .i64 a,.int .i64 b,.int .i64 f] w fun e w'=>e=.returned (.tuple #[.int .i64 (alu op a b f).1,.int .i64 (alu op a b f).2])/\Below w.heap.size w w':=by
 by_cases h:(inB op 0 7 && inB a 0 255 && inB b 0 255 && inB f 0 255)=true
 ·have e:alu op a b f=aS op a b f:=by unfold alu;rw [if_pos h]
  rw [e];simp only [Bool.and_eq_true,inB,decide_eq_true_eq] at h
  obtain ⟨⟨⟨⟨o0,o1⟩,a0,a1⟩,b0,b1⟩,f0,f1⟩:=h;have ho:op=0 \/ op=1 \/ op=2 \/ op=3 \/ op=4 \/ op=5 \/ op=6 \/ op=7:=by omega
  rcases ho with rfl|rfl|rfl|rfl|rfl|rfl|rfl|rfl
  ·exact aFY a b f w a0 a1 b0 b1 f0 f1
  ·exact aFZ a b f w a0 a1 b0 b1 f0 f1
  ·exact aGA a b f w a0 a1 b0 b1 f0 f1
  ·exact aGB a b f w a0 a1 b0 b1 f0 f1
  ·exact aGC a b f w a0 a1 b0 b1 f0 f1
  ·exact aGD a b f w a0 a1 b0 b1 f0 f1
  ·exact aGE a b f w a0 a1 b0 b1 f0 f1
  ·exact aGF a b f w a0 a1 b0 b1 f0 f1
 ·have e:alu op a b f=(0,0):=by unfold alu;rw [if_neg h]
  rw [e];have h:(inB op 0 7 && inB a 0 255 && inB b 0 255 && inB f 0 255)=false:=by simpa using h
  by_cases ho:op<0
  ·go_enter func245,ntmps245
   go_wp2;go_ret2;exact ⟨rfl,Below.refl _ _⟩
  by_cases ho':7<op
  ·go_enter func245,ntmps245
   go_wp2;go_ret2;exact ⟨rfl,Below.refl _ _⟩
  have hop:inB op 0 7=true:=x9 (by omega);have h7:decide (7<op)=false:=u6 ho';rw [hop] at h
  cases ha:inB a 0 255
  ·go_enter func245,ntmps245
   go_wp2_with (go_at_call 115;refine (aC _ _).mono ?_;rintro e w' ⟨rfl,rfl⟩)
   go_ret2;exact ⟨rfl,Below.refl _ _⟩
  cases hb:inB b 0 255
  ·go_enter func245,ntmps245
   go_wp2_with (go_at_call 115;refine (aC _ _).mono ?_;rintro e w' ⟨rfl,rfl⟩)
   go_ret2;exact ⟨rfl,Below.refl _ _⟩
  cases hf:inB f 0 255
  ·go_enter func245,ntmps245
   go_wp2_with (go_at_call 115;refine (aC _ _).mono ?_;rintro e w' ⟨rfl,rfl⟩)
   go_ret2;exact ⟨rfl,Below.refl _ _⟩
  rw [ha,hb,hf] at h
  exact absurd h (by decide)
end AluI
end Go.Proofs.YteglcgnhhoenbaaGreatDoor
