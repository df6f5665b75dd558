import Derived.Test.YteglcgnhhoenbaaGreatDoorQ32
import Derived.Test.YteglcgnhhoenbaaGreatDoorQ33
set_option linter.all false
set_option maxRecDepth 20000
set_option maxHeartbeats 8000000
open Go.ChangeShapes Go.WideShapes Go.ChangeAt Go.RowKit
open Go.Proofs.Tryz
namespace Go.Proofs.YteglcgnhhoenbaaGreatDoor
namespace Stpf
open Signed (inB sgn)
open Reck ReckS ReckM ReckD TurnS
open Busw (M wrM Rt)
open Stpp Stpq Stpc
theorem aOS (m:M) (full:Bool) (c imm:Int) (hg:Stpq.Good m) (hc:64<=c/\c<128/\c ≠ 118) (c0:0<=c) (c1:c<=255) (i0:0<=imm) (i1:imm<=65535):(sem c false imm ⟨m,full⟩).1=put ⟨m,full⟩ (c / 8%8) (Stpp.get m (c%8)):=by
 unfold sem;rw [if_neg (by decide),if_neg (by omega),if_neg (by omega),if_pos (by omega)]
theorem aIA (m:M) (full:Bool) (c imm:Int) (hg:Stpq.Good m) (hc:c<64/\c%8=6) (c0:0<=c) (c1:c<=255) (i0:0<=imm) (i1:imm<=65535):(sem c false imm ⟨m,full⟩).1=put ⟨m,full⟩ (c / 8%8) imm:=by
 unfold sem;rw [if_neg (by decide),if_pos (by omega)];unfold bY;rw [if_neg (by omega),if_neg (by omega),if_neg (by omega),if_neg (by omega),if_neg (by omega),if_neg (by omega),if_pos (by omega)];rw [show c / 8%8=c / 8 by omega]
theorem aCW (m:M) (full:Bool) (c imm:Int) (hg:Stpq.Good m) (hc:c<64/\c%8=1/\c / 8%2=0) (c0:0<=c) (c1:c<=255) (i0:0<=imm) (i1:imm<=65535):(sem c false imm ⟨m,full⟩).1=⟨aN m (c / 8%8 / 2) (imm%65536),full⟩:=by
 unfold sem;rw [if_neg (by decide),if_pos (by omega)];unfold bY;rw [if_neg (by omega),if_pos (by omega),if_pos (by omega)];rw [show c / 8%8=c / 8 by omega,show imm%65536=imm by omega]
theorem aCX (m:M) (full:Bool) (c imm:Int) (hg:Stpq.Good m) (hc:c=249) (c0:0<=c) (c1:c<=255) (i0:0<=imm) (i1:imm<=65535):(sem c false imm ⟨m,full⟩).1=⟨{ m with sp:=hl m },full⟩:=by
 subst hc
 rfl
theorem vO (m:M) (full:Bool) (c imm:Int) (hg:Stpq.Good m) (hc:c=8) (c0:0<=c) (c1:c<=255) (i0:0<=imm) (i1:imm<=65535):(sem c false imm ⟨m,full⟩).1=spE imm ⟨m,full⟩:=by
 subst hc
 rfl
theorem vP (m:M) (full:Bool) (c imm:Int) (hg:Stpq.Good m) (hc:c=248) (c0:0<=c) (c1:c<=255) (i0:0<=imm) (i1:imm<=65535):(sem c false imm ⟨m,full⟩).1=⟨{ aN m 2 (asR m.sp imm).1 with rf:=(asR m.sp imm).2 },full⟩:=by
 subst hc
 rfl
theorem aOT (m:M) (full:Bool) (c imm:Int) (hg:Stpq.Good m) (hc:c<64/\c%8=2/\c / 8%2=0) (c0:0<=c) (c1:c<=255) (i0:0<=imm) (i1:imm<=65535):(sem c false imm ⟨m,full⟩).1=stE (c / 8%8 / 2) ⟨m,full⟩:=by
 unfold sem;rw [if_neg (by decide),if_pos (by omega)];unfold bY;rw [if_neg (by omega),if_neg (by omega),if_pos (by omega),if_pos (by omega)];rw [show c / 8%8=c / 8 by omega]
theorem aOU (m:M) (full:Bool) (c imm:Int) (hg:Stpq.Good m) (hc:c<64/\c%8=2/\c / 8%2=1) (c0:0<=c) (c1:c<=255) (i0:0<=imm) (i1:imm<=65535):(sem c false imm ⟨m,full⟩).1=ldE (c / 8%8 / 2) ⟨m,full⟩:=by
 unfold sem;rw [if_neg (by decide),if_pos (by omega)];unfold bY;rw [if_neg (by omega),if_neg (by omega),if_pos (by omega),if_neg (by omega)];rw [show c / 8%8=c / 8 by omega]
theorem yR (m:M) (full:Bool) (c imm:Int) (hg:Stpq.Good m) (hc:c=224) (c0:0<=c) (c1:c<=255) (i0:0<=imm) (i1:imm<=65535):(sem c false imm ⟨m,full⟩).1=wr ⟨m,full⟩ (65280+imm) m.ra:=by
 subst hc
 rfl
theorem yS (m:M) (full:Bool) (c imm:Int) (hg:Stpq.Good m) (hc:c=240) (c0:0<=c) (c1:c<=255) (i0:0<=imm) (i1:imm<=65535):(sem c false imm ⟨m,full⟩).1=⟨{ m with ra:=rd m (65280+imm) },full⟩:=by
 subst hc
 rfl
theorem aCY (m:M) (full:Bool) (c imm:Int) (hg:Stpq.Good m) (hc:c=226) (c0:0<=c) (c1:c<=255) (i0:0<=imm) (i1:imm<=65535):(sem c false imm ⟨m,full⟩).1=wr ⟨m,full⟩ (65280+m.rC) m.ra:=by
 subst hc
 rfl
theorem aCZ (m:M) (full:Bool) (c imm:Int) (hg:Stpq.Good m) (hc:c=242) (c0:0<=c) (c1:c<=255) (i0:0<=imm) (i1:imm<=65535):(sem c false imm ⟨m,full⟩).1=⟨{ m with ra:=rd m (65280+m.rC) },full⟩:=by
 subst hc
 rfl
theorem yT (m:M) (full:Bool) (c imm:Int) (hg:Stpq.Good m) (hc:c=234) (c0:0<=c) (c1:c<=255) (i0:0<=imm) (i1:imm<=65535):(sem c false imm ⟨m,full⟩).1=wr ⟨m,full⟩ imm m.ra:=by
 subst hc
 rfl
theorem yU (m:M) (full:Bool) (c imm:Int) (hg:Stpq.Good m) (hc:c=250) (c0:0<=c) (c1:c<=255) (i0:0<=imm) (i1:imm<=65535):(sem c false imm ⟨m,full⟩).1=⟨{ m with ra:=rd m imm },full⟩:=by
 subst hc
 rfl
theorem aIB (m:M) (full:Bool) (c imm:Int) (hg:Stpq.Good m) (hc:192<=c/\c%8=5/\c / 8%8%2=0) (c0:0<=c) (c1:c<=255) (i0:0<=imm) (i1:imm<=65535):(sem c false imm ⟨m,full⟩).1=push ⟨m,full⟩ (prQ m (c / 8%8 / 2)):=by
 unfold sem;rw [if_neg (by decide),if_neg (by omega),if_neg (by omega),if_neg (by omega),if_neg (by omega)];unfold aW;rw [if_neg (by rintro (⟨h1,_,_⟩|h1|h1) <;> omega),if_neg (by omega),if_neg (by omega),if_neg (by omega),if_neg (by omega),if_neg (by omega),if_neg (by omega),if_neg (by omega),if_neg (by omega),if_neg (by omega),if_neg (by omega),if_neg (by omega),if_pos (by omega)]
theorem aOV (m:M) (full:Bool) (c imm:Int) (hg:Stpq.Good m) (hc:192<=c/\c%8=1/\c / 8%8%2=0) (c0:0<=c) (c1:c<=255) (i0:0<=imm) (i1:imm<=65535):(sem c false imm ⟨m,full⟩).1=⟨{ Stpn.iY (aU m) (c / 8%8 / 2) (bA m%65536) with rf:=bits .and .i64 (Stpn.iY (aU m) (c / 8%8 / 2) (bA m%65536)).rf 240 },full⟩:=by
 unfold sem;rw [if_neg (by decide),if_neg (by omega),if_neg (by omega),if_neg (by omega),if_neg (by omega)];unfold aW;rw [if_neg (by rintro (⟨h1,_,_⟩|h1|h1) <;> omega),if_neg (by omega),if_neg (by omega),if_neg (by omega),if_neg (by omega),if_neg (by omega),if_neg (by omega),if_neg (by omega),if_neg (by omega),if_neg (by omega),if_neg (by omega),if_pos (by omega)];show (⟨eW (aU m) (c / 8%8 / 2) (bA m),full⟩ : S)=_;rw [bCW hg]
theorem aWN (m:M) (full:Bool) (c imm:Int) (hg:Stpq.Good m) (hc:128<=c/\c<192) (c0:0<=c) (c1:c<=255) (i0:0<=imm) (i1:imm<=65535):(sem c false imm ⟨m,full⟩).1=⟨{ m with ra:=(aS (c / 8%8) m.ra (Stpp.get m (c%8)) m.rf).1,rf:=(aS (c / 8%8) m.ra (Stpp.get m (c%8)) m.rf).2 },full⟩:=by
 unfold sem;rw [if_neg (by decide),if_neg (by omega),if_neg (by omega),if_neg (by omega),if_pos (by omega)]
 rfl
theorem aOW (m:M) (full:Bool) (c imm:Int) (hg:Stpq.Good m) (hc:192<=c/\c%8=6) (c0:0<=c) (c1:c<=255) (i0:0<=imm) (i1:imm<=65535):(sem c false imm ⟨m,full⟩).1=⟨{ m with ra:=(aS (c / 8%8) m.ra imm m.rf).1,rf:=(aS (c / 8%8) m.ra imm m.rf).2 },full⟩:=by
 unfold sem;rw [if_neg (by decide),if_neg (by omega),if_neg (by omega),if_neg (by omega),if_neg (by omega)];unfold aW;rw [if_neg (by rintro (⟨h1,_,_⟩|h1|h1) <;> omega),if_neg (by omega),if_neg (by omega),if_neg (by omega),if_neg (by omega),if_neg (by omega),if_neg (by omega),if_neg (by omega),if_neg (by omega),if_neg (by omega),if_neg (by omega),if_neg (by omega),if_neg (by omega),if_neg (by rintro (⟨h1,_,_⟩|h1) <;> omega),if_neg (by omega),if_neg (by rintro (⟨h1,_⟩|h1) <;> omega),if_pos (by omega)]
 rfl
theorem aOX (m:M) (full:Bool) (c imm:Int) (hg:Stpq.Good m) (hc:c<64/\c%8=4) (c0:0<=c) (c1:c<=255) (i0:0<=imm) (i1:imm<=65535):(sem c false imm ⟨m,full⟩).1=F (put ⟨m,full⟩ (c / 8%8) (cP (Stpp.get m (c / 8%8)) m.rf false).1) (cP (Stpp.get m (c / 8%8)) m.rf false).2:=by
 unfold sem;rw [if_neg (by decide),if_pos (by omega)];unfold bY;rw [if_neg (by omega),if_neg (by omega),if_neg (by omega),if_neg (by omega),if_pos (by omega)];rw [show c / 8%8=c / 8 by omega]
theorem aOY (m:M) (full:Bool) (c imm:Int) (hg:Stpq.Good m) (hc:c<64/\c%8=5) (c0:0<=c) (c1:c<=255) (i0:0<=imm) (i1:imm<=65535):(sem c false imm ⟨m,full⟩).1=F (put ⟨m,full⟩ (c / 8%8) (cP (Stpp.get m (c / 8%8)) m.rf true).1) (cP (Stpp.get m (c / 8%8)) m.rf true).2:=by
 unfold sem;rw [if_neg (by decide),if_pos (by omega)];unfold bY;rw [if_neg (by omega),if_neg (by omega),if_neg (by omega),if_neg (by omega),if_neg (by omega),if_pos (by omega)];rw [show c / 8%8=c / 8 by omega]
theorem aOZ (m:M) (full:Bool) (c imm:Int) (hg:Stpq.Good m) (hc:c<64/\c%8=3/\c / 8%2=0) (c0:0<=c) (c1:c<=255) (i0:0<=imm) (i1:imm<=65535):(sem c false imm ⟨m,full⟩).1=⟨aN m (c / 8%8 / 2) ((pr m (c / 8%8 / 2)+1)%65536),full⟩:=by
 unfold sem;rw [if_neg (by decide),if_pos (by omega)];unfold bY;rw [if_neg (by omega),if_neg (by omega),if_neg (by omega),if_pos (by omega)];rw [if_pos (by omega),show c / 8%8=c / 8 by omega]
theorem aPA (m:M) (full:Bool) (c imm:Int) (hg:Stpq.Good m) (hc:c<64/\c%8=3/\c / 8%2=1) (c0:0<=c) (c1:c<=255) (i0:0<=imm) (i1:imm<=65535):(sem c false imm ⟨m,full⟩).1=⟨aN m (c / 8%8 / 2) ((pr m (c / 8%8 / 2)+(-1))%65536),full⟩:=by
 unfold sem;rw [if_neg (by decide),if_pos (by omega)];unfold bY;rw [if_neg (by omega),if_neg (by omega),if_neg (by omega),if_pos (by omega)];rw [if_neg (by omega),show c / 8%8=c / 8 by omega,show (pr m (c / 8 / 2)+65535)%65536=(pr m (c / 8 / 2)+(-1))%65536 by omega]
theorem aDA (m:M) (full:Bool) (c imm:Int) (hg:Stpq.Good m) (hc:c<64/\c%8=1/\c / 8%2=1) (c0:0<=c) (c1:c<=255) (i0:0<=imm) (i1:imm<=65535):(sem c false imm ⟨m,full⟩).1=⟨{ aN m 2 (awR (hl m) (pr m (c / 8%8 / 2)) m.rf).1 with rf:=(awR (hl m) (pr m (c / 8%8 / 2)) m.rf).2 },full⟩:=by
 unfold sem;rw [if_neg (by decide),if_pos (by omega)];unfold bY;rw [if_neg (by omega),if_pos (by omega),if_neg (by omega)];rw [show c / 8%8=c / 8 by omega]
 rfl
theorem yV (m:M) (full:Bool) (c imm:Int) (hg:Stpq.Good m) (hc:c=232) (c0:0<=c) (c1:c<=255) (i0:0<=imm) (i1:imm<=65535):(sem c false imm ⟨m,full⟩).1=⟨{ m with sp:=(asR m.sp imm).1,rf:=(asR m.sp imm).2 },full⟩:=by
 subst hc
 rfl
theorem aWO (m:M) (full:Bool) (c imm:Int) (hg:Stpq.Good m) (hc:c<64/\c%8=7/\c / 8<4) (c0:0<=c) (c1:c<=255) (i0:0<=imm) (i1:imm<=65535):(sem c false imm ⟨m,full⟩).1=⟨{ m with ra:=(cD (c / 8%8) m.ra m.rf).1,rf:=bits .andNot .i64 (cD (c / 8%8) m.ra m.rf).2 128 },full⟩:=by
 unfold sem;rw [if_neg (by decide),if_pos (by omega)];unfold bY;rw [if_neg (by omega),if_neg (by omega),if_neg (by omega),if_neg (by omega),if_neg (by omega),if_neg (by omega),if_neg (by omega)];rw [show c / 8%8=c / 8 by omega];show gY (c / 8) ⟨m,full⟩=_;unfold gY;rw [if_neg (by omega),if_neg (by omega),if_neg (by omega),if_neg (by omega)];rw [gL]
 rfl
theorem aWP (m:M) (full:Bool) (c imm:Int) (hg:Stpq.Good m) (hc:c<64/\c%8=7/\c / 8<4) (c0:0<=c) (c1:c<=255) (i0:0<=imm) (i1:imm<=65535):(sem c false imm ⟨m,full⟩).1=⟨{ m with ra:=(cD (c / 8%8) m.ra m.rf).1,rf:=bits .andNot .i64 (cD (c / 8%8) m.ra m.rf).2 128 },full⟩:=by
 unfold sem;rw [if_neg (by decide),if_pos (by omega)];unfold bY;rw [if_neg (by omega),if_neg (by omega),if_neg (by omega),if_neg (by omega),if_neg (by omega),if_neg (by omega),if_neg (by omega)];rw [show c / 8%8=c / 8 by omega];show gY (c / 8) ⟨m,full⟩=_;unfold gY;rw [if_neg (by omega),if_neg (by omega),if_neg (by omega),if_neg (by omega)];rw [gL]
 rfl
theorem bDO (m:M) (full:Bool) (c imm:Int) (hg:Stpq.Good m) (hc:c<64/\c%8=7/\c / 8<4) (c0:0<=c) (c1:c<=255) (i0:0<=imm) (i1:imm<=65535):(sem c false imm ⟨m,full⟩).1=⟨{ m with ra:=(cD (c / 8%8) m.ra m.rf).1,rf:=bits .andNot .i64 (cD (c / 8%8) m.ra m.rf).2 128 },full⟩:=by
 unfold sem;rw [if_neg (by decide),if_pos (by omega)];unfold bY;rw [if_neg (by omega),if_neg (by omega),if_neg (by omega),if_neg (by omega),if_neg (by omega),if_neg (by omega),if_neg (by omega)];rw [show c / 8%8=c / 8 by omega];show gY (c / 8) ⟨m,full⟩=_;unfold gY;rw [if_neg (by omega),if_neg (by omega),if_neg (by omega),if_neg (by omega)];rw [gL]
 rfl
theorem bDP (m:M) (full:Bool) (c imm:Int) (hg:Stpq.Good m) (hc:c<64/\c%8=7/\c / 8<4) (c0:0<=c) (c1:c<=255) (i0:0<=imm) (i1:imm<=65535):(sem c false imm ⟨m,full⟩).1=⟨{ m with ra:=(cD (c / 8%8) m.ra m.rf).1,rf:=bits .andNot .i64 (cD (c / 8%8) m.ra m.rf).2 128 },full⟩:=by
 unfold sem;rw [if_neg (by decide),if_pos (by omega)];unfold bY;rw [if_neg (by omega),if_neg (by omega),if_neg (by omega),if_neg (by omega),if_neg (by omega),if_neg (by omega),if_neg (by omega)];rw [show c / 8%8=c / 8 by omega];show gY (c / 8) ⟨m,full⟩=_;unfold gY;rw [if_neg (by omega),if_neg (by omega),if_neg (by omega),if_neg (by omega)];rw [gL]
 rfl
theorem bDQ (m:M) (full:Bool) (c imm:Int) (hg:Stpq.Good m) (hc:c=39) (c0:0<=c) (c1:c<=255) (i0:0<=imm) (i1:imm<=65535):(sem c false imm ⟨m,full⟩).1=⟨{ m with ra:=(fJ m.ra m.rf).1,rf:=(fJ m.ra m.rf).2 },full⟩:=by
 subst hc
 rfl
theorem bDR (m:M) (full:Bool) (c imm:Int) (hg:Stpq.Good m) (hc:c=47) (c0:0<=c) (c1:c<=255) (i0:0<=imm) (i1:imm<=65535):(sem c false imm ⟨m,full⟩).1=⟨{ m with ra:=255-m.ra,rf:=bits .or .i64 m.rf 96 },full⟩:=by
 subst hc;rw [aHS hg.f hg.f16]
 rfl
theorem bDS (m:M) (full:Bool) (c imm:Int) (hg:Stpq.Good m) (hc:c=55) (c0:0<=c) (c1:c<=255) (i0:0<=imm) (i1:imm<=65535):(sem c false imm ⟨m,full⟩).1=⟨{ m with rf:=bits .or .i64 (bits .and .i64 m.rf 128) 16 },full⟩:=by
 subst hc;rw [aHT hg.f hg.f16]
 rfl
theorem bDT (m:M) (full:Bool) (c imm:Int) (hg:Stpq.Good m) (hc:c=63) (c0:0<=c) (c1:c<=255) (i0:0<=imm) (i1:imm<=65535):(sem c false imm ⟨m,full⟩).1=⟨{ m with rf:=bits .xor .i64 (bits .and .i64 m.rf 144) 16 },full⟩:=by
 subst hc;rw [aHU hg.f hg.f16]
 rfl
theorem aPB (m:M) (full:Bool) (c imm:Int) (hg:Stpq.Good m) (hc:c=24) (c0:0<=c) (c1:c<=255) (i0:0<=imm) (i1:imm<=65535):(sem c false imm ⟨m,full⟩).1=⟨{ m with pc:=(m.pc+sgn imm)%65536 },full⟩:=by
 subst hc;show (⟨{ m with pc:=(m.pc+sgn imm+65536)%65536 },full⟩ : S)=_;rw [show (m.pc+sgn imm+65536)%65536=(m.pc+sgn imm)%65536 by omega]
theorem aIC (m:M) (full:Bool) (c imm:Int) (hg:Stpq.Good m) (hc:c<64/\c%8=0/\3<c / 8) (c0:0<=c) (c1:c<=255) (i0:0<=imm) (i1:imm<=65535) (hm:cond m (c / 8%8%4)=true):(sem c false imm ⟨m,full⟩).1=⟨{ m with pc:=(m.pc+sgn imm)%65536 },full⟩:=by
 unfold sem;rw [if_neg (by decide),if_pos (by omega)];unfold bY;rw [if_pos (by omega),if_neg (by omega),if_pos (.inr ⟨by omega,by rw [show c / 8-4=c / 8%8%4 by omega];exact hm⟩)];show (⟨{ m with pc:=(m.pc+sgn imm+65536)%65536 },full⟩ : S)=_;rw [show (m.pc+sgn imm+65536)%65536=(m.pc+sgn imm)%65536 by omega]
theorem aID (m:M) (full:Bool) (c imm:Int) (hg:Stpq.Good m) (hc:c=195) (c0:0<=c) (c1:c<=255) (i0:0<=imm) (i1:imm<=65535):(sem c false imm ⟨m,full⟩).1=⟨{ m with pc:=imm },full⟩:=by
 subst hc
 rfl
theorem aDB (m:M) (full:Bool) (c imm:Int) (hg:Stpq.Good m) (hc:192<=c/\c%8=2/\c / 8%8<4) (c0:0<=c) (c1:c<=255) (i0:0<=imm) (i1:imm<=65535) (hm:cond m (c / 8%8%4)=true):(sem c false imm ⟨m,full⟩).1=⟨{ m with pc:=imm },full⟩:=by
 unfold sem;rw [if_neg (by decide),if_neg (by omega),if_neg (by omega),if_neg (by omega),if_neg (by omega)];unfold aW;rw [if_neg (by rintro (⟨h1,_,_⟩|h1|h1) <;> omega),if_neg (by omega),if_neg (by omega),if_neg (by omega),if_neg (by omega),if_neg (by omega),if_neg (by omega),if_neg (by omega),if_neg (by omega),if_neg (by omega),if_neg (by omega),if_neg (by omega),if_neg (by omega),if_pos (by exact .inl ⟨by omega,by omega,by rw [show c / 8%8=c / 8%8%4 by omega];exact hm⟩)]
theorem aPC (m:M) (full:Bool) (c imm:Int) (hg:Stpq.Good m) (hc:c=233) (c0:0<=c) (c1:c<=255) (i0:0<=imm) (i1:imm<=65535):(sem c false imm ⟨m,full⟩).1=⟨{ m with pc:=hl m },full⟩:=by
 subst hc
 rfl
theorem yW (m:M) (full:Bool) (c imm:Int) (hg:Stpq.Good m) (hc:c=205) (c0:0<=c) (c1:c<=255) (i0:0<=imm) (i1:imm<=65535):(sem c false imm ⟨m,full⟩).1=aR imm ⟨m,full⟩:=by
 subst hc
 rfl
theorem vQ (m:M) (full:Bool) (c imm:Int) (hg:Stpq.Good m) (hc:192<=c/\c%8=4/\c / 8%8<4) (c0:0<=c) (c1:c<=255) (i0:0<=imm) (i1:imm<=65535) (hm:cond m (c / 8%8%4)=true):(sem c false imm ⟨m,full⟩).1=aR imm ⟨m,full⟩:=by
 unfold sem;rw [if_neg (by decide),if_neg (by omega),if_neg (by omega),if_neg (by omega),if_neg (by omega)];unfold aW;rw [if_neg (by rintro (⟨h1,_,_⟩|h1|h1) <;> omega),if_neg (by omega),if_neg (by omega),if_neg (by omega),if_neg (by omega),if_neg (by omega),if_neg (by omega),if_neg (by omega),if_neg (by omega),if_neg (by omega),if_neg (by omega),if_neg (by omega),if_neg (by omega),if_neg (by rintro (⟨h1,_,_⟩|h1) <;> omega),if_neg (by omega),if_pos (by exact .inl ⟨by omega,by rw [show c / 8%8=c / 8%8%4 by omega];exact hm⟩)]
theorem aPD (m:M) (full:Bool) (c imm:Int) (hg:Stpq.Good m) (hc:192<=c/\c%8=7) (c0:0<=c) (c1:c<=255) (i0:0<=imm) (i1:imm<=65535):(sem c false imm ⟨m,full⟩).1=aR (8*(c / 8%8)) ⟨m,full⟩:=by
 unfold sem;rw [if_neg (by decide),if_neg (by omega),if_neg (by omega),if_neg (by omega),if_neg (by omega)];unfold aW;rw [if_neg (by rintro (⟨h1,_,_⟩|h1|h1) <;> omega),if_neg (by omega),if_neg (by omega),if_neg (by omega),if_neg (by omega),if_neg (by omega),if_neg (by omega),if_neg (by omega),if_neg (by omega),if_neg (by omega),if_neg (by omega),if_neg (by omega),if_neg (by omega),if_neg (by rintro (⟨h1,_,_⟩|h1) <;> omega),if_neg (by omega),if_neg (by rintro (⟨h1,_⟩|h1) <;> omega),if_neg (by omega),if_pos (by omega)]
theorem bDU (m:M) (full:Bool) (c imm:Int) (hg:Stpq.Good m) (hc:c=201) (c0:0<=c) (c1:c<=255) (i0:0<=imm) (i1:imm<=65535):(sem c false imm ⟨m,full⟩).1=⟨{ aU m with pc:=bA m },full⟩:=by
 subst hc;show (⟨{ aU m with pc:=bA m,ime:=m.ime || false },full⟩ : S)=_;rw [Bool.or_false]
 rfl
theorem aPE (m:M) (full:Bool) (c imm:Int) (hg:Stpq.Good m) (hc:192<=c/\c%8=0/\c / 8%8<4) (c0:0<=c) (c1:c<=255) (i0:0<=imm) (i1:imm<=65535) (hm:cond m (c / 8%8%4)=true):(sem c false imm ⟨m,full⟩).1=⟨{ aU m with pc:=bA m },full⟩:=by
 unfold sem;rw [if_neg (by decide),if_neg (by omega),if_neg (by omega),if_neg (by omega),if_neg (by omega)];unfold aW;rw [if_pos (by exact .inl ⟨by omega,by omega,by rw [show c / 8%8=c / 8%8%4 by omega];exact hm⟩)];show (aBX (decide (c=217)) ⟨m,full⟩)=_;rw [show decide (c=217)=false from u6 (by omega)];unfold aBX;rw [Bool.or_false]
 rfl
theorem aWQ (m:M) (full:Bool) (c imm:Int) (hg:Stpq.Good m) (hc:c=217) (c0:0<=c) (c1:c<=255) (i0:0<=imm) (i1:imm<=65535):(sem c false imm ⟨m,full⟩).1=⟨{ aU m with pc:=bA m,ime:=true },full⟩:=by
 subst hc;show (⟨{ aU m with pc:=bA m,ime:=m.ime || true },full⟩ : S)=_;rw [Bool.or_true]
theorem bIC (m:M) (full:Bool) (c imm:Int) (hg:Stpq.Good m) (hc:c=243) (c0:0<=c) (c1:c<=255) (i0:0<=imm) (i1:imm<=65535):(sem c false imm ⟨m,full⟩).1=⟨{ m with ime:=false },full⟩:=by
 subst hc
 rfl
theorem bID (m:M) (full:Bool) (c imm:Int) (hg:Stpq.Good m) (hc:c=251) (c0:0<=c) (c1:c<=255) (i0:0<=imm) (i1:imm<=65535):(sem c false imm ⟨m,full⟩).1=⟨{ m with ime:=true },full⟩:=by
 subst hc
 rfl
theorem aWR (m:M) (full:Bool) (c imm:Int) (hg:Stpq.Good m) (hc:c=118) (c0:0<=c) (c1:c<=255) (i0:0<=imm) (i1:imm<=65535):(sem c false imm ⟨m,full⟩).1=⟨{ m with hal:=true },full⟩:=by
 subst hc
 rfl
theorem bDV (m:M) (full:Bool) (c imm:Int) (hg:Stpq.Good m) (hc:c=0) (c0:0<=c) (c1:c<=255) (i0:0<=imm) (i1:imm<=65535):(sem c false imm ⟨m,full⟩).1=⟨m,full⟩:=by
 subst hc
 rfl
theorem aDC (m:M) (full:Bool) (c imm:Int) (hg:Stpq.Good m) (hc:c=16) (c0:0<=c) (c1:c<=255) (i0:0<=imm) (i1:imm<=65535):(sem c false imm ⟨m,full⟩).1=⟨m,full⟩:=by
 subst hc
 rfl
end Stpf
namespace Stpw
open Go.Deep
open Signed (inB sgn aG aB)
open Busw Busx Stpp Stpq Stpi Stpj Stpr Stpk Stpm Stpn Stpu Stpv Stpz
open Reck ReckS ReckM ReckD TurnS
theorem aDD {y:Int} (h:0<=y/\y<=7):IntKind.i64.wrap (2 ^ y.toNat)=cQ y:=by
 have hn:y=0 \/ y=1 \/ y=2 \/ y=3 \/ y=4 \/ y=5 \/ y=6 \/ y=7:=by omega
 rcases hn with rfl|rfl|rfl|rfl|rfl|rfl|rfl|rfl
 all_goals decide +kernel
theorem bIE (g:G) (m:M) (full:Bool) (hx:g.x=2) (w:World) (h:In g w m full) (hg:Stpq.Good m) (hp:Pt g) :
  Calls prog 205 #[.pointer (some ⟨g.K,0,none⟩)] w fun e w'=>e=.returned (.tuple #[])/\In g w' (put ⟨m,full⟩ g.z (bits .andNot .i64 (Stpp.get m g.z) (cQ g.y))).m (put ⟨m,full⟩ g.z (bits .andNot .i64 (Stpp.get m g.z) (cQ g.y))).full:=by
 have c1:Rg 171 #[.pointer (some ⟨g.K,0,none⟩),.int .i64 g.z] w (.int .i64 (Stpp.get m g.z)):=rg fun W hb=>jT g m full g.z W (h.below hb) hg hp.z.1 hp.z.2
 have hsh:=aDD hp.y;have hy0:=hp.y.1;have hy1:=hp.y.2;have bg:=dN hg g.z;have bd:=oN bg.1 bg.2 g.y;have c3:Hid (∀ W,In g W m full->Calls prog 170 #[.pointer (some ⟨g.K,0,none⟩),.int .i64 g.z,.int .i64 (bits .andNot .i64 (Stpp.get m g.z) (cQ g.y))] W fun e w'=>e=.returned (.tuple #[])/\In g w' (put ⟨m,full⟩ g.z (bits .andNot .i64 (Stpp.get m g.z) (cQ g.y))).m (put ⟨m,full⟩ g.z (bits .andNot .i64 (Stpp.get m g.z) (cQ g.y))).full):=fun W hi=>lM g m full _ _ W hi hg hp.z.1 hp.z.2 bd.1 bd.2
 generalize put ⟨m,full⟩ g.z (bits .andNot .i64 (Stpp.get m g.z) (cQ g.y))=t at *
 generalize Stpp.get m g.z=v at *
 generalize cQ g.y=b at *
 have q:∀ W,Below w.heap.size w W->W.cell? ⟨2,2,none⟩=some (.string ⟨#[114,101,115]⟩):=fun W hb=>(h.below hb).tb.bit 2 (by decide)
 have HQ:Hid (∀ W,In g W m full->W.cell? ⟨2,2,none⟩=some (.string ⟨#[114,101,115]⟩)):=fun W hi=>hi.tb.bit 2 (by decide)
 have r0:=x7 (h.k_cpu);have r1:=x7 (h.k_y);have r2:=x7 (h.k_z);have HI:Hid (In g w m full):=h;clear h hg hp bg q bd
 go_enter func205,ntmps205
 go_wp2_with fail
 refine wp_region_quiet_below (by kernel_rfl) (by kernel_rfl) ?_
 repeat (go_big_quiet_step (first|with_reducible exact c1 _ _))
 refine wpQuiet_nil ?_;intro _ hw';obtain ⟨⟨dq,osq⟩,hw''⟩:=hw';subst hw'';have H2:=zHd (HI.out.below (x8 w dq osq));generalize Go.Sort.grow (redrawn w dq) osq=W2 at *
 clear HI r0 r1 r2 c1;have q_x:=H2.out.k_x;rw [hx] at q_x
 have q_t:=HQ.out _ H2.out;clear HQ;have q_z:=H2.out.k_z
 go_wp2_with fail
 refine Calls.mono (c3.out _ H2.out) ?_;rintro e w1 ⟨rfl,hi1⟩;have H3:Hid (In g w1 t.m t.full):=hi1;clear hi1 H2 c3;go_wp2
 go_end0
 exact ⟨rfl,H3.out⟩
theorem bIF (g:G) (m:M) (full:Bool) (hx:g.x=3) (w:World) (h:In g w m full) (hg:Stpq.Good m) (hp:Pt g) :
  Calls prog 205 #[.pointer (some ⟨g.K,0,none⟩)] w fun e w'=>e=.returned (.tuple #[])/\In g w' (put ⟨m,full⟩ g.z (bits .or .i64 (Stpp.get m g.z) (cQ g.y))).m (put ⟨m,full⟩ g.z (bits .or .i64 (Stpp.get m g.z) (cQ g.y))).full:=by
 have c1:Rg 171 #[.pointer (some ⟨g.K,0,none⟩),.int .i64 g.z] w (.int .i64 (Stpp.get m g.z)):=rg fun W hb=>jT g m full g.z W (h.below hb) hg hp.z.1 hp.z.2
 have hsh:=aDD hp.y;have hy0:=hp.y.1;have hy1:=hp.y.2;have bg:=dN hg g.z;have bd:=rG bg.1 bg.2 g.y;have c3:Hid (∀ W,In g W m full->Calls prog 170 #[.pointer (some ⟨g.K,0,none⟩),.int .i64 g.z,.int .i64 (bits .or .i64 (Stpp.get m g.z) (cQ g.y))] W fun e w'=>e=.returned (.tuple #[])/\In g w' (put ⟨m,full⟩ g.z (bits .or .i64 (Stpp.get m g.z) (cQ g.y))).m (put ⟨m,full⟩ g.z (bits .or .i64 (Stpp.get m g.z) (cQ g.y))).full):=fun W hi=>lM g m full _ _ W hi hg hp.z.1 hp.z.2 bd.1 bd.2
 generalize put ⟨m,full⟩ g.z (bits .or .i64 (Stpp.get m g.z) (cQ g.y))=t at *
 generalize Stpp.get m g.z=v at *
 generalize cQ g.y=b at *
 have q:∀ W,Below w.heap.size w W->W.cell? ⟨2,3,none⟩=some (.string ⟨#[115,101,116]⟩):=fun W hb=>(h.below hb).tb.bit 3 (by decide)
 have HQ:Hid (∀ W,In g W m full->W.cell? ⟨2,3,none⟩=some (.string ⟨#[115,101,116]⟩)):=fun W hi=>hi.tb.bit 3 (by decide)
 have r0:=x7 (h.k_cpu);have r1:=x7 (h.k_y);have r2:=x7 (h.k_z);have HI:Hid (In g w m full):=h;clear h hg hp bg q bd
 go_enter func205,ntmps205
 go_wp2_with fail
 refine wp_region_quiet_below (by kernel_rfl) (by kernel_rfl) ?_
 repeat (go_big_quiet_step (first|with_reducible exact c1 _ _))
 refine wpQuiet_nil ?_;intro _ hw';obtain ⟨⟨dq,osq⟩,hw''⟩:=hw';subst hw'';have H2:=zHd (HI.out.below (x8 w dq osq));generalize Go.Sort.grow (redrawn w dq) osq=W2 at *
 clear HI r0 r1 r2 c1;have q_x:=H2.out.k_x;rw [hx] at q_x
 have q_t:=HQ.out _ H2.out;clear HQ;have q_z:=H2.out.k_z
 go_wp2_with fail
 refine Calls.mono (c3.out _ H2.out) ?_;rintro e w1 ⟨rfl,hi1⟩;have H3:Hid (In g w1 t.m t.full):=hi1;clear hi1 H2 c3;go_wp2
 go_end0
 exact ⟨rfl,H3.out⟩
theorem bIG (g:G) (m:M) (full:Bool) (hx:g.x=1) (w:World) (h:In g w m full) (hg:Stpq.Good m) (hp:Pt g) :
  Calls prog 205 #[.pointer (some ⟨g.K,0,none⟩)] w fun e w'=>e=.returned (.tuple #[])/\In g w' (⟨{ m with rf:=bits .or .i64 (bits .or .i64 (chz (decide (bits .and .i64 (Stpp.get m g.z) (cQ g.y)=0)) 128 0) 32) (bits .and .i64 m.rf 16) },full⟩ : S).m (⟨{ m with rf:=bits .or .i64 (bits .or .i64 (chz (decide (bits .and .i64 (Stpp.get m g.z) (cQ g.y)=0)) 128 0) 32) (bits .and .i64 m.rf 16) },full⟩ : S).full:=by
 have c1:Rg 171 #[.pointer (some ⟨g.K,0,none⟩),.int .i64 g.z] w (.int .i64 (Stpp.get m g.z)):=rg fun W hb=>jT g m full g.z W (h.below hb) hg hp.z.1 hp.z.2
 have hsh:=aDD hp.y;have hy0:=hp.y.1;have hy1:=hp.y.2;have bg:=dN hg g.z;generalize Stpp.get m g.z=v at *
 generalize cQ g.y=b at *
 obtain ⟨vb,hvb⟩ : ∃ x,bits .and .i64 v b=x:=⟨_,rfl⟩
 rw [hvb];have hzz:(vb == 0)=decide (vb=0):=by by_cases h:vb=0 <;> simp [h]
 have C2:Hid (∀ W:World,Rg 248 #[.int .i64 128,.bool (decide (vb=0))] W (.int .i64 (chz (decide (vb=0)) 128 0))):=fun W=>rg fun W' hb=>(bC 128 _ W').mono fun e w' h=>⟨h.1,by rw [h.2];exact zRf⟩
 generalize chz (decide (vb=0)) 128 0=cz at *
 generalize decide (vb=0)=db at *
 obtain ⟨f1,hf1⟩ : ∃ f,bits .or .i64 (bits .or .i64 cz 32) (bits .and .i64 m.rf 16)=f:=⟨_,rfl⟩
 rw [hf1];have q:∀ W,Below w.heap.size w W->W.cell? ⟨2,1,none⟩=some (.string ⟨#[98,105,116]⟩):=fun W hb=>(h.below hb).tb.bit 1 (by decide)
 have HQ:Hid (∀ W,In g W m full->W.cell? ⟨2,1,none⟩=some (.string ⟨#[98,105,116]⟩)):=fun W hi=>hi.tb.bit 1 (by decide)
 have r0:=x7 (h.k_cpu);have r1:=x7 (h.k_y);have r2:=x7 (h.k_z);have HI:Hid (In g w m full):=h;clear h hg hp bg q 
 go_enter func205,ntmps205
 go_wp2_with fail
 refine wp_region_quiet_below (by kernel_rfl) (by kernel_rfl) ?_
 repeat (go_big_quiet_step (first|with_reducible exact c1 _ _))
 refine wpQuiet_nil ?_;intro _ hw';obtain ⟨⟨dq,osq⟩,hw''⟩:=hw';subst hw'';have H2:=zHd (HI.out.below (x8 w dq osq));generalize Go.Sort.grow (redrawn w dq) osq=W2 at *
 clear HI r0 r1 r2 c1;have q_x:=H2.out.k_x;rw [hx] at q_x
 have q_t:=HQ.out _ H2.out;clear HQ;have r0:=x7 (H2.out.k_cpu);have r1:=x7 (H2.out.c_rf);have c2:=C2.out W2;clear C2
 go_wp2_with fail
 refine Qtail.aI 21 (by kernel_rfl) (by kernel_rfl) ?_;simp only [List.take_succ_cons,List.take_zero,List.drop_succ_cons,List.drop_zero]
 repeat (go_big_quiet_step (first|with_reducible exact c2 _ _))
 refine wpQuiet_nil ?_;intro _ hw';obtain ⟨⟨dq,osq⟩,hw''⟩:=hw';subst hw'';have H3:=zHd (H2.out.below (x8 W2 dq osq));generalize Go.Sort.grow (redrawn W2 dq) osq=W3 at *
 clear H2 r0 r1 c2;have q_k_cpu:=H3.out.k_cpu;have q_c_rf:=H3.out.c_rf;have f_rf:=H3.out.fro 1;have H3x:=H3.out.s_rf f1;have HF:Hid (In g (W3.setCell ⟨g.B,1,none⟩ (.int .i64 f1)) { m with rf:=f1 } full):=H3x;clear H3x H3;go_wp2
 go_end0
 exact ⟨rfl,HF.out⟩
theorem jp1 (g:G) (m:M) (full:Bool)  (w:World) (h:In g w m full) (hg:Stpq.Good m) (hp:Pt g) :
  Calls prog 211 #[.pointer (some ⟨g.K,0,none⟩)] w fun e w'=>e=.returned (.tuple #[])/\In g w' (⟨{ m with pc:=(m.pc+sgn g.imm)%65536 },full⟩ : S).m (⟨{ m with pc:=(m.pc+sgn g.imm)%65536 },full⟩ : S).full:=by
 have hpc:=hg.pc;have hs:=ReckM.dI g.imm;have c1:Rg 212 #[.int .i64 g.imm] w (.int .i64 (sgn g.imm)):=rg fun W hb=>(Signed.fF g.imm W).mono fun e w' h=>⟨h.1,by rw [h.2];exact zRf⟩
 have c2:Rg 93 #[.int .i64 (m.pc+sgn g.imm)] w (.int .i64 ((m.pc+sgn g.imm)%65536)):=rg fun W hb=>(cX (m.pc+sgn g.imm) W).mono fun e w' h=>⟨h.1,by rw [h.2];exact zRf⟩
 have d1:IntKind.i64.wrap (m.pc+sgn g.imm)=m.pc+sgn g.imm:=by rw [x6];omega
 generalize (m.pc+sgn g.imm)%65536=v at *
 generalize sgn g.imm=sg at *
 clear hpc hs;have r0:=x7 (h.k_cpu);have r1:=x7 (h.k_imm);have r2:=x7 (h.c_pc);have HI:Hid (In g w m full):=h;clear h hg hp
 go_enter func211,ntmps211
 go_wp2_with fail
 refine Qtail.aI 21 (by kernel_rfl) (by kernel_rfl) ?_;simp only [List.take_succ_cons,List.take_zero,List.drop_succ_cons,List.drop_zero]
 repeat (go_big_quiet_step (first|with_reducible exact c1 _ _|with_reducible exact c2 _ _))
 refine wpQuiet_nil ?_;intro _ hw';obtain ⟨⟨dq,osq⟩,hw''⟩:=hw';subst hw'';have H2:=zHd (HI.out.below (x8 w dq osq));generalize Go.Sort.grow (redrawn w dq) osq=W2 at *
 clear HI r0 r1 r2 c1 c2;have q_k_cpu:=H2.out.k_cpu;have q_c_pc:=H2.out.c_pc;have f_pc:=H2.out.fro 9;have H3:=H2.out.s_pc v;have HF:Hid (In g (W2.setCell ⟨g.B,9,none⟩ (.int .i64 v)) { m with pc:=v } full):=H3;clear H3 H2;go_wp2
 go_end0
 exact ⟨rfl,HF.out⟩
theorem jp2 (g:G) (m:M) (full:Bool)  (w:World) (h:In g w m full) (hg:Stpq.Good m) (hp:Pt g) :
  Calls prog 213 #[.pointer (some ⟨g.K,0,none⟩)] w fun e w'=>e=.returned (.tuple #[])/\In g w' (⟨{ m with pc:=g.imm },full⟩ : S).m (⟨{ m with pc:=g.imm },full⟩ : S).full:=by
 have r0:=x7 (h.k_cpu);have r1:=x7 (h.k_imm);have HI:Hid (In g w m full):=h;clear h hg hp
 go_enter func213,ntmps213
 go_wp2_with fail
 refine Qtail.aI 11 (by kernel_rfl) (by kernel_rfl) ?_;simp only [List.take_succ_cons,List.take_zero,List.drop_succ_cons,List.drop_zero]
 repeat (go_big_quiet_step (first|fail))
 refine wpQuiet_nil ?_;intro _ hw';obtain ⟨⟨dq,osq⟩,hw''⟩:=hw';subst hw'';have H2:=zHd (HI.out.below (x8 w dq osq));generalize Go.Sort.grow (redrawn w dq) osq=W2 at *
 clear HI r0 r1;have q_k_cpu:=H2.out.k_cpu;have q_c_pc:=H2.out.c_pc;have f_pc:=H2.out.fro 9;have H3:=H2.out.s_pc g.imm;have HF:Hid (In g (W2.setCell ⟨g.B,9,none⟩ (.int .i64 g.imm)) { m with pc:=g.imm } full):=H3;clear H3 H2;go_wp2
 go_end0
 exact ⟨rfl,HF.out⟩
theorem jp3 (g:G) (m:M) (full:Bool)  (w:World) (h:In g w m full) (hg:Stpq.Good m) (hp:Pt g) :
  Calls prog 214 #[.pointer (some ⟨g.K,0,none⟩)] w fun e w'=>e=.returned (.tuple #[])/\In g w' (⟨{ m with pc:=hl m },full⟩ : S).m (⟨{ m with pc:=hl m },full⟩ : S).full:=by
 have c1:Rg 177 #[.pointer (some ⟨g.K,0,none⟩)] w (.agg #[.pointer (some ⟨g.B,6,none⟩),.pointer (some ⟨g.B,7,none⟩)]):=rg fun W hb=>gU g W ((h.below hb).k_cpu)
 have c2:Rg 178 #[.agg #[.pointer (some ⟨g.B,6,none⟩),.pointer (some ⟨g.B,7,none⟩)]] w (.int .i64 (hl m)):=rg fun W hb=>yE g m full W (h.below hb) hg
 generalize hl m=v at *
 have r0:=x7 (h.k_cpu);have HI:Hid (In g w m full):=h;clear h hg hp
 go_enter func214,ntmps214
 go_wp2_with fail
 refine Qtail.aI 9 (by kernel_rfl) (by kernel_rfl) ?_;simp only [List.take_succ_cons,List.take_zero,List.drop_succ_cons,List.drop_zero]
 repeat (go_big_quiet_step (first|with_reducible exact c1 _ _|with_reducible exact c2 _ _))
 refine wpQuiet_nil ?_;intro _ hw';obtain ⟨⟨dq,osq⟩,hw''⟩:=hw';subst hw'';have H2:=zHd (HI.out.below (x8 w dq osq));generalize Go.Sort.grow (redrawn w dq) osq=W2 at *
 clear HI r0 c1 c2;have q_k_cpu:=H2.out.k_cpu;have q_c_pc:=H2.out.c_pc;have f_pc:=H2.out.fro 9;have H3:=H2.out.s_pc v;have HF:Hid (In g (W2.setCell ⟨g.B,9,none⟩ (.int .i64 v)) { m with pc:=v } full):=H3;clear H3 H2;go_wp2
 go_end0
 exact ⟨rfl,HF.out⟩
theorem aYV (g:G) (m:M) (full:Bool) (v:Int) (w:World) (h:In g w m full) (hg:Stpq.Good m) (hp:Pt g) :
  Calls prog 216 #[.pointer (some ⟨g.K,0,none⟩),.int .i64 v] w fun e w'=>e=.returned (.tuple #[])/\In g w' (aR v ⟨m,full⟩).m (aR v ⟨m,full⟩).full:=by
 have c1:Hid (∀ W,In g W m full->Calls prog 188 #[.pointer (some ⟨g.K,0,none⟩),.int .i64 m.pc] W fun e w'=>e=.returned (.tuple #[])/\In g w' (push ⟨m,full⟩ m.pc).m (push ⟨m,full⟩ m.pc).full):=fun W hi=>yG g m full _ W hi hg hg.pc.1 hg.pc.2
 unfold aR;simp only [];generalize push ⟨m,full⟩ m.pc=t at *
 have q0:=h.k_cpu;have q1:=h.c_pc;have HI:Hid (In g w m full):=h;clear h hg hp
 go_enter func216,ntmps216
 go_wp2_with fail
 refine Calls.mono (c1.out _ HI.out) ?_;rintro e w1 ⟨rfl,hi1⟩;have H1:Hid (In g w1 t.m t.full):=hi1;clear hi1 HI c1;have q_k_cpu:=H1.out.k_cpu;have q_c_pc:=H1.out.c_pc;have f_pc:=H1.out.fro 9;have H3:=H1.out.s_pc v;have HF:Hid (In g (w1.setCell ⟨g.B,9,none⟩ (.int .i64 v)) { t.m with pc:=v } t.full):=H3;clear H3 H1;go_wp2
 go_end0
 exact ⟨rfl,HF.out⟩
theorem jp4 (g:G) (m:M) (full:Bool)  (w:World) (h:In g w m full) (hg:Stpq.Good m) (hp:Pt g) :
  Calls prog 215 #[.pointer (some ⟨g.K,0,none⟩)] w fun e w'=>e=.returned (.tuple #[])/\In g w' (aR g.imm ⟨m,full⟩).m (aR g.imm ⟨m,full⟩).full:=by
 have c2:Hid (∀ W,In g W m full->Calls prog 216 #[.pointer (some ⟨g.K,0,none⟩),.int .i64 g.imm] W fun e w'=>e=.returned (.tuple #[])/\In g w' (aR g.imm ⟨m,full⟩).m (aR g.imm ⟨m,full⟩).full):=fun W hi=>aYV g m full g.imm W hi hg hp
 generalize aR g.imm ⟨m,full⟩=t at *
 have q_i:=h.k_imm;have HI:Hid (In g w m full):=h;clear h hg hp
 go_enter func215,ntmps215
 go_wp2_with fail
 refine Calls.mono (c2.out _ HI.out) ?_;rintro e w2 ⟨rfl,hi1⟩;have H3:Hid (In g w2 t.m t.full):=hi1;clear hi1 HI c2;go_wp2
 go_end0
 exact ⟨rfl,H3.out⟩
theorem jp5 (g:G) (m:M) (full:Bool)  (w:World) (h:In g w m full) (hg:Stpq.Good m) (hp:Pt g) :
  Calls prog 217 #[.pointer (some ⟨g.K,0,none⟩)] w fun e w'=>e=.returned (.tuple #[])/\In g w' (aR (8*g.y) ⟨m,full⟩).m (aR (8*g.y) ⟨m,full⟩).full:=by
 have hy:=hp.y;have d1:IntKind.i64.wrap (8*g.y)=8*g.y:=by rw [x6];omega
 have c2:Hid (∀ W,In g W m full->Calls prog 216 #[.pointer (some ⟨g.K,0,none⟩),.int .i64 (8*g.y)] W fun e w'=>e=.returned (.tuple #[])/\In g w' (aR (8*g.y) ⟨m,full⟩).m (aR (8*g.y) ⟨m,full⟩).full):=fun W hi=>aYV g m full (8*g.y) W hi hg hp
 generalize aR (8*g.y) ⟨m,full⟩=t at *
 have q_i:=h.k_y;have HI:Hid (In g w m full):=h;clear h hg hp hy
 go_enter func217,ntmps217
 go_wp2_with fail
 refine Calls.mono (c2.out _ HI.out) ?_;rintro e w2 ⟨rfl,hi1⟩;have H3:Hid (In g w2 t.m t.full):=hi1;clear hi1 HI c2;go_wp2
 go_end0
 exact ⟨rfl,H3.out⟩
theorem jp6 (g:G) (m:M) (full:Bool)  (w:World) (h:In g w m full) (hg:Stpq.Good m) (hp:Pt g) :
  Calls prog 218 #[.pointer (some ⟨g.K,0,none⟩)] w fun e w'=>e=.returned (.tuple #[])/\In g w' (⟨{ aU m with pc:=bA m },full⟩ : S).m (⟨{ aU m with pc:=bA m },full⟩ : S).full:=by
 have c1:Hid (∀ W,In g W m full->Calls prog 219 #[.pointer (some ⟨g.K,0,none⟩)] W fun e w'=>e=.returned (.int .i64 (bA m))/\In g w' (aU m) full):=fun W hi=>vM g m full W hi hg
 generalize bA m=v at *
 generalize aU m=m1 at *
 have q0:=h.k_cpu;have HI:=zHd (h.below zRf.drew);clear h hg hp
 go_enter func218,ntmps218
 go_wp2_with fail
 go_region_with (go_at_call 219;refine Calls.mono (c1.out _ HI.out) ?_;rintro e w1 ⟨rfl,hi1⟩;have k1:=hi1.k_cpu;have k2:=hi1.c_pc;have k3:=hi1.fro 9;have HF:Hid (In g (w1.setCell ⟨g.B,9,none⟩ (.int .i64 v)) { m1 with pc:=v } full):=hi1.s_pc v;clear hi1)
 all_goals go_wp2
 all_goals go_end0
 all_goals exact ⟨rfl,HF.out⟩
theorem jp7 (g:G) (m:M) (full:Bool)  (w:World) (h:In g w m full) (hg:Stpq.Good m) (hp:Pt g) :
  Calls prog 220 #[.pointer (some ⟨g.K,0,none⟩)] w fun e w'=>e=.returned (.tuple #[])/\In g w' (⟨{ aU m with pc:=bA m,ime:=true },full⟩ : S).m (⟨{ aU m with pc:=bA m,ime:=true },full⟩ : S).full:=by
 have c1:Hid (∀ W,In g W m full->Calls prog 219 #[.pointer (some ⟨g.K,0,none⟩)] W fun e w'=>e=.returned (.int .i64 (bA m))/\In g w' (aU m) full):=fun W hi=>vM g m full W hi hg
 generalize bA m=v at *
 generalize aU m=m1 at *
 have q0:=h.k_cpu;have HI:=zHd (h.below zRf.drew);clear h hg hp
 go_enter func220,ntmps220
 go_wp2_with fail
 go_region_with (go_at_call 219;refine Calls.mono (c1.out _ HI.out) ?_;rintro e w1 ⟨rfl,hi1⟩;have k1:=hi1.k_cpu;have k2:=hi1.c_pc;have k3:=hi1.fro 9;have k4:=hi1.c_ime;have k5:=hi1.fro 10;have k6:=hi1.ltB;have HF:Hid (In g ((w1.setCell ⟨g.B,9,none⟩ (.int .i64 v)).setCell ⟨g.B,10,none⟩ (.bool true)) { m1 with pc:=v,ime:=true } full):=(hi1.s_pc v).s_ime true;clear hi1)
 all_goals go_wp2
 all_goals go_end0
 all_goals exact ⟨rfl,HF.out⟩
theorem jp8 (g:G) (m:M) (full:Bool)  (w:World) (h:In g w m full) (hg:Stpq.Good m) (hp:Pt g) :
  Calls prog 221 #[.pointer (some ⟨g.K,0,none⟩)] w fun e w'=>e=.returned (.tuple #[])/\In g w' (⟨{ m with ime:=false },full⟩ : S).m (⟨{ m with ime:=false },full⟩ : S).full:=by
 have HI:Hid (In g w m full):=h;clear h hg hp;have q_k_cpu:=HI.out.k_cpu;have q_c_ime:=HI.out.c_ime;have f_ime:=HI.out.fro 10;have H3:=HI.out.s_ime false;have HF:Hid (In g (w.setCell ⟨g.B,10,none⟩ (.bool false)) { m with ime:=false } full):=H3;clear H3 HI
 go_enter func221,ntmps221
 go_wp2
 go_end0
 exact ⟨rfl,HF.out⟩
theorem jp9 (g:G) (m:M) (full:Bool)  (w:World) (h:In g w m full) (hg:Stpq.Good m) (hp:Pt g) :
  Calls prog 222 #[.pointer (some ⟨g.K,0,none⟩)] w fun e w'=>e=.returned (.tuple #[])/\In g w' (⟨{ m with ime:=true },full⟩ : S).m (⟨{ m with ime:=true },full⟩ : S).full:=by
 have HI:Hid (In g w m full):=h;clear h hg hp;have q_k_cpu:=HI.out.k_cpu;have q_c_ime:=HI.out.c_ime;have f_ime:=HI.out.fro 10;have H3:=HI.out.s_ime true;have HF:Hid (In g (w.setCell ⟨g.B,10,none⟩ (.bool true)) { m with ime:=true } full):=H3;clear H3 HI
 go_enter func222,ntmps222
 go_wp2
 go_end0
 exact ⟨rfl,HF.out⟩
theorem bLS (g:G) (m:M) (full:Bool)  (w:World) (h:In g w m full) (hg:Stpq.Good m) (hp:Pt g) :
  Calls prog 223 #[.pointer (some ⟨g.K,0,none⟩)] w fun e w'=>e=.returned (.tuple #[])/\In g w' (⟨{ m with hal:=true },full⟩ : S).m (⟨{ m with hal:=true },full⟩ : S).full:=by
 have HI:Hid (In g w m full):=h;clear h hg hp;have q_k_cpu:=HI.out.k_cpu;have q_c_hal:=HI.out.c_hal;have f_hal:=HI.out.fro 11;have H3:=HI.out.s_hal true;have HF:Hid (In g (w.setCell ⟨g.B,11,none⟩ (.bool true)) { m with hal:=true } full):=H3;clear H3 HI
 go_enter func223,ntmps223
 go_wp2
 go_end0
 exact ⟨rfl,HF.out⟩
theorem nothing (g:G) (m:M) (full:Bool) (w:World) (h:In g w m full) (hg:Stpq.Good m) (hp:Pt g) :
  Calls prog 143 #[.pointer (some ⟨g.K,0,none⟩)] w fun e w'=>e=.returned (.tuple #[])/\In g w' (⟨m,full⟩ : S).m (⟨m,full⟩ : S).full:=by
 have HI:Hid (In g w m full):=h;clear h
 go_enter func143,ntmps143
 go_wp2
 go_end0
 exact ⟨rfl,HI.out⟩
end Stpw
end Go.Proofs.YteglcgnhhoenbaaGreatDoor
