import Derived.Test.YtnjolmbdbgbmbaaGreatDoorH30
import Derived.Test.YtnjolmbdbgbmbaaGreatDoorH31
set_option linter.all false
set_option maxRecDepth 20000
set_option maxHeartbeats 8000000
open Go.ChangeShapes Go.WideShapes Go.ChangeAt Go.RowKit
open Go.Proofs.Tryz
namespace Go.Proofs.YtnjolmbdbgbmbaaGreatDoor
namespace Stpf
open Signed (inB sgn)
open Reck ReckS ReckM ReckD TurnS
open Busw (M wrM Rt)
open Stpp Stpq Stpc
theorem se_ld_RS (m:M) (full:Bool) (c imm:Int) (hg:Stpq.Good m) (hc:64<=c/\c<128/\c ≠ 118) (c0:0<=c) (c1:c<=255) (i0:0<=imm) (i1:imm<=65535):(sem c false imm ⟨m,full⟩).1=put ⟨m,full⟩ (c / 8%8) (Stpp.get m (c%8)):=by
 unfold sem
 rw [if_neg (by decide),if_neg (by omega),if_neg (by omega),if_pos (by omega)]
theorem se_ld_Rn8 (m:M) (full:Bool) (c imm:Int) (hg:Stpq.Good m) (hc:c<64/\c%8=6) (c0:0<=c) (c1:c<=255) (i0:0<=imm) (i1:imm<=65535):(sem c false imm ⟨m,full⟩).1=put ⟨m,full⟩ (c / 8%8) imm:=by
 unfold sem
 rw [if_neg (by decide),if_pos (by omega)]
 unfold lowE
 rw [if_neg (by omega),if_neg (by omega),if_neg (by omega),if_neg (by omega),if_neg (by omega),if_neg (by omega),if_pos (by omega)]
 rw [show c / 8%8=c / 8 by omega]
theorem se_ld_Pn16 (m:M) (full:Bool) (c imm:Int) (hg:Stpq.Good m) (hc:c<64/\c%8=1/\c / 8%2=0) (c0:0<=c) (c1:c<=255) (i0:0<=imm) (i1:imm<=65535):(sem c false imm ⟨m,full⟩).1=⟨setP m (c / 8%8 / 2) (imm%65536),full⟩:=by
 unfold sem
 rw [if_neg (by decide),if_pos (by omega)]
 unfold lowE
 rw [if_neg (by omega),if_pos (by omega),if_pos (by omega)]
 rw [show c / 8%8=c / 8 by omega,show imm%65536=imm by omega]
theorem se_ld_sphl (m:M) (full:Bool) (c imm:Int) (hg:Stpq.Good m) (hc:c=249) (c0:0<=c) (c1:c<=255) (i0:0<=imm) (i1:imm<=65535):(sem c false imm ⟨m,full⟩).1=⟨{ m with sp:=hl m },full⟩:=by
 subst hc
 rfl
theorem se_ld_in16sp (m:M) (full:Bool) (c imm:Int) (hg:Stpq.Good m) (hc:c=8) (c0:0<=c) (c1:c<=255) (i0:0<=imm) (i1:imm<=65535):(sem c false imm ⟨m,full⟩).1=spE imm ⟨m,full⟩:=by
 subst hc
 rfl
theorem se_ld_hlspe8 (m:M) (full:Bool) (c imm:Int) (hg:Stpq.Good m) (hc:c=248) (c0:0<=c) (c1:c<=255) (i0:0<=imm) (i1:imm<=65535):(sem c false imm ⟨m,full⟩).1=⟨{ setP m 2 (asR m.sp imm).1 with rf:=(asR m.sp imm).2 },full⟩:=by
 subst hc
 rfl
theorem se_ld_Ma (m:M) (full:Bool) (c imm:Int) (hg:Stpq.Good m) (hc:c<64/\c%8=2/\c / 8%2=0) (c0:0<=c) (c1:c<=255) (i0:0<=imm) (i1:imm<=65535):(sem c false imm ⟨m,full⟩).1=stE (c / 8%8 / 2) ⟨m,full⟩:=by
 unfold sem
 rw [if_neg (by decide),if_pos (by omega)]
 unfold lowE
 rw [if_neg (by omega),if_neg (by omega),if_pos (by omega),if_pos (by omega)]
 rw [show c / 8%8=c / 8 by omega]
theorem se_ld_aM (m:M) (full:Bool) (c imm:Int) (hg:Stpq.Good m) (hc:c<64/\c%8=2/\c / 8%2=1) (c0:0<=c) (c1:c<=255) (i0:0<=imm) (i1:imm<=65535):(sem c false imm ⟨m,full⟩).1=ldE (c / 8%8 / 2) ⟨m,full⟩:=by
 unfold sem
 rw [if_neg (by decide),if_pos (by omega)]
 unfold lowE
 rw [if_neg (by omega),if_neg (by omega),if_pos (by omega),if_neg (by omega)]
 rw [show c / 8%8=c / 8 by omega]
theorem se_ldh_in8a (m:M) (full:Bool) (c imm:Int) (hg:Stpq.Good m) (hc:c=224) (c0:0<=c) (c1:c<=255) (i0:0<=imm) (i1:imm<=65535):(sem c false imm ⟨m,full⟩).1=wr ⟨m,full⟩ (65280+imm) m.ra:=by
 subst hc
 rfl
theorem se_ldh_ain8 (m:M) (full:Bool) (c imm:Int) (hg:Stpq.Good m) (hc:c=240) (c0:0<=c) (c1:c<=255) (i0:0<=imm) (i1:imm<=65535):(sem c false imm ⟨m,full⟩).1=⟨{ m with ra:=rd m (65280+imm) },full⟩:=by
 subst hc
 rfl
theorem se_ldh_ica (m:M) (full:Bool) (c imm:Int) (hg:Stpq.Good m) (hc:c=226) (c0:0<=c) (c1:c<=255) (i0:0<=imm) (i1:imm<=65535):(sem c false imm ⟨m,full⟩).1=wr ⟨m,full⟩ (65280+m.rC) m.ra:=by
 subst hc
 rfl
theorem se_ldh_aic (m:M) (full:Bool) (c imm:Int) (hg:Stpq.Good m) (hc:c=242) (c0:0<=c) (c1:c<=255) (i0:0<=imm) (i1:imm<=65535):(sem c false imm ⟨m,full⟩).1=⟨{ m with ra:=rd m (65280+m.rC) },full⟩:=by
 subst hc
 rfl
theorem se_ld_in16a (m:M) (full:Bool) (c imm:Int) (hg:Stpq.Good m) (hc:c=234) (c0:0<=c) (c1:c<=255) (i0:0<=imm) (i1:imm<=65535):(sem c false imm ⟨m,full⟩).1=wr ⟨m,full⟩ imm m.ra:=by
 subst hc
 rfl
theorem se_ld_ain16 (m:M) (full:Bool) (c imm:Int) (hg:Stpq.Good m) (hc:c=250) (c0:0<=c) (c1:c<=255) (i0:0<=imm) (i1:imm<=65535):(sem c false imm ⟨m,full⟩).1=⟨{ m with ra:=rd m imm },full⟩:=by
 subst hc
 rfl
theorem se_push_Q (m:M) (full:Bool) (c imm:Int) (hg:Stpq.Good m) (hc:192<=c/\c%8=5/\c / 8%8%2=0) (c0:0<=c) (c1:c<=255) (i0:0<=imm) (i1:imm<=65535):(sem c false imm ⟨m,full⟩).1=push ⟨m,full⟩ (prQ m (c / 8%8 / 2)):=by
 unfold sem
 rw [if_neg (by decide),if_neg (by omega),if_neg (by omega),if_neg (by omega),if_neg (by omega)]
 unfold topE
 rw [if_neg (by rintro (⟨h1,_,_⟩|h1|h1) <;> omega),if_neg (by omega),if_neg (by omega),if_neg (by omega),if_neg (by omega),if_neg (by omega),if_neg (by omega),if_neg (by omega),if_neg (by omega),if_neg (by omega),if_neg (by omega),if_neg (by omega),if_pos (by omega)]
theorem se_pop_Q (m:M) (full:Bool) (c imm:Int) (hg:Stpq.Good m) (hc:192<=c/\c%8=1/\c / 8%8%2=0) (c0:0<=c) (c1:c<=255) (i0:0<=imm) (i1:imm<=65535):(sem c false imm ⟨m,full⟩).1=⟨{ Stpn.setQ0 (popM m) (c / 8%8 / 2) (popV m%65536) with rf:=bits .and .i64 (Stpn.setQ0 (popM m) (c / 8%8 / 2) (popV m%65536)).rf 240 },full⟩:=by
 unfold sem
 rw [if_neg (by decide),if_neg (by omega),if_neg (by omega),if_neg (by omega),if_neg (by omega)]
 unfold topE
 rw [if_neg (by rintro (⟨h1,_,_⟩|h1|h1) <;> omega),if_neg (by omega),if_neg (by omega),if_neg (by omega),if_neg (by omega),if_neg (by omega),if_neg (by omega),if_neg (by omega),if_neg (by omega),if_neg (by omega),if_neg (by omega),if_pos (by omega)]
 show (⟨setQ (popM m) (c / 8%8 / 2) (popV m),full⟩ : S)=_
 rw [pop_eq hg]
theorem se_A_aS (m:M) (full:Bool) (c imm:Int) (hg:Stpq.Good m) (hc:128<=c/\c<192) (c0:0<=c) (c1:c<=255) (i0:0<=imm) (i1:imm<=65535):(sem c false imm ⟨m,full⟩).1=⟨{ m with ra:=(aluR (c / 8%8) m.ra (Stpp.get m (c%8)) m.rf).1,rf:=(aluR (c / 8%8) m.ra (Stpp.get m (c%8)) m.rf).2 },full⟩:=by
 unfold sem
 rw [if_neg (by decide),if_neg (by omega),if_neg (by omega),if_neg (by omega),if_pos (by omega)]
 rfl
theorem se_A_an8 (m:M) (full:Bool) (c imm:Int) (hg:Stpq.Good m) (hc:192<=c/\c%8=6) (c0:0<=c) (c1:c<=255) (i0:0<=imm) (i1:imm<=65535):(sem c false imm ⟨m,full⟩).1=⟨{ m with ra:=(aluR (c / 8%8) m.ra imm m.rf).1,rf:=(aluR (c / 8%8) m.ra imm m.rf).2 },full⟩:=by
 unfold sem
 rw [if_neg (by decide),if_neg (by omega),if_neg (by omega),if_neg (by omega),if_neg (by omega)]
 unfold topE
 rw [if_neg (by rintro (⟨h1,_,_⟩|h1|h1) <;> omega),if_neg (by omega),if_neg (by omega),if_neg (by omega),if_neg (by omega),if_neg (by omega),if_neg (by omega),if_neg (by omega),if_neg (by omega),if_neg (by omega),if_neg (by omega),if_neg (by omega),if_neg (by omega),if_neg (by rintro (⟨h1,_,_⟩|h1) <;> omega),if_neg (by omega),if_neg (by rintro (⟨h1,_⟩|h1) <;> omega),if_pos (by omega)]
 rfl
theorem se_inc_R (m:M) (full:Bool) (c imm:Int) (hg:Stpq.Good m) (hc:c<64/\c%8=4) (c0:0<=c) (c1:c<=255) (i0:0<=imm) (i1:imm<=65535):(sem c false imm ⟨m,full⟩).1=F (put ⟨m,full⟩ (c / 8%8) (st8R (Stpp.get m (c / 8%8)) m.rf false).1) (st8R (Stpp.get m (c / 8%8)) m.rf false).2:=by
 unfold sem
 rw [if_neg (by decide),if_pos (by omega)]
 unfold lowE
 rw [if_neg (by omega),if_neg (by omega),if_neg (by omega),if_neg (by omega),if_pos (by omega)]
 rw [show c / 8%8=c / 8 by omega]
theorem se_dec_R (m:M) (full:Bool) (c imm:Int) (hg:Stpq.Good m) (hc:c<64/\c%8=5) (c0:0<=c) (c1:c<=255) (i0:0<=imm) (i1:imm<=65535):(sem c false imm ⟨m,full⟩).1=F (put ⟨m,full⟩ (c / 8%8) (st8R (Stpp.get m (c / 8%8)) m.rf true).1) (st8R (Stpp.get m (c / 8%8)) m.rf true).2:=by
 unfold sem
 rw [if_neg (by decide),if_pos (by omega)]
 unfold lowE
 rw [if_neg (by omega),if_neg (by omega),if_neg (by omega),if_neg (by omega),if_neg (by omega),if_pos (by omega)]
 rw [show c / 8%8=c / 8 by omega]
theorem se_inc_P (m:M) (full:Bool) (c imm:Int) (hg:Stpq.Good m) (hc:c<64/\c%8=3/\c / 8%2=0) (c0:0<=c) (c1:c<=255) (i0:0<=imm) (i1:imm<=65535):(sem c false imm ⟨m,full⟩).1=⟨setP m (c / 8%8 / 2) ((pr m (c / 8%8 / 2)+1)%65536),full⟩:=by
 unfold sem
 rw [if_neg (by decide),if_pos (by omega)]
 unfold lowE
 rw [if_neg (by omega),if_neg (by omega),if_neg (by omega),if_pos (by omega)]
 rw [if_pos (by omega),show c / 8%8=c / 8 by omega]
theorem se_dec_P (m:M) (full:Bool) (c imm:Int) (hg:Stpq.Good m) (hc:c<64/\c%8=3/\c / 8%2=1) (c0:0<=c) (c1:c<=255) (i0:0<=imm) (i1:imm<=65535):(sem c false imm ⟨m,full⟩).1=⟨setP m (c / 8%8 / 2) ((pr m (c / 8%8 / 2)+(-1))%65536),full⟩:=by
 unfold sem
 rw [if_neg (by decide),if_pos (by omega)]
 unfold lowE
 rw [if_neg (by omega),if_neg (by omega),if_neg (by omega),if_pos (by omega)]
 rw [if_neg (by omega),show c / 8%8=c / 8 by omega,show (pr m (c / 8 / 2)+65535)%65536=(pr m (c / 8 / 2)+(-1))%65536 by omega]
theorem se_add_hlP (m:M) (full:Bool) (c imm:Int) (hg:Stpq.Good m) (hc:c<64/\c%8=1/\c / 8%2=1) (c0:0<=c) (c1:c<=255) (i0:0<=imm) (i1:imm<=65535):(sem c false imm ⟨m,full⟩).1=⟨{ setP m 2 (awR (hl m) (pr m (c / 8%8 / 2)) m.rf).1 with rf:=(awR (hl m) (pr m (c / 8%8 / 2)) m.rf).2 },full⟩:=by
 unfold sem
 rw [if_neg (by decide),if_pos (by omega)]
 unfold lowE
 rw [if_neg (by omega),if_pos (by omega),if_neg (by omega)]
 rw [show c / 8%8=c / 8 by omega]
 rfl
theorem se_add_spe8 (m:M) (full:Bool) (c imm:Int) (hg:Stpq.Good m) (hc:c=232) (c0:0<=c) (c1:c<=255) (i0:0<=imm) (i1:imm<=65535):(sem c false imm ⟨m,full⟩).1=⟨{ m with sp:=(asR m.sp imm).1,rf:=(asR m.sp imm).2 },full⟩:=by
 subst hc
 rfl
theorem se_rlca (m:M) (full:Bool) (c imm:Int) (hg:Stpq.Good m) (hc:c<64/\c%8=7/\c / 8<4) (c0:0<=c) (c1:c<=255) (i0:0<=imm) (i1:imm<=65535):(sem c false imm ⟨m,full⟩).1=⟨{ m with ra:=(trnR (c / 8%8) m.ra m.rf).1,rf:=bits .andNot .i64 (trnR (c / 8%8) m.ra m.rf).2 128 },full⟩:=by
 unfold sem
 rw [if_neg (by decide),if_pos (by omega)]
 unfold lowE
 rw [if_neg (by omega),if_neg (by omega),if_neg (by omega),if_neg (by omega),if_neg (by omega),if_neg (by omega),if_neg (by omega)]
 rw [show c / 8%8=c / 8 by omega]
 show oddE (c / 8) ⟨m,full⟩=_
 unfold oddE
 rw [if_neg (by omega),if_neg (by omega),if_neg (by omega),if_neg (by omega)]
 rw [turned_flags]
 rfl
theorem se_rrca (m:M) (full:Bool) (c imm:Int) (hg:Stpq.Good m) (hc:c<64/\c%8=7/\c / 8<4) (c0:0<=c) (c1:c<=255) (i0:0<=imm) (i1:imm<=65535):(sem c false imm ⟨m,full⟩).1=⟨{ m with ra:=(trnR (c / 8%8) m.ra m.rf).1,rf:=bits .andNot .i64 (trnR (c / 8%8) m.ra m.rf).2 128 },full⟩:=by
 unfold sem
 rw [if_neg (by decide),if_pos (by omega)]
 unfold lowE
 rw [if_neg (by omega),if_neg (by omega),if_neg (by omega),if_neg (by omega),if_neg (by omega),if_neg (by omega),if_neg (by omega)]
 rw [show c / 8%8=c / 8 by omega]
 show oddE (c / 8) ⟨m,full⟩=_
 unfold oddE
 rw [if_neg (by omega),if_neg (by omega),if_neg (by omega),if_neg (by omega)]
 rw [turned_flags]
 rfl
theorem se_rla (m:M) (full:Bool) (c imm:Int) (hg:Stpq.Good m) (hc:c<64/\c%8=7/\c / 8<4) (c0:0<=c) (c1:c<=255) (i0:0<=imm) (i1:imm<=65535):(sem c false imm ⟨m,full⟩).1=⟨{ m with ra:=(trnR (c / 8%8) m.ra m.rf).1,rf:=bits .andNot .i64 (trnR (c / 8%8) m.ra m.rf).2 128 },full⟩:=by
 unfold sem
 rw [if_neg (by decide),if_pos (by omega)]
 unfold lowE
 rw [if_neg (by omega),if_neg (by omega),if_neg (by omega),if_neg (by omega),if_neg (by omega),if_neg (by omega),if_neg (by omega)]
 rw [show c / 8%8=c / 8 by omega]
 show oddE (c / 8) ⟨m,full⟩=_
 unfold oddE
 rw [if_neg (by omega),if_neg (by omega),if_neg (by omega),if_neg (by omega)]
 rw [turned_flags]
 rfl
theorem se_rra (m:M) (full:Bool) (c imm:Int) (hg:Stpq.Good m) (hc:c<64/\c%8=7/\c / 8<4) (c0:0<=c) (c1:c<=255) (i0:0<=imm) (i1:imm<=65535):(sem c false imm ⟨m,full⟩).1=⟨{ m with ra:=(trnR (c / 8%8) m.ra m.rf).1,rf:=bits .andNot .i64 (trnR (c / 8%8) m.ra m.rf).2 128 },full⟩:=by
 unfold sem
 rw [if_neg (by decide),if_pos (by omega)]
 unfold lowE
 rw [if_neg (by omega),if_neg (by omega),if_neg (by omega),if_neg (by omega),if_neg (by omega),if_neg (by omega),if_neg (by omega)]
 rw [show c / 8%8=c / 8 by omega]
 show oddE (c / 8) ⟨m,full⟩=_
 unfold oddE
 rw [if_neg (by omega),if_neg (by omega),if_neg (by omega),if_neg (by omega)]
 rw [turned_flags]
 rfl
theorem se_daa (m:M) (full:Bool) (c imm:Int) (hg:Stpq.Good m) (hc:c=39) (c0:0<=c) (c1:c<=255) (i0:0<=imm) (i1:imm<=65535):(sem c false imm ⟨m,full⟩).1=⟨{ m with ra:=(daaR m.ra m.rf).1,rf:=(daaR m.ra m.rf).2 },full⟩:=by
 subst hc
 rfl
theorem se_cpl (m:M) (full:Bool) (c imm:Int) (hg:Stpq.Good m) (hc:c=47) (c0:0<=c) (c1:c<=255) (i0:0<=imm) (i1:imm<=65535):(sem c false imm ⟨m,full⟩).1=⟨{ m with ra:=255-m.ra,rf:=bits .or .i64 m.rf 96 },full⟩:=by
 subst hc
 rw [cpl_flags hg.f hg.f16]
 rfl
theorem se_scf (m:M) (full:Bool) (c imm:Int) (hg:Stpq.Good m) (hc:c=55) (c0:0<=c) (c1:c<=255) (i0:0<=imm) (i1:imm<=65535):(sem c false imm ⟨m,full⟩).1=⟨{ m with rf:=bits .or .i64 (bits .and .i64 m.rf 128) 16 },full⟩:=by
 subst hc
 rw [scf_flags hg.f hg.f16]
 rfl
theorem se_ccf (m:M) (full:Bool) (c imm:Int) (hg:Stpq.Good m) (hc:c=63) (c0:0<=c) (c1:c<=255) (i0:0<=imm) (i1:imm<=65535):(sem c false imm ⟨m,full⟩).1=⟨{ m with rf:=bits .xor .i64 (bits .and .i64 m.rf 144) 16 },full⟩:=by
 subst hc
 rw [ccf_flags hg.f hg.f16]
 rfl
theorem se_jr_e8 (m:M) (full:Bool) (c imm:Int) (hg:Stpq.Good m) (hc:c=24) (c0:0<=c) (c1:c<=255) (i0:0<=imm) (i1:imm<=65535):(sem c false imm ⟨m,full⟩).1=⟨{ m with pc:=(m.pc+sgn imm)%65536 },full⟩:=by
 subst hc
 show (⟨{ m with pc:=(m.pc+sgn imm+65536)%65536 },full⟩ : S)=_
 rw [show (m.pc+sgn imm+65536)%65536=(m.pc+sgn imm)%65536 by omega]
theorem se_jr_Ce8 (m:M) (full:Bool) (c imm:Int) (hg:Stpq.Good m) (hc:c<64/\c%8=0/\3<c / 8) (c0:0<=c) (c1:c<=255) (i0:0<=imm) (i1:imm<=65535) (hm:cond m (c / 8%8%4)=true):(sem c false imm ⟨m,full⟩).1=⟨{ m with pc:=(m.pc+sgn imm)%65536 },full⟩:=by
 unfold sem
 rw [if_neg (by decide),if_pos (by omega)]
 unfold lowE
 rw [if_pos (by omega),if_neg (by omega),if_pos (.inr ⟨by omega,by rw [show c / 8-4=c / 8%8%4 by omega];exact hm⟩)]
 show (⟨{ m with pc:=(m.pc+sgn imm+65536)%65536 },full⟩ : S)=_
 rw [show (m.pc+sgn imm+65536)%65536=(m.pc+sgn imm)%65536 by omega]
theorem se_jp_n16 (m:M) (full:Bool) (c imm:Int) (hg:Stpq.Good m) (hc:c=195) (c0:0<=c) (c1:c<=255) (i0:0<=imm) (i1:imm<=65535):(sem c false imm ⟨m,full⟩).1=⟨{ m with pc:=imm },full⟩:=by
 subst hc
 rfl
theorem se_jp_Cn16 (m:M) (full:Bool) (c imm:Int) (hg:Stpq.Good m) (hc:192<=c/\c%8=2/\c / 8%8<4) (c0:0<=c) (c1:c<=255) (i0:0<=imm) (i1:imm<=65535) (hm:cond m (c / 8%8%4)=true):(sem c false imm ⟨m,full⟩).1=⟨{ m with pc:=imm },full⟩:=by
 unfold sem
 rw [if_neg (by decide),if_neg (by omega),if_neg (by omega),if_neg (by omega),if_neg (by omega)]
 unfold topE
 rw [if_neg (by rintro (⟨h1,_,_⟩|h1|h1) <;> omega),if_neg (by omega),if_neg (by omega),if_neg (by omega),if_neg (by omega),if_neg (by omega),if_neg (by omega),if_neg (by omega),if_neg (by omega),if_neg (by omega),if_neg (by omega),if_neg (by omega),if_neg (by omega),if_pos (by exact .inl ⟨by omega,by omega,by rw [show c / 8%8=c / 8%8%4 by omega];exact hm⟩)]
theorem se_jp_hl (m:M) (full:Bool) (c imm:Int) (hg:Stpq.Good m) (hc:c=233) (c0:0<=c) (c1:c<=255) (i0:0<=imm) (i1:imm<=65535):(sem c false imm ⟨m,full⟩).1=⟨{ m with pc:=hl m },full⟩:=by
 subst hc
 rfl
theorem se_call_n16 (m:M) (full:Bool) (c imm:Int) (hg:Stpq.Good m) (hc:c=205) (c0:0<=c) (c1:c<=255) (i0:0<=imm) (i1:imm<=65535):(sem c false imm ⟨m,full⟩).1=callE imm ⟨m,full⟩:=by
 subst hc
 rfl
theorem se_call_Cn16 (m:M) (full:Bool) (c imm:Int) (hg:Stpq.Good m) (hc:192<=c/\c%8=4/\c / 8%8<4) (c0:0<=c) (c1:c<=255) (i0:0<=imm) (i1:imm<=65535) (hm:cond m (c / 8%8%4)=true):(sem c false imm ⟨m,full⟩).1=callE imm ⟨m,full⟩:=by
 unfold sem
 rw [if_neg (by decide),if_neg (by omega),if_neg (by omega),if_neg (by omega),if_neg (by omega)]
 unfold topE
 rw [if_neg (by rintro (⟨h1,_,_⟩|h1|h1) <;> omega),if_neg (by omega),if_neg (by omega),if_neg (by omega),if_neg (by omega),if_neg (by omega),if_neg (by omega),if_neg (by omega),if_neg (by omega),if_neg (by omega),if_neg (by omega),if_neg (by omega),if_neg (by omega),if_neg (by rintro (⟨h1,_,_⟩|h1) <;> omega),if_neg (by omega),if_pos (by exact .inl ⟨by omega,by rw [show c / 8%8=c / 8%8%4 by omega];exact hm⟩)]
theorem se_rst_H (m:M) (full:Bool) (c imm:Int) (hg:Stpq.Good m) (hc:192<=c/\c%8=7) (c0:0<=c) (c1:c<=255) (i0:0<=imm) (i1:imm<=65535):(sem c false imm ⟨m,full⟩).1=callE (8*(c / 8%8)) ⟨m,full⟩:=by
 unfold sem
 rw [if_neg (by decide),if_neg (by omega),if_neg (by omega),if_neg (by omega),if_neg (by omega)]
 unfold topE
 rw [if_neg (by rintro (⟨h1,_,_⟩|h1|h1) <;> omega),if_neg (by omega),if_neg (by omega),if_neg (by omega),if_neg (by omega),if_neg (by omega),if_neg (by omega),if_neg (by omega),if_neg (by omega),if_neg (by omega),if_neg (by omega),if_neg (by omega),if_neg (by omega),if_neg (by rintro (⟨h1,_,_⟩|h1) <;> omega),if_neg (by omega),if_neg (by rintro (⟨h1,_⟩|h1) <;> omega),if_neg (by omega),if_pos (by omega)]
theorem se_ret (m:M) (full:Bool) (c imm:Int) (hg:Stpq.Good m) (hc:c=201) (c0:0<=c) (c1:c<=255) (i0:0<=imm) (i1:imm<=65535):(sem c false imm ⟨m,full⟩).1=⟨{ popM m with pc:=popV m },full⟩:=by
 subst hc
 show (⟨{ popM m with pc:=popV m,ime:=m.ime || false },full⟩ : S)=_
 rw [Bool.or_false]
 rfl
theorem se_ret_C (m:M) (full:Bool) (c imm:Int) (hg:Stpq.Good m) (hc:192<=c/\c%8=0/\c / 8%8<4) (c0:0<=c) (c1:c<=255) (i0:0<=imm) (i1:imm<=65535) (hm:cond m (c / 8%8%4)=true):(sem c false imm ⟨m,full⟩).1=⟨{ popM m with pc:=popV m },full⟩:=by
 unfold sem
 rw [if_neg (by decide),if_neg (by omega),if_neg (by omega),if_neg (by omega),if_neg (by omega)]
 unfold topE
 rw [if_pos (by exact .inl ⟨by omega,by omega,by rw [show c / 8%8=c / 8%8%4 by omega];exact hm⟩)]
 show (retE (decide (c=217)) ⟨m,full⟩)=_
 rw [show decide (c=217)=false from decide_eq_false (by omega)]
 unfold retE
 rw [Bool.or_false]
 rfl
theorem se_reti (m:M) (full:Bool) (c imm:Int) (hg:Stpq.Good m) (hc:c=217) (c0:0<=c) (c1:c<=255) (i0:0<=imm) (i1:imm<=65535):(sem c false imm ⟨m,full⟩).1=⟨{ popM m with pc:=popV m,ime:=true },full⟩:=by
 subst hc
 show (⟨{ popM m with pc:=popV m,ime:=m.ime || true },full⟩ : S)=_
 rw [Bool.or_true]
theorem se_di (m:M) (full:Bool) (c imm:Int) (hg:Stpq.Good m) (hc:c=243) (c0:0<=c) (c1:c<=255) (i0:0<=imm) (i1:imm<=65535):(sem c false imm ⟨m,full⟩).1=⟨{ m with ime:=false },full⟩:=by
 subst hc
 rfl
theorem se_ei (m:M) (full:Bool) (c imm:Int) (hg:Stpq.Good m) (hc:c=251) (c0:0<=c) (c1:c<=255) (i0:0<=imm) (i1:imm<=65535):(sem c false imm ⟨m,full⟩).1=⟨{ m with ime:=true },full⟩:=by
 subst hc
 rfl
theorem se_halt (m:M) (full:Bool) (c imm:Int) (hg:Stpq.Good m) (hc:c=118) (c0:0<=c) (c1:c<=255) (i0:0<=imm) (i1:imm<=65535):(sem c false imm ⟨m,full⟩).1=⟨{ m with hal:=true },full⟩:=by
 subst hc
 rfl
theorem se_nop (m:M) (full:Bool) (c imm:Int) (hg:Stpq.Good m) (hc:c=0) (c0:0<=c) (c1:c<=255) (i0:0<=imm) (i1:imm<=65535):(sem c false imm ⟨m,full⟩).1=⟨m,full⟩:=by
 subst hc
 rfl
theorem se_stop_n8 (m:M) (full:Bool) (c imm:Int) (hg:Stpq.Good m) (hc:c=16) (c0:0<=c) (c1:c<=255) (i0:0<=imm) (i1:imm<=65535):(sem c false imm ⟨m,full⟩).1=⟨m,full⟩:=by
 subst hc
 rfl
end Stpf
namespace Stpz
open Go.Deep
open Signed (inB sgn ret_int ret_bool)
open Busw Busx Stpp Stpq Stpi Stpj Stpr Stpk Stpm Stpn Stpu Stpv
open Reck ReckS ReckM ReckD TurnS
theorem word_0 (g:G) (m:M) (full:Bool) (by_:Int) (b0:-1<=by_) (b1:by_<=1) (w:World) (h:In g w m full) (hg:Stpq.Good m) (hk:g.p=0) :
  Calls prog 182 #[.pointer (some ⟨g.K,0,none⟩),.int .i64 by_] w fun e w'=>e=.returned (.tuple #[])/\In g w' (setP m 0 ((pr m 0+by_)%65536)) full:=by
 have c1:Hid (∀ W,In g W m full->Calls prog 158 #[.pointer (some ⟨g.K,0,none⟩),.int .i64 0] W fun e w'=>e=.returned (.agg #[.pointer (some ⟨g.B,2,none⟩),.pointer (some ⟨g.B,3,none⟩)])/\Below W.heap.size W w'):=fun W hi=>pairOf_0 g W hi.k_cpu
 have bd:=pr_bd hg 0
 have c2:∀ W,In g W m full->Rg 162 #[.agg #[.pointer (some ⟨g.B,2,none⟩),.pointer (some ⟨g.B,3,none⟩)]] W (.int .i64 (pr m 0)):=fun W hi=>rg fun W' hb=>word_any g m full 0 W' (hi.below hb) hg (by omega) (by omega)
 have c3:Hid (∀ W,In g W m full->Calls prog 159 #[.agg #[.pointer (some ⟨g.B,2,none⟩),.pointer (some ⟨g.B,3,none⟩)],.int .i64 (pr m 0+by_)] W fun e w'=>e=.returned (.tuple #[])/\In g w' (setP m 0 ((pr m 0+by_)%65536)) full):=fun W hi=>pput_any g m full 0 _ W hi (by omega) (by omega)
 generalize setP m 0 ((pr m 0+by_)%65536)=t at *
 generalize pr m 0=v at *
 have d1:IntKind.i64.wrap (v+by_)=v+by_:=by rw [IntKind.wrap_i64];omega
 have q_p:=h.k_p
 rw [hk] at q_p
 have HI:Hid (In g w m full):=h
 have C2:Hid (∀ W,In g W m full->Rg 162 #[.agg #[.pointer (some ⟨g.B,2,none⟩),.pointer (some ⟨g.B,3,none⟩)]] W (.int .i64 v)):=c2
 clear h hg bd c2
 go_enter func182,ntmps182
 go_wp2_with fail
 refine Calls.mono (c1.out _ HI.out) ?_
 rintro e w1 ⟨rfl,hb1⟩
 have H1:=zHd (HI.out.below hb1)
 clear hb1 HI c1
 go_wp2_with fail
 have hA:Below w1.heap.size w1 (w1.alloc (.cells #[.pointer (some ⟨g.B,2,none⟩),.pointer (some ⟨g.B,3,none⟩)] 173)):=zAl _ _
 have hx2:(w1.alloc (.cells #[.pointer (some ⟨g.B,2,none⟩),.pointer (some ⟨g.B,3,none⟩)] 173)).heap[w1.heap.size]? = some (.cells #[.pointer (some ⟨g.B,2,none⟩),.pointer (some ⟨g.B,3,none⟩)] 173):=heap_alloc_new w1 _
 have H2:=zHd (H1.out.below hA)
 obtain ⟨bx,hbx⟩ : ∃ b,b=w1.heap.size:=⟨_,rfl⟩
 obtain ⟨w2,hw2⟩ : ∃ u,u=w1.alloc (.cells #[.pointer (some ⟨g.B,2,none⟩),.pointer (some ⟨g.B,3,none⟩)] 173):=⟨_,rfl⟩
 rw [<- hbx] at hx2 |-
 rw [<- hw2] at hx2 H2 |-
 clear hbx hA H1 q_p hw2
 have r0:=cell_regrown ((cell_of_row w2 bx 0 _ _ _ hx2).trans rfl)
 have r1:=cell_regrown ((cell_of_row w2 bx 1 _ _ _ hx2).trans rfl)
 have c2:=C2.out _ H2.out
 clear hx2 C2
 refine Qtail.tail_below 5 (by kernel_rfl) (by kernel_rfl) ?_
 simp only [List.take_succ_cons,List.take_zero,List.drop_succ_cons,List.drop_zero]
 repeat (go_big_quiet_step (first|with_reducible exact c2 _ _))
 refine wpQuiet_nil ?_
 intro _ hw'
 obtain ⟨⟨dq,osq⟩,hw''⟩:=hw'
 subst hw''
 have H3:=zHd (H2.out.below (below_regrown w2 dq osq))
 generalize Go.Sort.grow (redrawn w2 dq) osq=W3 at *
 clear H2 r0 r1 c2
 go_wp2_with fail
 refine Calls.mono (c3.out _ H3.out) ?_
 rintro e w4 ⟨rfl,hi1⟩
 have H4:Hid (In g w4 t full):=hi1
 clear hi1 H3 c3
 go_wp2
 go_end0
 exact ⟨rfl,H4.out⟩
theorem word_1 (g:G) (m:M) (full:Bool) (by_:Int) (b0:-1<=by_) (b1:by_<=1) (w:World) (h:In g w m full) (hg:Stpq.Good m) (hk:g.p=1) :
  Calls prog 182 #[.pointer (some ⟨g.K,0,none⟩),.int .i64 by_] w fun e w'=>e=.returned (.tuple #[])/\In g w' (setP m 1 ((pr m 1+by_)%65536)) full:=by
 have c1:Hid (∀ W,In g W m full->Calls prog 158 #[.pointer (some ⟨g.K,0,none⟩),.int .i64 1] W fun e w'=>e=.returned (.agg #[.pointer (some ⟨g.B,4,none⟩),.pointer (some ⟨g.B,5,none⟩)])/\Below W.heap.size W w'):=fun W hi=>pairOf_1 g W hi.k_cpu
 have bd:=pr_bd hg 1
 have c2:∀ W,In g W m full->Rg 162 #[.agg #[.pointer (some ⟨g.B,4,none⟩),.pointer (some ⟨g.B,5,none⟩)]] W (.int .i64 (pr m 1)):=fun W hi=>rg fun W' hb=>word_any g m full 1 W' (hi.below hb) hg (by omega) (by omega)
 have c3:Hid (∀ W,In g W m full->Calls prog 159 #[.agg #[.pointer (some ⟨g.B,4,none⟩),.pointer (some ⟨g.B,5,none⟩)],.int .i64 (pr m 1+by_)] W fun e w'=>e=.returned (.tuple #[])/\In g w' (setP m 1 ((pr m 1+by_)%65536)) full):=fun W hi=>pput_any g m full 1 _ W hi (by omega) (by omega)
 generalize setP m 1 ((pr m 1+by_)%65536)=t at *
 generalize pr m 1=v at *
 have d1:IntKind.i64.wrap (v+by_)=v+by_:=by rw [IntKind.wrap_i64];omega
 have q_p:=h.k_p
 rw [hk] at q_p
 have HI:Hid (In g w m full):=h
 have C2:Hid (∀ W,In g W m full->Rg 162 #[.agg #[.pointer (some ⟨g.B,4,none⟩),.pointer (some ⟨g.B,5,none⟩)]] W (.int .i64 v)):=c2
 clear h hg bd c2
 go_enter func182,ntmps182
 go_wp2_with fail
 refine Calls.mono (c1.out _ HI.out) ?_
 rintro e w1 ⟨rfl,hb1⟩
 have H1:=zHd (HI.out.below hb1)
 clear hb1 HI c1
 go_wp2_with fail
 have hA:Below w1.heap.size w1 (w1.alloc (.cells #[.pointer (some ⟨g.B,4,none⟩),.pointer (some ⟨g.B,5,none⟩)] 173)):=zAl _ _
 have hx2:(w1.alloc (.cells #[.pointer (some ⟨g.B,4,none⟩),.pointer (some ⟨g.B,5,none⟩)] 173)).heap[w1.heap.size]? = some (.cells #[.pointer (some ⟨g.B,4,none⟩),.pointer (some ⟨g.B,5,none⟩)] 173):=heap_alloc_new w1 _
 have H2:=zHd (H1.out.below hA)
 obtain ⟨bx,hbx⟩ : ∃ b,b=w1.heap.size:=⟨_,rfl⟩
 obtain ⟨w2,hw2⟩ : ∃ u,u=w1.alloc (.cells #[.pointer (some ⟨g.B,4,none⟩),.pointer (some ⟨g.B,5,none⟩)] 173):=⟨_,rfl⟩
 rw [<- hbx] at hx2 |-
 rw [<- hw2] at hx2 H2 |-
 clear hbx hA H1 q_p hw2
 have r0:=cell_regrown ((cell_of_row w2 bx 0 _ _ _ hx2).trans rfl)
 have r1:=cell_regrown ((cell_of_row w2 bx 1 _ _ _ hx2).trans rfl)
 have c2:=C2.out _ H2.out
 clear hx2 C2
 refine Qtail.tail_below 5 (by kernel_rfl) (by kernel_rfl) ?_
 simp only [List.take_succ_cons,List.take_zero,List.drop_succ_cons,List.drop_zero]
 repeat (go_big_quiet_step (first|with_reducible exact c2 _ _))
 refine wpQuiet_nil ?_
 intro _ hw'
 obtain ⟨⟨dq,osq⟩,hw''⟩:=hw'
 subst hw''
 have H3:=zHd (H2.out.below (below_regrown w2 dq osq))
 generalize Go.Sort.grow (redrawn w2 dq) osq=W3 at *
 clear H2 r0 r1 c2
 go_wp2_with fail
 refine Calls.mono (c3.out _ H3.out) ?_
 rintro e w4 ⟨rfl,hi1⟩
 have H4:Hid (In g w4 t full):=hi1
 clear hi1 H3 c3
 go_wp2
 go_end0
 exact ⟨rfl,H4.out⟩
theorem word_2 (g:G) (m:M) (full:Bool) (by_:Int) (b0:-1<=by_) (b1:by_<=1) (w:World) (h:In g w m full) (hg:Stpq.Good m) (hk:g.p=2) :
  Calls prog 182 #[.pointer (some ⟨g.K,0,none⟩),.int .i64 by_] w fun e w'=>e=.returned (.tuple #[])/\In g w' (setP m 2 ((pr m 2+by_)%65536)) full:=by
 have c1:Hid (∀ W,In g W m full->Calls prog 158 #[.pointer (some ⟨g.K,0,none⟩),.int .i64 2] W fun e w'=>e=.returned (.agg #[.pointer (some ⟨g.B,6,none⟩),.pointer (some ⟨g.B,7,none⟩)])/\Below W.heap.size W w'):=fun W hi=>pairOf_2 g W hi.k_cpu
 have bd:=pr_bd hg 2
 have c2:∀ W,In g W m full->Rg 162 #[.agg #[.pointer (some ⟨g.B,6,none⟩),.pointer (some ⟨g.B,7,none⟩)]] W (.int .i64 (pr m 2)):=fun W hi=>rg fun W' hb=>word_any g m full 2 W' (hi.below hb) hg (by omega) (by omega)
 have c3:Hid (∀ W,In g W m full->Calls prog 159 #[.agg #[.pointer (some ⟨g.B,6,none⟩),.pointer (some ⟨g.B,7,none⟩)],.int .i64 (pr m 2+by_)] W fun e w'=>e=.returned (.tuple #[])/\In g w' (setP m 2 ((pr m 2+by_)%65536)) full):=fun W hi=>pput_any g m full 2 _ W hi (by omega) (by omega)
 generalize setP m 2 ((pr m 2+by_)%65536)=t at *
 generalize pr m 2=v at *
 have d1:IntKind.i64.wrap (v+by_)=v+by_:=by rw [IntKind.wrap_i64];omega
 have q_p:=h.k_p
 rw [hk] at q_p
 have HI:Hid (In g w m full):=h
 have C2:Hid (∀ W,In g W m full->Rg 162 #[.agg #[.pointer (some ⟨g.B,6,none⟩),.pointer (some ⟨g.B,7,none⟩)]] W (.int .i64 v)):=c2
 clear h hg bd c2
 go_enter func182,ntmps182
 go_wp2_with fail
 refine Calls.mono (c1.out _ HI.out) ?_
 rintro e w1 ⟨rfl,hb1⟩
 have H1:=zHd (HI.out.below hb1)
 clear hb1 HI c1
 go_wp2_with fail
 have hA:Below w1.heap.size w1 (w1.alloc (.cells #[.pointer (some ⟨g.B,6,none⟩),.pointer (some ⟨g.B,7,none⟩)] 173)):=zAl _ _
 have hx2:(w1.alloc (.cells #[.pointer (some ⟨g.B,6,none⟩),.pointer (some ⟨g.B,7,none⟩)] 173)).heap[w1.heap.size]? = some (.cells #[.pointer (some ⟨g.B,6,none⟩),.pointer (some ⟨g.B,7,none⟩)] 173):=heap_alloc_new w1 _
 have H2:=zHd (H1.out.below hA)
 obtain ⟨bx,hbx⟩ : ∃ b,b=w1.heap.size:=⟨_,rfl⟩
 obtain ⟨w2,hw2⟩ : ∃ u,u=w1.alloc (.cells #[.pointer (some ⟨g.B,6,none⟩),.pointer (some ⟨g.B,7,none⟩)] 173):=⟨_,rfl⟩
 rw [<- hbx] at hx2 |-
 rw [<- hw2] at hx2 H2 |-
 clear hbx hA H1 q_p hw2
 have r0:=cell_regrown ((cell_of_row w2 bx 0 _ _ _ hx2).trans rfl)
 have r1:=cell_regrown ((cell_of_row w2 bx 1 _ _ _ hx2).trans rfl)
 have c2:=C2.out _ H2.out
 clear hx2 C2
 refine Qtail.tail_below 5 (by kernel_rfl) (by kernel_rfl) ?_
 simp only [List.take_succ_cons,List.take_zero,List.drop_succ_cons,List.drop_zero]
 repeat (go_big_quiet_step (first|with_reducible exact c2 _ _))
 refine wpQuiet_nil ?_
 intro _ hw'
 obtain ⟨⟨dq,osq⟩,hw''⟩:=hw'
 subst hw''
 have H3:=zHd (H2.out.below (below_regrown w2 dq osq))
 generalize Go.Sort.grow (redrawn w2 dq) osq=W3 at *
 clear H2 r0 r1 c2
 go_wp2_with fail
 refine Calls.mono (c3.out _ H3.out) ?_
 rintro e w4 ⟨rfl,hi1⟩
 have H4:Hid (In g w4 t full):=hi1
 clear hi1 H3 c3
 go_wp2
 go_end0
 exact ⟨rfl,H4.out⟩
theorem word_3 (g:G) (m:M) (full:Bool) (by_:Int) (b0:-1<=by_) (b1:by_<=1) (w:World) (h:In g w m full) (hg:Stpq.Good m) (hk:g.p=3) :
  Calls prog 182 #[.pointer (some ⟨g.K,0,none⟩),.int .i64 by_] w fun e w'=>e=.returned (.tuple #[])/\In g w' (setP m 3 ((pr m 3+by_)%65536)) full:=by
 have c1:Hid (∀ W,In g W m full->Calls prog 158 #[.pointer (some ⟨g.K,0,none⟩),.int .i64 3] W fun e w'=>e=.returned (.agg #[.pointer none,.pointer (some ⟨g.B,8,none⟩)])/\Below W.heap.size W w'):=fun W hi=>pairOf_3 g W hi.k_cpu
 have bd:=pr_bd hg 3
 have c2:∀ W,In g W m full->Rg 162 #[.agg #[.pointer none,.pointer (some ⟨g.B,8,none⟩)]] W (.int .i64 (pr m 3)):=fun W hi=>rg fun W' hb=>word_any g m full 3 W' (hi.below hb) hg (by omega) (by omega)
 have c3:Hid (∀ W,In g W m full->Calls prog 159 #[.agg #[.pointer none,.pointer (some ⟨g.B,8,none⟩)],.int .i64 (pr m 3+by_)] W fun e w'=>e=.returned (.tuple #[])/\In g w' (setP m 3 ((pr m 3+by_)%65536)) full):=fun W hi=>pput_any g m full 3 _ W hi (by omega) (by omega)
 generalize setP m 3 ((pr m 3+by_)%65536)=t at *
 generalize pr m 3=v at *
 have d1:IntKind.i64.wrap (v+by_)=v+by_:=by rw [IntKind.wrap_i64];omega
 have q_p:=h.k_p
 rw [hk] at q_p
 have HI:Hid (In g w m full):=h
 have C2:Hid (∀ W,In g W m full->Rg 162 #[.agg #[.pointer none,.pointer (some ⟨g.B,8,none⟩)]] W (.int .i64 v)):=c2
 clear h hg bd c2
 go_enter func182,ntmps182
 go_wp2_with fail
 refine Calls.mono (c1.out _ HI.out) ?_
 rintro e w1 ⟨rfl,hb1⟩
 have H1:=zHd (HI.out.below hb1)
 clear hb1 HI c1
 go_wp2_with fail
 have hA:Below w1.heap.size w1 (w1.alloc (.cells #[.pointer none,.pointer (some ⟨g.B,8,none⟩)] 173)):=zAl _ _
 have hx2:(w1.alloc (.cells #[.pointer none,.pointer (some ⟨g.B,8,none⟩)] 173)).heap[w1.heap.size]? = some (.cells #[.pointer none,.pointer (some ⟨g.B,8,none⟩)] 173):=heap_alloc_new w1 _
 have H2:=zHd (H1.out.below hA)
 obtain ⟨bx,hbx⟩ : ∃ b,b=w1.heap.size:=⟨_,rfl⟩
 obtain ⟨w2,hw2⟩ : ∃ u,u=w1.alloc (.cells #[.pointer none,.pointer (some ⟨g.B,8,none⟩)] 173):=⟨_,rfl⟩
 rw [<- hbx] at hx2 |-
 rw [<- hw2] at hx2 H2 |-
 clear hbx hA H1 q_p hw2
 have r0:=cell_regrown ((cell_of_row w2 bx 0 _ _ _ hx2).trans rfl)
 have r1:=cell_regrown ((cell_of_row w2 bx 1 _ _ _ hx2).trans rfl)
 have c2:=C2.out _ H2.out
 clear hx2 C2
 refine Qtail.tail_below 5 (by kernel_rfl) (by kernel_rfl) ?_
 simp only [List.take_succ_cons,List.take_zero,List.drop_succ_cons,List.drop_zero]
 repeat (go_big_quiet_step (first|with_reducible exact c2 _ _))
 refine wpQuiet_nil ?_
 intro _ hw'
 obtain ⟨⟨dq,osq⟩,hw''⟩:=hw'
 subst hw''
 have H3:=zHd (H2.out.below (below_regrown w2 dq osq))
 generalize Go.Sort.grow (redrawn w2 dq) osq=W3 at *
 clear H2 r0 r1 c2
 go_wp2_with fail
 refine Calls.mono (c3.out _ H3.out) ?_
 rintro e w4 ⟨rfl,hi1⟩
 have H4:Hid (In g w4 t full):=hi1
 clear hi1 H3 c3
 go_wp2
 go_end0
 exact ⟨rfl,H4.out⟩
theorem word_any' (g:G) (m:M) (full:Bool) (by_:Int) (b0:-1<=by_) (b1:by_<=1) (w:World) (h:In g w m full) (hg:Stpq.Good m) (hp:Pt g) :
  Calls prog 182 #[.pointer (some ⟨g.K,0,none⟩),.int .i64 by_] w fun e w'=>e=.returned (.tuple #[])/\In g w' (⟨setP m g.p ((pr m g.p+by_)%65536),full⟩ : S).m (⟨setP m g.p ((pr m g.p+by_)%65536),full⟩ : S).full:=by
 rcases cases4 hp.p.1 hp.p.2 with h4|h4|h4|h4
 ·rw [h4];exact word_0 g m full by_ b0 b1 w h hg h4
 ·rw [h4];exact word_1 g m full by_ b0 b1 w h hg h4
 ·rw [h4];exact word_2 g m full by_ b0 b1 w h hg h4
 ·rw [h4];exact word_3 g m full by_ b0 b1 w h hg h4
theorem rk5 (g:G) (m:M) (full:Bool)  (w:World) (h:In g w m full) (hg:Stpq.Good m) (hp:Pt g) :
  Calls prog 181 #[.pointer (some ⟨g.K,0,none⟩)] w fun e w'=>e=.returned (.tuple #[])/\In g w' (⟨setP m g.p ((pr m g.p+1)%65536),full⟩ : S).m (⟨setP m g.p ((pr m g.p+1)%65536),full⟩ : S).full:=by
 have c2:Hid (∀ W,In g W m full->Calls prog 182 #[.pointer (some ⟨g.K,0,none⟩),.int .i64 1] W fun e w'=>e=.returned (.tuple #[])/\In g w' (⟨setP m g.p ((pr m g.p+1)%65536),full⟩ : S).m (⟨setP m g.p ((pr m g.p+1)%65536),full⟩ : S).full):=fun W hi=>word_any' g m full 1 (by omega) (by omega) W hi hg hp
 generalize (⟨setP m g.p ((pr m g.p+1)%65536),full⟩ : S)=t at *
 have HI:Hid (In g w m full):=h
 clear h hg hp
 go_enter func181,ntmps181
 go_wp2_with fail
 refine Calls.mono (c2.out _ HI.out) ?_
 rintro e w2 ⟨rfl,hi1⟩
 have H3:Hid (In g w2 t.m t.full):=hi1
 clear hi1 HI c2
 go_wp2
 go_end0
 exact ⟨rfl,H3.out⟩
theorem rk6 (g:G) (m:M) (full:Bool)  (w:World) (h:In g w m full) (hg:Stpq.Good m) (hp:Pt g) :
  Calls prog 183 #[.pointer (some ⟨g.K,0,none⟩)] w fun e w'=>e=.returned (.tuple #[])/\In g w' (⟨setP m g.p ((pr m g.p+(-1))%65536),full⟩ : S).m (⟨setP m g.p ((pr m g.p+(-1))%65536),full⟩ : S).full:=by
 have c2:Hid (∀ W,In g W m full->Calls prog 182 #[.pointer (some ⟨g.K,0,none⟩),.int .i64 (-1)] W fun e w'=>e=.returned (.tuple #[])/\In g w' (⟨setP m g.p ((pr m g.p+(-1))%65536),full⟩ : S).m (⟨setP m g.p ((pr m g.p+(-1))%65536),full⟩ : S).full):=fun W hi=>word_any' g m full (-1) (by omega) (by omega) W hi hg hp
 generalize (⟨setP m g.p ((pr m g.p+(-1))%65536),full⟩ : S)=t at *
 have HI:Hid (In g w m full):=h
 clear h hg hp
 go_enter func183,ntmps183
 go_wp2_with fail
 refine Calls.mono (c2.out _ HI.out) ?_
 rintro e w2 ⟨rfl,hi1⟩
 have H3:Hid (In g w2 t.m t.full):=hi1
 clear hi1 HI c2
 go_wp2
 go_end0
 exact ⟨rfl,H3.out⟩
theorem rkAdd (g:G) (m:M) (full:Bool)  (w:World) (h:In g w m full) (hg:Stpq.Good m) (hp:Pt g) :
  Calls prog 184 #[.pointer (some ⟨g.K,0,none⟩)] w fun e w'=>e=.returned (.tuple #[])/\In g w' (⟨{ setP m 2 (awR (hl m) (pr m g.p) m.rf).1 with rf:=(awR (hl m) (pr m g.p) m.rf).2 },full⟩ : S).m (⟨{ setP m 2 (awR (hl m) (pr m g.p) m.rf).1 with rf:=(awR (hl m) (pr m g.p) m.rf).2 },full⟩ : S).full:=by
 have c1:Rg 161 #[.pointer (some ⟨g.K,0,none⟩)] w (.agg #[.pointer (some ⟨g.B,6,none⟩),.pointer (some ⟨g.B,7,none⟩)]):=rg fun W hb=>hl_any g W ((h.below hb).k_cpu)
 have c2:Rg 162 #[.agg #[.pointer (some ⟨g.B,6,none⟩),.pointer (some ⟨g.B,7,none⟩)]] w (.int .i64 (hl m)):=rg fun W hb=>at_hl g m full W (h.below hb) hg
 have c3:Rg 158 #[.pointer (some ⟨g.K,0,none⟩),.int .i64 g.p] w (pv g g.p):=rg fun W hb=>pairOf_any g m full g.p W (h.below hb) hp.p.1 hp.p.2
 have c4:Rg 162 #[pv g g.p] w (.int .i64 (pr m g.p)):=rg fun W hb=>word_any g m full g.p W (h.below hb) hg hp.p.1 hp.p.2
 have c5:Rg 225 #[.int .i64 (hl m),.int .i64 (pr m g.p),.int .i64 m.rf] w (.tuple #[.int .i64 (awR (hl m) (pr m g.p) m.rf).1,.int .i64 (awR (hl m) (pr m g.p) m.rf).2]):=rg fun W hb=>(implAddWords_any (hl m) (pr m g.p) m.rf W).mono fun e w' h=>⟨by rw [<- aw_in (hl_bd hg) (pr_bd hg g.p) hg.f];exact h.1,by rw [h.2];exact zRf⟩
 have bd:=aw_bd (hl m) (pr m g.p) m.rf
 generalize (awR (hl m) (pr m g.p) m.rf).1=v at *
 generalize (awR (hl m) (pr m g.p) m.rf).2=f at *
 have d1:Hid (∀ W,In g W m full->Calls prog 161 #[.pointer (some ⟨g.K,0,none⟩)] W fun e w'=>e=.returned (.agg #[.pointer (some ⟨g.B,6,none⟩),.pointer (some ⟨g.B,7,none⟩)])/\Below W.heap.size W w'):=fun W hi=>hl_any g W hi.k_cpu
 have d2:Hid (∀ W,In g W m full->Calls prog 159 #[.agg #[.pointer (some ⟨g.B,6,none⟩),.pointer (some ⟨g.B,7,none⟩)],.int .i64 v] W fun e w'=>e=.returned (.tuple #[])/\In g w' (setP m 2 v) full):=fun W hi=>by
  have h:=pput_any g m full 2 v W hi (by omega) (by omega)
  rw [show v%65536=v by omega] at h
  exact h
 generalize setP m 2 v=t at *
 generalize hl m=x1 at *
 generalize pr m g.p=x2 at *
 generalize pv g g.p=x3 at *
 have r0:=cell_regrown (h.k_cpu)
 have r1:=cell_regrown (h.k_p)
 have r2:=cell_regrown (h.c_rf)
 have HI:Hid (In g w m full):=h
 clear h hg hp bd
 go_enter func184,ntmps184
 go_wp2_with fail
 refine wp_region_quiet_below (by kernel_rfl) (by kernel_rfl) ?_
 repeat (go_big_quiet_step (first|with_reducible exact c1 _ _|with_reducible exact c2 _ _|with_reducible exact c3 _ _|with_reducible exact c4 _ _|with_reducible exact c5 _ _))
 refine wpQuiet_nil ?_
 intro _ hw'
 obtain ⟨⟨dq,osq⟩,hw''⟩:=hw'
 subst hw''
 have H2:=zHd (HI.out.below (below_regrown w dq osq))
 generalize Go.Sort.grow (redrawn w dq) osq=W2 at *
 clear HI r0 r1 r2 c1 c2 c3 c4 c5
 go_wp2_with fail
 refine Calls.mono (d1.out _ H2.out) ?_
 rintro e w1 ⟨rfl,hb1⟩
 have H3:=zHd (H2.out.below hb1)
 clear hb1 H2 d1
 go_wp2_with fail
 refine Calls.mono (d2.out _ H3.out) ?_
 rintro e w2 ⟨rfl,hi1⟩
 have H4:Hid (In g w2 t full):=hi1
 clear hi1 H3 d2
 have q_k_cpu:=H4.out.k_cpu
 have q_c_rf:=H4.out.c_rf
 have f_rf:=H4.out.fro 1
 have H3:=H4.out.s_rf f
 have HF:Hid (In g (w2.setCell ⟨g.B,1,none⟩ (.int .i64 f)) { t with rf:=f } full):=H3
 clear H3 H4
 go_wp2
 go_end0
 exact ⟨rfl,HF.out⟩
theorem rk7 (g:G) (m:M) (full:Bool) (i0:0<=g.imm) (i1:g.imm<=255) (w:World) (h:In g w m full) (hg:Stpq.Good m) (hp:Pt g) :
  Calls prog 185 #[.pointer (some ⟨g.K,0,none⟩)] w fun e w'=>e=.returned (.tuple #[])/\In g w' (⟨{ m with sp:=(asR m.sp g.imm).1,rf:=(asR m.sp g.imm).2 },full⟩ : S).m (⟨{ m with sp:=(asR m.sp g.imm).1,rf:=(asR m.sp g.imm).2 },full⟩ : S).full:=by
 have c1:Rg 186 #[.int .i64 m.sp,.int .i64 g.imm] w (.tuple #[.int .i64 (asR m.sp g.imm).1,.int .i64 (asR m.sp g.imm).2]):=rg fun W hb=>(implAddSigned_any m.sp g.imm W).mono fun e w' h=>⟨by rw [<- asg_in hg.sp ⟨i0,i1⟩];exact h.1,by rw [h.2];exact zRf⟩
 generalize (asR m.sp g.imm).1=a1 at *
 generalize (asR m.sp g.imm).2=f1 at *
 have r0:=cell_regrown (h.k_cpu)
 have r1:=cell_regrown (h.k_imm)
 have r2:=cell_regrown (h.c_sp)
 have HI:Hid (In g w m full):=h
 clear h hg hp i0 i1
 go_enter func185,ntmps185
 go_wp2_with fail
 refine Qflo.tail_late 23 24 (by kernel_rfl) (by kernel_rfl) (fun _ _ _ _ _ h=>h) ?_
 simp only [List.take_succ_cons,List.take_zero,List.drop_succ_cons,List.drop_zero]
 repeat (go_big_quiet_step (first|with_reducible exact c1 _ _))
 refine wpQuiet_nil ?_
 intro _ hw'
 obtain ⟨⟨dq,osq⟩,hw''⟩:=hw'
 subst hw''
 have H2:=zHd (HI.out.below (below_regrown w dq osq))
 generalize Go.Sort.grow (redrawn w dq) osq=W2 at *
 clear HI r0 r1 r2 c1
 have q_k_cpu:=H2.out.k_cpu
 have q_c_sp:=H2.out.c_sp
 have q_c_rf:=H2.out.c_rf
 have f_sp:=H2.out.fro 8
 have f_rf:=H2.out.fro 1
 have lB:=H2.out.ltB
 have HF:Hid (In g ((W2.setCell ⟨g.B,8,none⟩ (.int .i64 a1)).setCell ⟨g.B,1,none⟩ (.int .i64 f1)) { m with sp:=a1,rf:=f1 } full):=(H2.out.s_sp a1).s_rf f1
 clear H2
 go_wp2
 go_end0
 exact ⟨rfl,HF.out⟩
theorem rk8 (g:G) (m:M) (full:Bool)  (w:World) (h:In g w m full) (hg:Stpq.Good m) (hp:Pt g) :
  Calls prog 190 #[.pointer (some ⟨g.K,0,none⟩)] w fun e w'=>e=.returned (.tuple #[])/\In g w' (⟨{ m with ra:=(daaR m.ra m.rf).1,rf:=(daaR m.ra m.rf).2 },full⟩ : S).m (⟨{ m with ra:=(daaR m.ra m.rf).1,rf:=(daaR m.ra m.rf).2 },full⟩ : S).full:=by
 have c1:Rg 191 #[.int .i64 m.ra,.int .i64 m.rf] w (.tuple #[.int .i64 (daaR m.ra m.rf).1,.int .i64 (daaR m.ra m.rf).2]):=rg fun W hb=>(implDaa_any m.ra m.rf W).mono fun e w' h=>⟨by rw [<- daa_in hg.a hg.f];exact h.1,by rw [h.2];exact zRf⟩
 generalize (daaR m.ra m.rf).1=a1 at *
 generalize (daaR m.ra m.rf).2=f1 at *
 have r0:=cell_regrown (h.k_cpu)
 have r1:=cell_regrown (h.c_ra)
 have r2:=cell_regrown (h.c_rf)
 have HI:Hid (In g w m full):=h
 clear h hg hp
 go_enter func190,ntmps190
 go_wp2_with fail
 refine Qflo.tail_late 25 26 (by kernel_rfl) (by kernel_rfl) (fun _ _ _ _ _ h=>h) ?_
 simp only [List.take_succ_cons,List.take_zero,List.drop_succ_cons,List.drop_zero]
 repeat (go_big_quiet_step (first|with_reducible exact c1 _ _))
 refine wpQuiet_nil ?_
 intro _ hw'
 obtain ⟨⟨dq,osq⟩,hw''⟩:=hw'
 subst hw''
 have H2:=zHd (HI.out.below (below_regrown w dq osq))
 generalize Go.Sort.grow (redrawn w dq) osq=W2 at *
 clear HI r0 r1 r2 c1
 have q_k_cpu:=H2.out.k_cpu
 have q_c_ra:=H2.out.c_ra
 have q_c_rf:=H2.out.c_rf
 have f_ra:=H2.out.fro 0
 have f_rf:=H2.out.fro 1
 have lB:=H2.out.ltB
 have HF:Hid (In g ((W2.setCell ⟨g.B,0,none⟩ (.int .i64 a1)).setCell ⟨g.B,1,none⟩ (.int .i64 f1)) { m with ra:=a1,rf:=f1 } full):=(H2.out.s_ra a1).s_rf f1
 clear H2
 go_wp2
 go_end0
 exact ⟨rfl,HF.out⟩
theorem rkTurnA (g:G) (m:M) (full:Bool)  (w:World) (h:In g w m full) (hg:Stpq.Good m) (hp:Pt g) :
  Calls prog 187 #[.pointer (some ⟨g.K,0,none⟩)] w fun e w'=>e=.returned (.tuple #[])/\In g w' (⟨{ m with ra:=(trnR g.y m.ra m.rf).1,rf:=bits .andNot .i64 (trnR g.y m.ra m.rf).2 128 },full⟩ : S).m (⟨{ m with ra:=(trnR g.y m.ra m.rf).1,rf:=bits .andNot .i64 (trnR g.y m.ra m.rf).2 128 },full⟩ : S).full:=by
 have c1:Rg 227 #[.int .i64 g.y,.int .i64 m.ra,.int .i64 m.rf] w (.tuple #[.int .i64 (trnR g.y m.ra m.rf).1,.int .i64 (trnR g.y m.ra m.rf).2]):=rg fun W hb=>(TurnI.implTurned_any g.y m.ra m.rf W).mono fun e w' h=>⟨by rw [<- trn_in hp.y hg.a hg.f];exact h.1,h.2⟩
 generalize (trnR g.y m.ra m.rf).1=a1 at *
 generalize (trnR g.y m.ra m.rf).2=f0 at *
 obtain ⟨f1,hf1⟩ : ∃ f,bits .andNot .i64 f0 128=f:=⟨_,rfl⟩
 rw [hf1]
 have r0:=cell_regrown (h.k_cpu)
 have r1:=cell_regrown (h.k_y)
 have r2:=cell_regrown (h.c_ra)
 have r3:=cell_regrown (h.c_rf)
 have HI:Hid (In g w m full):=h
 clear h hg hp
 go_enter func187,ntmps187
 go_wp2_with fail
 refine wp_region_quiet_below (by kernel_rfl) (by kernel_rfl) ?_
 repeat (go_big_quiet_step (first|with_reducible exact c1 _ _))
 refine wpQuiet_nil ?_
 intro _ hw'
 obtain ⟨⟨dq,osq⟩,hw''⟩:=hw'
 subst hw''
 have H2:=zHd (HI.out.below (below_regrown w dq osq))
 generalize Go.Sort.grow (redrawn w dq) osq=W2 at *
 clear HI r0 r1 r2 r3 c1
 have H2':=zHd (H2.out.below zRf.drew)
 have q_k_cpu:=H2.out.k_cpu
 have q_c_ra:=H2.out.c_ra
 have q_c_rf:=H2.out.c_rf
 have f_ra:=H2.out.fro 0
 have f_rf:=H2.out.fro 1
 have lB:=H2.out.ltB
 have HF:Hid (In g (((W2.setCell ⟨g.B,0,none⟩ (.int .i64 a1)).setCell ⟨g.B,1,none⟩ (.int .i64 f1)).drew) { m with ra:=a1,rf:=f1 } full):=((H2.out.s_ra a1).s_rf f1).below zRf.drew
 clear H2 H2'
 go_wp2_with fail
 go_region_with (fail)
 all_goals go_wp2
 all_goals go_end0
 all_goals exact ⟨rfl,HF.out⟩
theorem rkTurn (g:G) (m:M) (full:Bool)  (w:World) (h:In g w m full) (hg:Stpq.Good m) (hp:Pt g) :
  Calls prog 188 #[.pointer (some ⟨g.K,0,none⟩)] w fun e w'=>e=.returned (.tuple #[])/\In g w' (F (put ⟨m,full⟩ g.z (trnR g.y (Stpp.get m g.z) m.rf).1) (trnR g.y (Stpp.get m g.z) m.rf).2).m (F (put ⟨m,full⟩ g.z (trnR g.y (Stpp.get m g.z) m.rf).1) (trnR g.y (Stpp.get m g.z) m.rf).2).full:=by
 have c1:Rg 155 #[.pointer (some ⟨g.K,0,none⟩),.int .i64 g.z] w (.int .i64 (Stpp.get m g.z)):=rg fun W hb=>get_any g m full g.z W (h.below hb) hg hp.z.1 hp.z.2
 have c2:Rg 227 #[.int .i64 g.y,.int .i64 (Stpp.get m g.z),.int .i64 m.rf] w (.tuple #[.int .i64 (trnR g.y (Stpp.get m g.z) m.rf).1,.int .i64 (trnR g.y (Stpp.get m g.z) m.rf).2]):=rg fun W hb=>(TurnI.implTurned_any g.y (Stpp.get m g.z) m.rf W).mono fun e w' h=>⟨by rw [<- trn_in hp.y (get_bd hg g.z) hg.f];exact h.1,h.2⟩
 have bd:=trn_bd (op:=g.y) (f:=m.rf) (get_bd hg g.z).1 (get_bd hg g.z).2
 generalize (trnR g.y (Stpp.get m g.z) m.rf).1=v at *
 generalize (trnR g.y (Stpp.get m g.z) m.rf).2=f at *
 generalize Stpp.get m g.z=x at *
 have c3:Hid (∀ W,In g W m full->Calls prog 154 #[.pointer (some ⟨g.K,0,none⟩),.int .i64 g.z,.int .i64 v] W fun e w'=>e=.returned (.tuple #[])/\In g w' (put ⟨m,full⟩ g.z v).m (put ⟨m,full⟩ g.z v).full):=fun W hi=>put_any g m full _ _ W hi hg hp.z.1 hp.z.2 bd.1 bd.2.1
 generalize put ⟨m,full⟩ g.z v=t at *
 have r0:=cell_regrown (h.k_cpu)
 have r1:=cell_regrown (h.k_y)
 have r2:=cell_regrown (h.k_z)
 have r3:=cell_regrown (h.c_rf)
 have HI:Hid (In g w m full):=h
 clear h hg hp bd
 go_enter func188,ntmps188
 go_wp2_with fail
 refine wp_region_quiet_below (by kernel_rfl) (by kernel_rfl) ?_
 repeat (go_big_quiet_step (first|with_reducible exact c1 _ _|with_reducible exact c2 _ _))
 refine wpQuiet_nil ?_
 intro _ hw'
 obtain ⟨⟨dq,osq⟩,hw''⟩:=hw'
 subst hw''
 have H2:=zHd (HI.out.below (below_regrown w dq osq))
 generalize Go.Sort.grow (redrawn w dq) osq=W2 at *
 clear HI r0 r1 r2 r3 c1 c2
 have q_z:=H2.out.k_z
 go_wp2_with fail
 refine Calls.mono (c3.out _ H2.out) ?_
 rintro e w1 ⟨rfl,hi1⟩
 have H3':Hid (In g w1 t.m t.full):=hi1
 clear hi1 H2 c3
 have q_k_cpu:=H3'.out.k_cpu
 have q_c_rf:=H3'.out.c_rf
 have f_rf:=H3'.out.fro 1
 have H3:=H3'.out.s_rf f
 have HF:Hid (In g (w1.setCell ⟨g.B,1,none⟩ (.int .i64 f)) { t.m with rf:=f } t.full):=H3
 clear H3 H3'
 go_wp2
 go_end0
 exact ⟨rfl,HF.out⟩
theorem rkCpl (g:G) (m:M) (full:Bool)  (w:World) (h:In g w m full) (hg:Stpq.Good m) (hp:Pt g) :
  Calls prog 192 #[.pointer (some ⟨g.K,0,none⟩)] w fun e w'=>e=.returned (.tuple #[])/\In g w' (⟨{ m with ra:=255-m.ra,rf:=bits .or .i64 m.rf 96 },full⟩ : S).m (⟨{ m with ra:=255-m.ra,rf:=bits .or .i64 m.rf 96 },full⟩ : S).full:=by
 have ha:=hg.a
 have d1:IntKind.i64.wrap (255-m.ra)=255-m.ra:=by rw [IntKind.wrap_i64];omega
 obtain ⟨f1,hf1⟩ : ∃ f,bits .or .i64 m.rf 96=f:=⟨_,rfl⟩
 rw [hf1]
 have r0:=cell_regrown (h.k_cpu)
 have r1:=cell_regrown (h.c_ra)
 have HI:Hid (In g w m full):=h
 clear h hg hp ha
 go_enter func192,ntmps192
 go_wp2_with fail
 refine Qtail.tail_below 14 (by kernel_rfl) (by kernel_rfl) ?_
 simp only [List.take_succ_cons,List.take_zero,List.drop_succ_cons,List.drop_zero]
 repeat (go_big_quiet_step (first|fail))
 refine wpQuiet_nil ?_
 intro _ hw'
 obtain ⟨⟨dq,osq⟩,hw''⟩:=hw'
 subst hw''
 have H2:=zHd (HI.out.below (below_regrown w dq osq))
 generalize Go.Sort.grow (redrawn w dq) osq=W2 at *
 clear HI r0 r1
 have q_k_cpu:=H2.out.k_cpu
 have q_c_ra:=H2.out.c_ra
 have q_c_rf:=H2.out.c_rf
 have f_ra:=H2.out.fro 0
 have f_rf:=H2.out.fro 1
 have H3:=H2.out.s_ra (255-m.ra)
 have q2:=H3.k_cpu
 have q3:=H3.c_rf
 have q4:=H3.fro 1
 have HF:Hid (In g ((W2.setCell ⟨g.B,0,none⟩ (.int .i64 (255-m.ra))).setCell ⟨g.B,1,none⟩ (.int .i64 f1)) { m with ra:=255-m.ra,rf:=f1 } full):=H3.s_rf f1
 clear H3 H2
 go_wp2
 go_end0
 exact ⟨rfl,HF.out⟩
theorem rk9 (g:G) (m:M) (full:Bool)  (w:World) (h:In g w m full) (hg:Stpq.Good m) (hp:Pt g) :
  Calls prog 193 #[.pointer (some ⟨g.K,0,none⟩)] w fun e w'=>e=.returned (.tuple #[])/\In g w' (⟨{ m with rf:=bits .or .i64 (bits .and .i64 m.rf 128) 16 },full⟩ : S).m (⟨{ m with rf:=bits .or .i64 (bits .and .i64 m.rf 128) 16 },full⟩ : S).full:=by
 obtain ⟨f1,hf1⟩ : ∃ f,bits .or .i64 (bits .and .i64 m.rf 128) 16=f:=⟨_,rfl⟩
 rw [hf1]
 have r0:=cell_regrown (h.k_cpu)
 have r1:=cell_regrown (h.c_rf)
 have HI:Hid (In g w m full):=h
 clear h hg hp
 go_enter func193,ntmps193
 go_wp2_with fail
 refine Qtail.tail_below 15 (by kernel_rfl) (by kernel_rfl) ?_
 simp only [List.take_succ_cons,List.take_zero,List.drop_succ_cons,List.drop_zero]
 repeat (go_big_quiet_step (first|fail))
 refine wpQuiet_nil ?_
 intro _ hw'
 obtain ⟨⟨dq,osq⟩,hw''⟩:=hw'
 subst hw''
 have H2:=zHd (HI.out.below (below_regrown w dq osq))
 generalize Go.Sort.grow (redrawn w dq) osq=W2 at *
 clear HI r0 r1
 have q_k_cpu:=H2.out.k_cpu
 have q_c_rf:=H2.out.c_rf
 have f_rf:=H2.out.fro 1
 have H3:=H2.out.s_rf f1
 have HF:Hid (In g (W2.setCell ⟨g.B,1,none⟩ (.int .i64 f1)) { m with rf:=f1 } full):=H3
 clear H3 H2
 go_wp2
 go_end0
 exact ⟨rfl,HF.out⟩
theorem rk10 (g:G) (m:M) (full:Bool)  (w:World) (h:In g w m full) (hg:Stpq.Good m) (hp:Pt g) :
  Calls prog 194 #[.pointer (some ⟨g.K,0,none⟩)] w fun e w'=>e=.returned (.tuple #[])/\In g w' (⟨{ m with rf:=bits .xor .i64 (bits .and .i64 m.rf 144) 16 },full⟩ : S).m (⟨{ m with rf:=bits .xor .i64 (bits .and .i64 m.rf 144) 16 },full⟩ : S).full:=by
 obtain ⟨f1,hf1⟩ : ∃ f,bits .xor .i64 (bits .and .i64 m.rf 144) 16=f:=⟨_,rfl⟩
 rw [hf1]
 have r0:=cell_regrown (h.k_cpu)
 have r1:=cell_regrown (h.c_rf)
 have HI:Hid (In g w m full):=h
 clear h hg hp
 go_enter func194,ntmps194
 go_wp2_with fail
 refine Qtail.tail_below 15 (by kernel_rfl) (by kernel_rfl) ?_
 simp only [List.take_succ_cons,List.take_zero,List.drop_succ_cons,List.drop_zero]
 repeat (go_big_quiet_step (first|fail))
 refine wpQuiet_nil ?_
 intro _ hw'
 obtain ⟨⟨dq,osq⟩,hw''⟩:=hw'
 subst hw''
 have H2:=zHd (HI.out.below (below_regrown w dq osq))
 generalize Go.Sort.grow (redrawn w dq) osq=W2 at *
 clear HI r0 r1
 have q_k_cpu:=H2.out.k_cpu
 have q_c_rf:=H2.out.c_rf
 have f_rf:=H2.out.fro 1
 have H3:=H2.out.s_rf f1
 have HF:Hid (In g (W2.setCell ⟨g.B,1,none⟩ (.int .i64 f1)) { m with rf:=f1 } full):=H3
 clear H3 H2
 go_wp2
 go_end0
 exact ⟨rfl,HF.out⟩
end Stpz
end Go.Proofs.YtnjolmbdbgbmbaaGreatDoor
