import Derived.Test.YteglcgnhhoenbaaGreatDoorQ36
set_option linter.all false
set_option maxRecDepth 20000
set_option maxHeartbeats 8000000
open Go.ChangeShapes Go.WideShapes Go.ChangeAt Go.RowKit
open Go.Proofs.Tryz
namespace Go.Proofs.YteglcgnhhoenbaaGreatDoor
namespace Stpo
open Signed (inB sgn)
open Reck ReckS ReckM ReckD TurnS
open Busw (M wrM Rt)
open Stpp Stpq Stpt Stpc Stpf Stpe Stph
open ReadI (aH gJ oL dZ dD)
def bO (m:M):Int × Bool × Int:=if aH (bU m) 0=203 then (aH (bU m) 1,true,0) else (aH (bU m) 0,false,oL (bU m) 0 (gJ (aH (bU m) 0)))
def lenOf (m:M):Int:=dD (bU m) 0
def cJ (m:M):M:={ m with pc:=(m.pc+lenOf m)%65536 }
def kV (m:M):S × Bool:=sem (bO m).1 (bO m).2.1 (bO m).2.2 ⟨cJ m,false⟩
def nS (m:M):Int:=m.cyc+CycX.cyc (bO m).1 (bO m).2.1 (kV m).2
def bR (m:M):M × Int :=
 if m.hal=true then (m,1) else if lenOf m=0 then (m,2)
 else if (kV m).1.full=true \/ 1000000000<nS m then (m,4) else (cm (nS m) (kV m).1.m,0)
theorem wE:∀ (k:Fin 256) (cb:Bool),LenX.bV (k.val:Int) cb=false->(Shape.cC (k.val:Int) cb).size ≠ 0:=by
 intro k cb h;have h0:(0:Int)<=(k.val:Int):=by omega
 have h1:(k.val:Int)<=255:=by have:=k.isLt;omega
 have hs:=(CycX.both (k.val:Int) cb h0 h1).1;unfold LenX.bV at h
 simp only [Bool.or_eq_false_iff] at h
 intro h2;have h3:=hs.2 h2;rw [h3] at h
 simp at h
theorem aXQ:∀ k:Fin 256,gJ (k.val:Int)=3->¬ ((k.val:Int)=224 \/ (k.val:Int)=240 \/ (k.val:Int)=232 \/ (k.val:Int)=248 \/ (192<=(k.val:Int)/\(k.val:Int)%8=6))/\((k.val:Int)<64->(k.val:Int)%8=1 \/ ((k.val:Int)%8=0/\(k.val:Int) / 8=1)):=by decide +kernel
theorem bH (s:ByteArray) (i:Int):0<=aH s i/\aH s i<=255:=ReadI.bH s i
theorem bFA:∀ k:Fin 256,(Tmpl.aY (k.val:Int) true).size ≠ 0:=by decide +kernel
structure Ins (m:M) (c:Int) (cb:Bool) (imm:Int):Prop where
 cbd:0<=c/\c<=255
 iok:rI c cb imm
 non:LenX.bV c cb=false
 val:dZ (bU m) 0=.agg #[.int .i64 c,.bool cb,.int .i64 imm]
 len:0<=lenOf m/\lenOf m<=3
theorem mF (m:M) (h:¬ lenOf m=0):Ins m (bO m).1 (bO m).2.1 (bO m).2.2:=by
 unfold lenOf dD at h
 rw [eX,if_neg (by omega)] at h
 by_cases h2:aH (bU m) 0=203
 ·have e:bO m=(aH (bU m) 1,true,0):=by unfold bO;rw [if_pos h2]
  rw [e];refine ⟨bH (bU m) 1,.inl rfl,?_,?_,?_⟩
  ·unfold LenX.bV
   rw [show inB (aH (bU m) 1) 0 255=true from x9 (bH (bU m) 1)];obtain ⟨k,hk⟩:=aX (bH (bU m) 1).1 (bH (bU m) 1).2;rw [<- hk]
   have:=bFA k
   simpa using this
  ·unfold dZ
   rw [eX,if_neg (by omega),if_pos h2,if_neg (by omega)]
   rfl
  ·unfold lenOf dD
   rw [eX,if_neg (by omega),if_pos h2,if_neg (by omega)];omega
 ·rw [if_neg h2] at h
  have h3:¬ (gJ (aH (bU m) 0)=0 \/ ((3:Nat):Int)-0<gJ (aH (bU m) 0)):=fun h4=>by rw [if_pos h4] at h;exact h rfl
  have e:bO m=(aH (bU m) 0,false,oL (bU m) 0 (gJ (aH (bU m) 0))):=by unfold bO;rw [if_neg h2]
  rw [e];have b0:=bH (bU m) 0;have b1:=bH (bU m) (0+1);have b2:=bH (bU m) (0+2);obtain ⟨k,hk⟩:=aX b0.1 b0.2;refine ⟨b0,.inr ?_,?_,?_,?_⟩
  ·simp only []
   have h3:¬ (gJ (k.val:Int)=0 \/ ((3:Nat):Int)-0<gJ (k.val:Int)):=by rw [hk];exact h3
   rw [<- hk];have hi:=aXQ k;unfold oL;rcases ReadI.jO (k.val:Int) with h5|h5|h5|h5
   ·exact absurd (.inl h5) h3
   ·rw [if_pos h5]
    exact ⟨by omega,by omega,fun _ _ _=>by omega,fun _=>by omega⟩
   ·rw [if_neg (by omega),if_pos h5]
    exact ⟨by omega,by omega,fun _ _ _=>by omega,fun _=>by omega⟩
   ·rw [if_neg (by omega),if_neg (by omega)]
    have h6:=hi h5;exact ⟨by omega,by omega,fun h7 h8 h9=>by rcases h6.2 h7 with h|h <;> omega,fun h7=>absurd h7 h6.1⟩
  ·have h4:¬ gJ (aH (bU m) 0)=0:=fun h5=>h3 (.inl h5)
   unfold ReadI.gJ LenX.mX at h4
   cases hn:LenX.bV (aH (bU m) 0) false with
   | false=>rfl
   | true=>rw [hn,if_pos rfl] at h4;exact absurd rfl h4
  ·unfold dZ
   rw [eX,if_neg (by omega),if_neg h2,if_neg h3]
  ·unfold lenOf dD
   rw [eX,if_neg (by omega),if_neg h2,if_neg h3]
   have:=ReadI.jO (aH (bU m) 0)
   omega
theorem aAE {c:Int} {cb:Bool} (h:0<=c/\c<=255) (hn:LenX.bV c cb=false):Shape.shape c cb ≠ ⟨#[]⟩:=by
 obtain ⟨k,rfl⟩:=aX h.1 h.2;unfold Shape.shape;rw [show inB (k.val:Int) 0 255=true from x9 h,if_pos rfl];intro h2
 have:=wE k cb hn
 rw [h2] at this
 exact this rfl
theorem aXR:∀ (k:Fin 256) (cb:Bool),(cb=true \/ kd (k.val:Int) ≠ 0)->kE (k.val:Int) cb=false->CycQ.oK (k.val:Int) cb true=CycQ.oK (k.val:Int) cb false:=by decide +kernel
theorem aIS {c:Int} {cb:Bool} (h:0<=c/\c<=255) (hn:LenX.bV c cb=false) (hc:kE c cb=false) (t t':Bool):CycX.cyc c cb t=CycX.cyc c cb t':=by
 obtain ⟨k,rfl⟩:=aX h.1 h.2;have hs:=aAE h hn
 have:=aXR k cb (by
  cases cb with
  | true=>exact .inl rfl
  | false=>exact .inr (fun h0=>hs (by rw [aO h.1 h.2,h0];rfl))) hc
 unfold CycX.cyc;split
 ·rfl
 ·cases t <;> cases t' <;> simp_all
theorem aIT (m:M) (full:Bool) (c imm:Int) (hc:c<64/\c%8=0/\3<c / 8) (c0:0<=c) (c1:c<=255) (hm:cond m (c / 8%8%4)=false):sem c false imm ⟨m,full⟩=(⟨m,full⟩,false):=by
 unfold sem;rw [if_neg (by decide),if_pos (by omega)];unfold bY;rw [if_pos (by omega),if_neg (by omega),if_neg (by rintro (h|⟨_,h⟩) <;> first|omega|(rw [show c / 8-4=c / 8%8%4 by omega] at h;exact absurd (h.symm.trans hm) (by decide)))]
theorem aEA (m:M) (full:Bool) (c imm:Int) (hc:c<64/\c%8=0/\3<c / 8) (c0:0<=c) (c1:c<=255) (hm:cond m (c / 8%8%4)=true):(sem c false imm ⟨m,full⟩).2=true:=by
 unfold sem;rw [if_neg (by decide),if_pos (by omega)];unfold bY;rw [if_pos (by omega),if_neg (by omega),if_pos (.inr ⟨by omega,by rw [show c / 8-4=c / 8%8%4 by omega];exact hm⟩)]
theorem aEB (m:M) (full:Bool) (c imm:Int) (hc:192<=c/\c%8=2/\c / 8%8<4) (c0:0<=c) (c1:c<=255) (hm:cond m (c / 8%8%4)=false):sem c false imm ⟨m,full⟩=(⟨m,full⟩,false):=by
 unfold sem;rw [if_neg (by decide),if_neg (by omega),if_neg (by omega),if_neg (by omega),if_neg (by omega)];unfold aW;rw [if_neg (by rintro (⟨h1,h2,h3⟩|h1|h1) <;> first|omega|(rw [show c / 8%8=c / 8%8%4 by omega] at h3;rw [hm] at h3;cases h3)),if_neg (by omega),if_neg (by omega),if_neg (by omega),if_neg (by omega),if_neg (by omega),if_neg (by omega),if_neg (by omega),if_neg (by omega),if_neg (by omega),if_neg (by omega),if_neg (by omega),if_neg (by omega),if_neg (by rintro (⟨h1,h2,h3⟩|h1) <;> first|omega|(rw [show c / 8%8=c / 8%8%4 by omega] at h3;rw [hm] at h3;cases h3)),if_neg (by omega),if_neg (by rintro (⟨h1,h3⟩|h1) <;> first|omega|(rw [show c / 8%8=c / 8%8%4 by omega] at h3;rw [hm] at h3;cases h3)),if_neg (by omega),if_neg (by omega)]
theorem aAF (m:M) (full:Bool) (c imm:Int) (hc:192<=c/\c%8=2/\c / 8%8<4) (c0:0<=c) (c1:c<=255) (hm:cond m (c / 8%8%4)=true):(sem c false imm ⟨m,full⟩).2=true:=by
 unfold sem;rw [if_neg (by decide),if_neg (by omega),if_neg (by omega),if_neg (by omega),if_neg (by omega)];unfold aW;rw [if_neg (by rintro (⟨h1,_,_⟩|h1|h1) <;> omega),if_neg (by omega),if_neg (by omega),if_neg (by omega),if_neg (by omega),if_neg (by omega),if_neg (by omega),if_neg (by omega),if_neg (by omega),if_neg (by omega),if_neg (by omega),if_neg (by omega),if_neg (by omega),if_pos (by exact .inl ⟨by omega,by omega,by rw [show c / 8%8=c / 8%8%4 by omega];exact hm⟩)]
theorem wF (m:M) (full:Bool) (c imm:Int) (hc:192<=c/\c%8=4/\c / 8%8<4) (c0:0<=c) (c1:c<=255) (hm:cond m (c / 8%8%4)=false):sem c false imm ⟨m,full⟩=(⟨m,full⟩,false):=by
 unfold sem;rw [if_neg (by decide),if_neg (by omega),if_neg (by omega),if_neg (by omega),if_neg (by omega)];unfold aW;rw [if_neg (by rintro (⟨h1,h2,h3⟩|h1|h1) <;> first|omega|(rw [show c / 8%8=c / 8%8%4 by omega] at h3;rw [hm] at h3;cases h3)),if_neg (by omega),if_neg (by omega),if_neg (by omega),if_neg (by omega),if_neg (by omega),if_neg (by omega),if_neg (by omega),if_neg (by omega),if_neg (by omega),if_neg (by omega),if_neg (by omega),if_neg (by omega),if_neg (by rintro (⟨h1,h2,h3⟩|h1) <;> first|omega|(rw [show c / 8%8=c / 8%8%4 by omega] at h3;rw [hm] at h3;cases h3)),if_neg (by omega),if_neg (by rintro (⟨h1,h3⟩|h1) <;> first|omega|(rw [show c / 8%8=c / 8%8%4 by omega] at h3;rw [hm] at h3;cases h3)),if_neg (by omega),if_neg (by omega)]
theorem sG (m:M) (full:Bool) (c imm:Int) (hc:192<=c/\c%8=4/\c / 8%8<4) (c0:0<=c) (c1:c<=255) (hm:cond m (c / 8%8%4)=true):(sem c false imm ⟨m,full⟩).2=true:=by
 unfold sem;rw [if_neg (by decide),if_neg (by omega),if_neg (by omega),if_neg (by omega),if_neg (by omega)];unfold aW;rw [if_neg (by rintro (⟨h1,_,_⟩|h1|h1) <;> omega),if_neg (by omega),if_neg (by omega),if_neg (by omega),if_neg (by omega),if_neg (by omega),if_neg (by omega),if_neg (by omega),if_neg (by omega),if_neg (by omega),if_neg (by omega),if_neg (by omega),if_neg (by omega),if_neg (by rintro (⟨h1,_,_⟩|h1) <;> omega),if_neg (by omega),if_pos (by exact .inl ⟨by omega,by rw [show c / 8%8=c / 8%8%4 by omega];exact hm⟩)]
theorem aQU (m:M) (full:Bool) (c imm:Int) (hc:192<=c/\c%8=0/\c / 8%8<4) (c0:0<=c) (c1:c<=255) (hm:cond m (c / 8%8%4)=false):sem c false imm ⟨m,full⟩=(⟨m,full⟩,false):=by
 unfold sem;rw [if_neg (by decide),if_neg (by omega),if_neg (by omega),if_neg (by omega),if_neg (by omega)];unfold aW;rw [if_neg (by rintro (⟨h1,h2,h3⟩|h1|h1) <;> first|omega|(rw [show c / 8%8=c / 8%8%4 by omega] at h3;rw [hm] at h3;cases h3)),if_neg (by omega),if_neg (by omega),if_neg (by omega),if_neg (by omega),if_neg (by omega),if_neg (by omega),if_neg (by omega),if_neg (by omega),if_neg (by omega),if_neg (by omega),if_neg (by omega),if_neg (by omega),if_neg (by rintro (⟨h1,h2,h3⟩|h1) <;> first|omega|(rw [show c / 8%8=c / 8%8%4 by omega] at h3;rw [hm] at h3;cases h3)),if_neg (by omega),if_neg (by rintro (⟨h1,h3⟩|h1) <;> first|omega|(rw [show c / 8%8=c / 8%8%4 by omega] at h3;rw [hm] at h3;cases h3)),if_neg (by omega),if_neg (by omega)]
theorem aIU (m:M) (full:Bool) (c imm:Int) (hc:192<=c/\c%8=0/\c / 8%8<4) (c0:0<=c) (c1:c<=255) (hm:cond m (c / 8%8%4)=true):(sem c false imm ⟨m,full⟩).2=true:=by
 unfold sem;rw [if_neg (by decide),if_neg (by omega),if_neg (by omega),if_neg (by omega),if_neg (by omega)];unfold aW;rw [if_pos (by exact .inl ⟨by omega,by omega,by rw [show c / 8%8=c / 8%8%4 by omega];exact hm⟩)]
theorem tK {c:Int} {cb:Bool} (h:kE c cb=true):cb=false/\(kd c=34 \/ kd c=36 \/ kd c=39 \/ kd c=42):=by
 unfold kE at h
 simp only [Bool.and_eq_true,Bool.or_eq_true,beq_iff_eq,Bool.not_eq_true'] at h
 obtain ⟨h1,h2⟩:=h;exact ⟨h1,by rcases h2 with ((h2|h2)|h2)|h2 <;> simp [h2]⟩
theorem aFD (m:M) (full:Bool) (c:Int) (cb:Bool) (imm:Int) (h:0<=c/\c<=255) (hm:met c cb m.rf=false):sem c cb imm ⟨m,full⟩=(⟨m,full⟩,false):=by
 unfold met at hm
 simp only [Bool.or_eq_false_iff,Bool.not_eq_false'] at hm
 obtain ⟨hh,hc⟩:=hm;obtain ⟨rfl,hk⟩:=tK hh;obtain ⟨k,hkk⟩:=aX h.1 h.2;have hc:cond m (c / 8%8%4)=false:=hc;rcases hk with hk|hk|hk|hk
 ·exact aIT m full c imm (oR k (by rw [hkk];exact hk) c hkk.symm) h.1 h.2 hc
 ·exact aEB m full c imm (mE k (by rw [hkk];exact hk) c hkk.symm) h.1 h.2 hc
 ·exact wF m full c imm (jU k (by rw [hkk];exact hk) c hkk.symm) h.1 h.2 hc
 ·exact aQU m full c imm (rN k (by rw [hkk];exact hk) c hkk.symm) h.1 h.2 hc
theorem aXS (m:M) (full:Bool) (c:Int) (cb:Bool) (imm:Int) (h:0<=c/\c<=255) (hn:LenX.bV c cb=false) (hm:met c cb m.rf=true):CycX.cyc c cb true=CycX.cyc c cb (sem c cb imm ⟨m,full⟩).2:=by
 cases hh:kE c cb with
 | false=>exact aIS h hn hh _ _
 | true =>
  unfold met at hm
  rw [hh] at hm
  have hc:cond m (c / 8%8%4)=true:=hm;obtain ⟨rfl,hk⟩:=tK hh;obtain ⟨k,hkk⟩:=aX h.1 h.2;have e:(sem c false imm ⟨m,full⟩).2=true:=by
   rcases hk with hk|hk|hk|hk
   ·exact aEA m full c imm (oR k (by rw [hkk];exact hk) c hkk.symm) h.1 h.2 hc
   ·exact aAF m full c imm (mE k (by rw [hkk];exact hk) c hkk.symm) h.1 h.2 hc
   ·exact sG m full c imm (jU k (by rw [hkk];exact hk) c hkk.symm) h.1 h.2 hc
   ·exact aIU m full c imm (rN k (by rw [hkk];exact hk) c hkk.symm) h.1 h.2 hc
  rw [e]
end Stpo
end Go.Proofs.YteglcgnhhoenbaaGreatDoor
