import Derived.Test.YteglcgnhhoenbaaGreatDoorP34
set_option linter.all false
set_option maxRecDepth 20000
set_option maxHeartbeats 8000000
open Go.ChangeShapes Go.WideShapes Go.ChangeAt Go.RowKit
open Go.Proofs.Tryz
namespace Go.Proofs.YteglcgnhhoenbaaGreatDoor
namespace Stpo
open Signed (inB sgn)
open Reck ReckS ReckM ReckD TurnS
open Busw (M wrM Rt)
open Stpp Stpq Stpt Stpc Stpf Stpe Stph
open ReadI (byteAt lenC immV readI readN)
def insOf (m:M):Int × Bool × Int:=if byteAt (fetch m) 0=203 then (byteAt (fetch m) 1,true,0) else (byteAt (fetch m) 0,false,immV (fetch m) 0 (lenC (byteAt (fetch m) 0)))
def lenOf (m:M):Int:=readN (fetch m) 0
def nextOf (m:M):M:={ m with pc:=(m.pc+lenOf m)%65536 }
def semOf (m:M):S × Bool:=sem (insOf m).1 (insOf m).2.1 (insOf m).2.2 ⟨nextOf m,false⟩
def cycOf (m:M):Int:=m.cyc+CycX.cyc (insOf m).1 (insOf m).2.1 (semOf m).2
def stepP (m:M):M × Int :=
 if m.hal=true then (m,1) else if lenOf m=0 then (m,2)
 else if (semOf m).1.full=true \/ 1000000000<cycOf m then (m,4) else (cm (cycOf m) (semOf m).1.m,0)
theorem shape_ne_all:∀ (k:Fin 256) (cb:Bool),LenX.none? (k.val:Int) cb=false->(Shape.shapeR (k.val:Int) cb).size ≠ 0:=by
 intro k cb h
 have h0:(0:Int)<=(k.val:Int):=by omega
 have h1:(k.val:Int)<=255:=by have:=k.isLt;omega
 have hs:=(CycX.both (k.val:Int) cb h0 h1).1
 unfold LenX.none? at h
 simp only [Bool.or_eq_false_iff] at h
 intro h2
 have h3:=hs.2 h2
 rw [h3] at h
 simp at h
theorem imm_all:∀ k:Fin 256,lenC (k.val:Int)=3->¬ ((k.val:Int)=224 \/ (k.val:Int)=240 \/ (k.val:Int)=232 \/ (k.val:Int)=248 \/ (192<=(k.val:Int)/\(k.val:Int)%8=6))/\((k.val:Int)<64->(k.val:Int)%8=1 \/ ((k.val:Int)%8=0/\(k.val:Int) / 8=1)):=by decide +kernel
theorem byteAt_bd (s:ByteArray) (i:Int):0<=byteAt s i/\byteAt s i<=255:=ReadI.byteAt_bd s i
theorem cb_all:∀ k:Fin 256,(Tmpl.tmplS (k.val:Int) true).size ≠ 0:=by decide +kernel
structure Ins (m:M) (c:Int) (cb:Bool) (imm:Int):Prop where
 cbd:0<=c/\c<=255
 iok:ImmOk c cb imm
 non:LenX.none? c cb=false
 val:readI (fetch m) 0=.agg #[.int .i64 c,.bool cb,.int .i64 imm]
 len:0<=lenOf m/\lenOf m<=3
theorem ins_of (m:M) (h:¬ lenOf m=0):Ins m (insOf m).1 (insOf m).2.1 (insOf m).2.2:=by
 unfold lenOf readN at h
 rw [fetch_size,if_neg (by omega)] at h
 by_cases h2:byteAt (fetch m) 0=203
 ·have e:insOf m=(byteAt (fetch m) 1,true,0):=by unfold insOf;rw [if_pos h2]
  rw [e]
  refine ⟨byteAt_bd (fetch m) 1,.inl rfl,?_,?_,?_⟩
  ·unfold LenX.none?
   rw [show inB (byteAt (fetch m) 1) 0 255=true from decide_eq_true (byteAt_bd (fetch m) 1)]
   obtain ⟨k,hk⟩:=fin_of (byteAt_bd (fetch m) 1).1 (byteAt_bd (fetch m) 1).2
   rw [<- hk]
   have:=cb_all k
   simpa using this
  ·unfold readI
   rw [fetch_size,if_neg (by omega),if_pos h2,if_neg (by omega)]
   rfl
  ·unfold lenOf readN
   rw [fetch_size,if_neg (by omega),if_pos h2,if_neg (by omega)]
   omega
 ·rw [if_neg h2] at h
  have h3:¬ (lenC (byteAt (fetch m) 0)=0 \/ ((3:Nat):Int)-0<lenC (byteAt (fetch m) 0)):=fun h4=>by rw [if_pos h4] at h;exact h rfl
  have e:insOf m=(byteAt (fetch m) 0,false,immV (fetch m) 0 (lenC (byteAt (fetch m) 0))):=by unfold insOf;rw [if_neg h2]
  rw [e]
  have b0:=byteAt_bd (fetch m) 0
  have b1:=byteAt_bd (fetch m) (0+1)
  have b2:=byteAt_bd (fetch m) (0+2)
  obtain ⟨k,hk⟩:=fin_of b0.1 b0.2
  refine ⟨b0,.inr ?_,?_,?_,?_⟩
  ·simp only []
   have h3:¬ (lenC (k.val:Int)=0 \/ ((3:Nat):Int)-0<lenC (k.val:Int)):=by rw [hk];exact h3
   rw [<- hk]
   have hi:=imm_all k
   unfold immV
   rcases ReadI.lenC_cases (k.val:Int) with h5|h5|h5|h5
   ·exact absurd (.inl h5) h3
   ·rw [if_pos h5]
    exact ⟨by omega,by omega,fun _ _ _=>by omega,fun _=>by omega⟩
   ·rw [if_neg (by omega),if_pos h5]
    exact ⟨by omega,by omega,fun _ _ _=>by omega,fun _=>by omega⟩
   ·rw [if_neg (by omega),if_neg (by omega)]
    have h6:=hi h5
    exact ⟨by omega,by omega,fun h7 h8 h9=>by rcases h6.2 h7 with h|h <;> omega,fun h7=>absurd h7 h6.1⟩
  ·have h4:¬ lenC (byteAt (fetch m) 0)=0:=fun h5=>h3 (.inl h5)
   unfold ReadI.lenC LenX.lenV at h4
   cases hn:LenX.none? (byteAt (fetch m) 0) false with
   | false=>rfl
   | true=>rw [hn,if_pos rfl] at h4;exact absurd rfl h4
  ·unfold readI
   rw [fetch_size,if_neg (by omega),if_neg h2,if_neg h3]
  ·unfold lenOf readN
   rw [fetch_size,if_neg (by omega),if_neg h2,if_neg h3]
   have:=ReadI.lenC_cases (byteAt (fetch m) 0)
   omega
theorem shape_ne {c:Int} {cb:Bool} (h:0<=c/\c<=255) (hn:LenX.none? c cb=false):Shape.shape c cb ≠ ⟨#[]⟩:=by
 obtain ⟨k,rfl⟩:=fin_of h.1 h.2
 unfold Shape.shape
 rw [show inB (k.val:Int) 0 255=true from decide_eq_true h,if_pos rfl]
 intro h2
 have:=shape_ne_all k cb hn
 rw [h2] at this
 exact this rfl
theorem cyc_all:∀ (k:Fin 256) (cb:Bool),(cb=true \/ kd (k.val:Int) ≠ 0)->hasC (k.val:Int) cb=false->CycQ.cycV (k.val:Int) cb true=CycQ.cycV (k.val:Int) cb false:=by decide +kernel
theorem cyc_still {c:Int} {cb:Bool} (h:0<=c/\c<=255) (hn:LenX.none? c cb=false) (hc:hasC c cb=false) (t t':Bool):CycX.cyc c cb t=CycX.cyc c cb t':=by
 obtain ⟨k,rfl⟩:=fin_of h.1 h.2
 have hs:=shape_ne h hn
 have:=cyc_all k cb (by
  cases cb with
  | true=>exact .inl rfl
  | false=>exact .inr (fun h0=>hs (by rw [shape_kd h.1 h.2,h0];rfl))) hc
 unfold CycX.cyc
 split
 ·rfl
 ·cases t <;> cases t' <;> simp_all
theorem no_jr_Ce8 (m:M) (full:Bool) (c imm:Int) (hc:c<64/\c%8=0/\3<c / 8) (c0:0<=c) (c1:c<=255) (hm:cond m (c / 8%8%4)=false):sem c false imm ⟨m,full⟩=(⟨m,full⟩,false):=by
 unfold sem
 rw [if_neg (by decide),if_pos (by omega)]
 unfold lowE
 rw [if_pos (by omega),if_neg (by omega),if_neg (by rintro (h|⟨_,h⟩) <;> first|omega|(rw [show c / 8-4=c / 8%8%4 by omega] at h;exact absurd (h.symm.trans hm) (by decide)))]
theorem yes_jr_Ce8 (m:M) (full:Bool) (c imm:Int) (hc:c<64/\c%8=0/\3<c / 8) (c0:0<=c) (c1:c<=255) (hm:cond m (c / 8%8%4)=true):(sem c false imm ⟨m,full⟩).2=true:=by
 unfold sem
 rw [if_neg (by decide),if_pos (by omega)]
 unfold lowE
 rw [if_pos (by omega),if_neg (by omega),if_pos (.inr ⟨by omega,by rw [show c / 8-4=c / 8%8%4 by omega];exact hm⟩)]
theorem no_jp_Cn16 (m:M) (full:Bool) (c imm:Int) (hc:192<=c/\c%8=2/\c / 8%8<4) (c0:0<=c) (c1:c<=255) (hm:cond m (c / 8%8%4)=false):sem c false imm ⟨m,full⟩=(⟨m,full⟩,false):=by
 unfold sem
 rw [if_neg (by decide),if_neg (by omega),if_neg (by omega),if_neg (by omega),if_neg (by omega)]
 unfold topE
 rw [if_neg (by rintro (⟨h1,h2,h3⟩|h1|h1) <;> first|omega|(rw [show c / 8%8=c / 8%8%4 by omega] at h3;rw [hm] at h3;cases h3)),if_neg (by omega),if_neg (by omega),if_neg (by omega),if_neg (by omega),if_neg (by omega),if_neg (by omega),if_neg (by omega),if_neg (by omega),if_neg (by omega),if_neg (by omega),if_neg (by omega),if_neg (by omega),if_neg (by rintro (⟨h1,h2,h3⟩|h1) <;> first|omega|(rw [show c / 8%8=c / 8%8%4 by omega] at h3;rw [hm] at h3;cases h3)),if_neg (by omega),if_neg (by rintro (⟨h1,h3⟩|h1) <;> first|omega|(rw [show c / 8%8=c / 8%8%4 by omega] at h3;rw [hm] at h3;cases h3)),if_neg (by omega),if_neg (by omega)]
theorem yes_jp_Cn16 (m:M) (full:Bool) (c imm:Int) (hc:192<=c/\c%8=2/\c / 8%8<4) (c0:0<=c) (c1:c<=255) (hm:cond m (c / 8%8%4)=true):(sem c false imm ⟨m,full⟩).2=true:=by
 unfold sem
 rw [if_neg (by decide),if_neg (by omega),if_neg (by omega),if_neg (by omega),if_neg (by omega)]
 unfold topE
 rw [if_neg (by rintro (⟨h1,_,_⟩|h1|h1) <;> omega),if_neg (by omega),if_neg (by omega),if_neg (by omega),if_neg (by omega),if_neg (by omega),if_neg (by omega),if_neg (by omega),if_neg (by omega),if_neg (by omega),if_neg (by omega),if_neg (by omega),if_neg (by omega),if_pos (by exact .inl ⟨by omega,by omega,by rw [show c / 8%8=c / 8%8%4 by omega];exact hm⟩)]
theorem no_call_Cn16 (m:M) (full:Bool) (c imm:Int) (hc:192<=c/\c%8=4/\c / 8%8<4) (c0:0<=c) (c1:c<=255) (hm:cond m (c / 8%8%4)=false):sem c false imm ⟨m,full⟩=(⟨m,full⟩,false):=by
 unfold sem
 rw [if_neg (by decide),if_neg (by omega),if_neg (by omega),if_neg (by omega),if_neg (by omega)]
 unfold topE
 rw [if_neg (by rintro (⟨h1,h2,h3⟩|h1|h1) <;> first|omega|(rw [show c / 8%8=c / 8%8%4 by omega] at h3;rw [hm] at h3;cases h3)),if_neg (by omega),if_neg (by omega),if_neg (by omega),if_neg (by omega),if_neg (by omega),if_neg (by omega),if_neg (by omega),if_neg (by omega),if_neg (by omega),if_neg (by omega),if_neg (by omega),if_neg (by omega),if_neg (by rintro (⟨h1,h2,h3⟩|h1) <;> first|omega|(rw [show c / 8%8=c / 8%8%4 by omega] at h3;rw [hm] at h3;cases h3)),if_neg (by omega),if_neg (by rintro (⟨h1,h3⟩|h1) <;> first|omega|(rw [show c / 8%8=c / 8%8%4 by omega] at h3;rw [hm] at h3;cases h3)),if_neg (by omega),if_neg (by omega)]
theorem yes_call_Cn16 (m:M) (full:Bool) (c imm:Int) (hc:192<=c/\c%8=4/\c / 8%8<4) (c0:0<=c) (c1:c<=255) (hm:cond m (c / 8%8%4)=true):(sem c false imm ⟨m,full⟩).2=true:=by
 unfold sem
 rw [if_neg (by decide),if_neg (by omega),if_neg (by omega),if_neg (by omega),if_neg (by omega)]
 unfold topE
 rw [if_neg (by rintro (⟨h1,_,_⟩|h1|h1) <;> omega),if_neg (by omega),if_neg (by omega),if_neg (by omega),if_neg (by omega),if_neg (by omega),if_neg (by omega),if_neg (by omega),if_neg (by omega),if_neg (by omega),if_neg (by omega),if_neg (by omega),if_neg (by omega),if_neg (by rintro (⟨h1,_,_⟩|h1) <;> omega),if_neg (by omega),if_pos (by exact .inl ⟨by omega,by rw [show c / 8%8=c / 8%8%4 by omega];exact hm⟩)]
theorem no_ret_C (m:M) (full:Bool) (c imm:Int) (hc:192<=c/\c%8=0/\c / 8%8<4) (c0:0<=c) (c1:c<=255) (hm:cond m (c / 8%8%4)=false):sem c false imm ⟨m,full⟩=(⟨m,full⟩,false):=by
 unfold sem
 rw [if_neg (by decide),if_neg (by omega),if_neg (by omega),if_neg (by omega),if_neg (by omega)]
 unfold topE
 rw [if_neg (by rintro (⟨h1,h2,h3⟩|h1|h1) <;> first|omega|(rw [show c / 8%8=c / 8%8%4 by omega] at h3;rw [hm] at h3;cases h3)),if_neg (by omega),if_neg (by omega),if_neg (by omega),if_neg (by omega),if_neg (by omega),if_neg (by omega),if_neg (by omega),if_neg (by omega),if_neg (by omega),if_neg (by omega),if_neg (by omega),if_neg (by omega),if_neg (by rintro (⟨h1,h2,h3⟩|h1) <;> first|omega|(rw [show c / 8%8=c / 8%8%4 by omega] at h3;rw [hm] at h3;cases h3)),if_neg (by omega),if_neg (by rintro (⟨h1,h3⟩|h1) <;> first|omega|(rw [show c / 8%8=c / 8%8%4 by omega] at h3;rw [hm] at h3;cases h3)),if_neg (by omega),if_neg (by omega)]
theorem yes_ret_C (m:M) (full:Bool) (c imm:Int) (hc:192<=c/\c%8=0/\c / 8%8<4) (c0:0<=c) (c1:c<=255) (hm:cond m (c / 8%8%4)=true):(sem c false imm ⟨m,full⟩).2=true:=by
 unfold sem
 rw [if_neg (by decide),if_neg (by omega),if_neg (by omega),if_neg (by omega),if_neg (by omega)]
 unfold topE
 rw [if_pos (by exact .inl ⟨by omega,by omega,by rw [show c / 8%8=c / 8%8%4 by omega];exact hm⟩)]
theorem has_cases {c:Int} {cb:Bool} (h:hasC c cb=true):cb=false/\(kd c=34 \/ kd c=36 \/ kd c=39 \/ kd c=42):=by
 unfold hasC at h
 simp only [Bool.and_eq_true,Bool.or_eq_true,beq_iff_eq,Bool.not_eq_true'] at h
 obtain ⟨h1,h2⟩:=h
 exact ⟨h1,by rcases h2 with ((h2|h2)|h2)|h2 <;> simp [h2]⟩
theorem not_met (m:M) (full:Bool) (c:Int) (cb:Bool) (imm:Int) (h:0<=c/\c<=255) (hm:met c cb m.rf=false):sem c cb imm ⟨m,full⟩=(⟨m,full⟩,false):=by
 unfold met at hm
 simp only [Bool.or_eq_false_iff,Bool.not_eq_false'] at hm
 obtain ⟨hh,hc⟩:=hm
 obtain ⟨rfl,hk⟩:=has_cases hh
 obtain ⟨k,hkk⟩:=fin_of h.1 h.2
 have hc:cond m (c / 8%8%4)=false:=hc
 rcases hk with hk|hk|hk|hk
 ·exact no_jr_Ce8 m full c imm (ar_jr_Ce8 k (by rw [hkk];exact hk) c hkk.symm) h.1 h.2 hc
 ·exact no_jp_Cn16 m full c imm (ar_jp_Cn16 k (by rw [hkk];exact hk) c hkk.symm) h.1 h.2 hc
 ·exact no_call_Cn16 m full c imm (ar_call_Cn16 k (by rw [hkk];exact hk) c hkk.symm) h.1 h.2 hc
 ·exact no_ret_C m full c imm (ar_ret_C k (by rw [hkk];exact hk) c hkk.symm) h.1 h.2 hc
theorem met_cyc (m:M) (full:Bool) (c:Int) (cb:Bool) (imm:Int) (h:0<=c/\c<=255) (hn:LenX.none? c cb=false) (hm:met c cb m.rf=true):CycX.cyc c cb true=CycX.cyc c cb (sem c cb imm ⟨m,full⟩).2:=by
 cases hh:hasC c cb with
 | false=>exact cyc_still h hn hh _ _
 | true =>
  unfold met at hm
  rw [hh] at hm
  have hc:cond m (c / 8%8%4)=true:=hm
  obtain ⟨rfl,hk⟩:=has_cases hh
  obtain ⟨k,hkk⟩:=fin_of h.1 h.2
  have e:(sem c false imm ⟨m,full⟩).2=true:=by
   rcases hk with hk|hk|hk|hk
   ·exact yes_jr_Ce8 m full c imm (ar_jr_Ce8 k (by rw [hkk];exact hk) c hkk.symm) h.1 h.2 hc
   ·exact yes_jp_Cn16 m full c imm (ar_jp_Cn16 k (by rw [hkk];exact hk) c hkk.symm) h.1 h.2 hc
   ·exact yes_call_Cn16 m full c imm (ar_call_Cn16 k (by rw [hkk];exact hk) c hkk.symm) h.1 h.2 hc
   ·exact yes_ret_C m full c imm (ar_ret_C k (by rw [hkk];exact hk) c hkk.symm) h.1 h.2 hc
  rw [e]
end Stpo
end Go.Proofs.YteglcgnhhoenbaaGreatDoor
