/-
  Contracts and facts of ours, joined: Stpp, Stpq, Qtail, Tabs, Hole, HoleX.
-/
import Derived.Test.YtnjolmbdbgbmbaaGreatDoorP05
import Derived.Test.YtnjolmbdbgbmbaaGreatDoorP06
import Derived.Test.YtnjolmbdbgbmbaaGreatDoorP01
import Derived.StillTail
import Derived.Deep.Quiet
import Derived.Lib.QuietBelow
import Derived.Test.YtnjolmbdbgbmbaaGreatDoorRows
import Derived.Test.YtnjolmbdbgbmbaaGreatDoorP00
import Derived.WalkKit
import Derived.ProofKit
import Derived.OpenShut
import Derived.ShutString
import Derived.Outline
import Derived.WalkLawsBesides
import Derived.Deep.RegionWith
import Derived.LoopN
import Derived.Laws.BytesArg
import Derived.Deep.QuietTactic
import Derived.BigQuiet
set_option linter.unusedVariables false
set_option linter.unusedSimpArgs false
set_option maxRecDepth 20000
set_option maxHeartbeats 8000000
open Go.ChangeShapes Go.WideShapes Go.ChangeAt Go.RowKit
open Go.Proofs.Tryz
namespace Go.Proofs.YtnjolmbdbgbmbaaGreatDoor.Stpp
open Signed (inB sgn)
open Reck ReckS ReckM ReckD TurnS
open Busw (M wrM Rt)
def rd (m:M) (a:Int):Int:=MachB.busV m.rom m.kind m.bank m.ram m.rb m.on m.mode m.work m.high a
theorem rd_bd (m:M) (a:Int):0<=rd m a/\rd m a<=255:=by
 unfold rd MachB.busV
 split
 ·exact CartR.byteAt_bd _ _
 ·split
  ·exact CartR.byteAt_bd _ _
  ·exact CartR.rdV_bd _ _ _ _ _ _
structure S where
 m:M
 full:Bool
def wr (s:S) (a v:Int):S:=match wrM s.m (a%65536) v with|some m'=>⟨m',s.full⟩|none=>⟨s.m,true⟩
def hl (m:M):Int:=256*m.rH+m.rL
def reg (m:M) (n:Int):Int:=if n=0 then m.rB else if n=1 then m.rC else if n=2 then m.rD else if n=3 then m.rE else if n=4 then m.rH else if n=5 then m.rL else m.ra
def setR (m:M) (n v:Int):M:=if n=0 then { m with rB:=v } else if n=1 then { m with rC:=v } else if n=2 then { m with rD:=v } else if n=3 then { m with rE:=v } else if n=4 then { m with rH:=v } else if n=5 then { m with rL:=v } else { m with ra:=v }
def get (m:M) (n:Int):Int:=if n=6 then rd m (hl m) else reg m n
def put (s:S) (n v:Int):S:=if n=6 then wr s (hl s.m) v else ⟨setR s.m n v,s.full⟩
def pr (m:M) (p:Int):Int:=if p=0 then 256*m.rB+m.rC else if p=1 then 256*m.rD+m.rE else if p=2 then 256*m.rH+m.rL else m.sp
def setP (m:M) (p v:Int):M:=if p=0 then { m with rB:=v / 256,rC:=v%256 } else if p=1 then { m with rD:=v / 256,rE:=v%256 } else if p=2 then { m with rH:=v / 256,rL:=v%256 } else { m with sp:=v }
def prQ (m:M) (p:Int):Int:=if p=3 then 256*m.ra+m.rf else pr m p
def setQ (m:M) (p v:Int):M:=if p=3 then { m with ra:=v / 256,rf:=v%256 / 16*16 } else setP m p v
def push (s:S) (v:Int):S:=⟨{ (wr (wr s (s.m.sp+65535) (v / 256)) (s.m.sp+65534) (v%256)).m with sp:=(s.m.sp+65534)%65536 },(wr (wr s (s.m.sp+65535) (v / 256)) (s.m.sp+65534) (v%256)).full⟩
def popV (m:M):Int:=rd m m.sp+256*rd m ((m.sp+1)%65536)
def popM (m:M):M:={ m with sp:=(m.sp+2)%65536 }
def cond (m:M) (k:Int):Bool:=decide (m.rf / (if 1<k then 16 else 128)%2=k%2)
def bitV (y:Int):Int:=if y=0 then 1 else if y=1 then 2 else if y=2 then 4 else if y=3 then 8 else if y=4 then 16 else if y=5 then 32 else if y=6 then 64 else 128
def F (s:S) (f:Int):S:=⟨{ s.m with rf:=f },s.full⟩
def AF (s:S) (p:Int × Int):S:=⟨{ s.m with ra:=p.1,rf:=p.2 },s.full⟩
def cbE (code:Int) (s:S):S :=
 if code / 64=0 then F (put s (code%8) (trnR (code / 8%8) (get s.m (code%8)) s.m.rf).1) (trnR (code / 8%8) (get s.m (code%8)) s.m.rf).2
 else if code / 64=1 then F s (fl (decide (bits .and .i64 (get s.m (code%8)) (bitV (code / 8%8))=0)) false true (cB s.m.rf))
 else if code / 64=2 then put s (code%8) (bits .andNot .i64 (get s.m (code%8)) (bitV (code / 8%8)))
 else put s (code%8) (bits .or .i64 (get s.m (code%8)) (bitV (code / 8%8)))
def oddE (y:Int) (s:S):S :=
 if y=4 then AF s (daaR s.m.ra s.m.rf)
 else if y=5 then AF s (255-s.m.ra,fl (zB s.m.rf) true true (cB s.m.rf))
 else if y=6 then F s (fl (zB s.m.rf) false false true)
 else if y=7 then F s (fl (zB s.m.rf) false false (!cB s.m.rf))
 else AF s ((trnR y s.m.ra s.m.rf).1,fl false false false (cB (trnR y s.m.ra s.m.rf).2))
def spE (imm:Int) (s:S):S:=wr (wr s imm (s.m.sp%256)) (imm+1) (s.m.sp / 256)
def jrE (imm:Int) (s:S):S:=⟨{ s.m with pc:=(s.m.pc+sgn imm+65536)%65536 },s.full⟩
def addE (p:Int) (s:S):S:=⟨{ setP s.m 2 (awR (hl s.m) (pr s.m p) s.m.rf).1 with rf:=(awR (hl s.m) (pr s.m p) s.m.rf).2 },s.full⟩
def placeOf (m:M) (p:Int):Int:=pr m (if p<2 then p else 2)
def stepHl (m:M) (p:Int):M:=if 1<p then setP m 2 ((hl m+(if p=2 then 1 else 65535))%65536) else m
def stE (p:Int) (s:S):S:=⟨stepHl (wr s (placeOf s.m p) s.m.ra).m p,(wr s (placeOf s.m p) s.m.ra).full⟩
def ldE (p:Int) (s:S):S:=⟨stepHl { s.m with ra:=rd s.m (placeOf s.m p) } p,s.full⟩
def lowE (code imm:Int) (s:S):S × Bool :=
 if code%8=0 then (if code / 8=1 then (spE imm s,false) else if code / 8=3 \/ (3<code / 8/\cond s.m (code / 8-4)=true) then (jrE imm s,true) else (s,false))
 else if code%8=1 then (if code / 8%2=0 then (⟨setP s.m (code / 8 / 2) imm,s.full⟩,false) else (addE (code / 8 / 2) s,false))
 else if code%8=2 then (if code / 8%2=0 then (stE (code / 8 / 2) s,false) else (ldE (code / 8 / 2) s,false))
 else if code%8=3 then (⟨setP s.m (code / 8 / 2) ((pr s.m (code / 8 / 2)+(if code / 8%2=0 then 1 else 65535))%65536),s.full⟩,false)
 else if code%8=4 then (F (put s (code / 8) (st8R (get s.m (code / 8)) s.m.rf false).1) (st8R (get s.m (code / 8)) s.m.rf false).2,false)
 else if code%8=5 then (F (put s (code / 8) (st8R (get s.m (code / 8)) s.m.rf true).1) (st8R (get s.m (code / 8)) s.m.rf true).2,false)
 else if code%8=6 then (put s (code / 8) imm,false)
 else (oddE (code / 8) s,false)
def retE (i:Bool) (s:S):S:=⟨{ popM s.m with pc:=popV s.m,ime:=s.m.ime || i },s.full⟩
def A (s:S) (v:Int):S:=⟨{ s.m with ra:=v },s.full⟩
def callE (at_:Int) (s:S):S:=⟨{ (push s s.m.pc).m with pc:=at_ },(push s s.m.pc).full⟩
def topE (code imm:Int) (s:S):S × Bool :=
 if (code%8=0/\code / 8%8<4/\cond s.m (code / 8%8)=true) \/ code=201 \/ code=217 then (retE (decide (code=217)) s,true)
 else if code=224 then (wr s (65280+imm) s.m.ra,false)
 else if code=226 then (wr s (65280+s.m.rC) s.m.ra,false)
 else if code=240 then (A s (rd s.m (65280+imm)),false)
 else if code=242 then (A s (rd s.m (65280+s.m.rC)),false)
 else if code=234 then (wr s imm s.m.ra,false)
 else if code=250 then (A s (rd s.m imm),false)
 else if code=232 then (⟨{ s.m with sp:=(asR s.m.sp imm).1,rf:=(asR s.m.sp imm).2 },s.full⟩,false)
 else if code=248 then (⟨{ setP s.m 2 (asR s.m.sp imm).1 with rf:=(asR s.m.sp imm).2 },s.full⟩,false)
 else if code=249 then (⟨{ s.m with sp:=hl s.m },s.full⟩,false)
 else if code=233 then (⟨{ s.m with pc:=hl s.m },s.full⟩,false)
 else if code%8=1/\code / 8%8%2=0 then (⟨setQ (popM s.m) (code / 8%8 / 2) (popV s.m),s.full⟩,false)
 else if code%8=5/\code / 8%8%2=0 then (push s (prQ s.m (code / 8%8 / 2)),false)
 else if (code%8=2/\code / 8%8<4/\cond s.m (code / 8%8)=true) \/ code=195 then (⟨{ s.m with pc:=imm },s.full⟩,true)
 else if code=243 \/ code=251 then (⟨{ s.m with ime:=decide (code=251) },s.full⟩,false)
 else if (code%8=4/\cond s.m (code / 8%8)=true) \/ code=205 then (callE imm s,true)
 else if code%8=6 then (AF s (aluR (code / 8%8) s.m.ra imm s.m.rf),false)
 else if code%8=7 then (callE (8*(code / 8%8)) s,false)
 else (s,false)
def sem (code:Int) (cb:Bool) (imm:Int) (s:S):S × Bool :=
 if cb=true then (cbE code s,false)
 else if code<64 then lowE code imm s
 else if code=118 then (⟨{ s.m with hal:=true },s.full⟩,false)
 else if code<128 then (put s (code / 8%8) (get s.m (code%8)),false)
 else if code<192 then (AF s (aluR (code / 8%8) s.m.ra (get s.m (code%8)) s.m.rf),false)
 else topE code imm s
def withCpu (m c:M):M:={ m with ra:=c.ra,rf:=c.rf,rB:=c.rB,rC:=c.rC,rD:=c.rD,rE:=c.rE,rH:=c.rH,rL:=c.rL,sp:=c.sp,pc:=c.pc,ime:=c.ime,hal:=c.hal,cyc:=c.cyc }
theorem wrM_cpu (m c:M) (a v:Int):wrM (withCpu m c) a v=(wrM m a v).map (fun m'=>withCpu m' c):=by
 unfold wrM
 by_cases h1:inB a 49152 49407=true
 ·rw [if_pos h1,if_pos h1];rfl
 rw [if_neg h1,if_neg h1]
 by_cases h2:inB a 65408 65534=true
 ·rw [if_pos h2,if_pos h2];rfl
 rw [if_neg h2,if_neg h2]
 by_cases h3:a=65281
 ·rw [if_pos h3,if_pos h3]
  by_cases h4:100<=m.out.length
  ·have h5:100<=(withCpu m c).out.length:=h4
   rw [if_pos h4,if_pos h5];rfl
  ·have h5:¬ 100<=(withCpu m c).out.length:=h4
   rw [if_neg h4,if_neg h5];rfl
 ·rw [if_neg h3,if_neg h3];rfl
theorem withCpu_self (m:M):withCpu m m=m:=rfl
theorem wrM_same {m m':M} {a v:Int} (h:wrM m a v=some m'):withCpu m' m=m':=by
 have h2:=wrM_cpu m m a v
 rw [withCpu_self,h] at h2
 exact (Option.some.inj h2).symm
theorem wr_cpu (m c:M) (f:Bool) (a v:Int):wr ⟨withCpu m c,f⟩ a v=⟨withCpu (wr ⟨m,f⟩ a v).m c,(wr ⟨m,f⟩ a v).full⟩:=by
 unfold wr
 have h:=wrM_cpu m c (a%65536) v
 simp only []
 rw [h]
 cases wrM m (a%65536) v <;> rfl
theorem wr_same (s:S) (a v:Int):withCpu (wr s a v).m s.m=(wr s a v).m:=by
 unfold wr
 cases h:wrM s.m (a%65536) v with
 | none=>rfl
 | some m'=>exact wrM_same h
end Go.Proofs.YtnjolmbdbgbmbaaGreatDoor.Stpp
namespace Go.Proofs.YtnjolmbdbgbmbaaGreatDoor.Stpq
open Signed (inB sgn)
open Reck ReckS ReckM ReckD TurnS
open Busw (M wrM Rt)
open Busx (okMM Sm rt_of)
open Stpp
theorem cart_ok (rom:ByteArray) (kind bank:Int) (ram:ByteArray) (rb:Int) (on:Bool) (mode ad v:Int) (h:Carts.okB rom kind bank ram rb on mode=true) (a0:0<=ad) (a1:ad<=65535) (v0:0<=v) (v1:v<=255) :
  Carts.okB rom kind (CartY.wBank kind bank ad v) (CartY.wRam kind ram rb on mode ad v) (CartY.wRb kind rb ad v) (CartY.wOn kind on ad v) (CartY.wMode kind mode ad v)=true/\(CartY.wRam kind ram rb on mode ad v).size=256:=by
 obtain ⟨n,n0,n1,hn,hbk,hm,b0,b1,r0,r1,m0,m1,hk⟩:=CartM.right rom kind bank ram rb on mode h
 have hms:(CartY.wRam kind ram rb on mode ad v).size=256:=by
  unfold CartY.wRam
  repeat' split
  all_goals first|exact hm|(rw [CartP.putB_size];exact hm)
 have hh:Carts.heldB kind bank rb on mode=true/\Carts.romB rom.size=true:=by
  have h':=h
  simp only [Carts.okB,Bool.and_eq_true] at h'
  exact h'.1
 have hok:Carts.okB rom kind (CartY.wBank kind bank ad v) (CartY.wRam kind ram rb on mode ad v) (CartY.wRb kind rb ad v) (CartY.wOn kind on ad v) (CartY.wMode kind mode ad v)=true:=by
  simp only [Carts.okB,Bool.and_eq_true,beq_iff_eq]
  refine ⟨⟨?_,hh.2⟩,hms⟩
  have g:=hh.1
  unfold Carts.heldB at g |-
  rcases hk with ⟨rfl,hon⟩|rfl|⟨rfl,hmode⟩
  ·rw [if_pos rfl] at g |-
   have g:=of_decide_eq_true g
   refine decide_eq_true ⟨?_,?_,?_,?_⟩
   ·unfold CartY.wBank;split
    ·rw [if_neg (by omega),if_neg (by omega)];exact g.1
    ·exact g.1
   ·unfold CartY.wRb;rw [if_neg (by omega)];exact g.2.1
   ·unfold CartY.wMode;rw [if_neg (by omega)];exact g.2.2.1
   ·unfold CartY.wOn;rw [if_neg (by omega)];exact g.2.2.2
  ·rw [if_neg (by omega),if_pos rfl] at g |-
   simp only [Bool.and_eq_true] at g |-
   have g1:=of_decide_eq_true g.1.1
   have g2:=of_decide_eq_true g.1.2
   have g3:=of_decide_eq_true g.2
   refine ⟨⟨decide_eq_true ?_,decide_eq_true ?_⟩,decide_eq_true ?_⟩
   ·unfold CartY.wBank;split
    ·rw [if_pos rfl];unfold CartW.bank1;split <;> omega
    ·exact g1
   ·unfold CartY.wRb;split
    ·omega
    ·exact g2
   ·unfold CartY.wMode;split
    ·omega
    ·exact g3
  ·rw [if_neg (by omega),if_neg (by omega),if_pos rfl] at g |-
   simp only [Bool.and_eq_true,beq_iff_eq] at g |-
   have g1:=of_decide_eq_true g.1.1
   have g2:=of_decide_eq_true g.1.2
   refine ⟨⟨decide_eq_true ?_,decide_eq_true ?_⟩,?_⟩
   ·unfold CartY.wBank;split
    ·rw [if_neg (by omega),if_pos rfl];omega
    ·exact g1
   ·unfold CartY.wRb;split
    ·omega
    ·exact g2
   ·unfold CartY.wMode;rw [if_neg (by omega)];exact g.2
 exact ⟨hok,hms⟩
structure Good (m:M):Prop where
 a:0<=m.ra/\m.ra<=255
 f:0<=m.rf/\m.rf<=255
 b:0<=m.rB/\m.rB<=255
 c:0<=m.rC/\m.rC<=255
 d:0<=m.rD/\m.rD<=255
 e:0<=m.rE/\m.rE<=255
 h:0<=m.rH/\m.rH<=255
 l:0<=m.rL/\m.rL<=255
 f16:m.rf%16=0
 sp:0<=m.sp/\m.sp<=65535
 pc:0<=m.pc/\m.pc<=65535
 rt:Rt m
 outs:MachO.byteL m.out=true
theorem in_bd {n:Int} (h:inB n 0 255=true):0<=n/\n<=255:=of_decide_eq_true h
theorem good_of {m:M} (h:okMM m=true) (hs:Sm m):Good m/\0<=m.cyc/\m.cyc<=1000000000:=by
 have hr:=rt_of h hs
 unfold okMM MachK.okM MachO.cpuB MachO.byteL MachO.regL at h
 simp only [Bool.and_eq_true,decide_eq_true_eq,List.all_cons,List.all_nil,beq_iff_eq] at h
 obtain ⟨⟨⟨⟨⟨⟨⟨⟨⟨⟨⟨ha,hf,hB,hC,hD,hE,hH,hL,_⟩,h16⟩,hsp⟩,hpc⟩,_⟩,_⟩,_⟩,_⟩,ho⟩,c0⟩,c1⟩:=h
 exact ⟨⟨in_bd ha,in_bd hf,in_bd hB,in_bd hC,in_bd hD,in_bd hE,in_bd hH,in_bd hL,h16,of_decide_eq_true hsp,of_decide_eq_true hpc,hr,ho⟩,c0,c1⟩
theorem wrM_good {m m':M} {a v:Int} (h:Good m) (a0:0<=a) (a1:a<=65535) (v0:0<=v) (v1:v<=255) (hw:wrM m a v=some m'):Good m':=by
 have hr:=h.rt
 unfold wrM at hw
 split at hw
 ·cases hw
  exact ⟨h.a,h.f,h.b,h.c,h.d,h.e,h.h,h.l,h.f16,h.sp,h.pc,⟨hr.cart,(CartP.putB_size _ _ _).trans hr.work,hr.high,hr.out,hr.rom,hr.ram⟩,h.outs⟩
 ·split at hw
  ·cases hw
   exact ⟨h.a,h.f,h.b,h.c,h.d,h.e,h.h,h.l,h.f16,h.sp,h.pc,⟨hr.cart,hr.work,(CartP.putB_size _ _ _).trans hr.high,hr.out,hr.rom,hr.ram⟩,h.outs⟩
  ·split at hw
   ·split at hw
    ·cases hw
    ·cases hw
     refine ⟨h.a,h.f,h.b,h.c,h.d,h.e,h.h,h.l,h.f16,h.sp,h.pc,⟨hr.cart,hr.work,hr.high,?_,hr.rom,hr.ram⟩,?_⟩
     ·show (m.out ++ [v]).length<=100
      rw [List.length_append];simp;omega
     ·have ho:=h.outs
      unfold MachO.byteL at ho |-
      show (m.out ++ [v]).all _=true
      rw [List.all_append,ho]
      simp only [List.all_cons,List.all_nil,Bool.and_true,Bool.true_and]
      exact decide_eq_true ⟨v0,v1⟩
   ·cases hw
    have hc:=cart_ok m.rom m.kind m.bank m.ram m.rb m.on m.mode a v hr.cart a0 a1 v0 v1
    exact ⟨h.a,h.f,h.b,h.c,h.d,h.e,h.h,h.l,h.f16,h.sp,h.pc,⟨hc.1,hr.work,hr.high,hr.out,hr.rom,by show (CartY.wRam _ _ _ _ _ _ _).size<=_;rw [hc.2];decide⟩,h.outs⟩
theorem wr_good {s:S} (h:Good s.m) (a v:Int) (v0:0<=v) (v1:v<=255):Good (wr s a v).m:=by
 unfold wr
 split
 ·rename_i m' hw
  exact wrM_good h (by omega) (by omega) v0 v1 hw
 ·exact h
theorem get_bd {m:M} (h:Good m) (n:Int):0<=get m n/\get m n<=255:=by
 unfold Stpp.get
 split
 ·exact rd_bd _ _
 ·unfold reg
  repeat' split
  all_goals first|exact h.b|exact h.c|exact h.d|exact h.e|exact h.h|exact h.l|exact h.a
theorem setR_good {m:M} (h:Good m) (n v:Int) (v0:0<=v) (v1:v<=255):Good (setR m n v):=by
 obtain ⟨ha,hf,hb,hc,hd,he,hh,hl,h16,hsp,hpc,hr,ho⟩:=h
 unfold setR
 repeat' split
 all_goals exact ⟨by first|exact ha|exact ⟨v0,v1⟩,hf,by first|exact hb|exact ⟨v0,v1⟩,by first|exact hc|exact ⟨v0,v1⟩,by first|exact hd|exact ⟨v0,v1⟩,by first|exact he|exact ⟨v0,v1⟩,by first|exact hh|exact ⟨v0,v1⟩,by first|exact hl|exact ⟨v0,v1⟩,h16,hsp,hpc,⟨hr.cart,hr.work,hr.high,hr.out,hr.rom,hr.ram⟩,ho⟩
theorem put_good {s:S} (h:Good s.m) (n v:Int) (v0:0<=v) (v1:v<=255):Good (put s n v).m:=by
 unfold put
 split
 ·exact wr_good h _ v v0 v1
 ·exact setR_good h n v v0 v1
theorem setP_good {m:M} (h:Good m) (p v:Int) (v0:0<=v) (v1:v<=65535):Good (setP m p v):=by
 obtain ⟨ha,hf,hb,hc,hd,he,hh,hl,h16,hsp,hpc,hr,ho⟩:=h
 have q1:0<=v / 256/\v / 256<=255:=by omega
 have q2:0<=v%256/\v%256<=255:=by omega
 unfold setP
 repeat' split
 all_goals exact ⟨ha,hf,by first|exact hb|exact q1,by first|exact hc|exact q2,by first|exact hd|exact q1,by first|exact he|exact q2,by first|exact hh|exact q1,by first|exact hl|exact q2,h16,by first|exact hsp|exact ⟨v0,v1⟩,hpc,⟨hr.cart,hr.work,hr.high,hr.out,hr.rom,hr.ram⟩,ho⟩
theorem hl_bd {m:M} (h:Good m):0<=hl m/\hl m<=65535:=by have:=h.h;have:=h.l;unfold hl;omega
theorem pr_bd {m:M} (h:Good m) (p:Int):0<=pr m p/\pr m p<=65535:=by
 have:=h.b;have:=h.c;have:=h.d;have:=h.e;have:=h.h;have:=h.l;have:=h.sp
 unfold pr
 repeat' split
 all_goals omega
theorem prQ_bd {m:M} (h:Good m) (p:Int):0<=prQ m p/\prQ m p<=65535:=by
 have:=h.a;have:=h.f
 unfold prQ
 split
 ·omega
 ·exact pr_bd h p
theorem good_f {m:M} (h:Good m) (f:Int) (f0:0<=f) (f1:f<=255) (f2:f%16=0):Good { m with rf:=f } :=
 ⟨h.a,⟨f0,f1⟩,h.b,h.c,h.d,h.e,h.h,h.l,f2,h.sp,h.pc,⟨h.rt.cart,h.rt.work,h.rt.high,h.rt.out,h.rt.rom,h.rt.ram⟩,h.outs⟩
theorem good_a {m:M} (h:Good m) (v:Int) (v0:0<=v) (v1:v<=255):Good { m with ra:=v } :=
 ⟨⟨v0,v1⟩,h.f,h.b,h.c,h.d,h.e,h.h,h.l,h.f16,h.sp,h.pc,⟨h.rt.cart,h.rt.work,h.rt.high,h.rt.out,h.rt.rom,h.rt.ram⟩,h.outs⟩
theorem good_sp {m:M} (h:Good m) (v:Int) (v0:0<=v) (v1:v<=65535):Good { m with sp:=v } :=
 ⟨h.a,h.f,h.b,h.c,h.d,h.e,h.h,h.l,h.f16,⟨v0,v1⟩,h.pc,⟨h.rt.cart,h.rt.work,h.rt.high,h.rt.out,h.rt.rom,h.rt.ram⟩,h.outs⟩
theorem good_pc {m:M} (h:Good m) (v:Int) (v0:0<=v) (v1:v<=65535):Good { m with pc:=v } :=
 ⟨h.a,h.f,h.b,h.c,h.d,h.e,h.h,h.l,h.f16,h.sp,⟨v0,v1⟩,⟨h.rt.cart,h.rt.work,h.rt.high,h.rt.out,h.rt.rom,h.rt.ram⟩,h.outs⟩
theorem good_i {m:M} (h:Good m) (i j:Bool) (c:Int):Good { m with ime:=i,hal:=j,cyc:=c } :=
 ⟨h.a,h.f,h.b,h.c,h.d,h.e,h.h,h.l,h.f16,h.sp,h.pc,⟨h.rt.cart,h.rt.work,h.rt.high,h.rt.out,h.rt.rom,h.rt.ram⟩,h.outs⟩
theorem fl_bd (z n h c:Bool):0<=fl z n h c/\fl z n h c<=255/\fl z n h c%16=0:=by cases z <;> cases n <;> cases h <;> cases c <;> decide
theorem fl_good {m:M} (h:Good m) (z n k c:Bool):Good { m with rf:=fl z n k c }:=good_f h _ (fl_bd z n k c).1 (fl_bd z n k c).2.1 (fl_bd z n k c).2.2
theorem af_good {s:S} (h:Good s.m) (p:Int × Int) (a0:0<=p.1) (a1:p.1<=255) (f0:0<=p.2) (f1:p.2<=255) (f2:p.2%16=0):Good (AF s p).m:=good_f (good_a h p.1 a0 a1) p.2 f0 f1 f2
theorem push_good {s:S} (h:Good s.m) (v:Int) (v0:0<=v) (v1:v<=65535):Good (push s v).m:=by
 have hsp:=h.sp
 exact good_sp (wr_good (wr_good h _ _ (by omega) (by omega)) _ _ (by omega) (by omega)) _ (by omega) (by omega)
theorem popV_bd (m:M):0<=popV m/\popV m<=65535:=by
 have h1:=rd_bd m m.sp
 have h2:=rd_bd m ((m.sp+1)%65536)
 unfold popV;omega
theorem popM_good {m:M} (h:Good m):Good (popM m):=good_sp h _ (by omega) (by omega)
theorem setQ_good {m:M} (h:Good m) (p v:Int) (v0:0<=v) (v1:v<=65535):Good (setQ m p v):=by
 unfold setQ
 split
 ·exact good_f (good_a h (v / 256) (by omega) (by omega)) _ (by omega) (by omega) (by omega)
 ·exact setP_good h p v v0 v1
theorem bits_le {a b:Int} (a0:0<=a) (a1:a<=255) (b0:0<=b) (b1:b<=255):(0<=bits .and .i64 a b/\bits .and .i64 a b<=255)/\(0<=bits .or .i64 a b/\bits .or .i64 a b<=255)/\(0<=bits .xor .i64 a b/\bits .xor .i64 a b<=255):=by
 have h1:a.toNat &&& b.toNat<2 ^ 8:=Nat.and_lt_two_pow _ (by omega)
 have h2:a.toNat ||| b.toNat<2 ^ 8:=Nat.or_lt_two_pow (by omega) (by omega)
 have h3:a.toNat ^^^ b.toNat<2 ^ 8:=Nat.xor_lt_two_pow (by omega) (by omega)
 rw [bits_and a0 a1 b0 b1,bits_or a0 a1 b0 b1,bits_xor a0 a1 b0 b1]
 omega
theorem alu_bd {op a b f:Int} (a0:0<=a) (a1:a<=255) (b0:0<=b) (b1:b<=255) (o0:0<=op) (o1:op<=7):0<=(aluR op a b f).1/\(aluR op a b f).1<=255/\0<=(aluR op a b f).2/\(aluR op a b f).2<=255/\(aluR op a b f).2%16=0:=by
 obtain ⟨k1,k2,k3⟩:=bits_le a0 a1 b0 b1
 have ho:op=0 \/ op=1 \/ op=2 \/ op=3 \/ op=4 \/ op=5 \/ op=6 \/ op=7:=by omega
 rcases ho with rfl|rfl|rfl|rfl|rfl|rfl|rfl|rfl
 ·rw [aluR_0];exact ⟨by show 0<=(_:Int)%256;omega,by show (_:Int)%256<=255;omega,fl_bd _ _ _ _⟩
 ·rw [aluR_1];exact ⟨by show 0<=(_:Int)%256;omega,by show (_:Int)%256<=255;omega,fl_bd _ _ _ _⟩
 ·rw [aluR_2];exact ⟨by show 0<=(_:Int)%256;omega,by show (_:Int)%256<=255;omega,fl_bd _ _ _ _⟩
 ·rw [aluR_3];exact ⟨by show 0<=(_:Int)%256;omega,by show (_:Int)%256<=255;omega,fl_bd _ _ _ _⟩
 ·rw [aluR_4];exact ⟨k1.1,k1.2,fl_bd _ _ _ _⟩
 ·rw [aluR_5];exact ⟨k3.1,k3.2,fl_bd _ _ _ _⟩
 ·rw [aluR_6];exact ⟨k2.1,k2.2,fl_bd _ _ _ _⟩
 ·rw [aluR_7,aluR_2];exact ⟨a0,a1,fl_bd _ _ _ _⟩
theorem st8_bd {v f:Int} (d:Bool):0<=(st8R v f d).1/\(st8R v f d).1<=255/\0<=(st8R v f d).2/\(st8R v f d).2<=255/\(st8R v f d).2%16=0:=by
 unfold st8R
 split
 ·exact ⟨by show 0<=(_:Int)%256;omega,by show (_:Int)%256<=255;omega,fl_bd _ _ _ _⟩
 ·exact ⟨by show 0<=(_:Int)%256;omega,by show (_:Int)%256<=255;omega,fl_bd _ _ _ _⟩
theorem aw_bd (a b f:Int):0<=(awR a b f).1/\(awR a b f).1<=65535/\0<=(awR a b f).2/\(awR a b f).2<=255/\(awR a b f).2%16=0:=⟨by show 0<=(_:Int)%65536;omega,by show (_:Int)%65536<=65535;omega,fl_bd _ _ _ _⟩
theorem as_bd (a b:Int):0<=(asR a b).1/\(asR a b).1<=65535/\0<=(asR a b).2/\(asR a b).2<=255/\(asR a b).2%16=0:=⟨by show 0<=(_:Int)%65536;omega,by show (_:Int)%65536<=65535;omega,fl_bd _ _ _ _⟩
theorem daa_bd (a f:Int):0<=(daaR a f).1/\(daaR a f).1<=255/\0<=(daaR a f).2/\(daaR a f).2<=255/\(daaR a f).2%16=0:=⟨by show 0<=(_:Int)%256;omega,by show (_:Int)%256<=255;omega,fl_bd _ _ _ _⟩
theorem trnP_bd {op v c:Int} (v0:0<=v) (v1:v<=255) (c0:0<=c) (c1:c<=1):0<=(trnP op v c).1/\(trnP op v c).1<=255:=by
 unfold trnP
 repeat' split
 all_goals simp only []
 all_goals omega
theorem trn_bd {op v f:Int} (v0:0<=v) (v1:v<=255):0<=(trnR op v f).1/\(trnR op v f).1<=255/\0<=(trnR op v f).2/\(trnR op v f).2<=255/\(trnR op v f).2%16=0:=by
 obtain ⟨c0,c1⟩:=cy_bd f
 have h:=trnP_bd (op:=op) v0 v1 c0 c1
 exact ⟨h.1,h.2,fl_bd _ _ _ _⟩
theorem bitV_cases (y:Int):bitV y=1 \/ bitV y=2 \/ bitV y=4 \/ bitV y=8 \/ bitV y=16 \/ bitV y=32 \/ bitV y=64 \/ bitV y=128:=by
 unfold bitV
 repeat' split
 all_goals decide
theorem andNot_all:∀ (v:Fin 256) (k:Fin 8),0<=bits .andNot .i64 (v.val:Int) (2 ^ k.val:Int)/\bits .andNot .i64 (v.val:Int) (2 ^ k.val:Int)<=255:=by decide +kernel
theorem bitV_pow (y:Int):∃ k:Fin 8,bitV y=2 ^ k.val:=by
 rcases bitV_cases y with h|h|h|h|h|h|h|h
 all_goals first|exact ⟨0,h⟩|exact ⟨1,h⟩|exact ⟨2,h⟩|exact ⟨3,h⟩|exact ⟨4,h⟩|exact ⟨5,h⟩|exact ⟨6,h⟩|exact ⟨7,h⟩
theorem andNot_bd {v:Int} (v0:0<=v) (v1:v<=255) (y:Int):0<=bits .andNot .i64 v (bitV y)/\bits .andNot .i64 v (bitV y)<=255:=by
 obtain ⟨k,hk⟩:=bitV_pow y
 have h:=andNot_all ⟨v.toNat,by omega⟩ k
 rw [hk]
 have e:((v.toNat:Nat):Int)=v:=by omega
 simpa [e] using h
theorem orBit_bd {v:Int} (v0:0<=v) (v1:v<=255) (y:Int):0<=bits .or .i64 v (bitV y)/\bits .or .i64 v (bitV y)<=255:=by
 have h:=bitV_cases y
 exact (bits_le v0 v1 (by omega) (by omega)).2.1
theorem cb_good {s:S} (h:Good s.m) (code:Int):Good (cbE code s).m:=by
 have hg:=get_bd h (code%8)
 unfold cbE
 split
 ·have ht:=trn_bd (op:=code / 8%8) (f:=s.m.rf) hg.1 hg.2
  exact good_f (put_good h _ _ ht.1 ht.2.1) _ ht.2.2.1 ht.2.2.2.1 ht.2.2.2.2
 ·split
  ·exact fl_good h _ _ _ _
  ·split
   ·have ht:=andNot_bd hg.1 hg.2 (code / 8%8)
    exact put_good h _ _ ht.1 ht.2
   ·have ht:=orBit_bd hg.1 hg.2 (code / 8%8)
    exact put_good h _ _ ht.1 ht.2
theorem odd_good {s:S} (h:Good s.m) (y:Int):Good (oddE y s).m:=by
 have ha:=h.a
 unfold oddE
 split
 ·have ht:=daa_bd s.m.ra s.m.rf
  exact af_good h _ ht.1 ht.2.1 ht.2.2.1 ht.2.2.2.1 ht.2.2.2.2
 ·split
  ·have ht:=fl_bd (zB s.m.rf) true true (cB s.m.rf)
   exact af_good h _ (by simp only [];omega) (by simp only [];omega) ht.1 ht.2.1 ht.2.2
  ·split
   ·exact fl_good h _ _ _ _
   ·split
    ·exact fl_good h _ _ _ _
    ·have ht:=trn_bd (op:=y) (f:=s.m.rf) ha.1 ha.2
     have hf:=fl_bd false false false (cB (trnR y s.m.ra s.m.rf).2)
     exact af_good h _ ht.1 ht.2.1 hf.1 hf.2.1 hf.2.2
theorem sgn_bd (b:Int):-128<=sgn b/\sgn b<=127:=ReckM.sgn_bd b
theorem stepHl_good {m:M} (h:Good m) (p:Int):Good (stepHl m p):=by
 unfold stepHl
 split
 ·exact setP_good h 2 _ (by omega) (by omega)
 ·exact h
def ImmOk (code:Int) (cb:Bool) (imm:Int):Prop:=cb=true \/ (0<=imm/\imm<=65535/\((code<64->code%8 ≠ 1->¬ (code%8=0/\code / 8=1)->imm<=255)/\(code=224 \/ code=240 \/ code=232 \/ code=248 \/ (192<=code/\code%8=6)->imm<=255)))
theorem low_good {s:S} (h:Good s.m) (code imm:Int) (c0:0<=code) (c1:code<64) (hi:ImmOk code false imm):Good (lowE code imm s).1.m:=by
 rcases hi with hi|⟨i0,i1,i2,i3⟩
 ·cases hi
 have hsp:=h.sp
 have hpc:=h.pc
 have hs:=sgn_bd imm
 unfold lowE
 split
 ·split
  ·exact wr_good (wr_good h _ _ (by omega) (by omega)) _ _ (by omega) (by omega)
  ·split
   ·exact good_pc h _ (by omega) (by omega)
   ·exact h
 ·split
  ·split
   ·exact setP_good h _ _ i0 i1
   ·have ht:=aw_bd (hl s.m) (pr s.m (code / 8 / 2)) s.m.rf
    exact good_f (setP_good h 2 _ ht.1 ht.2.1) _ ht.2.2.1 ht.2.2.2.1 ht.2.2.2.2
  ·split
   ·split
    ·exact stepHl_good (wr_good h _ _ h.a.1 h.a.2) _
    ·have hr:=rd_bd s.m (placeOf s.m (code / 8 / 2))
     exact stepHl_good (good_a h _ hr.1 hr.2) _
   ·split
    ·exact setP_good h _ _ (by omega) (by omega)
    ·split
     ·have ht:=st8_bd (v:=get s.m (code / 8)) (f:=s.m.rf) false
      exact good_f (put_good h _ _ ht.1 ht.2.1) _ ht.2.2.1 ht.2.2.2.1 ht.2.2.2.2
     ·split
      ·have ht:=st8_bd (v:=get s.m (code / 8)) (f:=s.m.rf) true
       exact good_f (put_good h _ _ ht.1 ht.2.1) _ ht.2.2.1 ht.2.2.2.1 ht.2.2.2.2
      ·split
       ·exact put_good h _ _ i0 (i2 c1 (by omega) (by omega))
       ·exact odd_good h _
theorem call_good {s:S} (h:Good s.m) (v:Int) (v0:0<=v) (v1:v<=65535):Good (callE v s).m:=good_pc (push_good h _ h.pc.1 h.pc.2) _ v0 v1
theorem iteG {c:Prop} [Decidable c] {x y:S × Bool} (h1:c->Good x.1.m) (h2:¬ c->Good y.1.m):Good (if c then x else y).1.m:=by
 by_cases h:c
 ·rw [if_pos h];exact h1 h
 ·rw [if_neg h];exact h2 h
theorem top_good {s:S} (h:Good s.m) (code imm:Int) (c0:192<=code) (c1:code<=255) (hi:ImmOk code false imm):Good (topE code imm s).1.m:=by
 rcases hi with hi|⟨i0,i1,i2,i3⟩
 ·cases hi
 have hv:=popV_bd s.m
 have ht:=as_bd s.m.sp imm
 unfold topE
 refine iteG (fun _=>good_i (good_pc (popM_good h) _ hv.1 hv.2) _ _ _) (fun _=>?_)
 refine iteG (fun _=>wr_good h _ _ h.a.1 h.a.2) (fun _=>?_)
 refine iteG (fun _=>wr_good h _ _ h.a.1 h.a.2) (fun _=>?_)
 refine iteG (fun _=>good_a h _ (rd_bd _ _).1 (rd_bd _ _).2) (fun _=>?_)
 refine iteG (fun _=>good_a h _ (rd_bd _ _).1 (rd_bd _ _).2) (fun _=>?_)
 refine iteG (fun _=>wr_good h _ _ h.a.1 h.a.2) (fun _=>?_)
 refine iteG (fun _=>good_a h _ (rd_bd _ _).1 (rd_bd _ _).2) (fun _=>?_)
 refine iteG (fun _=>good_f (good_sp h _ ht.1 ht.2.1) _ ht.2.2.1 ht.2.2.2.1 ht.2.2.2.2) (fun _=>?_)
 refine iteG (fun _=>good_f (setP_good h 2 _ ht.1 ht.2.1) _ ht.2.2.1 ht.2.2.2.1 ht.2.2.2.2) (fun _=>?_)
 refine iteG (fun _=>good_sp h _ (hl_bd h).1 (hl_bd h).2) (fun _=>?_)
 refine iteG (fun _=>good_pc h _ (hl_bd h).1 (hl_bd h).2) (fun _=>?_)
 refine iteG (fun _=>setQ_good (popM_good h) _ _ hv.1 hv.2) (fun _=>?_)
 refine iteG (fun _=>push_good h _ (prQ_bd h _).1 (prQ_bd h _).2) (fun _=>?_)
 refine iteG (fun _=>good_pc h _ i0 i1) (fun _=>?_)
 refine iteG (fun _=>good_i h _ _ _) (fun _=>?_)
 refine iteG (fun _=>call_good h _ i0 i1) (fun _=>?_)
 refine iteG (fun h6=>?_) (fun _=>?_)
 ·have ht:=alu_bd (op:=code / 8%8) (f:=s.m.rf) h.a.1 h.a.2 i0 (i3 (.inr (.inr (.inr (.inr ⟨c0,h6⟩))))) (by omega) (by omega)
  exact af_good h _ ht.1 ht.2.1 ht.2.2.1 ht.2.2.2.1 ht.2.2.2.2
 refine iteG (fun _=>call_good h _ (by omega) (by omega)) (fun _=>h)
theorem sem_good {s:S} (h:Good s.m) (code:Int) (cb:Bool) (imm:Int) (c0:0<=code) (c1:code<=255) (hi:ImmOk code cb imm):Good (sem code cb imm s).1.m:=by
 unfold sem
 split
 ·exact cb_good h code
 have hcb:cb=false:=by cases cb <;> simp_all
 subst hcb
 split
 ·exact low_good h code imm c0 (by assumption) hi
 split
 ·exact good_i h _ _ _
 split
 ·exact put_good h _ _ (get_bd h _).1 (get_bd h _).2
 split
 ·have ht:=alu_bd (op:=code / 8%8) (f:=s.m.rf) h.a.1 h.a.2 (get_bd h (code%8)).1 (get_bd h (code%8)).2 (by omega) (by omega)
  exact af_good h _ ht.1 ht.2.1 ht.2.2.1 ht.2.2.2.1 ht.2.2.2.2
 ·exact top_good h code imm (by omega) c1 hi
end Go.Proofs.YtnjolmbdbgbmbaaGreatDoor.Stpq
namespace Go.Proofs.YtnjolmbdbgbmbaaGreatDoor.Qtail
open Go.RowKit
def anyT (P:Program) (md:Region.Mode) (ops:Array Oper) (C:World->Prop) (n:Nat) (L:Array Bool->Act->Prop):Nat->Array Bool->Act->Prop
 | 0,listed,a=>L listed a
 | f+1,listed,a =>
  Region.ready md ops listed ≠ []/\∀ i ∈ Region.ready md ops listed,i<n/\qOp P ops C i (anyT P md ops C n L f (listed.setIfInBounds i true)) a
theorem any_of_head {P:Program} {ops:Array Oper} {md:Region.Mode} {C:World->Prop} {n g:Nat} {L:Array Bool->Act->Prop} {Q':Exit->Act->World->Prop} (hL:∀ listed a w,C w->L listed a->wpAny P md ops Q' g listed a w) :
  ∀ (f:Nat) (listed:Array Bool) (a:Act) (w:World),C w->anyT P md ops C n L f listed a->wpAny P md ops Q' (f+g) listed a w
 | 0,listed,a,w,hw,h=>by rw [Nat.zero_add];exact hL _ _ _ hw h
 | f+1,listed,a,w,hw,h=>by
  rw [show f+1+g=(f+g)+1 by omega]
  exact ⟨fun h0=>absurd h0 h.1,fun i hi=>wpOp_of_qOp hw (fun a' w' hw' h'=>any_of_head hL f _ a' w' hw' h') (h.2 i hi).2⟩
theorem anyT_first {P:Program} {ops:Array Oper} {md:Region.Mode} {C:World->Prop} {n i:Nat} {oi:Oper} {v:Value} {L:Array Bool->Act->Prop} (hi:ops[i]? = some oi) (hsel:∀ (j:Nat) (o:Oper) cs b,ops[j]? = some o->o.op ≠ .select cs b)
  (hs:Region.sinkB md ops n=true) (hc:Region.chainB md ops n=true) (hn:n<ops.size) (hin:i<n)
  (hdone:∀ listed a,L listed a->∀ j ∈ Region.ready md ops listed,n<=j) :
  ∀ (f:Nat) (listed:Array Bool) (a:Act),HeadInv md ops n listed ->
   (∀ j oj,ops[j]? = some oj->j ≠ i->listed.getD j true=false->(∀ e ∈ oj.after,Region.binds md e=true->e.on ≠ i)->oi.apart ops oj=true) ->
   i ∈ Region.ready md ops listed->YieldsIn P ops C oi v a ->
   anyT P md ops C n L f (listed.setIfInBounds i true) (a.put oi.dst v)->anyT P md ops C n L (f+1) listed a:=by
 intro f
 induction f with
 | zero =>
  intro listed a inv _ hr hy H
  have hun:=(mem_ready.1 hr).1
  refine ⟨fun h=>(by rw [h] at hr;cases hr),fun j hj=>?_⟩
  have hjn:j<n:=by
   rcases Nat.lt_or_ge j n with h|h
   ·exact h
   ·exact absurd hj (tail_waits hs hc hn inv _ i rfl hin hun j h)
  refine ⟨hjn,?_⟩
  by_cases hji:j=i
  ·subst hji;exact hy.qOp hi H
  ·have:=hdone _ _ H j (ready_mono hj hji)
   omega
 | succ f ih =>
  intro listed a inv hfree hr hy H
  have hun:=(mem_ready.1 hr).1
  refine ⟨fun h=>(by rw [h] at hr;cases hr),fun j hj=>?_⟩
  have hjn:j<n:=by
   rcases Nat.lt_or_ge j n with h|h
   ·exact h
   ·exact absurd hj (tail_waits hs hc hn inv _ i rfl hin hun j h)
  refine ⟨hjn,?_⟩
  by_cases hji:j=i
  ·subst hji;exact hy.qOp hi H
  ·have h1:=(H.2 j (ready_mono hj hji)).2
   obtain ⟨hjun,oj,hoj,hall⟩:=mem_ready.1 hj
   have hnot:∀ e ∈ oj.after,Region.binds md e=true->e.on ≠ i:=fun e he hb heq=>by
    have h1:=hall e he hb
    rw [heq,getD_both hun] at h1
    cases h1
   have h2:=qOp_put hoj (hfree j oj hoj hji hjun hnot) (fun cs b=>hsel i oi cs b hi) (fun cs b=>hsel j oj cs b hoj) hy h1
   have hfree':∀ k ok,ops[k]? = some ok->k ≠ i->(listed.setIfInBounds j true).getD k true=false ->
     (∀ e ∈ ok.after,Region.binds md e=true->e.on ≠ i)->oi.apart ops ok=true:=fun k ok hk hki hun hno=>by
    refine hfree k ok hk hki ?_ hno
    by_cases hjk:j=k
    ·subst hjk;exact hjun
    ·rw [getD_set_ne true hjk] at hun;exact hun
   refine qOp_mono (fun a' h3=>ih (listed.setIfInBounds j true) a' (inv.set hj hjn) hfree' (ready_mono hr (Ne.symm hji)) h3.1 ?_) h2
   rw [Array.setIfInBounds_comm _ _ hji]
   exact h3.2
theorem anyT_lex {P:Program} {ops:Array Oper} {md:Region.Mode} {C:World->Prop} {n g:Nat} {Lq:Act->Prop} (hsel:Region.noSelect ops=true) (hs:Region.sinkB md ops n=true) (hc:Region.chainB md ops n=true) (hn:n<ops.size) :
  ∀ (l:List Oper) (k:Nat) (listed:Array Bool) (a:Act),(∀ j,j<l.length->l[j]? = ops[k+j]?)->k+l.length=n->HeadInv md ops n listed ->
  Region.lexHead md ops g l.length k listed=true->wpQuiet P ops C Lq l a ->
  anyT P md ops C n (fun listed' a'=>Region.seqB md ops g n listed'=true/\Lq a') l.length listed a
 | [],k,listed,a,_,hk,_,hB,h=>by
  have:k=n:=by simpa using hk
  subst this
  exact ⟨by simpa [Region.lexHead] using hB,h⟩
 | o :: l,k,listed,a,hl,hk,inv,hB,h=>by
  have h0:ops[k]? = some o:=by simpa using (hl 0 (by simp)).symm
  simp only [List.length_cons,Region.lexHead,Bool.and_eq_true] at hB
  obtain ⟨⟨hr,hf⟩,hB'⟩:=hB
  have hkn:k<n:=by simp only [List.length_cons] at hk;omega
  have hr':k ∈ Region.ready md ops listed:=by simpa using hr
  have hst:qOp P ops C k (wpQuiet P ops C Lq l) a:=by unfold qOp;simp only [h0];exact h
  obtain ⟨v,hy,hK⟩:=yieldsIn_of_qOp h0 hst
  exact anyT_first h0 (Region.noSelect_spec hsel) hs hc hn hkn (fun listed' a' hL=>seqB_ready hL.1) l.length listed a inv (Region.free_spec h0 hf) hr' hy
   (anyT_lex hsel hs hc hn l (k+1) _ _ (fun j hj=>by have:=hl (j+1) (by simp;omega);simpa [Nat.add_assoc,Nat.add_comm 1 j] using this) (by simp only [List.length_cons] at hk;omega) (inv.set hr' hkn) hB' hK)
theorem region_tail {P:Program} {C:World->Prop} {id:Nat} {Q:Exit->Act->World->Prop} {a:Act} {w:World} {l:List Oper} (n:Nat) (hm:P.follows .mixedOrders=true) (hB:Region.lexTailB .any l.toArray n=true) (hC:C { w with drawn:=w.drawn+1 })
  (h:wpQuiet P l.toArray C (fun a'=>∀ w',C w'->wpList P l.toArray Q (l.drop n) a' w') (l.take n) a):(Code.region id l.toArray true).wp P Q a w:=by
 simp only [Region.lexTailB,Bool.and_eq_true,decide_eq_true_eq] at hB
 obtain ⟨⟨⟨⟨hsel,hn⟩,hs⟩,hc⟩,hlex⟩:=hB
 have hn':n<l.length:=by simpa using hn
 have htl:(l.take n).length=n:=by simp;omega
 have hdl:(l.drop n).length=l.toArray.size-n:=by simp
 have inv0:HeadInv .any l.toArray n (Array.replicate l.toArray.size false) :=
  ⟨by simp,fun j oj _ hl=>(by rw [getD_replicate_false] at hl;cases hl),fun t _ ht=>getD_in (by simpa using ht) (getD_replicate_false _ _)⟩
 have H:=anyT_lex (md:=.any) (g:=l.toArray.size-n) hsel hs hc hn (l.take n) 0 _ a (fun j hj=>by
  have hj':j<n:=by rw [htl] at hj;exact hj
  simp [hj']) (by simpa using htl) inv0 (by rw [htl];exact hlex) h
 refine wp_region_any hm ?_
 have:=any_of_head (Q':=Q) (g:=l.toArray.size-n) (fun listed a' w' hw' hL=>by
  have:=wpAny_of_seq (md:=.any) (Q':=Q) (l.drop n) n listed a' w' (fun j=>by simp [List.getElem?_drop]) (by rw [hdl];exact hL.1) (hL.2 w' hw')
  rwa [hdl] at this) _ _ _ { w with drawn:=w.drawn+1 } hC H
 rw [htl,show n+(l.toArray.size-n)=l.toArray.size by omega] at this
 exact this
theorem tail_below {P:Program} {id:Nat} {Q:Exit->Act->World->Prop} {a:Act} {w:World} {l:List Oper} (n:Nat) (hm:P.follows .mixedOrders=true) (hB:Region.lexTailB .any l.toArray n=true)
  (h:wpQuiet P l.toArray (fun w'=>∃ p:Regrown,w'=Go.Sort.grow (redrawn w p.d) p.os) (fun a'=>∀ w',(∃ p:Regrown,w'=Go.Sort.grow (redrawn w p.d) p.os)->wpList P l.toArray Q (l.drop n) a' w') (l.take n) a):(Code.region id l.toArray true).wp P Q a w :=
 region_tail (C:=fun w'=>∃ p:Regrown,w'=Go.Sort.grow (redrawn w p.d) p.os) n hm hB ⟨⟨w.drawn+1,#[]⟩,by rw [Go.Sort.grow_empty];rfl⟩ h
end Go.Proofs.YtnjolmbdbgbmbaaGreatDoor.Qtail
namespace Go.Proofs.YtnjolmbdbgbmbaaGreatDoor.Tabs
open Signed (inB l1In_any)
def at8 (l:List ByteArray) (i:Int):ByteArray:=l.getD i.toNat ⟨#[]⟩
theorem cases8 {y:Int} (h0:0<=y) (h1:y<=7):y=0 \/ y=1 \/ y=2 \/ y=3 \/ y=4 \/ y=5 \/ y=6 \/ y=7:=by omega
theorem cases4 {y:Int} (h0:0<=y) (h1:y<=3):y=0 \/ y=1 \/ y=2 \/ y=3:=by omega
theorem ret_str {a b:ByteArray} (h:a=b):Ending.returned (.string a)=.returned (.string b):=by rw [h]
def bitW:List ByteArray:=[⟨#[]⟩,⟨#[98,105,116,32]⟩,⟨#[114,101,115,32]⟩,⟨#[115,101,116,32]⟩]
def decs:List ByteArray:=[⟨#[48]⟩,⟨#[49]⟩,⟨#[50]⟩,⟨#[51]⟩,⟨#[52]⟩,⟨#[53]⟩,⟨#[54]⟩,⟨#[55]⟩]
def regs:List ByteArray:=[⟨#[98]⟩,⟨#[99]⟩,⟨#[100]⟩,⟨#[101]⟩,⟨#[104]⟩,⟨#[108]⟩,⟨#[91,104,108,93]⟩,⟨#[97]⟩]
theorem regs_any (w:World) :
  Calls prog 229 #[] w fun e w'=>e=.returned (.slice (some ⟨w.heap.size,0,none⟩) 8 8)/\w'=w.alloc (.cells #[.string ⟨#[98]⟩,.string ⟨#[99]⟩,.string ⟨#[100]⟩,.string ⟨#[101]⟩,.string ⟨#[104]⟩,.string ⟨#[108]⟩,.string ⟨#[91,104,108,93]⟩,.string ⟨#[97]⟩] 9):=by
 go_enter func229,ntmps229
 go_wp2
 go_ret
 exact ⟨rfl,rfl⟩
theorem pairs_any (w:World) :
  Calls prog 243 #[] w fun e w'=>e=.returned (.slice (some ⟨w.heap.size,0,none⟩) 4 4)/\w'=w.alloc (.cells #[.string ⟨#[98,99]⟩,.string ⟨#[100,101]⟩,.string ⟨#[104,108]⟩,.string ⟨#[115,112]⟩] 9):=by
 go_enter func243,ntmps243
 go_wp2
 go_ret
 exact ⟨rfl,rfl⟩
theorem conds_any (w:World) :
  Calls prog 242 #[] w fun e w'=>e=.returned (.slice (some ⟨w.heap.size,0,none⟩) 4 4)/\w'=w.alloc (.cells #[.string ⟨#[110,122]⟩,.string ⟨#[122]⟩,.string ⟨#[110,99]⟩,.string ⟨#[99]⟩] 9):=by
 go_enter func242,ntmps242
 go_wp2
 go_ret
 exact ⟨rfl,rfl⟩
def alus:List ByteArray:=[⟨#[97,100,100]⟩,⟨#[97,100,99]⟩,⟨#[115,117,98]⟩,⟨#[115,98,99]⟩,⟨#[97,110,100]⟩,⟨#[120,111,114]⟩,⟨#[111,114]⟩,⟨#[99,112]⟩]
theorem alus_any (w:World) :
  Calls prog 232 #[] w fun e w'=>e=.returned (.slice (some ⟨w.heap.size,0,none⟩) 8 8)/\w'=w.alloc (.cells #[.string ⟨#[97,100,100]⟩,.string ⟨#[97,100,99]⟩,.string ⟨#[115,117,98]⟩,.string ⟨#[115,98,99]⟩,.string ⟨#[97,110,100]⟩,.string ⟨#[120,111,114]⟩,.string ⟨#[111,114]⟩,.string ⟨#[99,112]⟩] 9):=by
 go_enter func232,ntmps232
 go_wp2
 go_ret
 exact ⟨rfl,rfl⟩
def turns:List ByteArray:=[⟨#[114,108,99]⟩,⟨#[114,114,99]⟩,⟨#[114,108]⟩,⟨#[114,114]⟩,⟨#[115,108,97]⟩,⟨#[115,114,97]⟩,⟨#[115,119,97,112]⟩,⟨#[115,114,108]⟩]
theorem turns_any (w:World) :
  Calls prog 228 #[] w fun e w'=>e=.returned (.slice (some ⟨w.heap.size,0,none⟩) 8 8)/\w'=w.alloc (.cells #[.string ⟨#[114,108,99]⟩,.string ⟨#[114,114,99]⟩,.string ⟨#[114,108]⟩,.string ⟨#[114,114]⟩,.string ⟨#[115,108,97]⟩,.string ⟨#[115,114,97]⟩,.string ⟨#[115,119,97,112]⟩,.string ⟨#[115,114,108]⟩] 9):=by
 go_enter func228,ntmps228
 go_wp2
 go_ret
 exact ⟨rfl,rfl⟩
theorem regs_get {i:Int} (h0:0<=i) (h1:i<=7):(∀ h,([.string ⟨#[98]⟩,.string ⟨#[99]⟩,.string ⟨#[100]⟩,.string ⟨#[101]⟩,.string ⟨#[104]⟩,.string ⟨#[108]⟩,.string ⟨#[91,104,108,93]⟩,.string ⟨#[97]⟩]:List Value)[i.toNat]'h=.string (at8 regs i))/\(at8 regs i).size<=4:=by
 rcases cases8 h0 h1 with rfl|rfl|rfl|rfl|rfl|rfl|rfl|rfl
 all_goals exact ⟨fun _=>rfl,by decide⟩
theorem alus_get {i:Int} (h0:0<=i) (h1:i<=7):(∀ h,([.string ⟨#[97,100,100]⟩,.string ⟨#[97,100,99]⟩,.string ⟨#[115,117,98]⟩,.string ⟨#[115,98,99]⟩,.string ⟨#[97,110,100]⟩,.string ⟨#[120,111,114]⟩,.string ⟨#[111,114]⟩,.string ⟨#[99,112]⟩]:List Value)[i.toNat]'h=.string (at8 alus i))/\(at8 alus i).size<=4:=by
 rcases cases8 h0 h1 with rfl|rfl|rfl|rfl|rfl|rfl|rfl|rfl
 all_goals exact ⟨fun _=>rfl,by decide⟩
theorem turns_get {i:Int} (h0:0<=i) (h1:i<=7):(∀ h,([.string ⟨#[114,108,99]⟩,.string ⟨#[114,114,99]⟩,.string ⟨#[114,108]⟩,.string ⟨#[114,114]⟩,.string ⟨#[115,108,97]⟩,.string ⟨#[115,114,97]⟩,.string ⟨#[115,119,97,112]⟩,.string ⟨#[115,114,108]⟩]:List Value)[i.toNat]'h=.string (at8 turns i))/\(at8 turns i).size<=4:=by
 rcases cases8 h0 h1 with rfl|rfl|rfl|rfl|rfl|rfl|rfl|rfl
 all_goals exact ⟨fun _=>rfl,by decide⟩
theorem bitW_get {i:Int} (h0:0<=i) (h1:i<=3):(∀ h,([.string ⟨#[]⟩,.string ⟨#[98,105,116,32]⟩,.string ⟨#[114,101,115,32]⟩,.string ⟨#[115,101,116,32]⟩]:List Value)[i.toNat]'h=.string (at8 bitW i))/\(at8 bitW i).size<=4:=by
 rcases cases4 h0 h1 with rfl|rfl|rfl|rfl
 all_goals exact ⟨fun _=>rfl,by decide⟩
set_option maxRecDepth 100000 in
theorem dec_any (y:Int) (w:World) (h0:0<=y) (h1:y<=7) :
  Calls prog 230 #[.int .i64 y] w fun e w'=>e=.returned (.string (at8 decs y))/\w'=w.alloc (.cells #[.int .u8 (48+y)] 5):=by
 have hcv:∀ (u:World) (x:Int),(convert 48 9 (.slice (some ⟨u.heap.size,0,none⟩) 1 1)).run prog (u.alloc (.cells #[.int .u8 x] 5))=.ok (.string (strOfNums [x])) (u.alloc (.cells #[.int .u8 x] 5)):=fun u x =>
  run_convert_bytes_arg _ 48 5 underlying48 underlying5 u.heap.size 0 1 1 [x] rfl (fun i hi=>by
   rw [Nat.zero_add,World.cell?_alloc_new]
   match i,hi with
   | 0,_=>rfl) 9 underlying9
 have hsz:∀ x:Int,(strOfNums [x]).size=1:=fun _=>strOfNums_size _
 rcases cases8 h0 h1 with rfl|rfl|rfl|rfl|rfl|rfl|rfl|rfl
 all_goals
  go_enter func230,ntmps230
  go_wp2
  refine wp_loop_rounds 1 ?_
  rw [rounds_succ]
  go_wp2
  go_ret
  exact ⟨ret_str rfl,rfl⟩
def hex8:List ByteArray:=[⟨#[36,48,48]⟩,⟨#[36,48,56]⟩,⟨#[36,49,48]⟩,⟨#[36,49,56]⟩,⟨#[36,50,48]⟩,⟨#[36,50,56]⟩,⟨#[36,51,48]⟩,⟨#[36,51,56]⟩]
set_option maxRecDepth 100000 in
theorem hex_any (n:Int) (w:World) (h:n=0 \/ n=8 \/ n=16 \/ n=24 \/ n=32 \/ n=40 \/ n=48 \/ n=56) :
  Calls prog 244 #[.int .i64 n,.int .i64 2] w fun e w'=>e=.returned (.string (at8 hex8 (n / 8)))/\w'=w:=by
 have hd:inB 2 1 4=true:=rfl
 rcases h with rfl|rfl|rfl|rfl|rfl|rfl|rfl|rfl
 all_goals
  go_enter func244,ntmps244
  go_wp2_with (go_at_call 43;refine (l1In_any _ _ _ _).mono ?_;rintro e w' ⟨rfl,rfl⟩)
  refine wp_loop_rounds 3 ?_
  rw [rounds_succ]
  go_wp2
  rw [rounds_succ]
  go_wp2
  rw [rounds_succ]
  go_wp2
  go_ret
  exact ⟨ret_str (by kernel_rfl),rfl⟩
end Go.Proofs.YtnjolmbdbgbmbaaGreatDoor.Tabs
namespace Go.Proofs.YtnjolmbdbgbmbaaGreatDoor.Hole
theorem below_drewN {B:Nat} {a b:World} (h:Below B a b) (n:Nat):Below B a (b.drewN n):=⟨h.os,h.tape,h.output,h.size,h.block⟩
theorem slice_3 (s:ByteArray) (k:Nat) (h:k+3<=s.size) (w:World):(Instr.slice 9 (.string s) (some (.int .i64 (k:Int))) (some (.int .i64 ((k:Int)+3))) none).run prog w=.ok (.string (s.extract k (k+3))) w:=by
 have:=run_slice_string (P:=prog) w 9 s .i64 .i64 (k:Int) ((k:Int)+3) underlying9 (by omega) (by omega) (by omega)
 rw [show ((k:Int)+3).toNat=k+3 by omega,Int.toNat_natCast] at this
 exact this
theorem slice_2 (s:ByteArray) (k:Nat) (h:k+2<=s.size) (w:World):(Instr.slice 9 (.string s) (some (.int .i64 (k:Int))) (some (.int .i64 ((k:Int)+2))) none).run prog w=.ok (.string (s.extract k (k+2))) w:=by
 have:=run_slice_string (P:=prog) w 9 s .i64 .i64 (k:Int) ((k:Int)+2) underlying9 (by omega) (by omega) (by omega)
 rw [show ((k:Int)+2).toNat=k+2 by omega,Int.toNat_natCast] at this
 exact this
def Told (e:Ending):Prop:=∃ (i:Int) (h:ByteArray),e=.returned (.tuple #[.int .i64 i,.string h])
theorem hole_any (t:ByteArray) (w:World) (ht:t.size<=1000) :
  Calls prog 214 #[.string t] w fun e w'=>Told e/\Below w.heap.size w w':=by
 go_enter func214,ntmps214
 go_wp2
 have HB:Hid (Below w.heap.size w (w.alloc (.cells #[.string ⟨#[110,49,54]⟩,.string ⟨#[110,56]⟩,.string ⟨#[101,56]⟩] 9))):=zAl _ _
 have c0:(w.alloc (.cells #[.string ⟨#[110,49,54]⟩,.string ⟨#[110,56]⟩,.string ⟨#[101,56]⟩] 9)).cell? ⟨w.heap.size,0,none⟩=some (.string ⟨#[110,49,54]⟩):=World.cell?_alloc_new _ _ _ _
 have c1:(w.alloc (.cells #[.string ⟨#[110,49,54]⟩,.string ⟨#[110,56]⟩,.string ⟨#[101,56]⟩] 9)).cell? ⟨w.heap.size,1,none⟩=some (.string ⟨#[110,56]⟩):=World.cell?_alloc_new _ _ _ _
 have c2:(w.alloc (.cells #[.string ⟨#[110,49,54]⟩,.string ⟨#[110,56]⟩,.string ⟨#[101,56]⟩] 9)).cell? ⟨w.heap.size,2,none⟩=some (.string ⟨#[101,56]⟩):=World.cell?_alloc_new _ _ _ _
 generalize w.alloc (.cells #[.string ⟨#[110,49,54]⟩,.string ⟨#[110,56]⟩,.string ⟨#[101,56]⟩] 9)=W at *
 go_loopw [5] (fun i wr=>∃ n:Nat,(i=.int .i64 0 \/ i=.int .i64 1 \/ i=.int .i64 2 \/ i=.int .i64 3)/\wr=W.drewN n) (fun i _=>3-(intOf i).toNat)
 case atStart=>exact ⟨0,.inl rfl,rfl⟩
 case round =>
  obtain ⟨n,hi,rfl⟩:=hrel
  rcases hi with rfl|rfl|rfl|rfl
  ·go_wp2
   go_loopw [6] (fun i wr=>∃ m n:Nat,m<=t.size/\i=.int .i64 m/\wr=W.drewN n) (fun i _=>t.size-(intOf i).toNat)
   case atStart=>exact ⟨0,n,Nat.zero_le _,rfl,rfl⟩
   case round =>
    obtain ⟨m,n2,hm,rfl,rfl⟩:=hrel
    by_cases hlt:m+3<=t.size
    ·have s1:=slice_3 t m hlt
     have k0:(0:Int)<=(m:Int):=by omega
     have k1:(m:Int)+3<=(t.size:Int):=by omega
     have k2:(m:Int)<=(m:Int)+3:=by omega
     have k4:IntKind.i64.wrap ((m:Int)+3)=(m:Int)+3:=by rw [IntKind.wrap_i64];omega
     have HN:Hid (m+1<=t.size):=by show m+1<=t.size;omega
     go_wp2_with fail
     go_quiet (fail)
     go_wp2_with fail
     ·go_quiet (fail)
      go_wp2
      go_ret2
      exact ⟨⟨_,_,rfl⟩,by repeat' (with_reducible first|exact HB.out|refine below_drewN ?_ _)⟩
     ·go_roundw
      case rel=>exact ⟨m+1,_,HN.out,by go_num,rfl⟩
      case measure=>have:=HN.out;simp [intOf];omega
    ·go_wp2
     go_roundw
     case rel=>exact ⟨_,.inr (.inl rfl),rfl⟩
     case measure=>simp [intOf]
  ·go_wp2
   go_loopw [6] (fun i wr=>∃ m n:Nat,m<=t.size/\i=.int .i64 m/\wr=W.drewN n) (fun i _=>t.size-(intOf i).toNat)
   case atStart=>exact ⟨0,n,Nat.zero_le _,rfl,rfl⟩
   case round =>
    obtain ⟨m,n2,hm,rfl,rfl⟩:=hrel
    by_cases hlt:m+2<=t.size
    ·have s1:=slice_2 t m hlt
     have k0:(0:Int)<=(m:Int):=by omega
     have k1:(m:Int)+2<=(t.size:Int):=by omega
     have k2:(m:Int)<=(m:Int)+2:=by omega
     have k4:IntKind.i64.wrap ((m:Int)+2)=(m:Int)+2:=by rw [IntKind.wrap_i64];omega
     have HN:Hid (m+1<=t.size):=by show m+1<=t.size;omega
     go_wp2_with fail
     go_quiet (fail)
     go_wp2_with fail
     ·go_quiet (fail)
      go_wp2
      go_ret2
      exact ⟨⟨_,_,rfl⟩,by repeat' (with_reducible first|exact HB.out|refine below_drewN ?_ _)⟩
     ·go_roundw
      case rel=>exact ⟨m+1,_,HN.out,by go_num,rfl⟩
      case measure=>have:=HN.out;simp [intOf];omega
    ·go_wp2
     go_roundw
     case rel=>exact ⟨_,.inr (.inr (.inl rfl)),rfl⟩
     case measure=>simp [intOf]
  ·go_wp2
   go_loopw [6] (fun i wr=>∃ m n:Nat,m<=t.size/\i=.int .i64 m/\wr=W.drewN n) (fun i _=>t.size-(intOf i).toNat)
   case atStart=>exact ⟨0,n,Nat.zero_le _,rfl,rfl⟩
   case round =>
    obtain ⟨m,n2,hm,rfl,rfl⟩:=hrel
    by_cases hlt:m+2<=t.size
    ·have s1:=slice_2 t m hlt
     have k0:(0:Int)<=(m:Int):=by omega
     have k1:(m:Int)+2<=(t.size:Int):=by omega
     have k2:(m:Int)<=(m:Int)+2:=by omega
     have k4:IntKind.i64.wrap ((m:Int)+2)=(m:Int)+2:=by rw [IntKind.wrap_i64];omega
     have HN:Hid (m+1<=t.size):=by show m+1<=t.size;omega
     go_wp2_with fail
     go_quiet (fail)
     go_wp2_with fail
     ·go_quiet (fail)
      go_wp2
      go_ret2
      exact ⟨⟨_,_,rfl⟩,by repeat' (with_reducible first|exact HB.out|refine below_drewN ?_ _)⟩
     ·go_roundw
      case rel=>exact ⟨m+1,_,HN.out,by go_num,rfl⟩
      case measure=>have:=HN.out;simp [intOf];omega
    ·go_wp2
     go_roundw
     case rel=>exact ⟨_,.inr (.inr (.inr rfl)),rfl⟩
     case measure=>simp [intOf]
  ·go_wp2
   go_ret2
   exact ⟨⟨_,_,rfl⟩,by repeat' (with_reducible first|exact HB.out|refine below_drewN ?_ _)⟩
end Go.Proofs.YtnjolmbdbgbmbaaGreatDoor.Hole
namespace Go.Proofs.YtnjolmbdbgbmbaaGreatDoor.HoleX
open Hole (below_drewN slice_3 slice_2)
def firstAt (t h:ByteArray):Nat->Nat->Option Nat
 | 0,_=>none
 | f+1,k=>if k+h.size<=t.size then (if t.extract k (k+h.size)=h then some k else firstAt t h f (k+1)) else none
def n16:ByteArray:=⟨#[110,49,54]⟩
def n8:ByteArray:=⟨#[110,56]⟩
def e8:ByteArray:=⟨#[101,56]⟩
def at1 (t h:ByteArray):Option Nat:=firstAt t h (t.size+1) 0
def holeT (t:ByteArray):ByteArray:=if (at1 t n16).isSome then n16 else if (at1 t n8).isSome then n8 else if (at1 t e8).isSome then e8 else ⟨#[]⟩
end Go.Proofs.YtnjolmbdbgbmbaaGreatDoor.HoleX
