/-
  Contracts and facts of ours, joined: Runq, Mnew, Rd, Fixa, Smal, Qmov.
-/
import Derived.Test.YtnjolmbdbgbmbaaGreatDoorP21
import Derived.Test.YtnjolmbdbgbmbaaGreatDoorP00
import Derived.Test.YtnjolmbdbgbmbaaGreatDoorP04
import Derived.Test.YtnjolmbdbgbmbaaGreatDoorRows
import Derived.WalkKit
import Derived.ProofKit
import Derived.OpenShut
import Derived.Outline
import Derived.WalkLawsBesides
import Derived.Deep.QuietTactic
import Derived.BigQuiet
import Derived.LoopN
import Derived.Below
import Derived.OneCell
import Derived.Laws.Rows
import Derived.Laws.IdiomStrings
import Derived.Laws.OwnMore
import Derived.Lib.LazyBuf
import Derived.Laws.IdiomCopy
import Derived.Test.YtnjolmbdbgbmbaaGreatDoorP11
set_option linter.unusedVariables false
set_option linter.unusedSimpArgs false
set_option maxRecDepth 20000
set_option maxHeartbeats 8000000
open Go.ChangeShapes Go.WideShapes Go.ChangeAt Go.RowKit
open Go.Proofs.Tryz
namespace Go.Proofs.YtnjolmbdbgbmbaaGreatDoor.Runq
open Go.Deep
open Signed (inB sgn)
open Busw Busx Stpp Stpq Stpo Stpt Stph Runp
open ReadI (lenC immV)
theorem f0 (m:M):ReadI.byteAt (fetch m) 0=rd m ((m.pc+0)%65536):=by
 unfold ReadI.byteAt
 rw [dif_pos (show (0:Int).toNat<(fetch m).size by rw [fetch_size];decide)]
 exact u_eq m 0
theorem f1 (m:M):ReadI.byteAt (fetch m) 1=rd m ((m.pc+1)%65536):=by
 unfold ReadI.byteAt
 rw [dif_pos (show (1:Int).toNat<(fetch m).size by rw [fetch_size];decide)]
 exact u_eq m 1
theorem f2 (m:M):ReadI.byteAt (fetch m) 2=rd m ((m.pc+2)%65536):=by
 unfold ReadI.byteAt
 rw [dif_pos (show (2:Int).toNat<(fetch m).size by rw [fetch_size];decide)]
 exact u_eq m 2
theorem imm1 (m:M):immV (fetch m) 0 1=0:=by unfold immV;rw [if_pos rfl]
theorem imm2 (m:M):immV (fetch m) 0 2=rd m ((m.pc+1)%65536):=by
 unfold immV;rw [if_neg (by decide),if_pos rfl];exact f1 m
theorem imm3 (m:M):immV (fetch m) 0 3=rd m ((m.pc+1)%65536)+256*rd m ((m.pc+2)%65536):=by
 unfold immV;rw [if_neg (by decide),if_neg (by decide)]
 show ReadI.byteAt (fetch m) 1+256*ReadI.byteAt (fetch m) 2=_
 rw [f1,f2]
theorem step_at {m m2:M} (c n imm p cv:Int) (t:Bool) (hh:m.hal=false) (h0:rd m ((m.pc+0)%65536)=c) (hc:c ≠ 203) (hl:lenC c=n) (hn:1<=n/\n<=3) (hi:immV (fetch m) 0 n=imm) (hp:(m.pc+n)%65536=p)
  (hs:sem c false imm ⟨{ m with pc:=p },false⟩=(⟨m2,false⟩,t)) (hcv:CycX.cyc c false t=cv) (hcy:m.cyc+cv<=1000000000):stepP m=(cm (m.cyc+cv) m2,0):=by
 rw [<- f0] at h0
 have hN:lenOf m=n:=by
  unfold lenOf ReadI.readN
  rw [fetch_size,if_neg (by omega),h0,if_neg hc,hl,if_neg (by omega)]
 have hI:insOf m=(c,false,imm):=by
  unfold insOf
  rw [h0,if_neg hc,hl,hi]
 have hS:semOf m=(⟨m2,false⟩,t):=by unfold semOf nextOf;rw [hI,hN,hp];exact hs
 have hC:cycOf m=m.cyc+cv:=by
  unfold cycOf;rw [hI,hS]
  show m.cyc+CycX.cyc c false t=_
  rw [hcv]
 unfold stepP
 rw [if_neg (by rw [hh];decide),if_neg (by omega),hS,hC,if_neg (by simp;omega)]
theorem step_hal {m:M} (h:m.hal=true):stepP m=(m,1):=by unfold stepP;rw [if_pos h]
theorem go1 {k:Nat} {i:Int} {m m':M} (h:stepP m=(m',0)):runP (k+1) i m=runP k (i+1) m':=by rw [run_go (by rw [h]),h]
theorem stop1 {k:Nat} {i c:Int} {m m':M} (h:stepP m=(m',c)) (hc:c ≠ 0):runP (k+1) i m=(m,c,i):=by rw [run_stop (by rw [h];exact hc),h]
def newM (rom:ByteArray) (kind:Int):M:=⟨0,0,0,0,0,0,0,0,65534,0,false,false,rom,kind,1,CartN.Z 256,0,false,0,CartN.Z 256,CartN.Z 127,[],0⟩
theorem rd_low {m:M} {p k v:Int} (hp:(m.pc+k)%65536=p) (h0:0<=p/\p<256) (h:CartR.byteAt m.rom p=v):rd m ((m.pc+k)%65536)=v:=by
 rw [hp]
 unfold rd MachB.busV CartR.rdV
 rw [if_neg (by unfold inB;simp;omega),if_neg (by unfold inB;simp;omega),if_pos h0.2,h]
theorem sum_run (rom:ByteArray) (kind a b:Int) (r0:CartR.byteAt rom 0=62) (r1:CartR.byteAt rom 1=a) (r2:CartR.byteAt rom 2=6) (r3:CartR.byteAt rom 3=b) (r4:CartR.byteAt rom 4=128) (r5:CartR.byteAt rom 5=224) (r6:CartR.byteAt rom 6=1) (r7:CartR.byteAt rom 7=118) :
  ∃ R,runP 50 0 (newM rom kind)=(R,1,5)/\R.hal=true/\R.out=[(a+b)%256]/\R.ra=(a+b)%256/\R.cyc=9:=by
 have s1:stepP (newM rom kind)=({ newM rom kind with ra:=a,pc:=2,cyc:=2 },0) :=
  step_at 62 2 a 2 2 false rfl (rd_low (p:=0) rfl (by decide) r0) (by decide) (by decide +kernel) (by decide) (by rw [imm2];exact rd_low (p:=1) rfl (by decide) r1) rfl rfl (by decide +kernel) (by show (0:Int)+_<=_;decide)
 have s2:stepP { newM rom kind with ra:=a,pc:=2,cyc:=2 }=({ newM rom kind with ra:=a,rB:=b,pc:=4,cyc:=4 },0) :=
  step_at 6 2 b 4 2 false rfl (rd_low (p:=2) rfl (by decide) r2) (by decide) (by decide +kernel) (by decide) (by rw [imm2];exact rd_low (p:=3) rfl (by decide) r3) rfl rfl (by decide +kernel) (by show (2:Int)+_<=_;decide)
 have s3:stepP { newM rom kind with ra:=a,rB:=b,pc:=4,cyc:=4 }=({ newM rom kind with ra:=(a+b+0)%256,rf:=(Reck.aluR 0 a b 0).2,rB:=b,pc:=5,cyc:=5 },0) :=
  step_at 128 1 0 5 1 false rfl (rd_low (p:=4) rfl (by decide) r4) (by decide) (by decide +kernel) (by decide) (imm1 _) rfl rfl (by decide +kernel) (by show (4:Int)+_<=_;decide)
 have s4:stepP { newM rom kind with ra:=(a+b+0)%256,rf:=(Reck.aluR 0 a b 0).2,rB:=b,pc:=5,cyc:=5 }=({ newM rom kind with ra:=(a+b+0)%256,rf:=(Reck.aluR 0 a b 0).2,rB:=b,pc:=7,cyc:=8,out:=[(a+b+0)%256] },0) :=
  step_at (m2:={ newM rom kind with ra:=(a+b+0)%256,rf:=(Reck.aluR 0 a b 0).2,rB:=b,pc:=7,cyc:=5,out:=[(a+b+0)%256] }) (m:={ newM rom kind with ra:=(a+b+0)%256,rf:=(Reck.aluR 0 a b 0).2,rB:=b,pc:=5,cyc:=5 }) 224 2 1 7 3 false rfl (rd_low (p:=5) rfl (by decide) r5) (by decide) (by decide +kernel) (by decide) ((imm2 _).trans (rd_low (p:=6) rfl (by decide) r6)) rfl rfl (by decide +kernel) (by show (5:Int)+_<=_;decide)
 have s5:stepP { newM rom kind with ra:=(a+b+0)%256,rf:=(Reck.aluR 0 a b 0).2,rB:=b,pc:=7,cyc:=8,out:=[(a+b+0)%256] }=({ newM rom kind with ra:=(a+b+0)%256,rf:=(Reck.aluR 0 a b 0).2,rB:=b,pc:=8,cyc:=9,hal:=true,out:=[(a+b+0)%256] },0) :=
  step_at 118 1 0 8 1 false rfl (rd_low (p:=7) rfl (by decide) r7) (by decide) (by decide +kernel) (by decide) (imm1 _) rfl rfl (by decide +kernel) (by show (8:Int)+_<=_;decide)
 have h:=(go1 (k:=49) (i:=0) s1).trans ((go1 s2).trans ((go1 s3).trans ((go1 s4).trans ((go1 s5).trans (stop1 (step_hal rfl) (by decide))))))
 refine ⟨_,h,rfl,?_,?_,rfl⟩
 ·show [(a+b+0)%256]=_
  rw [Int.add_zero]
 ·show (a+b+0)%256=_
  rw [Int.add_zero]
theorem putB_at {s:ByteArray} {i v:Int} (h0:0<=i) (h1:i<s.size) (hv:0<=v/\v<=255):CartR.byteAt (CartP.putB s i v) i=v:=by
 unfold CartR.byteAt
 have hs:=CartP.putB_size s i v
 rw [dif_pos (by rw [hs];omega)]
 show (((s.data.toList.set i.toNat (UInt8.ofNat v.toNat)).toArray[i.toNat]'(by simp;have:s.data.size=s.size:=rfl;omega)).toNat:Int)=v
 simp
 omega
theorem putB_ne {s:ByteArray} {i j v:Int} (h0:0<=i) (h1:0<=j) (hne:i ≠ j):CartR.byteAt (CartP.putB s i v) j=CartR.byteAt s j:=by
 unfold CartR.byteAt
 have hs:=CartP.putB_size s i v
 by_cases hj:j.toNat<s.size
 ·rw [dif_pos (by rw [hs];exact hj),dif_pos hj]
  show (((s.data.toList.set i.toNat (UInt8.ofNat v.toNat)).toArray[j.toNat]'(by simp;exact hj)).toNat:Int)=((s.data[j.toNat]'hj).toNat:Int)
  simp
  rw [List.getElem_set_ne (by omega)]
  simp
 ·rw [dif_neg (by rw [hs];exact hj),dif_neg hj]
theorem rd_high {m:M} {p v:Int} (h0:65408<=p/\p<=65534) (h:CartR.byteAt m.high (p-65408)=v):rd m p=v:=by
 unfold rd MachB.busV
 rw [if_neg (by unfold inB;simp;omega),if_pos (by unfold inB;simp;omega),h]
theorem wr_high {m:M} {f:Bool} {a p v:Int} (hp:a%65536=p) (h0:65408<=p/\p<=65534):wr ⟨m,f⟩ a v=⟨{ m with high:=CartP.putB m.high (p-65408) v },f⟩:=by
 unfold wr
 show (match wrM m (a%65536) v with|some m'=>S.mk m' f|none=>S.mk m true)=_
 rw [hp]
 unfold wrM
 rw [if_neg (by unfold inB;simp;omega),if_pos (by unfold inB;simp;omega)]
theorem push_high {m:M} {f:Bool} {v s:Int} (hs:m.sp=s) (h0:65410<=s/\s<=65534) :
  push ⟨m,f⟩ v=⟨{ m with high:=CartP.putB (CartP.putB m.high (s-65409) (v / 256)) (s-65410) (v%256),sp:=s-2 },f⟩:=by
 unfold push
 simp only []
 rw [hs,wr_high (a:=s+65535) (p:=s-1) (by omega) (by omega),wr_high (a:=s+65534) (p:=s-2) (by omega) (by omega),show (s+65534)%65536=s-2 by omega,show s-1-65408=s-65409 by omega,show s-2-65408=s-65410 by omega]
theorem pop_high {m:M} {s lo hi:Int} (hs:m.sp=s) (h0:65408<=s/\s<=65533) (h1:CartR.byteAt m.high (s-65408)=lo) (h2:CartR.byteAt m.high (s-65407)=hi):popV m=lo+256*hi:=by
 unfold popV
 rw [hs,rd_high (p:=s) (by omega) h1,rd_high (p:=(s+1)%65536) (v:=hi) (by omega) (by rw [show (s+1)%65536-65408=s-65407 by omega];exact h2)]
def H1c:ByteArray:=CartP.putB (CartP.putB (CartN.Z 127) 125 0) 124 3
def H2c:ByteArray:=CartP.putB (CartP.putB H1c 123 0) 122 0
theorem h1c_size:H1c.size=127:=by unfold H1c;rw [CartP.putB_size,CartP.putB_size,CartN.Z_size]
theorem calls_run (rom:ByteArray) (kind A x:Int) (hA:40<=A/\A<=139) (r0:CartR.byteAt rom 0=205) (r1:CartR.byteAt rom 1=A) (r2:CartR.byteAt rom 2=0) (r3:CartR.byteAt rom 3=224) (r4:CartR.byteAt rom 4=1) (r5:CartR.byteAt rom 5=118)
  (a0:CartR.byteAt rom A=62) (a1:CartR.byteAt rom (A+1)=x) (a2:CartR.byteAt rom (A+2)=197) (a3:CartR.byteAt rom (A+3)=209) (a4:CartR.byteAt rom (A+4)=201) :
  ∃ R,runP 50 0 (newM rom kind)=(R,1,7)/\R.out=[x]/\R.sp=65534/\R.pc=6:=by
 have s1:stepP (newM rom kind)=({ newM rom kind with high:=H1c,sp:=65532,pc:=A,cyc:=6 },0):=by
  refine step_at (m2:={ newM rom kind with high:=H1c,sp:=65532,pc:=A }) 205 3 A 3 6 true rfl (rd_low (p:=0) rfl (by decide) r0) (by decide) (by decide +kernel) (by decide) ?_ rfl ?_ (by decide +kernel) (by show (0:Int)+_<=_;decide)
  ·rw [imm3,rd_low (p:=1) (v:=A) rfl (by decide) r1,rd_low (p:=2) (v:=0) rfl (by decide) r2];omega
  ·show (callE A ⟨{ newM rom kind with pc:=3 },false⟩,true)=_
   unfold callE
   rw [push_high (s:=65534) rfl (by decide)]
   rfl
 have s2:stepP { newM rom kind with high:=H1c,sp:=65532,pc:=A,cyc:=6 }=({ newM rom kind with ra:=x,high:=H1c,sp:=65532,pc:=A+2,cyc:=8 },0):=by
  refine step_at (m2:={ newM rom kind with ra:=x,high:=H1c,sp:=65532,pc:=A+2,cyc:=6 }) 62 2 x (A+2) 2 false rfl (rd_low (p:=A) ?_ (by omega) a0) (by decide) (by decide +kernel) (by decide) ?_ ?_ rfl (by decide +kernel) (by show (6:Int)+2<=_;decide)
  ·show (A+0)%65536=A;omega
  ·rw [imm2];exact rd_low (p:=A+1) (by show (A+1)%65536=A+1;omega) (by omega) a1
  ·show (A+2)%65536=A+2;omega
 have s3:stepP { newM rom kind with ra:=x,high:=H1c,sp:=65532,pc:=A+2,cyc:=8 }=({ newM rom kind with ra:=x,high:=H2c,sp:=65530,pc:=A+3,cyc:=12 },0):=by
  refine step_at (m2:={ newM rom kind with ra:=x,high:=H2c,sp:=65530,pc:=A+3,cyc:=8 }) 197 1 0 (A+3) 4 false rfl (rd_low (p:=A+2) ?_ (by omega) a2) (by decide) (by decide +kernel) (by decide) (imm1 _) ?_ ?_ (by decide +kernel) (by show (8:Int)+4<=_;decide)
  ·show (A+2+0)%65536=A+2;omega
  ·show (A+2+1)%65536=A+3;omega
  ·show (push ⟨{ newM rom kind with ra:=x,high:=H1c,sp:=65532,pc:=A+3,cyc:=8 },false⟩ 0,false)=_
   rw [push_high (s:=65532) rfl (by decide)]
   rfl
 have s4:stepP { newM rom kind with ra:=x,high:=H2c,sp:=65530,pc:=A+3,cyc:=12 }=({ newM rom kind with ra:=x,high:=H2c,sp:=65532,pc:=A+4,cyc:=15 },0):=by
  refine step_at (m2:={ newM rom kind with ra:=x,high:=H2c,sp:=65532,pc:=A+4,cyc:=12 }) 209 1 0 (A+4) 3 false rfl (rd_low (p:=A+3) ?_ (by omega) a3) (by decide) (by decide +kernel) (by decide) (imm1 _) ?_ ?_ (by decide +kernel) (by show (12:Int)+3<=_;decide)
  ·show (A+3+0)%65536=A+3;omega
  ·show (A+3+1)%65536=A+4;omega
  ·show (S.mk (setQ (popM { newM rom kind with ra:=x,high:=H2c,sp:=65530,pc:=A+4,cyc:=12 }) 1 (popV { newM rom kind with ra:=x,high:=H2c,sp:=65530,pc:=A+4,cyc:=12 })) false,false)=_
   rw [pop_high (s:=65530) (lo:=0) (hi:=0) rfl (by decide) (by show CartR.byteAt H2c 122=0;unfold H2c;rw [putB_at (by decide) (by rw [CartP.putB_size,h1c_size];decide) (by decide)]) (by show CartR.byteAt H2c 123=0;unfold H2c;rw [putB_ne (by decide) (by decide) (by decide),putB_at (by decide) (by rw [h1c_size];decide) (by decide)])]
   rfl
 have s5:stepP { newM rom kind with ra:=x,high:=H2c,sp:=65532,pc:=A+4,cyc:=15 }=({ newM rom kind with ra:=x,high:=H2c,sp:=65534,pc:=3,cyc:=19 },0):=by
  refine step_at (m2:={ newM rom kind with ra:=x,high:=H2c,sp:=65534,pc:=3,cyc:=15 }) 201 1 0 (A+5) 4 true rfl (rd_low (p:=A+4) ?_ (by omega) a4) (by decide) (by decide +kernel) (by decide) (imm1 _) ?_ ?_ (by decide +kernel) (by show (15:Int)+4<=_;decide)
  ·show (A+4+0)%65536=A+4;omega
  ·show (A+4+1)%65536=A+5;omega
  ·show (retE false ⟨{ newM rom kind with ra:=x,high:=H2c,sp:=65532,pc:=A+5,cyc:=15 },false⟩,true)=_
   unfold retE
   rw [pop_high (s:=65532) (lo:=3) (hi:=0) rfl (by decide) (by show CartR.byteAt H2c 124=3;unfold H2c H1c;rw [putB_ne (by decide) (by decide) (by decide),putB_ne (by decide) (by decide) (by decide),putB_at (by decide) (by rw [CartP.putB_size,CartN.Z_size];decide) (by decide)]) (by show CartR.byteAt H2c 125=0;unfold H2c H1c;rw [putB_ne (by decide) (by decide) (by decide),putB_ne (by decide) (by decide) (by decide),putB_ne (by decide) (by decide) (by decide),putB_at (by decide) (by rw [CartN.Z_size];decide) (by decide)])]
   rfl
 have s6:stepP { newM rom kind with ra:=x,high:=H2c,sp:=65534,pc:=3,cyc:=19 }=({ newM rom kind with ra:=x,high:=H2c,sp:=65534,pc:=5,cyc:=22,out:=[x] },0) :=
  step_at (m2:={ newM rom kind with ra:=x,high:=H2c,sp:=65534,pc:=5,cyc:=19,out:=[x] }) (m:={ newM rom kind with ra:=x,high:=H2c,sp:=65534,pc:=3,cyc:=19 }) 224 2 1 5 3 false rfl (rd_low (p:=3) rfl (by decide) r3) (by decide) (by decide +kernel) (by decide) ((imm2 _).trans (rd_low (p:=4) rfl (by decide) r4)) rfl rfl (by decide +kernel) (by show (19:Int)+_<=_;decide)
 have s7:stepP { newM rom kind with ra:=x,high:=H2c,sp:=65534,pc:=5,cyc:=22,out:=[x] }=({ newM rom kind with ra:=x,high:=H2c,sp:=65534,pc:=6,cyc:=23,hal:=true,out:=[x] },0) :=
  step_at 118 1 0 6 1 false rfl (rd_low (p:=5) rfl (by decide) r5) (by decide) (by decide +kernel) (by decide) (imm1 _) rfl rfl (by decide +kernel) (by show (22:Int)+_<=_;decide)
 have h:=(go1 (k:=49) (i:=0) s1).trans ((go1 s2).trans ((go1 s3).trans ((go1 s4).trans ((go1 s5).trans ((go1 s6).trans ((go1 s7).trans (stop1 (step_hal rfl) (by decide))))))))
 exact ⟨_,h,rfl,rfl,rfl⟩
def H1p (a b:Int):ByteArray:=CartP.putB (CartP.putB (CartN.Z 127) 125 a) 124 b
def H2p (a b c d:Int):ByteArray:=CartP.putB (CartP.putB (H1p a b) 123 c) 122 d
theorem h1p_size (a b:Int):(H1p a b).size=127:=by unfold H1p;rw [CartP.putB_size,CartP.putB_size,CartN.Z_size]
theorem pushed_run (rom:ByteArray) (kind c0 c1 c2 c3:Int) (b0:0<=c0/\c0<=255) (b1:0<=c1/\c1<=255) (b2:0<=c2/\c2<=255) (b3:0<=c3/\c3<=255)
  (r0:CartR.byteAt rom 0=1) (r1:CartR.byteAt rom 1=c0) (r2:CartR.byteAt rom 2=c1) (r3:CartR.byteAt rom 3=17) (r4:CartR.byteAt rom 4=c2) (r5:CartR.byteAt rom 5=c3) (r6:CartR.byteAt rom 6=197) (r7:CartR.byteAt rom 7=213) (r8:CartR.byteAt rom 8=193) (r9:CartR.byteAt rom 9=241) (r10:CartR.byteAt rom 10=118) :
  ∃ R n,runP 50 0 (newM rom kind)=(R,1,n)/\R.rB=c3/\R.rC=c2/\R.ra=c1/\R.rf=c0 / 16*16/\R.sp=65534:=by
 have s1:stepP (newM rom kind)=({ newM rom kind with rB:=c1,rC:=c0,pc:=3,cyc:=3 },0):=by
  refine step_at (m2:={ newM rom kind with rB:=c1,rC:=c0,pc:=3 }) 1 3 (c0+256*c1) 3 3 false rfl (rd_low (p:=0) rfl (by decide) r0) (by decide) (by decide +kernel) (by decide) ?_ rfl ?_ (by decide +kernel) (by show (0:Int)+_<=_;decide)
  ·rw [imm3,rd_low (p:=1) (v:=c0) rfl (by decide) r1,rd_low (p:=2) (v:=c1) rfl (by decide) r2]
  ·show (S.mk { newM rom kind with rB:=(c0+256*c1) / 256,rC:=(c0+256*c1)%256,pc:=3 } false,false)=_
   rw [show (c0+256*c1) / 256=c1 by omega,show (c0+256*c1)%256=c0 by omega]
 have s2:stepP { newM rom kind with rB:=c1,rC:=c0,pc:=3,cyc:=3 }=({ newM rom kind with rB:=c1,rC:=c0,rD:=c3,rE:=c2,pc:=6,cyc:=6 },0):=by
  refine step_at (m2:={ newM rom kind with rB:=c1,rC:=c0,rD:=c3,rE:=c2,pc:=6,cyc:=3 }) 17 3 (c2+256*c3) 6 3 false rfl (rd_low (p:=3) rfl (by decide) r3) (by decide) (by decide +kernel) (by decide) ?_ rfl ?_ (by decide +kernel) (by show (3:Int)+_<=_;decide)
  ·rw [imm3,rd_low (p:=4) (v:=c2) rfl (by decide) r4,rd_low (p:=5) (v:=c3) rfl (by decide) r5]
  ·show (S.mk { newM rom kind with rB:=c1,rC:=c0,rD:=(c2+256*c3) / 256,rE:=(c2+256*c3)%256,pc:=6,cyc:=3 } false,false)=_
   rw [show (c2+256*c3) / 256=c3 by omega,show (c2+256*c3)%256=c2 by omega]
 have s3:stepP { newM rom kind with rB:=c1,rC:=c0,rD:=c3,rE:=c2,pc:=6,cyc:=6 }=({ newM rom kind with rB:=c1,rC:=c0,rD:=c3,rE:=c2,high:=H1p c1 c0,sp:=65532,pc:=7,cyc:=10 },0):=by
  refine step_at (m2:={ newM rom kind with rB:=c1,rC:=c0,rD:=c3,rE:=c2,high:=H1p c1 c0,sp:=65532,pc:=7,cyc:=6 }) 197 1 0 7 4 false rfl (rd_low (p:=6) rfl (by decide) r6) (by decide) (by decide +kernel) (by decide) (imm1 _) rfl ?_ (by decide +kernel) (by show (6:Int)+_<=_;decide)
  show (push ⟨{ newM rom kind with rB:=c1,rC:=c0,rD:=c3,rE:=c2,pc:=7,cyc:=6 },false⟩ (256*c1+c0),false)=_
  rw [push_high (s:=65534) rfl (by decide),show (256*c1+c0) / 256=c1 by omega,show (256*c1+c0)%256=c0 by omega]
  rfl
 have s4:stepP { newM rom kind with rB:=c1,rC:=c0,rD:=c3,rE:=c2,high:=H1p c1 c0,sp:=65532,pc:=7,cyc:=10 }=({ newM rom kind with rB:=c1,rC:=c0,rD:=c3,rE:=c2,high:=H2p c1 c0 c3 c2,sp:=65530,pc:=8,cyc:=14 },0):=by
  refine step_at (m2:={ newM rom kind with rB:=c1,rC:=c0,rD:=c3,rE:=c2,high:=H2p c1 c0 c3 c2,sp:=65530,pc:=8,cyc:=10 }) 213 1 0 8 4 false rfl (rd_low (p:=7) rfl (by decide) r7) (by decide) (by decide +kernel) (by decide) (imm1 _) rfl ?_ (by decide +kernel) (by show (10:Int)+_<=_;decide)
  show (push ⟨{ newM rom kind with rB:=c1,rC:=c0,rD:=c3,rE:=c2,high:=H1p c1 c0,sp:=65532,pc:=8,cyc:=10 },false⟩ (256*c3+c2),false)=_
  rw [push_high (s:=65532) rfl (by decide),show (256*c3+c2) / 256=c3 by omega,show (256*c3+c2)%256=c2 by omega]
  rfl
 have s5:stepP { newM rom kind with rB:=c1,rC:=c0,rD:=c3,rE:=c2,high:=H2p c1 c0 c3 c2,sp:=65530,pc:=8,cyc:=14 }=({ newM rom kind with rB:=c3,rC:=c2,rD:=c3,rE:=c2,high:=H2p c1 c0 c3 c2,sp:=65532,pc:=9,cyc:=17 },0):=by
  refine step_at (m2:={ newM rom kind with rB:=c3,rC:=c2,rD:=c3,rE:=c2,high:=H2p c1 c0 c3 c2,sp:=65532,pc:=9,cyc:=14 }) 193 1 0 9 3 false rfl (rd_low (p:=8) rfl (by decide) r8) (by decide) (by decide +kernel) (by decide) (imm1 _) rfl ?_ (by decide +kernel) (by show (14:Int)+_<=_;decide)
  show (S.mk (setQ (popM { newM rom kind with rB:=c1,rC:=c0,rD:=c3,rE:=c2,high:=H2p c1 c0 c3 c2,sp:=65530,pc:=9,cyc:=14 }) 0 (popV { newM rom kind with rB:=c1,rC:=c0,rD:=c3,rE:=c2,high:=H2p c1 c0 c3 c2,sp:=65530,pc:=9,cyc:=14 })) false,false)=_
  rw [pop_high (s:=65530) (lo:=c2) (hi:=c3) rfl (by decide) (by show CartR.byteAt (H2p c1 c0 c3 c2) 122=c2;unfold H2p;rw [putB_at (by decide) (by rw [CartP.putB_size,h1p_size];decide) b2]) (by show CartR.byteAt (H2p c1 c0 c3 c2) 123=c3;unfold H2p;rw [putB_ne (by decide) (by decide) (by decide),putB_at (by decide) (by rw [h1p_size];decide) b3])]
  show (S.mk { newM rom kind with rB:=(c2+256*c3) / 256,rC:=(c2+256*c3)%256,rD:=c3,rE:=c2,high:=H2p c1 c0 c3 c2,sp:=65532,pc:=9,cyc:=14 } false,false)=_
  rw [show (c2+256*c3) / 256=c3 by omega,show (c2+256*c3)%256=c2 by omega]
 have s6:stepP { newM rom kind with rB:=c3,rC:=c2,rD:=c3,rE:=c2,high:=H2p c1 c0 c3 c2,sp:=65532,pc:=9,cyc:=17 }=({ newM rom kind with ra:=c1,rf:=c0 / 16*16,rB:=c3,rC:=c2,rD:=c3,rE:=c2,high:=H2p c1 c0 c3 c2,sp:=65534,pc:=10,cyc:=20 },0):=by
  refine step_at (m2:={ newM rom kind with ra:=c1,rf:=c0 / 16*16,rB:=c3,rC:=c2,rD:=c3,rE:=c2,high:=H2p c1 c0 c3 c2,sp:=65534,pc:=10,cyc:=17 }) 241 1 0 10 3 false rfl (rd_low (p:=9) rfl (by decide) r9) (by decide) (by decide +kernel) (by decide) (imm1 _) rfl ?_ (by decide +kernel) (by show (17:Int)+_<=_;decide)
  show (S.mk (setQ (popM { newM rom kind with rB:=c3,rC:=c2,rD:=c3,rE:=c2,high:=H2p c1 c0 c3 c2,sp:=65532,pc:=10,cyc:=17 }) 3 (popV { newM rom kind with rB:=c3,rC:=c2,rD:=c3,rE:=c2,high:=H2p c1 c0 c3 c2,sp:=65532,pc:=10,cyc:=17 })) false,false)=_
  rw [pop_high (s:=65532) (lo:=c0) (hi:=c1) rfl (by decide) (by show CartR.byteAt (H2p c1 c0 c3 c2) 124=c0;unfold H2p H1p;rw [putB_ne (by decide) (by decide) (by decide),putB_ne (by decide) (by decide) (by decide),putB_at (by decide) (by rw [CartP.putB_size,CartN.Z_size];decide) b0]) (by show CartR.byteAt (H2p c1 c0 c3 c2) 125=c1;unfold H2p H1p;rw [putB_ne (by decide) (by decide) (by decide),putB_ne (by decide) (by decide) (by decide),putB_ne (by decide) (by decide) (by decide),putB_at (by decide) (by rw [CartN.Z_size];decide) b1])]
  show (S.mk { newM rom kind with ra:=(c0+256*c1) / 256,rf:=(c0+256*c1)%256 / 16*16,rB:=c3,rC:=c2,rD:=c3,rE:=c2,high:=H2p c1 c0 c3 c2,sp:=65534,pc:=10,cyc:=17 } false,false)=_
  rw [show (c0+256*c1) / 256=c1 by omega,show (c0+256*c1)%256=c0 by omega]
 have s7:stepP { newM rom kind with ra:=c1,rf:=c0 / 16*16,rB:=c3,rC:=c2,rD:=c3,rE:=c2,high:=H2p c1 c0 c3 c2,sp:=65534,pc:=10,cyc:=20 }=({ newM rom kind with ra:=c1,rf:=c0 / 16*16,rB:=c3,rC:=c2,rD:=c3,rE:=c2,high:=H2p c1 c0 c3 c2,sp:=65534,pc:=11,cyc:=21,hal:=true },0) :=
  step_at 118 1 0 11 1 false rfl (rd_low (p:=10) rfl (by decide) r10) (by decide) (by decide +kernel) (by decide) (imm1 _) rfl rfl (by decide +kernel) (by show (20:Int)+_<=_;decide)
 have h:=(go1 (k:=49) (i:=0) s1).trans ((go1 s2).trans ((go1 s3).trans ((go1 s4).trans ((go1 s5).trans ((go1 s6).trans ((go1 s7).trans (stop1 (step_hal rfl) (by decide))))))))
 exact ⟨_,_,h,rfl,rfl,rfl,rfl,rfl⟩
end Go.Proofs.YtnjolmbdbgbmbaaGreatDoor.Runq
namespace Go.Proofs.YtnjolmbdbgbmbaaGreatDoor.Mnew
open Go.Deep
open Busw (M cellsM cells_def outC)
open Busx Stpp Stpq Runp Runq
open CartN (newB)
theorem sm_zero:Sm Z0:=⟨by decide,by decide,by decide,by decide,by decide⟩
def newV (rom:ByteArray) (kind:Int):M:=if newB rom kind=true then newM rom kind else Z0
theorem sm_new (rom:ByteArray) (kind:Int) (h:rom.size<=maxLen):Sm (newV rom kind):=by
 unfold newV
 split
 ·exact ⟨h,by show (CartN.Z 256).size<=_;rw [CartN.Z_size];decide,by show (CartN.Z 256).size<=_;rw [CartN.Z_size];decide,by show (CartN.Z 127).size<=_;rw [CartN.Z_size];decide,by show ([]:List Int).length<=_;decide⟩
 ·exact sm_zero
theorem specNew_M (rom:ByteArray) (kind:Int) (w:World) (hs:rom.size<=maxLen):Calls prog 27 #[.string rom,.int .i64 kind] w fun e w'=>e=.returned (.tuple #[.agg (cellsM (newV rom kind) none 0),.bool (newB rom kind)])/\Below w.heap.size w w':=by
 cases h:newB rom kind with
 | true =>
  have e:newV rom kind=newM rom kind:=by unfold newV;rw [if_pos h]
  rw [e,cells_def];exact MachN.specM_yes rom kind w hs h
 | false =>
  have e:newV rom kind=Z0:=by unfold newV;rw [if_neg (by rw [h];decide)]
  rw [e,cells_def];exact MachN.specM_no rom kind w hs h
theorem implNew_M (rom:ByteArray) (kind:Int) (w:World) (hs:rom.size<=maxLen):Calls prog 26 #[.string rom,.int .i64 kind] w fun e w'=>e=.returned (.tuple #[.agg (cellsM (newV rom kind) none 0),.bool (newB rom kind)])/\Below w.heap.size w w':=by
 cases h:newB rom kind with
 | true =>
  have e:newV rom kind=newM rom kind:=by unfold newV;rw [if_pos h]
  rw [e,cells_def];exact MachN.implM_yes rom kind w hs h
 | false =>
  have e:newV rom kind=Z0:=by unfold newV;rw [if_neg (by rw [h];decide)]
  rw [e,cells_def];exact MachN.implM_no rom kind w hs h
end Go.Proofs.YtnjolmbdbgbmbaaGreatDoor.Mnew
namespace Go.Proofs.YtnjolmbdbgbmbaaGreatDoor.Rdr
def IsRow (k:IntKind) (w:World) (a:Option Addr) (len cap:Nat) (zs:List Int):Prop :=
 (a=none/\len=0/\cap=0/\zs=[]) \/
 ∃ x,a=some x/\len<=cap/\cap<=maxLen/\zs.length=cap/\(∀ i,i<zs.length->w.cell? (x.add i)=some (.int k (zs.getD i 0)))/\∀ n ∈ zs,(Lit.int k n).wf=true
theorem IsRow.len {k:IntKind} {w:World} {a:Option Addr} {len cap:Nat} {zs:List Int} (h:IsRow k w a len cap zs):len<=maxLen:=by
 rcases h with ⟨_,rfl,_⟩|⟨x,_,h1,h2,_⟩
 ·exact Nat.zero_le _
 ·exact Nat.le_trans h1 h2
def bigB (len:Nat):Bool:=decide (1048576<len)
theorem big_any (a:Option Addr) (len cap:Nat) (w:World) (hl:len<=maxLen) :
  Calls prog 25 #[.slice a len cap] w fun e w'=>e=.returned (.bool (bigB len))/\w'=w:=by
 unfold maxLen at hl
 go_enter func25,ntmps25
 go_wp2
 go_ret
 refine ⟨congrArg (fun b=>Ending.returned (.bool b)) ?_,rfl⟩
 rw [Bool.eq_iff_iff];simp [bigB];try omega
end Go.Proofs.YtnjolmbdbgbmbaaGreatDoor.Rdr
namespace Go.Proofs.YtnjolmbdbgbmbaaGreatDoor.Fixa
open Signed (inB ret_int ret_bool l1In_any)
def cellsOf (l:List UInt8):List Value:=l.map fun x=>Value.int .u8 (x.toNat:Int)
def Row (w:World) (B:Nat) (l:List UInt8):Prop:=w.heap[B]? = some (.cells (cellsOf l).toArray 5 (0,0))
def over (l:List UInt8) (o:Nat) (s:List UInt8):List UInt8:=l.take o ++ s ++ l.drop (o+s.length)
def u8 (x:Int):UInt8:=UInt8.ofNat x.toNat
theorem u8_val {x:Int} (h0:0<=x) (h1:x<=255):((u8 x).toNat:Int)=x:=by
 have:(UInt8.ofNat x.toNat).toNat=x.toNat:=by simp;omega
 unfold u8;omega
theorem u8_nat (b:UInt8):u8 (b.toNat:Int)=b:=by unfold u8;simp
theorem over_length (l:List UInt8) (o:Nat) (s:List UInt8) (h:o+s.length<=l.length):(over l o s).length=l.length:=by
 unfold over;simp;omega
theorem Row.lt {w:World} {B:Nat} {l:List UInt8} (h:Row w B l):B<w.heap.size:=lt_of_block h
theorem Row.kept {w w':World} {B:Nat} {l:List UInt8} (h:Row w B l) (hk:w'.heap[B]? = w.heap[B]?):Row w' B l:=hk.trans h
theorem Row.below {w w':World} {B:Nat} {l:List UInt8} (h:Row w B l) (b:Below w.heap.size w w'):Row w' B l:=h.kept (b.block B h.lt)
theorem cell_at {w:World} {B:Nat} {l:List UInt8} (h:Row w B l) (i:Nat) (hi:i<l.length):w.cell? ⟨B,i,none⟩=some (.int .u8 (l[i].toNat:Int)):=by
 unfold Row at h
 unfold World.cell?
 simp only [h]
 simp [cellsOf,hi]
theorem free_at {w:World} {B:Nat} {l:List UInt8} (h:Row w B l) (i:Nat):w.frozen? ⟨B,i,none⟩=false:=by
 unfold Row at h
 unfold World.frozen?
 simp only [h]
 simp
theorem put_at {w:World} {B:Nat} {l:List UInt8} (h:Row w B l) (i:Nat) (hi:i<l.length) (v:Int) (v0:0<=v) (v1:v<=255):Row (w.setCell ⟨B,i,none⟩ (.int .u8 v)) B (l.set i (u8 v)):=by
 have hlt:=h.lt
 have h':w.heap[B]=.cells (cellsOf l).toArray 5 (0,0):=by simpa [Array.getElem?_eq_getElem hlt,Row] using h
 show (w.heap.modify B _)[B]? = _
 rw [Array.getElem?_eq_getElem (by simpa using hlt),Array.getElem_modify_self,h']
 have hv:=u8_val v0 v1
 simp [cellsOf,List.map_set,hv]
theorem over_get (l:List UInt8) (o:Nat) (s:List UInt8) (i:Nat) (h:o<=l.length):(over l o s)[i]? = if i<o then l[i]? else if i<o+s.length then s[i-o]? else l[i]?:=by
 unfold over
 have ht:(l.take o).length=o:=by simp;omega
 by_cases h1:i<o
 ·rw [if_pos h1,List.append_assoc,List.getElem?_append_left (by omega),List.getElem?_take_of_lt h1]
 rw [if_neg h1,List.append_assoc,List.getElem?_append_right (by omega),ht]
 by_cases h2:i<o+s.length
 ·rw [if_pos h2,List.getElem?_append_left (by omega)]
 ·rw [if_neg h2,List.getElem?_append_right (by omega),List.getElem?_drop]
  congr 1
  omega
theorem over_cons (l:List UInt8) (o:Nat) (b:UInt8) (s:List UInt8) (h:o<l.length):over l o (b :: s)=over (l.set o b) (o+1) s:=by
 apply List.ext_getElem?
 intro i
 rw [over_get l o _ i (by omega),over_get (l.set o b) (o+1) s i (by simp;omega),List.length_cons]
 by_cases h1:i<o
 ·rw [if_pos h1,if_pos (by omega),List.getElem?_set_ne (by omega)]
 rw [if_neg h1]
 by_cases h2:i=o
 ·subst h2
  rw [if_pos (by omega),if_pos (by omega),List.getElem?_set_self h,Nat.sub_self]
  rfl
 rw [if_neg (show ¬ i<o+1 by omega)]
 by_cases h3:i<o+1+s.length
 ·rw [if_pos (by omega),if_pos h3,show i-o=(i-(o+1))+1 by omega,List.getElem?_cons_succ]
 ·rw [if_neg (by omega),if_neg h3,List.getElem?_set_ne (by omega)]
theorem over_nil (l:List UInt8) (o:Nat):over l o []=l:=by unfold over;simp
theorem cells_at {B:Nat}:∀ (s:List UInt8) (l:List UInt8) (o:Nat) (w:World),Row w B l->o+s.length<=l.length->Row (w.setCells B o (cellsOf s)) B (over l o s)
 | [],l,o,w,h,_=>by rw [over_nil];exact h
 | b :: s,l,o,w,h,hf=>by
  simp only [List.length_cons] at hf
  rw [over_cons l o b s (by omega)]
  have hb:=b.toNat_lt
  have h1:=put_at h o (by omega) (b.toNat:Int) (by omega) (by omega)
  rw [u8_nat] at h1
  exact cells_at s (l.set o b) (o+1) _ h1 (by simp;omega)
theorem str_at {w:World} {B:Nat} {l:List UInt8} (h:Row w B l) (n cap:Nat) (hn:l.length=n):(convert 48 9 (.slice (some ⟨B,0,none⟩) n cap)).run prog w=.ok (.string ⟨l.toArray⟩) w:=by
 subst hn
 exact run_convert_bytes_back (P:=prog) w 48 9 5 ⟨B,0,none⟩ cap l underlying48 underlying5 underlying9 (fun j hj=>by
  have ea:(⟨B,0,none⟩ : Addr).add j=⟨B,j,none⟩:=by unfold Addr.add;split <;> simp_all
  rw [ea]
  exact cell_at h j hj)
theorem infoB:(prog.info? 5).map (fun i=>(i.zero,i.size,i.bytes))=some (some (.int .u8 0),1,1):=by kernel_rfl
theorem info_parts {P:Program} {t:TypeId} {z:Value} {s b:Nat} (h:(P.info? t).map (fun i=>(i.zero,i.size,i.bytes))=some (some z,s,b)):∃ i,P.info? t=some i/\i.zero=some z/\i.size=s/\i.bytes=b:=by
 cases e:P.info? t with
 | none=>rw [e] at h;cases h
 | some i =>
  rw [e] at h
  simp only [Option.map_some,Option.some.injEq,Prod.mk.injEq] at h
  exact ⟨i,rfl,h.1,h.2.1,h.2.2⟩
theorem made (n:Nat) (hn:n<=5000):∃ o:Obj,∀ u:World,(Instr.makeSlice 48 (.int .i64 (n:Int)) (.int .i64 (n:Int))).run prog u=.ok (.slice (some ⟨u.heap.size,0,none⟩) n n) (u.alloc o)/\Row (u.alloc o) u.heap.size (List.replicate n 0):=by
 obtain ⟨i0,hi,hz0,hz1,hz2⟩:=info_parts infoB
 refine ⟨.cells (cellsOf (List.replicate n 0)).toArray 5 (0,0),fun u=>⟨?_,heap_alloc_new _ _⟩⟩
 have h:=run_make (P:=prog) u 48 5 i0 (.int .u8 0) underlying48 hi hz0 .i64 .i64 (n:Int) (n:Int) (by omega) (Int.le_refl _) (by rw [hz2];omega) (by omega)
 have e:madeCells #[.int .u8 0] n=(cellsOf (List.replicate n 0)).toArray:=by
  apply Array.toList_inj.1
  rw [toList_madeCells_one]
  simp [cellsOf]
 have h':=h
 simp [hz1,Value.cells,e] at h'
 simpa using h'
end Go.Proofs.YtnjolmbdbgbmbaaGreatDoor.Fixa
namespace Go.Proofs.YtnjolmbdbgbmbaaGreatDoor.Smal
open Go.Deep
open Fixa (Row over cellsOf u8 u8_val cell_at free_at cells_at over_get over_length)
open Busw (M)
open Busx Runp Runq Mnew
structure Bytes (W:World) (b off len:Nat) (c:Nat->Int):Prop where
 lt:b<W.heap.size
 cell:∀ i,i<len->0<=c i/\c i<=255/\W.cell? ⟨b,off+i,none⟩=some (.int .u8 (c i))
theorem Bytes.below {W W':World} {b off len:Nat} {c:Nat->Int} (h:Bytes W b off len c) (hb:Below W.heap.size W W'):Bytes W' b off len c :=
 ⟨Nat.lt_of_lt_of_le h.lt hb.size,fun i hi=>⟨(h.cell i hi).1,(h.cell i hi).2.1,(hb.cell (p:=⟨b,off+i,none⟩) h.lt).trans (h.cell i hi).2.2⟩⟩
theorem bytes_of {w:World} {a:Option Addr} {len cap:Nat} {zs:List Int} (h:Rdr.IsRow .u8 w a len cap zs) (hl:0<len):∃ (b off:Nat) (c:Nat->Int),a=some ⟨b,off,none⟩/\Bytes w b off len c:=by
 rcases h with ⟨_,rfl,_⟩|⟨⟨b,off,spot⟩,rfl,h1,h2,h3,hc,hw⟩
 ·exact absurd hl (Nat.lt_irrefl _)
 ·have c0:=hc 0 (by omega)
  have hspot:spot=none:=by simpa [Addr.add] using World.cell?_spot c0
  subst hspot
  have e:∀ i,(⟨b,off,none⟩ : Addr).add i=⟨b,off+i,none⟩:=fun i=>by unfold Addr.add;split <;> simp_all
  have hb:b<w.heap.size:=World.block_lt_of_cell? w ⟨b,off,none⟩ (by simpa [Addr.add] using c0)
  refine ⟨b,off,fun i=>zs.getD i 0,rfl,hb,fun i hi=>?_⟩
  have hi':i<zs.length:=by omega
  have:=bounds_u8 (hw (zs.getD i 0) (by rw [List.getD_eq_getElem?_getD,List.getElem?_eq_getElem hi'];exact List.getElem_mem hi'))
  refine ⟨this.1,this.2,?_⟩
  rw [<- e i]
  exact hc i hi'
theorem add_at (A j:Nat):(⟨A,0,none⟩ : Addr).add j=⟨A,j,none⟩:=by unfold Addr.add;split <;> simp_all
theorem copy_from {w:World} {B A:Nat} {l:List UInt8} (h:Row w B l) (o dLen dCap n sCap:Nat) (s:List UInt8) (hn:s.length=n) (hA:∀ j (hj:j<s.length),w.cell? ⟨A,j,none⟩=some (.int .u8 (s[j].toNat:Int))) (hle:s.length<=dLen) (hf:o+s.length<=l.length) :
  ∃ w',(∀ ty,(Builtin.copy_ #[48,48] ty #[.slice (some ⟨B,o,none⟩) dLen dCap,.slice (some ⟨A,0,none⟩) n sCap]).run prog w=.ok (goInt n) w')/\Row w' B (over l o s)/\∀ (Q:Nat) (w0:World),Q<=B->Below Q w0 w->Below Q w0 w':=by
 subst hn
 have hl:(cellsOf s).length=s.length:=by simp [cellsOf]
 refine ⟨w.setCells B o (cellsOf s),fun ty=>?_,cells_at _ _ _ _ h hf,fun Q w0 hQ b=>below_setCells hQ _ _ _ b⟩
 have:=run_copy_cells (P:=prog) w 48 48 ty 5 B o dLen dCap ⟨A,0,none⟩ s.length sCap (cellsOf s) underlying48 (by kernel_rfl) (by rw [hl];exact (Nat.min_eq_left hle).symm) (fun j v hv=>by
  rw [add_at]
  have hj:j<s.length:=by
   have:=(List.getElem?_eq_some_iff.1 hv).1
   omega
  rw [hA j hj]
  simp only [cellsOf,List.getElem?_map,List.getElem?_eq_getElem hj,Option.map_some] at hv
  exact hv) (fun j hj=>by rw [cell_at h (o+j) (by omega)];rfl) (fun j hj=>free_at h _) (fun v hv=>by
  obtain ⟨x,_,rfl⟩:=List.mem_map.1 hv
  rfl)
 rw [hl] at this
 exact this
theorem rom_at (l s:List UInt8) (o i:Nat) (v:Int) (ho:o+s.length<=l.length) (hi:i<s.length) (hv:(s[i].toNat:Int)=v) (k:Int) (hk:k=(o:Int)+i):CartR.byteAt ⟨(over l o s).toArray⟩ k=v:=by
 have hlen:=over_length l o s ho
 have hg:=over_get l o s (o+i) (by omega)
 rw [if_neg (by omega),if_pos (by omega),show o+i-o=i by omega,List.getElem?_eq_getElem hi] at hg
 have hki:k.toNat=o+i:=by omega
 unfold CartR.byteAt
 have hsz:(⟨(over l o s).toArray⟩ : ByteArray).size=l.length:=by show (over l o s).toArray.size=_;simp [hlen]
 rw [dif_pos (by rw [hsz];omega)]
 show (((over l o s).toArray[k.toNat]'(by simp [hlen];omega)).toNat:Int)=v
 have:(over l o s).toArray[k.toNat]'(by simp [hlen];omega)=s[i]:=by
  have h2:(over l o s)[k.toNat]? = some s[i]:=by rw [hki];exact hg
  simp only [List.getElem_toArray]
  exact (List.getElem?_eq_some_iff.1 h2).2
 rw [this,hv]
theorem rom_old (l s:List UInt8) (o:Nat) (k:Int) (ho:o+s.length<=l.length) (h0:0<=k) (h1:k<o):CartR.byteAt ⟨(over l o s).toArray⟩ k=CartR.byteAt ⟨l.toArray⟩ k:=by
 have hlen:=over_length l o s ho
 have hg:=over_get l o s k.toNat (by omega)
 rw [if_pos (by omega)] at hg
 unfold CartR.byteAt
 have hsz:(⟨(over l o s).toArray⟩ : ByteArray).size=l.length:=by show (over l o s).toArray.size=_;simp [hlen]
 have hsz2:(⟨l.toArray⟩ : ByteArray).size=l.length:=by show l.toArray.size=_;simp
 rw [dif_pos (by rw [hsz];omega),dif_pos (by rw [hsz2];omega)]
 show (((over l o s).toArray[k.toNat]'(by simp [hlen];omega)).toNat:Int)=((l.toArray[k.toNat]'(by simp;omega)).toNat:Int)
 have:(over l o s).toArray[k.toNat]'(by simp [hlen];omega)=l.toArray[k.toNat]'(by simp;omega):=by
  rw [List.getElem?_eq_getElem (show k.toNat<l.length by omega)] at hg
  simp only [List.getElem_toArray]
  exact (List.getElem?_eq_some_iff.1 hg).2
 rw [this]
theorem new_512 (l:List UInt8) (hl:l.length=512) (kind:Int) (hk:kind=0 \/ kind=2):CartN.newB ⟨l.toArray⟩ kind=true:=by
 unfold CartN.newB Carts.okB
 have h:(⟨l.toArray⟩ : ByteArray).size=512:=by show l.toArray.size=_;simp [hl]
 rw [h,CartN.Z_size]
 rcases hk with rfl|rfl <;> decide
theorem ok_new {rom:ByteArray} {kind:Int} (h:CartN.newB rom kind=true):okMM (newM rom kind)=true:=by
 unfold okMM newM
 show MachK.okM 0 0 0 0 0 0 0 0 65534 0 (Carts.okB rom kind 1 (CartN.Z 256) 0 false 0) (CartN.Z 256).size (CartN.Z 127).size [] 0=true
 rw [show Carts.okB rom kind 1 (CartN.Z 256) 0 false 0=true from h,CartN.Z_size,CartN.Z_size]
 decide
theorem run_new {rom:ByteArray} {kind:Int} (h:CartN.newB rom kind=true):runV (newM rom kind) 50=runP 50 0 (newM rom kind):=by
 unfold runV
 rw [if_pos ⟨ok_new h,by decide,by decide⟩]
 rfl
theorem newV_ok {rom:ByteArray} {kind:Int} (h:CartN.newB rom kind=true):newV rom kind=newM rom kind:=by unfold newV;rw [if_pos h]
theorem new_own (W:World) (rom:ByteArray) (kind:Int) (base:Nat):W.ownsRow base 2 1 (.slice none (newM rom kind).out.length 0) (newM rom kind).out.length (Busw.outC (newM rom kind).out):=⟨rfl,.inl ⟨rfl,rfl⟩⟩
theorem gany {P:Program} {ops:Array Oper} {Q:Exit->Act->World->Prop} {md:Region.Mode} {fuel:Nat} {listed:Array Bool} {a:Act} {w:World} {i:Nat} {o:Oper} {rs:List Nat} (ho:ops[i]? = some o) (hg:Region.wanted o (yielded ops a.tmps)=true)
  (h:∀ K':Act->World->Prop,(∀ a w,wpAny P md ops Q fuel (listed.setIfInBounds i true) a w->K' a w)->Oper.wp P o a w K' Q) (hs:AllReady P md ops Q fuel listed a w rs):AllReady P md ops Q fuel listed a w (i :: rs) :=
 AllReady.cons ho (fun K hK=>by simp only [hg,if_true];exact h K hK) hs
theorem row_one (W:World) (v:Int):Outs.Row (W.alloc (.cells #[.int .i64 v] 2)) (some ⟨W.heap.size,0,none⟩) [v] :=
 .inr ⟨W.heap.size,0,rfl,by simp,fun i hi=>by
  have e:i=0:=by simp at hi;omega
  subst e
  rw [World.cell?_alloc_new]
  rfl⟩
end Go.Proofs.YtnjolmbdbgbmbaaGreatDoor.Smal
namespace Go.Proofs.YtnjolmbdbgbmbaaGreatDoor.Qmov
open Go.RowKit
open Qflo
theorem move_wp {P:Program} {ops:Array Oper} {Q:Exit->Act->World->Prop} {i:Nat} {o:Oper} {x:Operand} (hi:ops[i]? = some o) (ho:o.op=.move x) (hg:o.guard=none) {K:Act->World->Prop} {a:Act} {w:World}
  (h:wpOp P ops Q i K a w):∃ v,Yields P ops o v a/\K (a.put o.dst v) w:=by
 have hw:Region.wanted o (yielded ops a.tmps)=true:=by unfold Region.wanted;rw [hg]
 unfold wpOp at h
 simp only [hi,hw,if_true] at h
 have hv:∀ w,(execOp a.eval o).run P w=.ok (.value (a.eval x)) w:=fun w=>by unfold execOp;rw [ho];simp [go_sem]
 rcases h with h|h
 ·refine ⟨_,.inl ⟨hw,hv⟩,?_⟩
  unfold Oper.wp at h
  rw [hv w] at h
  exact h
 ·have h3:=h.1
  unfold Oper.asks at h3
  rw [show execOp a.eval o=(pure (.value (a.eval x)):Sem Next) from by unfold execOp;rw [ho]] at h3
  exact absurd (show noRoomEvent ∈ (#[]:Array _) from h3.1) (by simp)
def followsM (md:Region.Mode) (ops:Array Oper) (k n:Nat):Bool :=
 match ops[k]?,ops[n]? with
 | some ok,some on=>ok.after.all (fun e=>!Region.binds md e || on.after.any (fun d=>Region.binds md d && d.on == e.on)) && (match ok.op with|.move ..=>true|_=>false) && ok.guard.isNone
 | _,_=>false
theorem followsM_spec {md:Region.Mode} {ops:Array Oper} {k n:Nat} (h:followsM md ops k n=true):∃ ok on,ops[k]? = some ok/\ops[n]? = some on/\(∀ e ∈ ok.after,Region.binds md e=true->∃ d ∈ on.after,Region.binds md d=true/\d.on=e.on)/\(∃ x,ok.op=.move x)/\ok.guard=none:=by
 unfold followsM at h
 split at h
 ·rename_i ok on h1 h2
  simp only [Bool.and_eq_true] at h
  refine ⟨ok,on,h1,h2,fun e he hb=>?_,?_,by simpa using h.2⟩
  ·have:=(Array.all_eq_true_iff_forall_mem.1 h.1.1) e he
   simp only [hb,Bool.not_true,Bool.false_or] at this
   obtain ⟨d,hd,hb2⟩:=Array.any_eq_true'.1 this
   simp only [Bool.and_eq_true,beq_iff_eq] at hb2
   exact ⟨d,hd,hb2.1,hb2.2⟩
  ·have:=h.1.2
   split at this
   ·rename_i x hop;exact ⟨x,hop⟩
   ·cases this
 ·cases h
theorem any_move {P:Program} {ops:Array Oper} {md:Region.Mode} {Q:Exit->Act->World->Prop} {k n:Nat} (hsel:Region.noSelect ops=true) (hf:followsM md ops k n=true) (hfree:Region.free md ops (before md ops k) k=true) (hkn:k ≠ n)
  (hQ:∀ (d:Tmp) v c a w,Q (.panic c) (a.put (some d) v) w->Q (.panic c) a w) :
  ∀ (fuel:Nat) (listed:Array Bool) (a:Act) (w:World),listed.size=ops.size->wpAny P md (bound ops k n) Q fuel listed a w->wpAny P md ops Q fuel listed a w:=by
 obtain ⟨ok,on,hk,hn,hdep,⟨x,hop⟩,hg⟩:=followsM_spec hf
 have hlt:k<ops.size:=(Array.getElem?_eq_some_iff.1 hk).1
 have key:∀ (listed:Array Bool),listed.size=ops.size->n ∈ Region.ready md ops listed->¬ listed.getD k false=true->k ∈ Region.ready md ops listed:=fun listed hs hr hl=>by
  obtain ⟨_,o,ho,hall⟩:=mem_ready.1 hr
  rw [hn] at ho
  cases ho
  refine mem_ready.2 ⟨getD_in (by omega) (by simpa using hl),ok,hk,fun e he hb=>?_⟩
  obtain ⟨d,hd,hbd,heq⟩:=hdep e he hb
  rw [<- heq]
  exact hall d hd hbd
 intro fuel
 induction fuel with
 | zero =>
  intro listed a w hs H
  refine ⟨?_,H.2⟩
  cases hr:Region.ready md ops listed with
  | nil=>rfl
  | cons j js =>
   have hj:j ∈ Region.ready md ops listed:=by rw [hr];simp
   by_cases hjn:j=n/\¬ listed.getD k false=true
   ·have h1:=key listed hs (hjn.1 ▸ hj) hjn.2
    have h2:k ∈ Region.ready md (bound ops k n) listed:=ready_bound.2 ⟨h1,fun e=>absurd e hkn⟩
    rw [H.1] at h2
    cases h2
   ·have h2:j ∈ Region.ready md (bound ops k n) listed:=ready_bound.2 ⟨hj,fun e=>Decidable.byContradiction fun h=>hjn ⟨e,h⟩⟩
    rw [H.1] at h2
    cases h2
 | succ fuel ih =>
  intro listed a w hs H
  by_cases hr:k ∈ Region.ready md ops listed
  ·have h1:=H.2 k (ready_bound.2 ⟨hr,fun e=>absurd e hkn⟩)
   obtain ⟨v,hy,h2⟩:=move_wp hk hop hg (wpOp_bound.1 h1)
   have h3:=ih _ _ _ (by simp [hs]) h2
   refine wpAny_first hk (Region.noSelect_spec hsel) (fun c a w=>put_panic hQ _ _ c a w) fuel listed a w (fun j oj hj hne hun hno=>?_) hr hy h3
   refine Region.free_spec hk hfree j oj hj hne ?_ hno
   rw [before_get (Array.getElem?_eq_some_iff.1 hj).1]
   cases hw:Region.waitsFor md ops k j with
   | false=>rfl
   | true =>
    obtain ⟨o2,ho2,e,he,hb,heq⟩:=Region.waitsFor_spec hw
    obtain ⟨_,o3,ho3,hall⟩:=mem_ready.1 hr
    rw [ho2] at ho3
    cases ho3
    have h5:=hall e he hb
    rw [heq,getD_both hun] at h5
    cases h5
  ·have hrr:∀ j,j ∈ Region.ready md ops listed->j ∈ Region.ready md (bound ops k n) listed:=fun j hj=>ready_bound.2 ⟨hj,fun e=>by
    subst e
    exact Decidable.byContradiction fun h=>hr (key listed hs hj h)⟩
   refine ⟨fun h0=>H.1 ?_,fun j hj=>wpOp_mono (fun a w h=>ih _ _ _ (by simp [hs]) h) (wpOp_bound.1 (H.2 j (hrr j hj)))⟩
   cases hb:Region.ready md (bound ops k n) listed with
   | nil=>rfl
   | cons j js =>
    have hj:j ∈ Region.ready md (bound ops k n) listed:=by rw [hb];simp
    have:=(ready_bound.1 hj).1
    rw [h0] at this
    cases this
theorem tail_move {P:Program} {id:Nat} {Q:Exit->Act->World->Prop} {a:Act} {w:World} {l:List Oper} (k n:Nat) (hm:P.follows .mixedOrders=true) (hB:(decide (k ≠ n) && Region.noSelect l.toArray && followsM .any l.toArray k n && Region.free .any l.toArray (before .any l.toArray k) k && Region.lexTailB .any (bound l.toArray k n) n)=true)
  (hQ:∀ (d:Tmp) v c a w,Q (.panic c) (a.put (some d) v) w->Q (.panic c) a w)
  (h:wpQuiet P l.toArray (fun w'=>∃ p:Regrown,w'=Go.Sort.grow (redrawn w p.d) p.os) (fun a'=>∀ w',(∃ p:Regrown,w'=Go.Sort.grow (redrawn w p.d) p.os)->wpList P l.toArray Q (l.drop n) a' w') (l.take n) a):(Code.region id l.toArray true).wp P Q a w:=by
 simp only [Bool.and_eq_true,decide_eq_true_eq] at hB
 obtain ⟨⟨⟨⟨hkn,hsel⟩,hf⟩,hfree⟩,hB⟩:=hB
 have hsz:(bound l.toArray k n).size=l.toArray.size:=by unfold bound;simp
 refine wp_region_any hm (any_move hsel hf hfree hkn hQ _ _ _ _ (by simp) ?_)
 have hnn:n<l.length:=by
  obtain ⟨ok,on,hk,hn,_⟩:=followsM_spec hf
  simpa using (Array.getElem?_eq_some_iff.1 hn).1
 have ht:(bound l.toArray k n).toList.take n=l.take n:=by
  apply List.ext_getElem?
  intro i
  rw [List.getElem?_take,List.getElem?_take]
  split
  ·rw [Array.getElem?_toList,get_bound,if_neg (by omega)];simp
  ·rfl
 have hd:∃ o,l.drop n=o :: l.drop (n+1)/\(bound l.toArray k n).toList.drop n=lay k o :: l.drop (n+1):=by
  refine ⟨l[n],List.drop_eq_getElem_cons hnn,?_⟩
  apply List.ext_getElem?
  intro i
  rw [List.getElem?_drop,Array.getElem?_toList,get_bound]
  cases i with
  | zero=>simp [hnn]
  | succ i=>rw [if_neg (by omega)];simp [Nat.add_assoc,Nat.add_comm 1 i]
 obtain ⟨o,ho1,ho2⟩:=hd
 have H:=region_any (l:=(bound l.toArray k n).toList) (Q:=Q) (a:=a) (w:=w) (C:=fun w'=>∃ p:Regrown,w'=Go.Sort.grow (redrawn w p.d) p.os) n (by rw [Array.toArray_toList];exact hB) ⟨⟨w.drawn+1,#[]⟩,by rw [Go.Sort.grow_empty];rfl⟩ (P:=P) (by
  rw [Array.toArray_toList,ht]
  refine wpQuiet_bound _ ?_
  refine wpQuiet_mono (fun a' h w' hw'=>?_) _ _ h
  rw [ho2]
  have h1:=h w' hw'
  rw [ho1] at h1
  exact wpList_bound _ (wpList_lay h1))
 rw [Array.toArray_toList,hsz] at H
 exact H
end Go.Proofs.YtnjolmbdbgbmbaaGreatDoor.Qmov
