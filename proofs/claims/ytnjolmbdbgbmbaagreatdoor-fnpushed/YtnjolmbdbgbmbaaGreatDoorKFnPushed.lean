/- For every code the law FnPushed answers true: the program that pushes two words of the code and pops them elsewhere, laid into a rom, halts, with the words where they were popped, but for the flags' low half, and the stack as it was; the code read and nothing old written; no condition. -/
import Derived.Test.YtnjolmbdbgbmbaaGreatDoorCards
import Derived.Test.YtnjolmbdbgbmbaaGreatDoorTie
import Derived.WalkKit
import Derived.ProofKit
import Derived.OpenShut
import Derived.ShutString
import Derived.ChangeOld
import Derived.ChangeVars
import Derived.OpenVars
import Derived.Below
import Derived.Deep.DeepHandedRow
import Derived.Lib.LaidTab
import Derived.Test.YtnjolmbdbgbmbaaGreatDoorP22
import Derived.Test.YtnjolmbdbgbmbaaGreatDoorP21
import Derived.Test.YtnjolmbdbgbmbaaGreatDoorP23
import Derived.Test.YtnjolmbdbgbmbaaGreatDoorP05
import Derived.Test.YtnjolmbdbgbmbaaGreatDoorP08
import Derived.Deep.WholeRow
import Derived.HandedShaped
import Derived.Test.YtnjolmbdbgbmbaaGreatDoorP00
set_option linter.unusedVariables false
set_option linter.unusedSimpArgs false
set_option maxRecDepth 20000
set_option maxHeartbeats 8000000
open Go.ChangeShapes Go.WideShapes Go.ChangeAt Go.RowKit
open Go.Proofs.Tryz
namespace Go.Proofs.YtnjolmbdbgbmbaaGreatDoor.fnPushed
open Go.ChangeMaps (open_string shut_string)
theorem own:ownKnob prog.godebug=none:=by kernel_rfl
theorem laidOut:laidOutB prog=true:=by kernel_rfl
theorem rowed:varsRowed prog Rows.fnPushedSpec.vars=true:=by kernel_rfl
def IsRow (k:IntKind) (w:World) (a:Option Addr) (len cap:Nat) (zs:List Int):Prop :=
 (a=none/\len=0/\cap=0/\zs=[]) \/
 ∃ x,a=some x/\len<=cap/\cap<=maxLen/\zs.length=cap/\(∀ i,i<zs.length->w.cell? (x.add i)=some (.int k (zs.getD i 0)))/\∀ n ∈ zs,(Lit.int k n).wf=true
theorem tables {W:World} (h:laidMetH prog Rows.fnPushedRow.laid W):Stpi.Tb W:=by
 obtain ⟨q0,L0,_⟩ : laidMet prog Rows.fnPushedRow.laid W:=h
 have t0:=Laid.txts (P:=prog) (l:=[[98,99],[100,101],[104,108],[97,102]]) (show prog.globalNamed "loop.example/g00460/impl.stackNames" = some 0 by kernel_rfl) (show (prog.globals[0]?).map (·.type)=some 189 by kernel_rfl) underlying189 underlying9 (by kernel_rfl) (by kernel_rfl) L0
 obtain ⟨q1,L1⟩:=Laid.skip L0
 have t1:=Laid.txts (P:=prog) (l:=[[],[98,105,116],[114,101,115],[115,101,116]]) (show prog.globalNamed "loop.example/g00460/impl.bitNames" = some 1 by kernel_rfl) (show (prog.globals[1]?).map (·.type)=some 189 by kernel_rfl) underlying189 underlying9 (by kernel_rfl) (by kernel_rfl) L1
 obtain ⟨q2,L2⟩:=Laid.skip L1
 exact ⟨fun i hi=>(t0 i hi).trans (by match i,hi with|0,_=>rfl|1,_=>rfl|2,_=>rfl|3,_=>rfl),fun i hi=>(t1 i hi).trans (by match i,hi with|0,_=>rfl|1,_=>rfl|2,_=>rfl|3,_=>rfl)⟩
open Busw Busx Busy Boxs Runp
theorem toRow {k:IntKind} {w:World} {a:Option Addr} {len cap:Nat} {zs:List Int} (h:IsRow k w a len cap zs):Rdr.IsRow k w a len cap zs:=h
theorem walk (w:World) (a0:Option Addr) (len0 cap0:Nat) (z0:List Int) (w0:IsRow .u8 w a0 len0 cap0 z0) (hT:Stpi.Tb w) (hm:HolI.MaxL w) :
  Calls prog 7 #[.slice a0 len0 cap0] w fun e w'=>e=.returned (.bool true)/\Below w.heap.size w w':=by
 have H:Hid (Rdr.IsRow .u8 w a0 len0 cap0 z0):=toRow w0
 have HM:Hid (Stpi.Tb w/\HolI.MaxL w):=⟨hT,hm⟩
 have hz:=zeroM
 obtain ⟨cZ,hcZ⟩ : ∃ c,c=cellsM Z0 none 0:=⟨_,rfl⟩
 rw [<- hcZ] at hz
 have HZ:Hid (cZ=cellsM Z0 none 0):=hcZ
 clear w0 hT hm hcZ
 have cb:=Rdr.big_any a0 len0 cap0 w H.out.len
 by_cases hbig:Rdr.bigB len0=true
 ·rw [hbig] at cb
  go_enter func7,ntmps7
  go_wp2_with (go_at_call 25;refine cb.mono ?_;rintro e wx ⟨rfl,hwx⟩;rw [hwx];clear hwx wx)
  go_ret
  exact ⟨rfl,Below.refl _ _⟩
 have hbig:Rdr.bigB len0=false:=by simpa using hbig
 rw [hbig] at cb
 by_cases hl:len0<4
 ·have dl:decide (len0<4)=true:=decide_eq_true hl
  have dl2:decide ((len0:Int)<4)=true:=decide_eq_true (by omega)
  go_enter func7,ntmps7
  go_wp2_with (go_at_call 25;refine cb.mono ?_;rintro e wx ⟨rfl,hwx⟩;rw [hwx];clear hwx wx)
  go_ret
  exact ⟨rfl,Below.refl _ _⟩
 have dl:decide (len0<4)=false:=decide_eq_false hl
 have dl2:decide ((len0:Int)<4)=false:=decide_eq_false (by omega)
 obtain ⟨b,off,c,rfl,hby⟩:=Smal.bytes_of H.out (by omega)
 have BY:Hid (Smal.Bytes w b off len0 c):=hby
 clear hby H
 obtain ⟨o5,hmk⟩:=Fixa.made 512 (by decide)
 have hm1:∀ u:World,(Instr.makeSlice 48 (.int .i64 512) (.int .i64 512)).run prog u=.ok (.slice (some ⟨u.heap.size,0,none⟩) 512 512) (u.alloc o5):=fun u=>(hmk u).1
 go_enter func7,ntmps7
 go_upto_region 4 with (go_at_call 25;refine cb.mono ?_;rintro e wx ⟨rfl,hwx⟩;rw [hwx];clear hwx wx)
 clear cb hbig dl dl2 hm1
 have RW:Hid (Fixa.Row (w.alloc o5) w.heap.size (List.replicate 512 0)):=(hmk w).2
 have V:Hid (Below w.heap.size w (w.alloc o5)):=zAl _ _
 clear hmk
 generalize w.alloc o5=u0 at RW V |-
 have q0:=(BY.out.below V.out).cell 0 (by omega)
 obtain ⟨x00,x01,xc0⟩:=q0
 obtain ⟨x0,hx0⟩ : ∃ x,x=c 0:=⟨_,rfl⟩
 rw [<- hx0] at x00 x01 xc0
 have i0:(0:Int)<(len0:Int):=by omega
 have HX0:Hid (x0=c 0):=hx0
 clear hx0
 have q1:=(BY.out.below V.out).cell 1 (by omega)
 obtain ⟨x10,x11,xc1⟩:=q1
 obtain ⟨x1,hx1⟩ : ∃ x,x=c 1:=⟨_,rfl⟩
 rw [<- hx1] at x10 x11 xc1
 have i1:(1:Int)<(len0:Int):=by omega
 have HX1:Hid (x1=c 1):=hx1
 clear hx1
 have q2:=(BY.out.below V.out).cell 2 (by omega)
 obtain ⟨x20,x21,xc2⟩:=q2
 obtain ⟨x2,hx2⟩ : ∃ x,x=c 2:=⟨_,rfl⟩
 rw [<- hx2] at x20 x21 xc2
 have i2:(2:Int)<(len0:Int):=by omega
 have HX2:Hid (x2=c 2):=hx2
 clear hx2
 have q3:=(BY.out.below V.out).cell 3 (by omega)
 obtain ⟨x30,x31,xc3⟩:=q3
 obtain ⟨x3,hx3⟩ : ∃ x,x=c 3:=⟨_,rfl⟩
 rw [<- hx3] at x30 x31 xc3
 have i3:(3:Int)<(len0:Int):=by omega
 have HX3:Hid (x3=c 3):=hx3
 clear hx3
 rw [Nat.add_zero] at xc0
 have r0:=cell_regrown xc0
 have r1:=cell_regrown xc1
 have r2:=cell_regrown xc2
 have r3:=cell_regrown xc3
 refine Qmov.tail_move 0 13 (by kernel_rfl) (by kernel_rfl) (fun _ _ _ _ _ h=>h) ?_
 simp only [List.take_succ_cons,List.take_zero,List.drop_succ_cons,List.drop_zero]
 repeat (go_big_quiet_step (first|fail))
 refine wpQuiet_nil ?_
 intro _ hw'
 obtain ⟨⟨dq,osq⟩,hw''⟩:=hw'
 subst hw''
 have hbg:=below_regrown u0 dq osq
 have RW:=zHd (RW.out.below hbg)
 have V:=zHd (CartL.after V.out hbg)
 clear hbg
 generalize Go.Sort.grow (redrawn u0 dq) osq=u1 at RW V |-
 have RA:Hid (Fixa.Row (u1.alloc (.cells #[.int .u8 1,.int .u8 x0,.int .u8 x1,.int .u8 17,.int .u8 x2,.int .u8 x3,.int .u8 197,.int .u8 213,.int .u8 193,.int .u8 241,.int .u8 118] 5)) w.heap.size (List.replicate 512 0)):=RW.out.below (zAl _ _)
 obtain ⟨w1,hc,r3,b3⟩:=Smal.copy_from RA.out 0 512 512 11 11 [1,Fixa.u8 x0,Fixa.u8 x1,17,Fixa.u8 x2,Fixa.u8 x3,197,213,193,241,118] rfl (A:=u1.heap.size) (fun j hj=>by
  rw [World.cell?_alloc_new]
  match j,hj with
  | 0,_=>rfl
  | 1,_=>show some (Value.int .u8 x0)=some (.int .u8 ((Fixa.u8 x0).toNat:Int));rw [Fixa.u8_val x00 x01]
  | 2,_=>show some (Value.int .u8 x1)=some (.int .u8 ((Fixa.u8 x1).toNat:Int));rw [Fixa.u8_val x10 x11]
  | 3,_=>rfl
  | 4,_=>show some (Value.int .u8 x2)=some (.int .u8 ((Fixa.u8 x2).toNat:Int));rw [Fixa.u8_val x20 x21]
  | 5,_=>show some (Value.int .u8 x3)=some (.int .u8 ((Fixa.u8 x3).toNat:Int));rw [Fixa.u8_val x30 x31]
  | 6,_=>rfl
  | 7,_=>rfl
  | 8,_=>rfl
  | 9,_=>rfl
  | 10,_=>rfl
  ) (by simp) (by simp)
 have b4:=b3 w.heap.size w (Nat.le_refl _) (zGr V.out (.cells #[.int .u8 1,.int .u8 x0,.int .u8 x1,.int .u8 17,.int .u8 x2,.int .u8 x3,.int .u8 197,.int .u8 213,.int .u8 193,.int .u8 241,.int .u8 118] 5))
 have bB:=b3 _ _ (Nat.le_refl _) zRf
 clear RA
 go_upto_region 5 with fail
 obtain ⟨l3,hl3⟩ : ∃ l,l=(Fixa.over (List.replicate 512 0) 0 [1,Fixa.u8 x0,Fixa.u8 x1,17,Fixa.u8 x2,Fixa.u8 x3,197,213,193,241,118]):=⟨_,rfl⟩
 have RW:Hid (Fixa.Row w1 w.heap.size l3):=by rw [hl3];exact r3
 have V:Hid (Below w.heap.size w w1):=b4
 have HLR:Hid (l3.length=512):=by show _=_;rw [hl3,Fixa.over_length _ _ _ (by simp)];simp
 have HNB:Hid (CartN.newB ⟨l3.toArray⟩ 2=true):=Smal.new_512 l3 HLR.out 2 (by decide)
 have HRS:Hid ((⟨l3.toArray⟩ : ByteArray).size<=maxLen):=by show l3.toArray.size<=_;rw [List.size_toArray,HLR.out];decide
 have HNV:Hid (Mnew.newV ⟨l3.toArray⟩ 2=Runq.newM ⟨l3.toArray⟩ 2):=Smal.newV_ok HNB.out
 obtain ⟨m,hmm⟩ : ∃ m,m=Runq.newM ⟨l3.toArray⟩ 2:=⟨_,rfl⟩
 have HOW:Hid (∀ W:World,W.ownsRow 0 2 1 (.slice none m.out.length 0) m.out.length (outC m.out)):=fun W=>by rw [hmm];exact Smal.new_own W _ _ 0
 have HSM:Hid (Sm m):=by show Sm m;rw [hmm,<- HNV.out];exact Mnew.sm_new _ _ HRS.out
 have HLm:Hid (m.out.length<=1048576):=HSM.out.out
 have HSP:Hid (m.sp=65534):=by show m.sp=_;rw [hmm];rfl
 have HRUN:Hid (∃ R n,runV m 50=(R,1,n)/\R.rB=x3/\R.rC=x2/\R.ra=x1/\R.rf=x0 / 16*16/\R.sp=65534):=by
  show ∃ R n,_
  rw [hmm,Smal.run_new HNB.out]
  exact Runq.pushed_run _ 2 x0 x1 x2 x3 ⟨x00,x01⟩ ⟨x10,x11⟩ ⟨x20,x21⟩ ⟨x30,x31⟩ (by rw [hl3];exact Smal.rom_at (List.replicate 512 0) [1,Fixa.u8 x0,Fixa.u8 x1,17,Fixa.u8 x2,Fixa.u8 x3,197,213,193,241,118] 0 0 1 (by simp) (by simp) rfl _ rfl) (by rw [hl3];exact Smal.rom_at (List.replicate 512 0) [1,Fixa.u8 x0,Fixa.u8 x1,17,Fixa.u8 x2,Fixa.u8 x3,197,213,193,241,118] 0 1 x0 (by simp) (by simp) (Fixa.u8_val x00 x01) _ rfl) (by rw [hl3];exact Smal.rom_at (List.replicate 512 0) [1,Fixa.u8 x0,Fixa.u8 x1,17,Fixa.u8 x2,Fixa.u8 x3,197,213,193,241,118] 0 2 x1 (by simp) (by simp) (Fixa.u8_val x10 x11) _ rfl) (by rw [hl3];exact Smal.rom_at (List.replicate 512 0) [1,Fixa.u8 x0,Fixa.u8 x1,17,Fixa.u8 x2,Fixa.u8 x3,197,213,193,241,118] 0 3 17 (by simp) (by simp) rfl _ rfl) (by rw [hl3];exact Smal.rom_at (List.replicate 512 0) [1,Fixa.u8 x0,Fixa.u8 x1,17,Fixa.u8 x2,Fixa.u8 x3,197,213,193,241,118] 0 4 x2 (by simp) (by simp) (Fixa.u8_val x20 x21) _ rfl) (by rw [hl3];exact Smal.rom_at (List.replicate 512 0) [1,Fixa.u8 x0,Fixa.u8 x1,17,Fixa.u8 x2,Fixa.u8 x3,197,213,193,241,118] 0 5 x3 (by simp) (by simp) (Fixa.u8_val x30 x31) _ rfl) (by rw [hl3];exact Smal.rom_at (List.replicate 512 0) [1,Fixa.u8 x0,Fixa.u8 x1,17,Fixa.u8 x2,Fixa.u8 x3,197,213,193,241,118] 0 6 197 (by simp) (by simp) rfl _ rfl) (by rw [hl3];exact Smal.rom_at (List.replicate 512 0) [1,Fixa.u8 x0,Fixa.u8 x1,17,Fixa.u8 x2,Fixa.u8 x3,197,213,193,241,118] 0 7 213 (by simp) (by simp) rfl _ rfl) (by rw [hl3];exact Smal.rom_at (List.replicate 512 0) [1,Fixa.u8 x0,Fixa.u8 x1,17,Fixa.u8 x2,Fixa.u8 x3,197,213,193,241,118] 0 8 193 (by simp) (by simp) rfl _ rfl) (by rw [hl3];exact Smal.rom_at (List.replicate 512 0) [1,Fixa.u8 x0,Fixa.u8 x1,17,Fixa.u8 x2,Fixa.u8 x3,197,213,193,241,118] 0 9 241 (by simp) (by simp) rfl _ rfl) (by rw [hl3];exact Smal.rom_at (List.replicate 512 0) [1,Fixa.u8 x0,Fixa.u8 x1,17,Fixa.u8 x2,Fixa.u8 x3,197,213,193,241,118] 0 10 118 (by simp) (by simp) rfl _ rfl)
 rw [<- hmm] at HNV
 clear hmm
 clear hl3 r3 b3 b4 bB hc r0 r1 r2 xc0 xc1 xc2 xc3
 refine wp_region_list ?_
 have hst:=Fixa.str_at RW.out 512 512 HLR.out
 go_wp2_with fail
 refine Calls.mono (Mnew.implNew_M _ 2 _ HRS.out) ?_
 rintro e w2 ⟨rfl,hb⟩
 rw [HNV.out,HNB.out]
 clear hst
 have RW:=zHd (RW.out.below hb)
 have V:=zHd (CartL.after V.out hb)
 clear hb
 rename_i hK
 refine hK _ _ ?_
 clear hK
 refine wpList_plain rfl (fun K hK=>?_)
 go_simp
 refine hK _ _ ?_
 clear hK
 refine wpList_plain rfl (fun K hK=>?_)
 go_simp
 refine hK _ _ ?_
 clear hK
 refine wpList_plain rfl (fun K hK=>?_)
 go_simp
 refine hK _ _ ?_
 clear hK
 refine wpList_plain rfl (fun K hK=>?_)
 go_simp
 refine hK _ _ ?_
 clear hK
 refine wpList_store_row rfl 33 _ _ rfl w2.heap.size (cellsM m none 0) rfl rfl _ _ (heap_alloc_last w2 _) (infoMs _ _ _) (by rw [HZ.out,size_M,size_M]) (one_M _ _ _) ?_
 rw [World.setRow_alloc_new]
 obtain ⟨u2,hu⟩ : ∃ u,u=w2.alloc (.cells (cellsM m none 0) 33):=⟨_,rfl⟩
 obtain ⟨b1,hbb⟩ : ∃ b,b=w2.heap.size:=⟨_,rfl⟩
 have X1:Hid (Bx u2 b1 m none 0):=by show Bx _ _ _ _ _;rw [hu,hbb];exact Bx.new (HOW.out _)
 have RW:Hid (Fixa.Row u2 w.heap.size l3):=by show Fixa.Row u2 w.heap.size l3;rw [hu];exact RW.out.below (zAl _ _)
 have V:Hid (Below w.heap.size w u2):=by show Below _ _ _;rw [hu];exact zGr V.out _
 go_upto_region 6 with fail
 rw [<- hu,<- hbb]
 clear hu hbb
 refine wp_region_list ?_
 have hst:=Fixa.str_at RW.out 512 512 HLR.out
 go_wp2_with fail
 refine Calls.mono (Mnew.specNew_M _ 2 _ HRS.out) ?_
 rintro e w3 ⟨rfl,hb⟩
 rw [HNV.out,HNB.out]
 clear hst
 have RW:=zHd (RW.out.below hb)
 have X1:=zHd (X1.out.below hb)
 have V:=zHd (CartL.after V.out hb)
 clear hb
 rename_i hK
 refine hK _ _ ?_
 clear hK
 refine wpList_plain rfl (fun K hK=>?_)
 go_simp
 refine hK _ _ ?_
 clear hK
 refine wpList_plain rfl (fun K hK=>?_)
 go_simp
 refine hK _ _ ?_
 clear hK
 refine wpList_plain rfl (fun K hK=>?_)
 go_simp
 refine hK _ _ ?_
 clear hK
 refine wpList_plain rfl (fun K hK=>?_)
 go_simp
 refine hK _ _ ?_
 clear hK
 refine wpList_store_row rfl 33 _ _ rfl w3.heap.size (cellsM m none 0) rfl rfl _ _ (heap_alloc_last w3 _) (infoMs _ _ _) (by rw [HZ.out,size_M,size_M]) (one_M _ _ _) ?_
 rw [World.setRow_alloc_new]
 obtain ⟨u3,hu⟩ : ∃ u,u=w3.alloc (.cells (cellsM m none 0) 33):=⟨_,rfl⟩
 obtain ⟨b2,hbb⟩ : ∃ b,b=w3.heap.size:=⟨_,rfl⟩
 have X2:Hid (Bx u3 b2 m none 0):=by show Bx _ _ _ _ _;rw [hu,hbb];exact Bx.new (HOW.out _)
 have X1:Hid (Bx u3 b1 m none 0):=by show Bx _ _ _ _ _;rw [hu];exact X1.out.alloc _
 have RW:Hid (Fixa.Row u3 w.heap.size l3):=by show Fixa.Row u3 w.heap.size l3;rw [hu];exact RW.out.below (zAl _ _)
 have V:Hid (Below w.heap.size w u3):=by show Below _ _ _;rw [hu];exact zGr V.out _
 go_upto_region 7 with fail
 rw [<- hu,<- hbb]
 clear hu hbb
 obtain ⟨R,nR,hR,h1,h2,h3,h4,h5⟩:=HRUN.out

 refine wp_region_list ?_
 refine wpList_load_row rfl 33 _ rfl b1 rfl _ _ (0,0) _ X1.out.box underlying33 rfl (infoMs _ _ _) ?_
 go_wp2_with fail
 refine Calls.mono (Runi.implRun_any m none 0 50 _ HSM.out X1.out.sl (HM.out.1.below V.out) (HM.out.2.below V.out)) ?_
 rintro e w5 ⟨⟨p5,c5,rfl,own⟩,hb⟩
 rw [hR]
 rw [hR] at own
 simp only [] at own |-
 have OW:Hid (w5.ownsRow u3.heap.size 2 1 (.slice p5 R.out.length c5) R.out.length (outC R.out)):=own
 clear own
 have RW:=zHd (RW.out.below hb)
 have X1:=zHd (X1.out.below hb)
 have X2:=zHd (X2.out.below hb)
 have V:=zHd (CartL.after V.out hb)
 clear hb
 rename_i hK
 refine hK _ _ ?_
 clear hK
 refine wpList_plain rfl (fun K hK=>?_)
 go_simp
 refine hK _ _ ?_
 clear hK
 refine wpList_plain rfl (fun K hK=>?_)
 go_simp
 refine hK _ _ ?_
 clear hK
 refine wpList_plain rfl (fun K hK=>?_)
 go_simp
 refine hK _ _ ?_
 clear hK
 refine wpList_plain rfl (fun K hK=>?_)
 go_simp
 refine hK _ _ ?_
 clear hK
 refine wpList_plain rfl (fun K hK=>?_)
 go_simp
 refine hK _ _ ?_
 clear hK
 refine wpList_store_row rfl 33 _ _ rfl w5.heap.size (cellsM R p5 c5) rfl rfl _ _ (heap_alloc_last w5 _) (infoMs _ _ _) (by rw [HZ.out,size_M,size_M]) (one_M _ _ _) ?_
 rw [World.setRow_alloc_new]
 obtain ⟨u5,hu⟩ : ∃ u,u=w5.alloc (.cells (cellsM R p5 c5) 33):=⟨_,rfl⟩
 obtain ⟨b5,hbb⟩ : ∃ b,b=w5.heap.size:=⟨_,rfl⟩
 have X5:Hid (Bx u5 b5 R p5 c5):=by show Bx _ _ _ _ _;rw [hu,hbb];exact Bx.new OW.out
 have X1:Hid (Bx u5 b1 m none 0):=by show Bx _ _ _ _ _;rw [hu];exact X1.out.alloc _
 have X2:Hid (Bx u5 b2 m none 0):=by show Bx _ _ _ _ _;rw [hu];exact X2.out.alloc _
 have RW:Hid (Fixa.Row u5 w.heap.size l3):=by show Fixa.Row u5 w.heap.size l3;rw [hu];exact RW.out.below (zAl _ _)
 have V:Hid (Below w.heap.size w u5):=by show Below _ _ _;rw [hu];exact zGr V.out _
 go_upto_region 8 with fail
 rw [<- hu,<- hbb]
 clear hu hbb OW
 have xc0:_:=((BY.out.below V.out).cell 0 (by omega)).2.2
 rw [<- HX0.out] at xc0
 have xc1:_:=((BY.out.below V.out).cell 1 (by omega)).2.2
 rw [<- HX1.out] at xc1
 have xc2:_:=((BY.out.below V.out).cell 2 (by omega)).2.2
 rw [<- HX2.out] at xc2
 have xc3:_:=((BY.out.below V.out).cell 3 (by omega)).2.2
 rw [<- HX3.out] at xc3
 rw [Nat.add_zero] at xc0
 have r0:=cell_regrown xc0
 have r1:=cell_regrown xc1
 have r2:=cell_regrown xc2
 have r3:=cell_regrown xc3
 have j0:IntKind.i64.wrap x0=x0:=by rw [IntKind.wrap_i64];omega
 have j1:IntKind.i64.wrap x1=x1:=by rw [IntKind.wrap_i64];omega
 have j2:IntKind.i64.wrap x2=x2:=by rw [IntKind.wrap_i64];omega
 have j3:IntKind.i64.wrap x3=x3:=by rw [IntKind.wrap_i64];omega
 have j4:x0.tdiv 16=x0 / 16:=Int.tdiv_eq_ediv_of_nonneg x00
 have j5:IntKind.i64.wrap (x0 / 16)=x0 / 16:=by rw [IntKind.wrap_i64];omega
 have j6:IntKind.i64.wrap (x0 / 16*16)=x0 / 16*16:=by rw [IntKind.wrap_i64];omega
 have a2:=celM X5.out.box 2 (.int .i64 R.rB) rfl
 have a3:=celM X5.out.box 3 (.int .i64 R.rC) rfl
 have a0':=celM X5.out.box 0 (.int .i64 R.ra) rfl
 have a1:=celM X5.out.box 1 (.int .i64 R.rf) rfl
 have a8:=celM X5.out.box 8 (.int .i64 R.sp) rfl
 have b8:=celM X1.out.box 8 (.int .i64 m.sp) rfl
 rw [h1] at a2
 rw [h2] at a3
 rw [h3] at a0'
 rw [h4] at a1
 rw [h5] at a8
 rw [HSP.out] at b8
 have k2:=cell_regrown a2
 have k3:=cell_regrown a3
 have k0:=cell_regrown a0'
 have k1:=cell_regrown a1
 have k8:=cell_regrown a8
 have k9:=cell_regrown b8
 clear a2 a3 a0' a1 a8 b8 h1 h2 h3 h4 h5 hR
 obtain ⟨yf,hyf⟩ : ∃ y,y=x0 / 16*16:=⟨_,rfl⟩
 refine wp_region_quiet_below (by kernel_rfl) (by kernel_rfl) ?_
 repeat (first|(go_big_quiet_step (first|fail)))
 refine wpQuiet_nil ?_
 intro _ hw'
 obtain ⟨⟨dq,osq⟩,hw''⟩:=hw'
 subst hw''
 have VV:Hid (Below w.heap.size w (Go.Sort.grow (redrawn u5 dq) osq)):=CartL.after V.out (below_regrown u5 dq osq)
 go_wp2
 go_ret
 exact ⟨rfl,VV.out⟩
set_option maxRecDepth 100000 in
theorem contract (H:Type) (enc:TypeId × Value->H) (W:World) (base:Nat) (args:Array Value) (ds gs:List (DataW H)) (before:List MemPlace)
  (hval:∀ (j:Nat) t v,Tryz.f7.params[j]? = some t->args[j]? = some v->Value.okWide prog W .any base t v)
  (hW:DataW.Whole enc prog Tryz.f7.params.toList Rows.fnPushedSpec.vars false W args.toList ds gs before) (hL:laidMetH prog Rows.fnPushedRow.laid W) (hsh:W.ShapedOpen prog) :
  Calls prog 7 args W fun e W'=>∃ v,e=.returned v/\Rows.fnPushedSpec.post enc prog Tryz.f7 false true false false W args v W':=by
 have hW':=hW
 obtain ⟨p,q,hA0,hV,hbef,hfz,hnd⟩:=hW
 have hA:DataW.TrodAll enc prog W 0 (fun _=>true) true Tryz.f7.params.toList args.toList ds p:=hA0
 have hVk:DataW.TrodVars enc prog W (fun _=>true) Rows.fnPushedSpec.vars gs q:=hV
 rw [Tryz.params7] at hA hval
 obtain ⟨v0,vs0,d0,ds0,p0,q0,hargs,rfl,rfl,h0,r0⟩:=trodAll_cons hA
 obtain ⟨rfl,rfl,rfl⟩:=trodAll_nil r0
 obtain rfl:args=#[v0]:=by cases args;simp_all
 obtain ⟨g1,g2,rfl⟩ : ∃ g1 g2,gs=[g1,g2]:=by
  have hl:=Laid.vars_len hVk
  match gs,hl with
  | [g1,g2],_=>exact ⟨_,_,rfl⟩
 obtain ⟨a0,len0,cap0,rfl⟩:=okWide_slice underlying48 (hval 0 48 v0 rfl rfl)
 have k0:=h0
 have lt0:∀ x ∈ p0,x.block<W.heap.size:=by obtain ⟨m,hm⟩:=k0;exact DataW.trod_lt m _ _ _ hm
 obtain ⟨z0,w0⟩ : ∃ zs,IsRow .u8 W a0 len0 cap0 zs:=by
  obtain ⟨fuel,hf⟩:=h0
  rcases open_ints underlying48 underlying5 (by kernel_rfl) hf with ⟨hcs,_⟩|⟨x,l,c,zs,hcs,_,hl,hm,hz,_,hcell,hwz⟩
  ·simp [Value.cells] at hcs
   obtain ⟨rfl,rfl,rfl⟩:=hcs
   exact ⟨[],.inl ⟨rfl,rfl,rfl,rfl⟩⟩
  ·simp [Value.cells] at hcs
   obtain ⟨rfl,rfl,rfl⟩:=hcs
   exact ⟨zs,.inr ⟨_,rfl,hl,hm,by simpa using hz,hcell,hwz⟩⟩
 clear hA0
 refine (walk W a0 len0 cap0 z0 w0 (tables hL) (Tryz.laysM144.s1_3 W hsh)).mono fun e W' ⟨he,bel⟩=>?_
 subst he
 exact ⟨_,rfl,_,_,_,[],_,q,hW',trodAll_mk1 (shut_bool underlying4 _),(trodAll_cons_mk (Below.trod laidOut (by kernel_rfl) (of_decide_eq_true (by kernel_rfl)) k0 bel lt0) trodAll_mk0),Below.trodVars laidOut bel rowed hVk,bel.frame _,fun h=>by cases h⟩
noncomputable def laidWorld (os:Os):World :=
 { World.holding prog os ⟨#[],#[],[]⟩ with heap:=(fun h=>h.modify 0 fun|.cells _ t frozen=>.cells #[.string ⟨#[98,99]⟩,.string ⟨#[100,101]⟩,.string ⟨#[104,108]⟩,.string ⟨#[97,102]⟩] t frozen|o=>o) <| (fun h=>h.modify 1 fun|.cells _ t frozen=>.cells #[.string ⟨#[]⟩,.string ⟨#[98,105,116]⟩,.string ⟨#[114,101,115]⟩,.string ⟨#[115,101,116]⟩] t frozen|o=>o) <| (World.holding prog os ⟨#[],#[],[]⟩).heap }
theorem laid_met (os:Os):laidMet prog Rows.fnPushedRow.laid ((laidWorld os).forCall (fun _ _=>0) ⟨#[],#[.slice none 0 0],[]⟩).memory :=
 laidMet_of_run' 8 (by kernel_rfl) (by kernel_rfl)
theorem reads (os:Os) {H:Type} (enc:TypeId × Value->H):∃ places,DataW.whole enc prog ((laidWorld os).forCall (fun _ _=>0) ⟨#[],#[.slice none 0 0],[]⟩).memory Tryz.f7.params.toList Rows.fnPushedSpec.vars false [.slice none 0 0] 8=some ([.nil],[.agg [.lit (.string [98,99]),.lit (.string [100,101]),.lit (.string [104,108]),.lit (.string [97,102])],.agg [.lit (.string []),.lit (.string [98,105,116]),.lit (.string [114,101,115]),.lit (.string [115,101,116])]],places) :=
 ⟨MemPlace.row ⟨0,0,none⟩ 4 ++ MemPlace.row ⟨1,0,none⟩ 4,by kernel_rfl⟩
set_option maxRecDepth 100000 in
theorem lifted (os:Os) (started:os.Started) (H:Type) (enc:TypeId × Value->H) (F:Stop.Interp) :
  ReturnsInHanded {} Tryz.checked os 7 .any ((OpenSpec.ofChange Rows.fnPushedSpec).preRow enc prog Tryz.f7 Rows.fnPushedRow.domain false Rows.fnPushedRow.laid) (((OpenSpec.ofChange Rows.fnPushedSpec).at F).post enc prog Tryz.f7 false true false false):=by
 obtain ⟨places,hx⟩:=reads os enc
 refine returnsInHanded_of_row (C:=Tryz.checked) (s:=OpenSpec.ofChange Rows.fnPushedSpec) own started (by kernel_rfl) func7
  (witness_row_at (enc:=enc) (C:=Tryz.checked) false (laidWorld os) #[.slice none 0 0] rfl (by kernel_rfl) (by kernel_rfl) (by kernel_rfl)
   (OpenSpec.preRow_of_cond 8 hx (by kernel_rfl) (fun k hk=>by cases hk) (by kernel_rfl) (laid_met os))) ?_
 intro W base args ds gs before hval hW _ _ _ hL hsh _
 exact contract H enc W base args ds gs before hval hW hL hsh
theorem said:Rows.FnPushedSaid :=
 OpenClaim.holds_of_cond 7 Tryz.f7 rfl rfl rfl rfl rfl rfl rfl ⟨rfl,rfl,rfl,rfl,rfl⟩ rfl rfl rfl rfl rfl (by kernel_rfl) func7 (by kernel_rfl)
  (of_decide_eq_true (by kernel_rfl)) (by unfold Func.isWrapper;first|(rw [if_pos (by decide +kernel)];kernel_rfl)|(rw [if_neg (by decide +kernel)];exact ⟨rfl,rfl⟩))
  (fun os started H enc _ F=>by rw [OpenClaim.pre_eq_preRow];exact lifted os started H enc F)
theorem plain (f:FuncId) (fn:Func) (hf:Tryz.pinned.checked.prog.funcNamed "loop.example/g00460/laws.FnPushed" = some f) (hfn:Tryz.pinned.checked.prog.funcs[f]? = some fn) :
  true=Tryz.pinned.checked.prog.looks []/\∀ (j:Nat) t,fn.params[j]? = some t->Tryz.pinned.checked.prog.wantsStandIn t=false:=by
 obtain rfl:f=7:=Option.some.inj ((show prog.funcNamed "loop.example/g00460/laws.FnPushed" = some 7 by kernel_rfl).symm.trans hf) |>.symm
 obtain rfl:fn=Tryz.f7:=(Option.some.inj (func7.symm.trans hfn)).symm
 refine ⟨by kernel_rfl,fun j t ht=>?_⟩
 rw [Tryz.params7] at ht
 have h:t=48:=by simpa using Array.mem_of_getElem? ht
 subst h
 exact (show prog.wantsStandIn 48=false by kernel_rfl)
theorem card:Rows.FnPushedCardSaid :=
 Claim7.holds_tied_plain_at .later [] _ _ _ _ said (fun _ h=>by cases h) (by kernel_rfl) (fun _ h=>by cases h) fnPushed_row_tie rfl ⟨rfl,rfl⟩ (by kernel_rfl) rfl plain (by kernel_rfl)
end Go.Proofs.YtnjolmbdbgbmbaaGreatDoor.fnPushed
namespace Go.Proofs.YtnjolmbdbgbmbaaGreatDoor
theorem fnPushed_holds:Rows.FnPushedCardSaid:=fnPushed.card
end Go.Proofs.YtnjolmbdbgbmbaaGreatDoor
