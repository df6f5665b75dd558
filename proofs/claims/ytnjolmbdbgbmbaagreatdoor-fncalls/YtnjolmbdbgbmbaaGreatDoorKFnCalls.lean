/- For every code the law FnCalls answers true: the program that calls a place of the code's choice and tells a byte of the code, laid into a rom, runs seven steps and halts, with the byte told out, the stack as it was and what stands behind the call next; the code read and nothing old written; no condition. -/
import Derived.Test.YtnjolmbdbgbmbaaGreatDoorCards
import Derived.Test.YtnjolmbdbgbmbaaGreatDoorTie
import Derived.WalkKit
import Derived.ProofKit
import Derived.OpenShut
import Derived.ShutString
import Derived.ChangeOld
import Derived.ChangeVars
import Derived.OpenVars
import Derived.Below
import Derived.Deep.DeepHandedRow
import Derived.Lib.LaidTab
import Derived.Test.YtnjolmbdbgbmbaaGreatDoorP22
import Derived.Test.YtnjolmbdbgbmbaaGreatDoorP03
import Derived.Test.YtnjolmbdbgbmbaaGreatDoorP21
import Derived.Test.YtnjolmbdbgbmbaaGreatDoorP23
import Derived.Test.YtnjolmbdbgbmbaaGreatDoorP05
import Derived.Test.YtnjolmbdbgbmbaaGreatDoorP08
import Derived.Deep.WholeRow
import Derived.HandedShaped
import Derived.Test.YtnjolmbdbgbmbaaGreatDoorP00
set_option linter.unusedVariables false
set_option linter.unusedSimpArgs false
set_option maxRecDepth 20000
set_option maxHeartbeats 8000000
open Go.ChangeShapes Go.WideShapes Go.ChangeAt Go.RowKit
open Go.Proofs.Tryz
namespace Go.Proofs.YtnjolmbdbgbmbaaGreatDoor.fnCalls
open Go.ChangeMaps (open_string shut_string)
theorem own:ownKnob prog.godebug=none:=by kernel_rfl
theorem laidOut:laidOutB prog=true:=by kernel_rfl
theorem rowed:varsRowed prog Rows.fnCallsSpec.vars=true:=by kernel_rfl
def IsRow (k:IntKind) (w:World) (a:Option Addr) (len cap:Nat) (zs:List Int):Prop :=
 (a=none/\len=0/\cap=0/\zs=[]) \/
 ∃ x,a=some x/\len<=cap/\cap<=maxLen/\zs.length=cap/\(∀ i,i<zs.length->w.cell? (x.add i)=some (.int k (zs.getD i 0)))/\∀ n ∈ zs,(Lit.int k n).wf=true
theorem tables {W:World} (h:laidMetH prog Rows.fnCallsRow.laid W):Stpi.Tb W:=by
 obtain ⟨q0,L0,_⟩ : laidMet prog Rows.fnCallsRow.laid W:=h
 have t0:=Laid.txts (P:=prog) (l:=[[98,99],[100,101],[104,108],[97,102]]) (show prog.globalNamed "loop.example/g00460/impl.stackNames" = some 0 by kernel_rfl) (show (prog.globals[0]?).map (·.type)=some 189 by kernel_rfl) underlying189 underlying9 (by kernel_rfl) (by kernel_rfl) L0
 obtain ⟨q1,L1⟩:=Laid.skip L0
 have t1:=Laid.txts (P:=prog) (l:=[[],[98,105,116],[114,101,115],[115,101,116]]) (show prog.globalNamed "loop.example/g00460/impl.bitNames" = some 1 by kernel_rfl) (show (prog.globals[1]?).map (·.type)=some 189 by kernel_rfl) underlying189 underlying9 (by kernel_rfl) (by kernel_rfl) L1
 obtain ⟨q2,L2⟩:=Laid.skip L1
 exact ⟨fun i hi=>(t0 i hi).trans (by match i,hi with|0,_=>rfl|1,_=>rfl|2,_=>rfl|3,_=>rfl),fun i hi=>(t1 i hi).trans (by match i,hi with|0,_=>rfl|1,_=>rfl|2,_=>rfl|3,_=>rfl)⟩
open Busw Busx Busy Boxs Runp
theorem toRow {k:IntKind} {w:World} {a:Option Addr} {len cap:Nat} {zs:List Int} (h:IsRow k w a len cap zs):Rdr.IsRow k w a len cap zs:=h
theorem walk (w:World) (a0:Option Addr) (len0 cap0:Nat) (z0:List Int) (w0:IsRow .u8 w a0 len0 cap0 z0) (hT:Stpi.Tb w) (hm:HolI.MaxL w) :
  Calls prog 6 #[.slice a0 len0 cap0] w fun e w'=>e=.returned (.bool true)/\Below w.heap.size w w':=by
 have H:Hid (Rdr.IsRow .u8 w a0 len0 cap0 z0):=toRow w0
 have HM:Hid (Stpi.Tb w/\HolI.MaxL w):=⟨hT,hm⟩
 have hz:=zeroM
 obtain ⟨cZ,hcZ⟩ : ∃ c,c=cellsM Z0 none 0:=⟨_,rfl⟩
 rw [<- hcZ] at hz
 have HZ:Hid (cZ=cellsM Z0 none 0):=hcZ
 clear w0 hT hm hcZ
 have cb:=Rdr.big_any a0 len0 cap0 w H.out.len
 by_cases hbig:Rdr.bigB len0=true
 ·rw [hbig] at cb
  go_enter func6,ntmps6
  go_wp2_with (go_at_call 25;refine cb.mono ?_;rintro e wx ⟨rfl,hwx⟩;rw [hwx];clear hwx wx)
  go_ret
  exact ⟨rfl,Below.refl _ _⟩
 have hbig:Rdr.bigB len0=false:=by simpa using hbig
 rw [hbig] at cb
 by_cases hl:len0<2
 ·have dl:decide (len0<2)=true:=decide_eq_true hl
  have dl2:decide ((len0:Int)<2)=true:=decide_eq_true (by omega)
  go_enter func6,ntmps6
  go_wp2_with (go_at_call 25;refine cb.mono ?_;rintro e wx ⟨rfl,hwx⟩;rw [hwx];clear hwx wx)
  go_ret
  exact ⟨rfl,Below.refl _ _⟩
 have dl:decide (len0<2)=false:=decide_eq_false hl
 have dl2:decide ((len0:Int)<2)=false:=decide_eq_false (by omega)
 obtain ⟨b,off,c,rfl,hby⟩:=Smal.bytes_of H.out (by omega)
 have BY:Hid (Smal.Bytes w b off len0 c):=hby
 clear hby H
 obtain ⟨o5,hmk⟩:=Fixa.made 512 (by decide)
 have hm1:∀ u:World,(Instr.makeSlice 48 (.int .i64 512) (.int .i64 512)).run prog u=.ok (.slice (some ⟨u.heap.size,0,none⟩) 512 512) (u.alloc o5):=fun u=>(hmk u).1
 go_enter func6,ntmps6
 go_upto_region 4 with (go_at_call 25;refine cb.mono ?_;rintro e wx ⟨rfl,hwx⟩;rw [hwx];clear hwx wx)
 clear cb hbig dl dl2 hm1
 have RW:Hid (Fixa.Row (w.alloc o5) w.heap.size (List.replicate 512 0)):=(hmk w).2
 have V:Hid (Below w.heap.size w (w.alloc o5)):=zAl _ _
 clear hmk
 generalize w.alloc o5=u0 at RW V |-
 have q0:=(BY.out.below V.out).cell 0 (by omega)
 obtain ⟨x00,x01,xc0⟩:=q0
 obtain ⟨x0,hx0⟩ : ∃ x,x=c 0:=⟨_,rfl⟩
 rw [<- hx0] at x00 x01 xc0
 have i0:(0:Int)<(len0:Int):=by omega
 have HX0:Hid (x0=c 0):=hx0
 clear hx0
 have q1:=(BY.out.below V.out).cell 1 (by omega)
 obtain ⟨x10,x11,xc1⟩:=q1
 obtain ⟨x1,hx1⟩ : ∃ x,x=c 1:=⟨_,rfl⟩
 rw [<- hx1] at x10 x11 xc1
 have i1:(1:Int)<(len0:Int):=by omega
 have HX1:Hid (x1=c 1):=hx1
 clear hx1
 rw [Nat.add_zero] at xc0
 have r0:=cell_regrown xc0
 have r1:=cell_regrown xc1
 have t1:x0.tmod 100=x0%100:=Int.tmod_eq_emod_of_nonneg x00
 have t2:IntKind.u8.wrap (x0%100)=x0%100:=by rw [IntKind.wrap_u8];omega
 have t3:IntKind.u8.wrap (40+x0%100)=40+x0%100:=by rw [IntKind.wrap_u8];omega
 go_upto_region 5 with fail
 obtain ⟨A,hA⟩ : ∃ A,A=40+x0%100:=⟨_,rfl⟩
 rw [<- hA]
 have A0:40<=A:=by omega
 have A1:A<=139:=by omega
 clear hA t1 t2 t3 r0 r1
 have RA:Hid (Fixa.Row (u0.alloc (.cells #[.int .u8 205,.int .u8 A,.int .u8 0,.int .u8 224,.int .u8 1,.int .u8 118] 5)) w.heap.size (List.replicate 512 0)):=RW.out.below (zAl _ _)
 obtain ⟨w1,hc,r3,b3⟩:=Smal.copy_from RA.out 0 512 512 6 6 [205,Fixa.u8 A,0,224,1,118] rfl (A:=u0.heap.size) (fun j hj=>by
  rw [World.cell?_alloc_new]
  match j,hj with
  | 0,_=>rfl
  | 1,_=>show some (Value.int .u8 A)=some (.int .u8 ((Fixa.u8 A).toNat:Int));rw [Fixa.u8_val (by omega) (by omega)]
  | 2,_=>rfl
  | 3,_=>rfl
  | 4,_=>rfl
  | 5,_=>rfl
  ) (by simp) (by simp)
 have b4:=b3 w.heap.size w (Nat.le_refl _) (zGr V.out (.cells #[.int .u8 205,.int .u8 A,.int .u8 0,.int .u8 224,.int .u8 1,.int .u8 118] 5))
 have bB:=b3 _ _ (Nat.le_refl _) zRf
 go_upto_region 6 with fail
 obtain ⟨l1,hl1⟩ : ∃ l,l=(Fixa.over (List.replicate 512 0) 0 [205,Fixa.u8 A,0,224,1,118]):=⟨_,rfl⟩
 have RW:Hid (Fixa.Row w1 w.heap.size l1):=by rw [hl1];exact r3
 have V:Hid (Below w.heap.size w w1):=b4
 have HL1:Hid (l1.length=512):=by show _=_;rw [hl1,Fixa.over_length _ _ _ (by simp)];simp
 clear r3 b3 b4 bB hc RA
 refine wp_region_any (by kernel_rfl) ?_
 try (change wpAny _ _ _ _ _ _ _ (World.drew _))
 have RW:Hid (Fixa.Row w1.drew w.heap.size l1):=RW.out
 have V:Hid (Below w.heap.size w w1.drew):=V.out.drew
 generalize w1.drew=wd at RW V |-
 have xc1:_:=((BY.out.below V.out).cell 1 (by omega)).2.2
 rw [<- HX1.out] at xc1
 obtain ⟨an,han⟩ : ∃ n:Nat,(n:Int)=A:=⟨A.toNat,by omega⟩
 have e1:(an:Int)<=512:=by omega
 have e2:A.toNat=an:=by omega
 have e3:0<=A:=by omega
 have e4:A<=512:=by omega
 have e5:¬ 512=an:=by omega
 have A2:an<=139:=by omega
 have A3:40<=an:=by omega
 refine wpAny_take (i:=0) (v:=?vd1) rfl (by kernel_rfl) (by kernel_rfl) (by kernel_rfl) (fun _ _ _ h=>h) (Or.inl ⟨by rfl,?hyd1⟩) ?restd1
 case hyd1=>(intro w;go_simp;try with_reducible rfl)
 refine wpAny_take (i:=1) (v:=?vd2) rfl (by kernel_rfl) (by kernel_rfl) (by kernel_rfl) (fun _ _ _ h=>h) (Or.inl ⟨by rfl,?hyd2⟩) ?restd2
 case hyd2=>(intro w;go_simp;try with_reducible rfl)
 refine wpAny_take (i:=2) (v:=?vd3) rfl (by kernel_rfl) (by kernel_rfl) (by kernel_rfl) (fun _ _ _ h=>h) (Or.inl ⟨by rfl,?hyd3⟩) ?restd3
 case hyd3=>(intro w;go_simp;try with_reducible rfl)
 refine wpAny_take (i:=3) (v:=?vd4) rfl (by kernel_rfl) (by kernel_rfl) (by kernel_rfl) (fun _ _ _ h=>h) (Or.inl ⟨by rfl,?hyd4⟩) ?restd4
 case hyd4=>(intro w;go_simp;try with_reducible rfl)
 refine wpAny_take (i:=4) (v:=?vd5) rfl (by kernel_rfl) (by kernel_rfl) (by kernel_rfl) (fun _ _ _ h=>h) (Or.inl ⟨by rfl,?hyd5⟩) ?restd5
 case hyd5=>(intro w;go_simp;try with_reducible rfl)
 go_simp
 clear e1 e2 e3 e4 e5
 refine wpAny_ready (rs:=[5]) (by kernel_rfl) (by simp) ?_
 refine MachP.any_cons rfl rfl (fun K hK=>?_) AllReady.nil
 go_simp
 refine hK _ _ ?_
 clear hK
 refine wpAny_ready (rs:=[6]) (by kernel_rfl) (by simp) ?_
 refine MachP.any_cons rfl rfl (fun K hK=>?_) AllReady.nil
 go_simp
 refine hK _ _ ?_
 clear hK
 have RA:Hid (Fixa.Row (wd.alloc (.cells #[.int .u8 62,.int .u8 x1,.int .u8 197,.int .u8 209,.int .u8 201] 5)) w.heap.size l1):=RW.out.below (zAl _ _)
 obtain ⟨w2,hc,r3,b3⟩:=Smal.copy_from RA.out an (512-an) (512-an) 5 5 [62,Fixa.u8 x1,197,209,201] rfl (A:=wd.heap.size) (fun j hj=>by
  rw [World.cell?_alloc_new]
  match j,hj with
  | 0,_=>rfl
  | 1,_=>show some (Value.int .u8 x1)=some (.int .u8 ((Fixa.u8 x1).toNat:Int));rw [Fixa.u8_val x10 x11]
  | 2,_=>rfl
  | 3,_=>rfl
  | 4,_=>rfl
  ) (by simp;omega) (by rw [HL1.out];simp;omega)
 have b4:=b3 w.heap.size w (Nat.le_refl _) (zGr V.out (.cells #[.int .u8 62,.int .u8 x1,.int .u8 197,.int .u8 209,.int .u8 201] 5))
 have bB:=b3 _ _ (Nat.le_refl _) zRf
 refine wpAny_ready (rs:=[7]) (by kernel_rfl) (by simp) ?_
 refine MachP.any_cons rfl rfl (fun K hK=>?_) AllReady.nil
 go_simp
 refine hK _ _ ?_
 clear hK
 refine wpAny_done (by kernel_rfl) ?_ _
 clear hc xc1 RA bB
 obtain ⟨l3,hl3⟩ : ∃ l,l=Fixa.over l1 an [62,Fixa.u8 x1,197,209,201]:=⟨_,rfl⟩
 have RW:Hid (Fixa.Row w2 w.heap.size l3):=by rw [hl3];exact r3
 have V:Hid (Below w.heap.size w w2):=b4
 have ho:an+([62,Fixa.u8 x1,197,209,201]:List UInt8).length<=l1.length:=by rw [HL1.out];simp;omega
 have HLR:Hid (l3.length=512):=by show _=_;rw [hl3,Fixa.over_length _ _ _ ho];exact HL1.out
 have HNB:Hid (CartN.newB ⟨l3.toArray⟩ 0=true):=Smal.new_512 l3 HLR.out 0 (by decide)
 have HRS:Hid ((⟨l3.toArray⟩ : ByteArray).size<=maxLen):=by show l3.toArray.size<=_;rw [List.size_toArray,HLR.out];decide
 have HNV:Hid (Mnew.newV ⟨l3.toArray⟩ 0=Runq.newM ⟨l3.toArray⟩ 0):=Smal.newV_ok HNB.out
 clear b3 b4 r3
 go_upto_region 7 with fail
 obtain ⟨m,hmm⟩ : ∃ m,m=Runq.newM ⟨l3.toArray⟩ 0:=⟨_,rfl⟩
 have HOW:Hid (∀ W:World,W.ownsRow 0 2 1 (.slice none m.out.length 0) m.out.length (outC m.out)):=fun W=>by rw [hmm];exact Smal.new_own W _ _ 0
 have HSM:Hid (Sm m):=by show Sm m;rw [hmm,<- HNV.out];exact Mnew.sm_new _ _ HRS.out
 have HLm:Hid (m.out.length<=1048576):=HSM.out.out
 have HSP:Hid (m.sp=65534):=by show m.sp=_;rw [hmm];rfl
 have HRUN:Hid (∃ R,runV m 50=(R,1,7)/\R.out=[x1]/\R.sp=65534/\R.pc=6):=by
  show ∃ R,_
  rw [hmm,Smal.run_new HNB.out]
  exact Runq.calls_run _ 0 A x1 ⟨A0,A1⟩ (by rw [hl3,Smal.rom_old l1 _ an 0 ho (by omega) (by omega),hl1];exact Smal.rom_at (List.replicate 512 0) [205,Fixa.u8 A,0,224,1,118] 0 0 205 (by simp) (by simp) rfl _ rfl) (by rw [hl3,Smal.rom_old l1 _ an 1 ho (by omega) (by omega),hl1];exact Smal.rom_at (List.replicate 512 0) [205,Fixa.u8 A,0,224,1,118] 0 1 A (by simp) (by simp) (Fixa.u8_val (by omega) (by omega)) _ rfl) (by rw [hl3,Smal.rom_old l1 _ an 2 ho (by omega) (by omega),hl1];exact Smal.rom_at (List.replicate 512 0) [205,Fixa.u8 A,0,224,1,118] 0 2 0 (by simp) (by simp) rfl _ rfl) (by rw [hl3,Smal.rom_old l1 _ an 3 ho (by omega) (by omega),hl1];exact Smal.rom_at (List.replicate 512 0) [205,Fixa.u8 A,0,224,1,118] 0 3 224 (by simp) (by simp) rfl _ rfl) (by rw [hl3,Smal.rom_old l1 _ an 4 ho (by omega) (by omega),hl1];exact Smal.rom_at (List.replicate 512 0) [205,Fixa.u8 A,0,224,1,118] 0 4 1 (by simp) (by simp) rfl _ rfl) (by rw [hl3,Smal.rom_old l1 _ an 5 ho (by omega) (by omega),hl1];exact Smal.rom_at (List.replicate 512 0) [205,Fixa.u8 A,0,224,1,118] 0 5 118 (by simp) (by simp) rfl _ rfl) (by rw [hl3];exact Smal.rom_at l1 [62,Fixa.u8 x1,197,209,201] an 0 62 ho (by simp) rfl _ (by omega)) (by rw [hl3];exact Smal.rom_at l1 [62,Fixa.u8 x1,197,209,201] an 1 x1 ho (by simp) (Fixa.u8_val x10 x11) _ (by omega)) (by rw [hl3];exact Smal.rom_at l1 [62,Fixa.u8 x1,197,209,201] an 2 197 ho (by simp) rfl _ (by omega)) (by rw [hl3];exact Smal.rom_at l1 [62,Fixa.u8 x1,197,209,201] an 3 209 ho (by simp) rfl _ (by omega)) (by rw [hl3];exact Smal.rom_at l1 [62,Fixa.u8 x1,197,209,201] an 4 201 ho (by simp) rfl _ (by omega))
 rw [<- hmm] at HNV
 clear hmm
 clear hl3 hl1 ho HL1 han A2 A3
 refine wp_region_list ?_
 have hst:=Fixa.str_at RW.out 512 512 HLR.out
 go_wp2_with fail
 refine Calls.mono (Mnew.implNew_M _ 0 _ HRS.out) ?_
 rintro e w3 ⟨rfl,hb⟩
 rw [HNV.out,HNB.out]
 clear hst
 have RW:=zHd (RW.out.below hb)
 have V:=zHd (CartL.after V.out hb)
 clear hb
 rename_i hK
 refine hK _ _ ?_
 clear hK
 refine wpList_plain rfl (fun K hK=>?_)
 go_simp
 refine hK _ _ ?_
 clear hK
 refine wpList_plain rfl (fun K hK=>?_)
 go_simp
 refine hK _ _ ?_
 clear hK
 refine wpList_plain rfl (fun K hK=>?_)
 go_simp
 refine hK _ _ ?_
 clear hK
 refine wpList_plain rfl (fun K hK=>?_)
 go_simp
 refine hK _ _ ?_
 clear hK
 refine wpList_store_row rfl 33 _ _ rfl w3.heap.size (cellsM m none 0) rfl rfl _ _ (heap_alloc_last w3 _) (infoMs _ _ _) (by rw [HZ.out,size_M,size_M]) (one_M _ _ _) ?_
 rw [World.setRow_alloc_new]
 obtain ⟨u3,hu⟩ : ∃ u,u=w3.alloc (.cells (cellsM m none 0) 33):=⟨_,rfl⟩
 obtain ⟨b1,hbb⟩ : ∃ b,b=w3.heap.size:=⟨_,rfl⟩
 have X1:Hid (Bx u3 b1 m none 0):=by show Bx _ _ _ _ _;rw [hu,hbb];exact Bx.new (HOW.out _)
 have RW:Hid (Fixa.Row u3 w.heap.size l3):=by show Fixa.Row u3 w.heap.size l3;rw [hu];exact RW.out.below (zAl _ _)
 have V:Hid (Below w.heap.size w u3):=by show Below _ _ _;rw [hu];exact zGr V.out _
 go_upto_region 8 with fail
 rw [<- hu,<- hbb]
 clear hu hbb
 refine wp_region_list ?_
 have hst:=Fixa.str_at RW.out 512 512 HLR.out
 go_wp2_with fail
 refine Calls.mono (Mnew.specNew_M _ 0 _ HRS.out) ?_
 rintro e w4 ⟨rfl,hb⟩
 rw [HNV.out,HNB.out]
 clear hst
 have RW:=zHd (RW.out.below hb)
 have X1:=zHd (X1.out.below hb)
 have V:=zHd (CartL.after V.out hb)
 clear hb
 rename_i hK
 refine hK _ _ ?_
 clear hK
 refine wpList_plain rfl (fun K hK=>?_)
 go_simp
 refine hK _ _ ?_
 clear hK
 refine wpList_plain rfl (fun K hK=>?_)
 go_simp
 refine hK _ _ ?_
 clear hK
 refine wpList_plain rfl (fun K hK=>?_)
 go_simp
 refine hK _ _ ?_
 clear hK
 refine wpList_plain rfl (fun K hK=>?_)
 go_simp
 refine hK _ _ ?_
 clear hK
 refine wpList_store_row rfl 33 _ _ rfl w4.heap.size (cellsM m none 0) rfl rfl _ _ (heap_alloc_last w4 _) (infoMs _ _ _) (by rw [HZ.out,size_M,size_M]) (one_M _ _ _) ?_
 rw [World.setRow_alloc_new]
 obtain ⟨u4,hu⟩ : ∃ u,u=w4.alloc (.cells (cellsM m none 0) 33):=⟨_,rfl⟩
 obtain ⟨b2,hbb⟩ : ∃ b,b=w4.heap.size:=⟨_,rfl⟩
 have X2:Hid (Bx u4 b2 m none 0):=by show Bx _ _ _ _ _;rw [hu,hbb];exact Bx.new (HOW.out _)
 have X1:Hid (Bx u4 b1 m none 0):=by show Bx _ _ _ _ _;rw [hu];exact X1.out.alloc _
 have RW:Hid (Fixa.Row u4 w.heap.size l3):=by show Fixa.Row u4 w.heap.size l3;rw [hu];exact RW.out.below (zAl _ _)
 have V:Hid (Below w.heap.size w u4):=by show Below _ _ _;rw [hu];exact zGr V.out _
 go_upto_region 9 with fail
 rw [<- hu,<- hbb]
 clear hu hbb
 go_upto_region 11 with fail
 obtain ⟨R,hR,h2,h3,h4⟩:=HRUN.out

 refine wp_region_list ?_
 refine wpList_load_row rfl 33 _ rfl b1 rfl _ _ (0,0) _ X1.out.box underlying33 rfl (infoMs _ _ _) ?_
 go_wp2_with fail
 refine Calls.mono (Runi.implRun_any m none 0 50 _ HSM.out X1.out.sl (HM.out.1.below V.out) (HM.out.2.below V.out)) ?_
 rintro e w5 ⟨⟨p5,c5,rfl,own⟩,hb⟩
 rw [hR]
 rw [hR] at own
 simp only [] at own |-
 have OW:Hid (w5.ownsRow u4.heap.size 2 1 (.slice p5 R.out.length c5) R.out.length (outC R.out)):=own
 clear own
 have RW:=zHd (RW.out.below hb)
 have X1:=zHd (X1.out.below hb)
 have X2:=zHd (X2.out.below hb)
 have V:=zHd (CartL.after V.out hb)
 clear hb
 rename_i hK
 refine hK _ _ ?_
 clear hK
 refine wpList_plain rfl (fun K hK=>?_)
 go_simp
 refine hK _ _ ?_
 clear hK
 refine wpList_plain rfl (fun K hK=>?_)
 go_simp
 refine hK _ _ ?_
 clear hK
 refine wpList_plain rfl (fun K hK=>?_)
 go_simp
 refine hK _ _ ?_
 clear hK
 refine wpList_plain rfl (fun K hK=>?_)
 go_simp
 refine hK _ _ ?_
 clear hK
 refine wpList_plain rfl (fun K hK=>?_)
 go_simp
 refine hK _ _ ?_
 clear hK
 refine wpList_store_row rfl 33 _ _ rfl w5.heap.size (cellsM R p5 c5) rfl rfl _ _ (heap_alloc_last w5 _) (infoMs _ _ _) (by rw [HZ.out,size_M,size_M]) (one_M _ _ _) ?_
 rw [World.setRow_alloc_new]
 obtain ⟨u5,hu⟩ : ∃ u,u=w5.alloc (.cells (cellsM R p5 c5) 33):=⟨_,rfl⟩
 obtain ⟨b5,hbb⟩ : ∃ b,b=w5.heap.size:=⟨_,rfl⟩
 have X5:Hid (Bx u5 b5 R p5 c5):=by show Bx _ _ _ _ _;rw [hu,hbb];exact Bx.new OW.out
 have X1:Hid (Bx u5 b1 m none 0):=by show Bx _ _ _ _ _;rw [hu];exact X1.out.alloc _
 have X2:Hid (Bx u5 b2 m none 0):=by show Bx _ _ _ _ _;rw [hu];exact X2.out.alloc _
 have RW:Hid (Fixa.Row u5 w.heap.size l3):=by show Fixa.Row u5 w.heap.size l3;rw [hu];exact RW.out.below (zAl _ _)
 have V:Hid (Below w.heap.size w u5):=by show Below _ _ _;rw [hu];exact zGr V.out _
 go_upto_region 12 with fail
 rw [<- hu,<- hbb]
 clear hu hbb OW
 have j1:IntKind.i64.wrap x1=x1:=by rw [IntKind.wrap_i64];omega
 have HR2:Hid (R.out=[x1]):=h2
 have HR3:Hid (R.sp=65534):=h3
 have HR4:Hid (R.pc=6):=h4
 clear h2 h3 h4 hR
 refine wp_region_any (by kernel_rfl) ?_
 try (change wpAny _ _ _ _ _ _ _ (World.drew _))
 have RW:Hid (Fixa.Row u5.drew w.heap.size l3):=RW.out.below (zRf.drew)
 have X1:Hid (Bx u5.drew b1 m none 0):=X1.out.below (zRf.drew)
 have X2:Hid (Bx u5.drew b2 m none 0):=X2.out.below (zRf.drew)
 have X5:Hid (Bx u5.drew b5 R p5 c5):=X5.out.below (zRf.drew)
 have V:Hid (Below w.heap.size w u5.drew):=CartL.after V.out (zRf.drew)
 generalize u5.drew=wd2 at X1 X2 X5 RW V |-
 have a21:wd2.cell? ⟨b5,21,none⟩=some (.slice p5 1 c5):=by have h:=celM X5.out.box 21 (.slice p5 R.out.length c5) rfl;rw [HR2.out] at h;exact h
 have xc1:_:=((BY.out.below V.out).cell 1 (by omega)).2.2
 rw [<- HX1.out] at xc1
 have HSL:Hid (Sl wd2 p5 [x1] c5):=by rw [<- HR2.out];exact X5.out.sl
 refine wpAny_take (i:=0) (v:=?vd6) rfl (by kernel_rfl) (by kernel_rfl) (by kernel_rfl) (fun _ _ _ h=>h) (Or.inl ⟨by rfl,?hyd6⟩) ?restd6
 case hyd6=>(intro w;go_simp;try with_reducible rfl)
 try go_simp
 refine wpAny_take (i:=1) (v:=?vd7) rfl (by kernel_rfl) (by kernel_rfl) (by kernel_rfl) (fun _ _ _ h=>h) (Or.inl ⟨by rfl,?hyd7⟩) ?restd7
 case hyd7=>(intro w;go_simp;try with_reducible rfl)
 try go_simp
 refine wpAny_take (i:=2) (v:=?vd8) rfl (by kernel_rfl) (by kernel_rfl) (by kernel_rfl) (fun _ _ _ h=>h) (Or.inl ⟨by rfl,?hyd8⟩) ?restd8
 case hyd8=>(intro w;go_simp;try with_reducible rfl)
 try go_simp
 refine wpAny_take (i:=3) (v:=?vd9) rfl (by kernel_rfl) (by kernel_rfl) (by kernel_rfl) (fun _ _ _ h=>h) (Or.inl ⟨by rfl,?hyd9⟩) ?restd9
 case hyd9=>(intro w;go_simp;try with_reducible rfl)
 try go_simp
 refine wpAny_take (i:=4) (v:=?vd10) rfl (by kernel_rfl) (by kernel_rfl) (by kernel_rfl) (fun _ _ _ h=>h) (Or.inl ⟨by rfl,?hyd10⟩) ?restd10
 case hyd10=>(intro w;go_simp;try with_reducible rfl)
 try go_simp
 refine wpAny_take (i:=5) (v:=?vd11) rfl (by kernel_rfl) (by kernel_rfl) (by kernel_rfl) (fun _ _ _ h=>h) (Or.inl ⟨by rfl,?hyd11⟩) ?restd11
 case hyd11=>(intro w;go_simp;try with_reducible rfl)
 try go_simp
 refine wpAny_take (i:=6) (v:=?vd12) rfl (by kernel_rfl) (by kernel_rfl) (by kernel_rfl) (fun _ _ _ h=>h) (Or.inl ⟨by rfl,?hyd12⟩) ?restd12
 case hyd12=>(intro w;go_simp;try with_reducible rfl)
 try go_simp
 refine wpAny_take (i:=7) (v:=?vd13) rfl (by kernel_rfl) (by kernel_rfl) (by kernel_rfl) (fun _ _ _ h=>h) (Or.inl ⟨by rfl,?hyd13⟩) ?restd13
 case hyd13=>(intro w;go_simp;try with_reducible rfl)
 try go_simp
 refine wpAny_take (i:=9) (v:=?vd14) rfl (by kernel_rfl) (by kernel_rfl) (by kernel_rfl) (fun _ _ _ h=>h) (Or.inl ⟨by rfl,?hyd14⟩) ?restd14
 case hyd14=>(intro w;go_simp;try with_reducible rfl)
 try go_simp
 refine wpAny_take (i:=10) (v:=?vd15) rfl (by kernel_rfl) (by kernel_rfl) (by kernel_rfl) (fun _ _ _ h=>h) (Or.inl ⟨by rfl,?hyd15⟩) ?restd15
 case hyd15=>(intro w;go_simp;try with_reducible rfl)
 try go_simp
 have a21':(wd2.alloc (.cells #[.int .i64 x1] 2)).cell? ⟨b5,21,none⟩=some (.slice p5 1 c5):=by have h:=celM (X5.out.alloc (.cells #[.int .i64 x1] 2)).box 21 (.slice p5 R.out.length c5) rfl;rw [HR2.out] at h;exact h
 refine wpAny_ready (rs:=[8,11]) (by kernel_rfl) (by simp) ?_
 refine Smal.gany rfl (by rfl) (fun K hK=>?_) (Smal.gany rfl (by rfl) (fun K hK=>?_) AllReady.nil)
 ·go_simp
  refine hK _ _ ?_
  clear hK
  refine wpAny_ready (rs:=[11]) (by kernel_rfl) (by simp) ?_
  refine Smal.gany rfl (by rfl) (fun K hK=>?_) AllReady.nil
  go_simp
  refine hK _ _ ?_
  clear hK
  refine wpAny_take (i:=12) (v:=?vd16) rfl (by kernel_rfl) (by kernel_rfl) (by kernel_rfl) (fun _ _ _ h=>h) (Or.inl ⟨by rfl,?hyd16⟩) ?restd16
  case hyd16=>(intro w;go_simp;try with_reducible rfl)
  try go_simp
  refine wpAny_ready (rs:=[13]) (by kernel_rfl) (by simp) ?_
  refine Smal.gany rfl (by rfl) (fun K hK=>?_) AllReady.nil
  go_simp
  refine hK _ _ ?_
  clear hK
  refine wpAny_ready (rs:=[14]) (by kernel_rfl) (by simp) ?_
  refine Smal.gany rfl (by rfl) (fun K hK=>?_) AllReady.nil
  go_wp2_with fail
  refine Calls.mono (Samm.sameInts_any p5 (some ⟨wd2.heap.size,0,none⟩) c5 1 [x1] _ (HSL.out.below (zAl _ _)).row (Smal.row_one wd2 x1) (by simp)) ?_
  rintro e w7 ⟨rfl,n7,hw7⟩
  have hb7:Below wd2.heap.size wd2 w7:=by rw [hw7];exact below_drewN (zAl _ _) _
  clear a21 a21' xc1
  have a8:w7.cell? ⟨b5,8,none⟩=some (.int .i64 65534):=by have h:=celM (X5.out.below hb7).box 8 (.int .i64 R.sp) rfl;rw [HR3.out] at h;exact h
  have a9:w7.cell? ⟨b5,9,none⟩=some (.int .i64 6):=by have h:=celM (X5.out.below hb7).box 9 (.int .i64 R.pc) rfl;rw [HR4.out] at h;exact h
  have c8:w7.cell? ⟨b1,8,none⟩=some (.int .i64 65534):=by have h:=celM (X1.out.below hb7).box 8 (.int .i64 m.sp) rfl;rw [HSP.out] at h;exact h
  have V:=zHd (CartL.after V.out hb7)
  clear hb7 hw7
  refine hK _ _ ?_
  clear hK
  refine wpAny_take (i:=15) (v:=?vd17) rfl (by kernel_rfl) (by kernel_rfl) (by kernel_rfl) (fun _ _ _ h=>h) (Or.inl ⟨by rfl,?hyd17⟩) ?restd17
  case hyd17=>(intro w;go_simp;try with_reducible rfl)
  try go_simp
  refine wpAny_take (i:=16) (v:=?vd18) rfl (by kernel_rfl) (by kernel_rfl) (by kernel_rfl) (fun _ _ _ h=>h) (Or.inl ⟨by rfl,?hyd18⟩) ?restd18
  case hyd18=>(intro w;go_simp;try with_reducible rfl)
  try go_simp
  refine wpAny_take (i:=17) (v:=?vd19) rfl (by kernel_rfl) (by kernel_rfl) (by kernel_rfl) (fun _ _ _ h=>h) (Or.inl ⟨by rfl,?hyd19⟩) ?restd19
  case hyd19=>(intro w;go_simp;try with_reducible rfl)
  try go_simp
  refine wpAny_take (i:=18) (v:=?vd20) rfl (by kernel_rfl) (by kernel_rfl) (by kernel_rfl) (fun _ _ _ h=>h) (Or.inl ⟨by rfl,?hyd20⟩) ?restd20
  case hyd20=>(intro w;go_simp;try with_reducible rfl)
  try go_simp
  refine wpAny_take (i:=20) (v:=?vd21) rfl (by kernel_rfl) (by kernel_rfl) (by kernel_rfl) (fun _ _ _ h=>h) (Or.inl ⟨by rfl,?hyd21⟩) ?restd21
  case hyd21=>(intro w;go_simp;try with_reducible rfl)
  try go_simp
  refine wpAny_take (i:=21) (v:=?vd22) rfl (by kernel_rfl) (by kernel_rfl) (by kernel_rfl) (fun _ _ _ h=>h) (Or.inl ⟨by rfl,?hyd22⟩) ?restd22
  case hyd22=>(intro w;go_simp;try with_reducible rfl)
  try go_simp
  refine wpAny_ready (rs:=[19,22]) (by kernel_rfl) (by simp) ?_
  refine Smal.gany rfl (by rfl) (fun K hK=>?_) (Smal.gany rfl (by rfl) (fun K hK=>?_) AllReady.nil)
  ·go_simp
   refine hK _ _ ?_
   clear hK
   refine wpAny_ready (rs:=[22]) (by kernel_rfl) (by simp) ?_
   refine Smal.gany rfl (by rfl) (fun K hK=>?_) AllReady.nil
   go_simp
   refine hK _ _ ?_
   clear hK
   refine wpAny_take (i:=23) (v:=?vd23) rfl (by kernel_rfl) (by kernel_rfl) (by kernel_rfl) (fun _ _ _ h=>h) (Or.inl ⟨by rfl,?hyd23⟩) ?restd23
   case hyd23=>(intro w;go_simp;try with_reducible rfl)
   try go_simp
   refine wpAny_take (i:=24) (v:=?vd24) rfl (by kernel_rfl) (by kernel_rfl) (by kernel_rfl) (fun _ _ _ h=>h) (Or.inl ⟨by rfl,?hyd24⟩) ?restd24
   case hyd24=>(intro w;go_simp;try with_reducible rfl)
   try go_simp
   refine wpAny_take (i:=25) (v:=?vd25) rfl (by kernel_rfl) (by kernel_rfl) (by kernel_rfl) (fun _ _ _ h=>h) (Or.inl ⟨by rfl,?hyd25⟩) ?restd25
   case hyd25=>(intro w;go_simp;try with_reducible rfl)
   try go_simp
   refine wpAny_take (i:=26) (v:=?vd26) rfl (by kernel_rfl) (by kernel_rfl) (by kernel_rfl) (fun _ _ _ h=>h) (Or.inl ⟨by rfl,?hyd26⟩) ?restd26
   case hyd26=>(intro w;go_simp;try with_reducible rfl)
   try go_simp
   refine wpAny_take (i:=27) (v:=?vd27) rfl (by kernel_rfl) (by kernel_rfl) (by kernel_rfl) (fun _ _ _ h=>h) (Or.inl ⟨by rfl,?hyd27⟩) ?restd27
   case hyd27=>(intro w;go_simp;try with_reducible rfl)
   try go_simp
   refine wpAny_ready (rs:=[28]) (by kernel_rfl) (by simp) ?_
   refine Smal.gany rfl (by rfl) (fun K hK=>?_) AllReady.nil
   go_simp
   refine hK _ _ ?_
   clear hK
   refine wpAny_take (i:=29) (v:=?vd28) rfl (by kernel_rfl) (by kernel_rfl) (by kernel_rfl) (fun _ _ _ h=>h) (Or.inl ⟨by rfl,?hyd28⟩) ?restd28
   case hyd28=>(intro w;go_simp;try with_reducible rfl)
   try go_simp
   refine wpAny_take (i:=30) (v:=?vd29) rfl (by kernel_rfl) (by kernel_rfl) (by kernel_rfl) (fun _ _ _ h=>h) (Or.inl ⟨by rfl,?hyd29⟩) ?restd29
   case hyd29=>(intro w;go_simp;try with_reducible rfl)
   try go_simp
   refine wpAny_take (i:=31) (v:=?vd30) rfl (by kernel_rfl) (by kernel_rfl) (by kernel_rfl) (fun _ _ _ h=>h) (Or.inl ⟨by rfl,?hyd30⟩) ?restd30
   case hyd30=>(intro w;go_simp;try with_reducible rfl)
   try go_simp
   refine wpAny_done (by kernel_rfl) ?_ _
   go_wp2
   go_ret
   exact ⟨rfl,V.out⟩
  ·go_simp
   refine hK _ _ ?_
   clear hK
   refine wpAny_ready (rs:=[19]) (by kernel_rfl) (by simp) ?_
   refine Smal.gany rfl (by rfl) (fun K hK=>?_) AllReady.nil
   go_simp
   refine hK _ _ ?_
   clear hK
   refine wpAny_take (i:=23) (v:=?vd31) rfl (by kernel_rfl) (by kernel_rfl) (by kernel_rfl) (fun _ _ _ h=>h) (Or.inl ⟨by rfl,?hyd31⟩) ?restd31
   case hyd31=>(intro w;go_simp;try with_reducible rfl)
   try go_simp
   refine wpAny_take (i:=24) (v:=?vd32) rfl (by kernel_rfl) (by kernel_rfl) (by kernel_rfl) (fun _ _ _ h=>h) (Or.inl ⟨by rfl,?hyd32⟩) ?restd32
   case hyd32=>(intro w;go_simp;try with_reducible rfl)
   try go_simp
   refine wpAny_take (i:=25) (v:=?vd33) rfl (by kernel_rfl) (by kernel_rfl) (by kernel_rfl) (fun _ _ _ h=>h) (Or.inl ⟨by rfl,?hyd33⟩) ?restd33
   case hyd33=>(intro w;go_simp;try with_reducible rfl)
   try go_simp
   refine wpAny_take (i:=26) (v:=?vd34) rfl (by kernel_rfl) (by kernel_rfl) (by kernel_rfl) (fun _ _ _ h=>h) (Or.inl ⟨by rfl,?hyd34⟩) ?restd34
   case hyd34=>(intro w;go_simp;try with_reducible rfl)
   try go_simp
   refine wpAny_take (i:=27) (v:=?vd35) rfl (by kernel_rfl) (by kernel_rfl) (by kernel_rfl) (fun _ _ _ h=>h) (Or.inl ⟨by rfl,?hyd35⟩) ?restd35
   case hyd35=>(intro w;go_simp;try with_reducible rfl)
   try go_simp
   refine wpAny_ready (rs:=[28]) (by kernel_rfl) (by simp) ?_
   refine Smal.gany rfl (by rfl) (fun K hK=>?_) AllReady.nil
   go_simp
   refine hK _ _ ?_
   clear hK
   refine wpAny_take (i:=29) (v:=?vd36) rfl (by kernel_rfl) (by kernel_rfl) (by kernel_rfl) (fun _ _ _ h=>h) (Or.inl ⟨by rfl,?hyd36⟩) ?restd36
   case hyd36=>(intro w;go_simp;try with_reducible rfl)
   try go_simp
   refine wpAny_take (i:=30) (v:=?vd37) rfl (by kernel_rfl) (by kernel_rfl) (by kernel_rfl) (fun _ _ _ h=>h) (Or.inl ⟨by rfl,?hyd37⟩) ?restd37
   case hyd37=>(intro w;go_simp;try with_reducible rfl)
   try go_simp
   refine wpAny_take (i:=31) (v:=?vd38) rfl (by kernel_rfl) (by kernel_rfl) (by kernel_rfl) (fun _ _ _ h=>h) (Or.inl ⟨by rfl,?hyd38⟩) ?restd38
   case hyd38=>(intro w;go_simp;try with_reducible rfl)
   try go_simp
   refine wpAny_done (by kernel_rfl) ?_ _
   go_wp2
   go_ret
   exact ⟨rfl,V.out⟩
 ·go_simp
  refine hK _ _ ?_
  clear hK
  refine wpAny_take (i:=12) (v:=?vd39) rfl (by kernel_rfl) (by kernel_rfl) (by kernel_rfl) (fun _ _ _ h=>h) (Or.inl ⟨by rfl,?hyd39⟩) ?restd39
  case hyd39=>(intro w;go_simp;try with_reducible rfl)
  try go_simp
  refine wpAny_ready (rs:=[8,13]) (by kernel_rfl) (by simp) ?_
  refine Smal.gany rfl (by rfl) (fun K hK=>?_) (Smal.gany rfl (by rfl) (fun K hK=>?_) AllReady.nil)
  ·go_simp
   refine hK _ _ ?_
   clear hK
   refine wpAny_ready (rs:=[13]) (by kernel_rfl) (by simp) ?_
   refine Smal.gany rfl (by rfl) (fun K hK=>?_) AllReady.nil
   go_simp
   refine hK _ _ ?_
   clear hK
   refine wpAny_ready (rs:=[14]) (by kernel_rfl) (by simp) ?_
   refine Smal.gany rfl (by rfl) (fun K hK=>?_) AllReady.nil
   go_wp2_with fail
   refine Calls.mono (Samm.sameInts_any p5 (some ⟨wd2.heap.size,0,none⟩) c5 1 [x1] _ (HSL.out.below (zAl _ _)).row (Smal.row_one wd2 x1) (by simp)) ?_
   rintro e w7 ⟨rfl,n7,hw7⟩
   have hb7:Below wd2.heap.size wd2 w7:=by rw [hw7];exact below_drewN (zAl _ _) _
   clear a21 a21' xc1
   have a8:w7.cell? ⟨b5,8,none⟩=some (.int .i64 65534):=by have h:=celM (X5.out.below hb7).box 8 (.int .i64 R.sp) rfl;rw [HR3.out] at h;exact h
   have a9:w7.cell? ⟨b5,9,none⟩=some (.int .i64 6):=by have h:=celM (X5.out.below hb7).box 9 (.int .i64 R.pc) rfl;rw [HR4.out] at h;exact h
   have c8:w7.cell? ⟨b1,8,none⟩=some (.int .i64 65534):=by have h:=celM (X1.out.below hb7).box 8 (.int .i64 m.sp) rfl;rw [HSP.out] at h;exact h
   have V:=zHd (CartL.after V.out hb7)
   clear hb7 hw7
   refine hK _ _ ?_
   clear hK
   refine wpAny_take (i:=15) (v:=?vd40) rfl (by kernel_rfl) (by kernel_rfl) (by kernel_rfl) (fun _ _ _ h=>h) (Or.inl ⟨by rfl,?hyd40⟩) ?restd40
   case hyd40=>(intro w;go_simp;try with_reducible rfl)
   try go_simp
   refine wpAny_take (i:=16) (v:=?vd41) rfl (by kernel_rfl) (by kernel_rfl) (by kernel_rfl) (fun _ _ _ h=>h) (Or.inl ⟨by rfl,?hyd41⟩) ?restd41
   case hyd41=>(intro w;go_simp;try with_reducible rfl)
   try go_simp
   refine wpAny_take (i:=17) (v:=?vd42) rfl (by kernel_rfl) (by kernel_rfl) (by kernel_rfl) (fun _ _ _ h=>h) (Or.inl ⟨by rfl,?hyd42⟩) ?restd42
   case hyd42=>(intro w;go_simp;try with_reducible rfl)
   try go_simp
   refine wpAny_take (i:=18) (v:=?vd43) rfl (by kernel_rfl) (by kernel_rfl) (by kernel_rfl) (fun _ _ _ h=>h) (Or.inl ⟨by rfl,?hyd43⟩) ?restd43
   case hyd43=>(intro w;go_simp;try with_reducible rfl)
   try go_simp
   refine wpAny_take (i:=20) (v:=?vd44) rfl (by kernel_rfl) (by kernel_rfl) (by kernel_rfl) (fun _ _ _ h=>h) (Or.inl ⟨by rfl,?hyd44⟩) ?restd44
   case hyd44=>(intro w;go_simp;try with_reducible rfl)
   try go_simp
   refine wpAny_take (i:=21) (v:=?vd45) rfl (by kernel_rfl) (by kernel_rfl) (by kernel_rfl) (fun _ _ _ h=>h) (Or.inl ⟨by rfl,?hyd45⟩) ?restd45
   case hyd45=>(intro w;go_simp;try with_reducible rfl)
   try go_simp
   refine wpAny_ready (rs:=[19,22]) (by kernel_rfl) (by simp) ?_
   refine Smal.gany rfl (by rfl) (fun K hK=>?_) (Smal.gany rfl (by rfl) (fun K hK=>?_) AllReady.nil)
   ·go_simp
    refine hK _ _ ?_
    clear hK
    refine wpAny_ready (rs:=[22]) (by kernel_rfl) (by simp) ?_
    refine Smal.gany rfl (by rfl) (fun K hK=>?_) AllReady.nil
    go_simp
    refine hK _ _ ?_
    clear hK
    refine wpAny_take (i:=23) (v:=?vd46) rfl (by kernel_rfl) (by kernel_rfl) (by kernel_rfl) (fun _ _ _ h=>h) (Or.inl ⟨by rfl,?hyd46⟩) ?restd46
    case hyd46=>(intro w;go_simp;try with_reducible rfl)
    try go_simp
    refine wpAny_take (i:=24) (v:=?vd47) rfl (by kernel_rfl) (by kernel_rfl) (by kernel_rfl) (fun _ _ _ h=>h) (Or.inl ⟨by rfl,?hyd47⟩) ?restd47
    case hyd47=>(intro w;go_simp;try with_reducible rfl)
    try go_simp
    refine wpAny_take (i:=25) (v:=?vd48) rfl (by kernel_rfl) (by kernel_rfl) (by kernel_rfl) (fun _ _ _ h=>h) (Or.inl ⟨by rfl,?hyd48⟩) ?restd48
    case hyd48=>(intro w;go_simp;try with_reducible rfl)
    try go_simp
    refine wpAny_take (i:=26) (v:=?vd49) rfl (by kernel_rfl) (by kernel_rfl) (by kernel_rfl) (fun _ _ _ h=>h) (Or.inl ⟨by rfl,?hyd49⟩) ?restd49
    case hyd49=>(intro w;go_simp;try with_reducible rfl)
    try go_simp
    refine wpAny_take (i:=27) (v:=?vd50) rfl (by kernel_rfl) (by kernel_rfl) (by kernel_rfl) (fun _ _ _ h=>h) (Or.inl ⟨by rfl,?hyd50⟩) ?restd50
    case hyd50=>(intro w;go_simp;try with_reducible rfl)
    try go_simp
    refine wpAny_ready (rs:=[28]) (by kernel_rfl) (by simp) ?_
    refine Smal.gany rfl (by rfl) (fun K hK=>?_) AllReady.nil
    go_simp
    refine hK _ _ ?_
    clear hK
    refine wpAny_take (i:=29) (v:=?vd51) rfl (by kernel_rfl) (by kernel_rfl) (by kernel_rfl) (fun _ _ _ h=>h) (Or.inl ⟨by rfl,?hyd51⟩) ?restd51
    case hyd51=>(intro w;go_simp;try with_reducible rfl)
    try go_simp
    refine wpAny_take (i:=30) (v:=?vd52) rfl (by kernel_rfl) (by kernel_rfl) (by kernel_rfl) (fun _ _ _ h=>h) (Or.inl ⟨by rfl,?hyd52⟩) ?restd52
    case hyd52=>(intro w;go_simp;try with_reducible rfl)
    try go_simp
    refine wpAny_take (i:=31) (v:=?vd53) rfl (by kernel_rfl) (by kernel_rfl) (by kernel_rfl) (fun _ _ _ h=>h) (Or.inl ⟨by rfl,?hyd53⟩) ?restd53
    case hyd53=>(intro w;go_simp;try with_reducible rfl)
    try go_simp
    refine wpAny_done (by kernel_rfl) ?_ _
    go_wp2
    go_ret
    exact ⟨rfl,V.out⟩
   ·go_simp
    refine hK _ _ ?_
    clear hK
    refine wpAny_ready (rs:=[19]) (by kernel_rfl) (by simp) ?_
    refine Smal.gany rfl (by rfl) (fun K hK=>?_) AllReady.nil
    go_simp
    refine hK _ _ ?_
    clear hK
    refine wpAny_take (i:=23) (v:=?vd54) rfl (by kernel_rfl) (by kernel_rfl) (by kernel_rfl) (fun _ _ _ h=>h) (Or.inl ⟨by rfl,?hyd54⟩) ?restd54
    case hyd54=>(intro w;go_simp;try with_reducible rfl)
    try go_simp
    refine wpAny_take (i:=24) (v:=?vd55) rfl (by kernel_rfl) (by kernel_rfl) (by kernel_rfl) (fun _ _ _ h=>h) (Or.inl ⟨by rfl,?hyd55⟩) ?restd55
    case hyd55=>(intro w;go_simp;try with_reducible rfl)
    try go_simp
    refine wpAny_take (i:=25) (v:=?vd56) rfl (by kernel_rfl) (by kernel_rfl) (by kernel_rfl) (fun _ _ _ h=>h) (Or.inl ⟨by rfl,?hyd56⟩) ?restd56
    case hyd56=>(intro w;go_simp;try with_reducible rfl)
    try go_simp
    refine wpAny_take (i:=26) (v:=?vd57) rfl (by kernel_rfl) (by kernel_rfl) (by kernel_rfl) (fun _ _ _ h=>h) (Or.inl ⟨by rfl,?hyd57⟩) ?restd57
    case hyd57=>(intro w;go_simp;try with_reducible rfl)
    try go_simp
    refine wpAny_take (i:=27) (v:=?vd58) rfl (by kernel_rfl) (by kernel_rfl) (by kernel_rfl) (fun _ _ _ h=>h) (Or.inl ⟨by rfl,?hyd58⟩) ?restd58
    case hyd58=>(intro w;go_simp;try with_reducible rfl)
    try go_simp
    refine wpAny_ready (rs:=[28]) (by kernel_rfl) (by simp) ?_
    refine Smal.gany rfl (by rfl) (fun K hK=>?_) AllReady.nil
    go_simp
    refine hK _ _ ?_
    clear hK
    refine wpAny_take (i:=29) (v:=?vd59) rfl (by kernel_rfl) (by kernel_rfl) (by kernel_rfl) (fun _ _ _ h=>h) (Or.inl ⟨by rfl,?hyd59⟩) ?restd59
    case hyd59=>(intro w;go_simp;try with_reducible rfl)
    try go_simp
    refine wpAny_take (i:=30) (v:=?vd60) rfl (by kernel_rfl) (by kernel_rfl) (by kernel_rfl) (fun _ _ _ h=>h) (Or.inl ⟨by rfl,?hyd60⟩) ?restd60
    case hyd60=>(intro w;go_simp;try with_reducible rfl)
    try go_simp
    refine wpAny_take (i:=31) (v:=?vd61) rfl (by kernel_rfl) (by kernel_rfl) (by kernel_rfl) (fun _ _ _ h=>h) (Or.inl ⟨by rfl,?hyd61⟩) ?restd61
    case hyd61=>(intro w;go_simp;try with_reducible rfl)
    try go_simp
    refine wpAny_done (by kernel_rfl) ?_ _
    go_wp2
    go_ret
    exact ⟨rfl,V.out⟩
  ·go_simp
   refine hK _ _ ?_
   clear hK
   refine wpAny_ready (rs:=[8]) (by kernel_rfl) (by simp) ?_
   refine Smal.gany rfl (by rfl) (fun K hK=>?_) AllReady.nil
   go_simp
   refine hK _ _ ?_
   clear hK
   refine wpAny_ready (rs:=[14]) (by kernel_rfl) (by simp) ?_
   refine Smal.gany rfl (by rfl) (fun K hK=>?_) AllReady.nil
   go_wp2_with fail
   refine Calls.mono (Samm.sameInts_any p5 (some ⟨wd2.heap.size,0,none⟩) c5 1 [x1] _ (HSL.out.below (zAl _ _)).row (Smal.row_one wd2 x1) (by simp)) ?_
   rintro e w7 ⟨rfl,n7,hw7⟩
   have hb7:Below wd2.heap.size wd2 w7:=by rw [hw7];exact below_drewN (zAl _ _) _
   clear a21 a21' xc1
   have a8:w7.cell? ⟨b5,8,none⟩=some (.int .i64 65534):=by have h:=celM (X5.out.below hb7).box 8 (.int .i64 R.sp) rfl;rw [HR3.out] at h;exact h
   have a9:w7.cell? ⟨b5,9,none⟩=some (.int .i64 6):=by have h:=celM (X5.out.below hb7).box 9 (.int .i64 R.pc) rfl;rw [HR4.out] at h;exact h
   have c8:w7.cell? ⟨b1,8,none⟩=some (.int .i64 65534):=by have h:=celM (X1.out.below hb7).box 8 (.int .i64 m.sp) rfl;rw [HSP.out] at h;exact h
   have V:=zHd (CartL.after V.out hb7)
   clear hb7 hw7
   refine hK _ _ ?_
   clear hK
   refine wpAny_take (i:=15) (v:=?vd62) rfl (by kernel_rfl) (by kernel_rfl) (by kernel_rfl) (fun _ _ _ h=>h) (Or.inl ⟨by rfl,?hyd62⟩) ?restd62
   case hyd62=>(intro w;go_simp;try with_reducible rfl)
   try go_simp
   refine wpAny_take (i:=16) (v:=?vd63) rfl (by kernel_rfl) (by kernel_rfl) (by kernel_rfl) (fun _ _ _ h=>h) (Or.inl ⟨by rfl,?hyd63⟩) ?restd63
   case hyd63=>(intro w;go_simp;try with_reducible rfl)
   try go_simp
   refine wpAny_take (i:=17) (v:=?vd64) rfl (by kernel_rfl) (by kernel_rfl) (by kernel_rfl) (fun _ _ _ h=>h) (Or.inl ⟨by rfl,?hyd64⟩) ?restd64
   case hyd64=>(intro w;go_simp;try with_reducible rfl)
   try go_simp
   refine wpAny_take (i:=18) (v:=?vd65) rfl (by kernel_rfl) (by kernel_rfl) (by kernel_rfl) (fun _ _ _ h=>h) (Or.inl ⟨by rfl,?hyd65⟩) ?restd65
   case hyd65=>(intro w;go_simp;try with_reducible rfl)
   try go_simp
   refine wpAny_take (i:=20) (v:=?vd66) rfl (by kernel_rfl) (by kernel_rfl) (by kernel_rfl) (fun _ _ _ h=>h) (Or.inl ⟨by rfl,?hyd66⟩) ?restd66
   case hyd66=>(intro w;go_simp;try with_reducible rfl)
   try go_simp
   refine wpAny_take (i:=21) (v:=?vd67) rfl (by kernel_rfl) (by kernel_rfl) (by kernel_rfl) (fun _ _ _ h=>h) (Or.inl ⟨by rfl,?hyd67⟩) ?restd67
   case hyd67=>(intro w;go_simp;try with_reducible rfl)
   try go_simp
   refine wpAny_ready (rs:=[19,22]) (by kernel_rfl) (by simp) ?_
   refine Smal.gany rfl (by rfl) (fun K hK=>?_) (Smal.gany rfl (by rfl) (fun K hK=>?_) AllReady.nil)
   ·go_simp
    refine hK _ _ ?_
    clear hK
    refine wpAny_ready (rs:=[22]) (by kernel_rfl) (by simp) ?_
    refine Smal.gany rfl (by rfl) (fun K hK=>?_) AllReady.nil
    go_simp
    refine hK _ _ ?_
    clear hK
    refine wpAny_take (i:=23) (v:=?vd68) rfl (by kernel_rfl) (by kernel_rfl) (by kernel_rfl) (fun _ _ _ h=>h) (Or.inl ⟨by rfl,?hyd68⟩) ?restd68
    case hyd68=>(intro w;go_simp;try with_reducible rfl)
    try go_simp
    refine wpAny_take (i:=24) (v:=?vd69) rfl (by kernel_rfl) (by kernel_rfl) (by kernel_rfl) (fun _ _ _ h=>h) (Or.inl ⟨by rfl,?hyd69⟩) ?restd69
    case hyd69=>(intro w;go_simp;try with_reducible rfl)
    try go_simp
    refine wpAny_take (i:=25) (v:=?vd70) rfl (by kernel_rfl) (by kernel_rfl) (by kernel_rfl) (fun _ _ _ h=>h) (Or.inl ⟨by rfl,?hyd70⟩) ?restd70
    case hyd70=>(intro w;go_simp;try with_reducible rfl)
    try go_simp
    refine wpAny_take (i:=26) (v:=?vd71) rfl (by kernel_rfl) (by kernel_rfl) (by kernel_rfl) (fun _ _ _ h=>h) (Or.inl ⟨by rfl,?hyd71⟩) ?restd71
    case hyd71=>(intro w;go_simp;try with_reducible rfl)
    try go_simp
    refine wpAny_take (i:=27) (v:=?vd72) rfl (by kernel_rfl) (by kernel_rfl) (by kernel_rfl) (fun _ _ _ h=>h) (Or.inl ⟨by rfl,?hyd72⟩) ?restd72
    case hyd72=>(intro w;go_simp;try with_reducible rfl)
    try go_simp
    refine wpAny_ready (rs:=[28]) (by kernel_rfl) (by simp) ?_
    refine Smal.gany rfl (by rfl) (fun K hK=>?_) AllReady.nil
    go_simp
    refine hK _ _ ?_
    clear hK
    refine wpAny_take (i:=29) (v:=?vd73) rfl (by kernel_rfl) (by kernel_rfl) (by kernel_rfl) (fun _ _ _ h=>h) (Or.inl ⟨by rfl,?hyd73⟩) ?restd73
    case hyd73=>(intro w;go_simp;try with_reducible rfl)
    try go_simp
    refine wpAny_take (i:=30) (v:=?vd74) rfl (by kernel_rfl) (by kernel_rfl) (by kernel_rfl) (fun _ _ _ h=>h) (Or.inl ⟨by rfl,?hyd74⟩) ?restd74
    case hyd74=>(intro w;go_simp;try with_reducible rfl)
    try go_simp
    refine wpAny_take (i:=31) (v:=?vd75) rfl (by kernel_rfl) (by kernel_rfl) (by kernel_rfl) (fun _ _ _ h=>h) (Or.inl ⟨by rfl,?hyd75⟩) ?restd75
    case hyd75=>(intro w;go_simp;try with_reducible rfl)
    try go_simp
    refine wpAny_done (by kernel_rfl) ?_ _
    go_wp2
    go_ret
    exact ⟨rfl,V.out⟩
   ·go_simp
    refine hK _ _ ?_
    clear hK
    refine wpAny_ready (rs:=[19]) (by kernel_rfl) (by simp) ?_
    refine Smal.gany rfl (by rfl) (fun K hK=>?_) AllReady.nil
    go_simp
    refine hK _ _ ?_
    clear hK
    refine wpAny_take (i:=23) (v:=?vd76) rfl (by kernel_rfl) (by kernel_rfl) (by kernel_rfl) (fun _ _ _ h=>h) (Or.inl ⟨by rfl,?hyd76⟩) ?restd76
    case hyd76=>(intro w;go_simp;try with_reducible rfl)
    try go_simp
    refine wpAny_take (i:=24) (v:=?vd77) rfl (by kernel_rfl) (by kernel_rfl) (by kernel_rfl) (fun _ _ _ h=>h) (Or.inl ⟨by rfl,?hyd77⟩) ?restd77
    case hyd77=>(intro w;go_simp;try with_reducible rfl)
    try go_simp
    refine wpAny_take (i:=25) (v:=?vd78) rfl (by kernel_rfl) (by kernel_rfl) (by kernel_rfl) (fun _ _ _ h=>h) (Or.inl ⟨by rfl,?hyd78⟩) ?restd78
    case hyd78=>(intro w;go_simp;try with_reducible rfl)
    try go_simp
    refine wpAny_take (i:=26) (v:=?vd79) rfl (by kernel_rfl) (by kernel_rfl) (by kernel_rfl) (fun _ _ _ h=>h) (Or.inl ⟨by rfl,?hyd79⟩) ?restd79
    case hyd79=>(intro w;go_simp;try with_reducible rfl)
    try go_simp
    refine wpAny_take (i:=27) (v:=?vd80) rfl (by kernel_rfl) (by kernel_rfl) (by kernel_rfl) (fun _ _ _ h=>h) (Or.inl ⟨by rfl,?hyd80⟩) ?restd80
    case hyd80=>(intro w;go_simp;try with_reducible rfl)
    try go_simp
    refine wpAny_ready (rs:=[28]) (by kernel_rfl) (by simp) ?_
    refine Smal.gany rfl (by rfl) (fun K hK=>?_) AllReady.nil
    go_simp
    refine hK _ _ ?_
    clear hK
    refine wpAny_take (i:=29) (v:=?vd81) rfl (by kernel_rfl) (by kernel_rfl) (by kernel_rfl) (fun _ _ _ h=>h) (Or.inl ⟨by rfl,?hyd81⟩) ?restd81
    case hyd81=>(intro w;go_simp;try with_reducible rfl)
    try go_simp
    refine wpAny_take (i:=30) (v:=?vd82) rfl (by kernel_rfl) (by kernel_rfl) (by kernel_rfl) (fun _ _ _ h=>h) (Or.inl ⟨by rfl,?hyd82⟩) ?restd82
    case hyd82=>(intro w;go_simp;try with_reducible rfl)
    try go_simp
    refine wpAny_take (i:=31) (v:=?vd83) rfl (by kernel_rfl) (by kernel_rfl) (by kernel_rfl) (fun _ _ _ h=>h) (Or.inl ⟨by rfl,?hyd83⟩) ?restd83
    case hyd83=>(intro w;go_simp;try with_reducible rfl)
    try go_simp
    refine wpAny_done (by kernel_rfl) ?_ _
    go_wp2
    go_ret
    exact ⟨rfl,V.out⟩
set_option maxRecDepth 100000 in
theorem contract (H:Type) (enc:TypeId × Value->H) (W:World) (base:Nat) (args:Array Value) (ds gs:List (DataW H)) (before:List MemPlace)
  (hval:∀ (j:Nat) t v,Tryz.f6.params[j]? = some t->args[j]? = some v->Value.okWide prog W .any base t v)
  (hW:DataW.Whole enc prog Tryz.f6.params.toList Rows.fnCallsSpec.vars false W args.toList ds gs before) (hL:laidMetH prog Rows.fnCallsRow.laid W) (hsh:W.ShapedOpen prog) :
  Calls prog 6 args W fun e W'=>∃ v,e=.returned v/\Rows.fnCallsSpec.post enc prog Tryz.f6 false true false false W args v W':=by
 have hW':=hW
 obtain ⟨p,q,hA0,hV,hbef,hfz,hnd⟩:=hW
 have hA:DataW.TrodAll enc prog W 0 (fun _=>true) true Tryz.f6.params.toList args.toList ds p:=hA0
 have hVk:DataW.TrodVars enc prog W (fun _=>true) Rows.fnCallsSpec.vars gs q:=hV
 rw [Tryz.params6] at hA hval
 obtain ⟨v0,vs0,d0,ds0,p0,q0,hargs,rfl,rfl,h0,r0⟩:=trodAll_cons hA
 obtain ⟨rfl,rfl,rfl⟩:=trodAll_nil r0
 obtain rfl:args=#[v0]:=by cases args;simp_all
 obtain ⟨g1,g2,rfl⟩ : ∃ g1 g2,gs=[g1,g2]:=by
  have hl:=Laid.vars_len hVk
  match gs,hl with
  | [g1,g2],_=>exact ⟨_,_,rfl⟩
 obtain ⟨a0,len0,cap0,rfl⟩:=okWide_slice underlying48 (hval 0 48 v0 rfl rfl)
 have k0:=h0
 have lt0:∀ x ∈ p0,x.block<W.heap.size:=by obtain ⟨m,hm⟩:=k0;exact DataW.trod_lt m _ _ _ hm
 obtain ⟨z0,w0⟩ : ∃ zs,IsRow .u8 W a0 len0 cap0 zs:=by
  obtain ⟨fuel,hf⟩:=h0
  rcases open_ints underlying48 underlying5 (by kernel_rfl) hf with ⟨hcs,_⟩|⟨x,l,c,zs,hcs,_,hl,hm,hz,_,hcell,hwz⟩
  ·simp [Value.cells] at hcs
   obtain ⟨rfl,rfl,rfl⟩:=hcs
   exact ⟨[],.inl ⟨rfl,rfl,rfl,rfl⟩⟩
  ·simp [Value.cells] at hcs
   obtain ⟨rfl,rfl,rfl⟩:=hcs
   exact ⟨zs,.inr ⟨_,rfl,hl,hm,by simpa using hz,hcell,hwz⟩⟩
 clear hA0
 refine (walk W a0 len0 cap0 z0 w0 (tables hL) (Tryz.laysM144.s1_3 W hsh)).mono fun e W' ⟨he,bel⟩=>?_
 subst he
 exact ⟨_,rfl,_,_,_,[],_,q,hW',trodAll_mk1 (shut_bool underlying4 _),(trodAll_cons_mk (Below.trod laidOut (by kernel_rfl) (of_decide_eq_true (by kernel_rfl)) k0 bel lt0) trodAll_mk0),Below.trodVars laidOut bel rowed hVk,bel.frame _,fun h=>by cases h⟩
noncomputable def laidWorld (os:Os):World :=
 { World.holding prog os ⟨#[],#[],[]⟩ with heap:=(fun h=>h.modify 0 fun|.cells _ t frozen=>.cells #[.string ⟨#[98,99]⟩,.string ⟨#[100,101]⟩,.string ⟨#[104,108]⟩,.string ⟨#[97,102]⟩] t frozen|o=>o) <| (fun h=>h.modify 1 fun|.cells _ t frozen=>.cells #[.string ⟨#[]⟩,.string ⟨#[98,105,116]⟩,.string ⟨#[114,101,115]⟩,.string ⟨#[115,101,116]⟩] t frozen|o=>o) <| (World.holding prog os ⟨#[],#[],[]⟩).heap }
theorem laid_met (os:Os):laidMet prog Rows.fnCallsRow.laid ((laidWorld os).forCall (fun _ _=>0) ⟨#[],#[.slice none 0 0],[]⟩).memory :=
 laidMet_of_run' 8 (by kernel_rfl) (by kernel_rfl)
theorem reads (os:Os) {H:Type} (enc:TypeId × Value->H):∃ places,DataW.whole enc prog ((laidWorld os).forCall (fun _ _=>0) ⟨#[],#[.slice none 0 0],[]⟩).memory Tryz.f6.params.toList Rows.fnCallsSpec.vars false [.slice none 0 0] 8=some ([.nil],[.agg [.lit (.string [98,99]),.lit (.string [100,101]),.lit (.string [104,108]),.lit (.string [97,102])],.agg [.lit (.string []),.lit (.string [98,105,116]),.lit (.string [114,101,115]),.lit (.string [115,101,116])]],places) :=
 ⟨MemPlace.row ⟨0,0,none⟩ 4 ++ MemPlace.row ⟨1,0,none⟩ 4,by kernel_rfl⟩
set_option maxRecDepth 100000 in
theorem lifted (os:Os) (started:os.Started) (H:Type) (enc:TypeId × Value->H) (F:Stop.Interp) :
  ReturnsInHanded {} Tryz.checked os 6 .any ((OpenSpec.ofChange Rows.fnCallsSpec).preRow enc prog Tryz.f6 Rows.fnCallsRow.domain false Rows.fnCallsRow.laid) (((OpenSpec.ofChange Rows.fnCallsSpec).at F).post enc prog Tryz.f6 false true false false):=by
 obtain ⟨places,hx⟩:=reads os enc
 refine returnsInHanded_of_row (C:=Tryz.checked) (s:=OpenSpec.ofChange Rows.fnCallsSpec) own started (by kernel_rfl) func6
  (witness_row_at (enc:=enc) (C:=Tryz.checked) false (laidWorld os) #[.slice none 0 0] rfl (by kernel_rfl) (by kernel_rfl) (by kernel_rfl)
   (OpenSpec.preRow_of_cond 8 hx (by kernel_rfl) (fun k hk=>by cases hk) (by kernel_rfl) (laid_met os))) ?_
 intro W base args ds gs before hval hW _ _ _ hL hsh _
 exact contract H enc W base args ds gs before hval hW hL hsh
theorem said:Rows.FnCallsSaid :=
 OpenClaim.holds_of_cond 6 Tryz.f6 rfl rfl rfl rfl rfl rfl rfl ⟨rfl,rfl,rfl,rfl,rfl⟩ rfl rfl rfl rfl rfl (by kernel_rfl) func6 (by kernel_rfl)
  (of_decide_eq_true (by kernel_rfl)) (by unfold Func.isWrapper;first|(rw [if_pos (by decide +kernel)];kernel_rfl)|(rw [if_neg (by decide +kernel)];exact ⟨rfl,rfl⟩))
  (fun os started H enc _ F=>by rw [OpenClaim.pre_eq_preRow];exact lifted os started H enc F)
theorem plain (f:FuncId) (fn:Func) (hf:Tryz.pinned.checked.prog.funcNamed "loop.example/g00460/laws.FnCalls" = some f) (hfn:Tryz.pinned.checked.prog.funcs[f]? = some fn) :
  true=Tryz.pinned.checked.prog.looks []/\∀ (j:Nat) t,fn.params[j]? = some t->Tryz.pinned.checked.prog.wantsStandIn t=false:=by
 obtain rfl:f=6:=Option.some.inj ((show prog.funcNamed "loop.example/g00460/laws.FnCalls" = some 6 by kernel_rfl).symm.trans hf) |>.symm
 obtain rfl:fn=Tryz.f6:=(Option.some.inj (func6.symm.trans hfn)).symm
 refine ⟨by kernel_rfl,fun j t ht=>?_⟩
 rw [Tryz.params6] at ht
 have h:t=48:=by simpa using Array.mem_of_getElem? ht
 subst h
 exact (show prog.wantsStandIn 48=false by kernel_rfl)
theorem card:Rows.FnCallsCardSaid :=
 Claim7.holds_tied_plain_at .later [] _ _ _ _ said (fun _ h=>by cases h) (by kernel_rfl) (fun _ h=>by cases h) fnCalls_row_tie rfl ⟨rfl,rfl⟩ (by kernel_rfl) rfl plain (by kernel_rfl)
end Go.Proofs.YtnjolmbdbgbmbaaGreatDoor.fnCalls
namespace Go.Proofs.YtnjolmbdbgbmbaaGreatDoor
theorem fnCalls_holds:Rows.FnCallsCardSaid:=fnCalls.card
end Go.Proofs.YtnjolmbdbgbmbaaGreatDoor
