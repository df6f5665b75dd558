/- For every code the law FnHere answers true: of the drawn machine impl.Step tells the code that spec.Step tells; where a step is made, what stands at the place decides its cycles and, where it leads nowhere else, what is next; the code read and nothing old written; no condition. -/
import Derived.Test.YtnjolmbdbgbmbaaGreatDoorCards
import Derived.Test.YtnjolmbdbgbmbaaGreatDoorTie
import Derived.ChangeOld
import Derived.ChangeVars
import Derived.OpenVars
import Derived.Deep.DeepHandedRow
import Derived.Test.YtnjolmbdbgbmbaaGreatDoorH41
import Derived.HandedShaped
set_option linter.all false
set_option maxRecDepth 20000
set_option maxHeartbeats 8000000
open Go.ChangeShapes Go.WideShapes Go.ChangeAt Go.RowKit
open Go.Proofs.Tryz
namespace Go.Proofs.YtnjolmbdbgbmbaaGreatDoor.fnHere
open Go.ChangeMaps (open_string shut_string)
theorem own:ownKnob prog.godebug=none:=by kernel_rfl
theorem laidOut:laidOutB prog=true:=by kernel_rfl
theorem rowed:varsRowed prog Rows.fnHereSpec.vars=true:=by kernel_rfl
def IsRow (k:IntKind) (w:World) (a:Option Addr) (len cap:Nat) (zs:List Int):Prop :=
 (a=none/\len=0/\cap=0/\zs=[]) \/
 ∃ x,a=some x/\len<=cap/\cap<=maxLen/\zs.length=cap/\(∀ i,i<zs.length->w.cell? (x.add i)=some (.int k (zs.getD i 0)))/\∀ n ∈ zs,(Lit.int k n).wf=true
theorem tables {W:World} (h:laidMetH prog Rows.fnHereRow.laid W):Stpi.Tb W:=by
 obtain ⟨q0,L0,_⟩ : laidMet prog Rows.fnHereRow.laid W:=h
 have t0:=Laid.txts (P:=prog) (l:=[[98,99],[100,101],[104,108],[97,102]]) (show prog.globalNamed "loop.example/g00460/impl.stackNames" = some 0 by kernel_rfl) (show (prog.globals[0]?).map (·.type)=some 189 by kernel_rfl) underlying189 underlying9 (by kernel_rfl) (by kernel_rfl) L0
 obtain ⟨q1,L1⟩:=Laid.skip L0
 have t1:=Laid.txts (P:=prog) (l:=[[],[98,105,116],[114,101,115],[115,101,116]]) (show prog.globalNamed "loop.example/g00460/impl.bitNames" = some 1 by kernel_rfl) (show (prog.globals[1]?).map (·.type)=some 189 by kernel_rfl) underlying189 underlying9 (by kernel_rfl) (by kernel_rfl) L1
 obtain ⟨q2,L2⟩:=Laid.skip L1
 exact ⟨fun i hi=>(t0 i hi).trans (by match i,hi with|0,_=>rfl|1,_=>rfl|2,_=>rfl|3,_=>rfl),fun i hi=>(t1 i hi).trans (by match i,hi with|0,_=>rfl|1,_=>rfl|2,_=>rfl|3,_=>rfl)⟩
open Busw Busx Busy Boxs Boxm Runp
theorem toRow {k:IntKind} {w:World} {a:Option Addr} {len cap:Nat} {zs:List Int} (h:IsRow k w a len cap zs):Rdr.IsRow k w a len cap zs:=h
theorem walk (w:World) (a0:Option Addr) (len0 cap0:Nat) (z0:List Int) (w0:IsRow .u8 w a0 len0 cap0 z0) (hT:Stpi.Tb w) (hm:HolI.MaxL w) :
  Calls prog 9 #[.slice a0 len0 cap0] w fun e w'=>e=.returned (.bool true)/\Below w.heap.size w w':=by
 have H:Hid (Rdr.IsRow .u8 w a0 len0 cap0 z0):=toRow w0
 have HM:Hid (Stpi.Tb w/\HolI.MaxL w):=⟨hT,hm⟩
 have hz:=zeroM
 obtain ⟨cZ,hcZ⟩ : ∃ c,c=cellsM Z0 none 0:=⟨_,rfl⟩
 rw [<- hcZ] at hz
 have HZ:Hid (cZ=cellsM Z0 none 0):=hcZ
 clear w0 hT hm hcZ
 have cb:=Rdr.big_any a0 len0 cap0 w H.out.len
 by_cases hbig:Rdr.bigB len0=true
 ·rw [hbig] at cb
  go_enter func9,ntmps9
  go_wp2_with (go_at_call 25;refine cb.mono ?_;rintro e wx ⟨rfl,hwx⟩;rw [hwx];clear hwx wx)
  go_ret
  exact ⟨rfl,Below.refl _ _⟩
 have hbig:Rdr.bigB len0=false:=by simpa using hbig
 rw [hbig] at cb
 go_enter func9,ntmps9
 go_wp2_with fail
 refine cb.mono ?_
 rintro e wx ⟨rfl,hwx⟩
 rw [hwx]
 clear hwx wx cb hbig
 go_wp2_with fail
 refine Calls.mono (drawStep_any _ _ _ _ _ H.out) ?_
 rintro e w1 ⟨m,po,cap,rfl,hsm,own,hb⟩
 have HS:Hid (Sm m):=hsm
 have OW:Hid (w1.ownsRow w.heap.size 2 1 (.slice po m.out.length cap) m.out.length (outC m.out)):=own
 clear hsm own H
 have V:Hid (Below w.heap.size w w1):=hb
 clear hb
 rename_i hK
 refine hK _ _ ?_
 clear hK
 refine wpList_plain rfl (fun K hK=>?_)
 go_simp
 refine hK _ _ ?_
 clear hK
 refine wpList_store_row rfl 33 _ _ rfl w1.heap.size (cellsM m po cap) rfl rfl _ _ (heap_alloc_last w1 _) (infoMs _ _ _) (by rw [HZ.out,size_M,size_M]) (one_M _ _ _) ?_
 rw [World.setRow_alloc_new]
 obtain ⟨u1,hu⟩ : ∃ u,u=w1.alloc (.cells (cellsM m po cap) 33):=⟨_,rfl⟩
 obtain ⟨b1,hbb⟩ : ∃ b,b=w1.heap.size:=⟨_,rfl⟩
 have X1:Hid (Bx u1 b1 m po cap):=by show Bx _ _ _ _ _;rw [hu,hbb];exact Bx.new OW.out
 have V:Hid (Below w.heap.size w u1):=by show Below _ _ _;rw [hu];exact zGr V.out _
 go_upto_region 4 with fail
 rw [<- hu,<- hbb]
 clear hu hbb OW
 have HP:Hid (∀ h:¬ (Ista.stepV m).2=3,okMM m=true/\Ista.stepV m=Stpo.stepP m):=fun h=>Runr.stepV_ok h
 obtain ⟨R,hR⟩ : ∃ R,R=(Ista.stepV m).1:=⟨_,rfl⟩
 obtain ⟨cd,hcd⟩ : ∃ c,c=(Ista.stepV m).2:=⟨_,rfl⟩
 rw [<- hcd] at HP
 have HE:Hid (R=(Ista.stepV m).1/\cd=(Ista.stepV m).2):=⟨hR,hcd⟩
 clear hR hcd
 go_upto_region 4 with fail
 refine wp_region_list ?_
 refine wpList_load_row rfl 33 _ rfl b1 rfl _ _ (0,0) _ X1.out.box underlying33 rfl (infoMs _ _ _) ?_
 go_wp2_with fail
 refine Calls.mono (Ista.implStep_any m po cap _ HS.out X1.out.sl (HM.out.1.below V.out) (HM.out.2.below V.out)) ?_
 rintro e w2 ⟨⟨p2,c2,rfl,own⟩,hb⟩
 rw [<- HE.out.1,<- HE.out.2]
 rw [<- HE.out.1] at own
 have OW:Hid (w2.ownsRow u1.heap.size 2 1 (.slice p2 R.out.length c2) R.out.length (outC R.out)):=own
 clear own
 have X1:=zHd (X1.out.below hb)
 have V:=zHd (CartL.after V.out hb)
 clear hb
 rename_i hK
 refine hK _ _ ?_
 clear hK
 refine wpList_plain rfl (fun K hK=>?_)
 go_simp
 refine hK _ _ ?_
 clear hK
 refine wpList_plain rfl (fun K hK=>?_)
 go_simp
 refine hK _ _ ?_
 clear hK
 refine wpList_plain rfl (fun K hK=>?_)
 go_simp
 refine hK _ _ ?_
 clear hK
 refine wpList_plain rfl (fun K hK=>?_)
 go_simp
 refine hK _ _ ?_
 clear hK
 refine wpList_store_row rfl 33 _ _ rfl w2.heap.size (cellsM R p2 c2) rfl rfl _ _ (heap_alloc_last w2 _) (infoMs _ _ _) (by rw [HZ.out,size_M,size_M]) (one_M _ _ _) ?_
 rw [World.setRow_alloc_new]
 obtain ⟨u2,hu⟩ : ∃ u,u=w2.alloc (.cells (cellsM R p2 c2) 33):=⟨_,rfl⟩
 obtain ⟨b2,hbb⟩ : ∃ b,b=w2.heap.size:=⟨_,rfl⟩
 have X2:Hid (Bx u2 b2 R p2 c2):=by show Bx _ _ _ _ _;rw [hu,hbb];exact Bx.new OW.out
 have X1:Hid (Bx u2 b1 m po cap):=by show Bx _ _ _ _ _;rw [hu];exact X1.out.alloc _
 have V:Hid (Below w.heap.size w u2):=by show Below _ _ _;rw [hu];exact zGr V.out _
 go_upto_region 5 with fail
 rw [<- hu,<- hbb]
 clear hu hbb OW
 go_upto_region 5 with fail
 refine wp_region_list ?_
 refine wpList_load_row rfl 33 _ rfl b1 rfl _ _ (0,0) _ X1.out.box underlying33 rfl (infoMs _ _ _) ?_
 go_wp2_with fail
 refine Calls.mono (Stdh.specStep_any m po cap _ HS.out X1.out.sl X1.out.lt) ?_
 rintro e w3 ⟨⟨p3,c3,rfl,own⟩,hb⟩
 rw [<- HE.out.1,<- HE.out.2]
 rw [<- HE.out.1] at own
 have OW:Hid (w3.ownsRow u2.heap.size 2 1 (.slice p3 R.out.length c3) R.out.length (outC R.out)):=own
 clear own
 have X1:=zHd (X1.out.below hb)
 have X2:=zHd (X2.out.below hb)
 have V:=zHd (CartL.after V.out hb)
 clear hb
 rename_i hK
 refine hK _ _ ?_
 clear hK
 refine wpList_plain rfl (fun K hK=>?_)
 go_simp
 refine hK _ _ ?_
 clear hK
 refine wpList_plain rfl (fun K hK=>?_)
 go_simp
 refine hK _ _ ?_
 clear hK
 refine wpList_plain rfl (fun K hK=>?_)
 go_simp
 refine hK _ _ ?_
 clear hK
 refine wpList_plain rfl (fun K hK=>?_)
 go_simp
 refine hK _ _ ?_
 clear hK
 refine wpList_store_row rfl 33 _ _ rfl w3.heap.size (cellsM R p3 c3) rfl rfl _ _ (heap_alloc_last w3 _) (infoMs _ _ _) (by rw [HZ.out,size_M,size_M]) (one_M _ _ _) ?_
 rw [World.setRow_alloc_new]
 obtain ⟨u3,hu⟩ : ∃ u,u=w3.alloc (.cells (cellsM R p3 c3) 33):=⟨_,rfl⟩
 obtain ⟨b3,hbb⟩ : ∃ b,b=w3.heap.size:=⟨_,rfl⟩
 have X3:Hid (Bx u3 b3 R p3 c3):=by show Bx _ _ _ _ _;rw [hu,hbb];exact Bx.new OW.out
 have X1:Hid (Bx u3 b1 m po cap):=by show Bx _ _ _ _ _;rw [hu];exact X1.out.alloc _
 have X2:Hid (Bx u3 b2 R p2 c2):=by show Bx _ _ _ _ _;rw [hu];exact X2.out.alloc _
 have V:Hid (Below w.heap.size w u3):=by show Below _ _ _;rw [hu];exact zGr V.out _
 go_upto_region 6 with fail
 rw [<- hu,<- hbb]
 clear hu hbb OW
 by_cases h0:cd=0
 ·have e0:(cd != 0)=false:=by simp [h0]
  obtain ⟨hok,hst⟩:=HP.out (by omega)
  obtain ⟨e1,e2⟩:=HE.out
  rw [hst] at e1 e2
  have hz0:(Stpo.stepP m).2=0:=by rw [<- e2];exact h0
  have HH:=Herp.here hz0
  have HI:=Stpo.ins_of m (Runr.step_go hz0).1
  rw [<- e1] at HH
  obtain ⟨c,hc⟩ : ∃ c,c=(Stpo.insOf m).1:=⟨_,rfl⟩
  obtain ⟨q,hq⟩ : ∃ c,c=(Stpo.insOf m).2.1:=⟨_,rfl⟩
  obtain ⟨im,him⟩ : ∃ c,c=(Stpo.insOf m).2.2:=⟨_,rfl⟩
  rw [<- hc,<- hq,<- him] at HI
  rw [<- hc,<- hq] at HH
  have HH:Hid (_/\_):=HH
  have HV:Hid (ReadI.readI (Stph.fetch m) 0=.agg #[.int .i64 c,.bool q,.int .i64 im]):=HI.val
  have HC:Hid (0<=c/\c<=255):=HI.cbd
  have HF:Hid (Fine m):=Stpq.good_of hok HS.out
  have HOK:Hid (okMM m=true):=hok
  have HLN:Hid (0<=Stpo.lenOf m/\Stpo.lenOf m<=3):=HI.len
  clear hc hq him HI hz0 e1 e2 hst hok
  subst h0
  obtain ⟨pc0,pc1⟩:=HF.out.1.pc
  obtain ⟨y0,y1⟩:=HF.out.2
  go_wp2_with fail
  go_loopw [8,9] (fun s i wr=>∃ k:Nat,k<=3/\s=.string (Hers.pre m k)/\i=.int .i64 (k:Int)/\Hid (Bx wr b1 m po cap)/\Hid (Bx wr b2 R p2 c2)/\Hid (Below w.heap.size w wr)) (fun _ i _=>3-(intOf i).toNat)
  case atStart=>exact ⟨0,by decide,rfl,rfl,X1.out,X2.out,V.out⟩
  case round =>
   clear X1 X2 X3 V
   obtain ⟨k,hk,rfl,rfl,X1,X2,V⟩:=hrel
   by_cases hlt:k<3
   ·have hk3:decide ((k:Int)<3)=true:=decide_eq_true (by omega)
    have q9:=celM X1.out.box 9 (.int .i64 m.pc) rfl
    have d1:IntKind.i64.wrap (m.pc+(k:Int))=m.pc+(k:Int):=by rw [IntKind.wrap_i64];omega
    have d2:(m.pc+(k:Int)).tmod 65536=(m.pc+(k:Int))%65536:=Int.tmod_eq_emod_of_nonneg (by omega)
    have d3:IntKind.i64.wrap ((m.pc+(k:Int))%65536)=(m.pc+(k:Int))%65536:=by rw [IntKind.wrap_i64];omega
    have hu:=Stph.u_eq m (k:Int)
    have hb0:=Stpp.rd_bd m ((m.pc+(k:Int))%65536)
    have hn:=Hers.pre_next m k hlt
    have hps:=Hers.pre_size m k hk
    have cr:=fun W (h:Sl W po m.out cap)=>Hers.busRead_M m po cap ((m.pc+(k:Int))%65536) W HS.out h HOK.out (by omega) (by omega)
    have HBK:=fun W=>Hers.one_back W (Stph.u m (k:Int)) _ hu
    generalize Stpp.rd m ((m.pc+(k:Int))%65536)=v at *
    generalize Stph.u m (k:Int)=ub at *
    have HBK:Hid (_):=HBK
    have HNX:Hid (_):=hn
    clear hn hu
    obtain ⟨v0,v1⟩:=hb0
    have d4:IntKind.u8.wrap v=v:=by rw [IntKind.wrap_u8];omega
    go_upto_region 12 with fail
    refine wp_region_list ?_
    refine wpList_plain rfl (fun K hK=>?_)
    go_simp
    refine hK _ _ ?_
    clear hK
    refine wpList_load_row rfl 33 _ rfl b1 rfl _ _ (0,0) _ X1.out.box underlying33 rfl (infoMs _ _ _) ?_
    go_wp2_with fail
    refine Calls.mono (cr _ X1.out.sl) ?_
    rintro e w6 ⟨rfl,hb⟩
    have X1:=zHd (X1.out.below hb)
    have X2:=zHd (X2.out.below hb)
    have V:=zHd (CartL.after V.out hb)
    clear hb cr q9
    have hcv:=HBK.out w6
    have X1':Hid (Bx (w6.alloc (.cells #[.int .u8 v] 5)) b1 m po cap):=X1.out.alloc _
    have X2':Hid (Bx (w6.alloc (.cells #[.int .u8 v] 5)) b2 R p2 c2):=X2.out.alloc _
    have V':Hid (Below w.heap.size w (w6.alloc (.cells #[.int .u8 v] 5))):=zGr V.out _
    go_wp2_with fail
    go_roundw
    case rel=>exact ⟨k+1,by omega,by rw [<- HNX.out],by go_num,X1'.out,X2'.out,V'.out⟩
    case measure=>simp [intOf];omega
   ·have hk3:k=3:=by omega
    subst hk3
    rw [Hers.pre_all]
    have hk4:decide (((3:Nat):Int)<3)=false:=by decide
    have cr:=fun W hb=>ReadJ.implRead_any (Stph.fetch m) 0 W (HM.out.2.below hb) (by rw [Stph.fetch_size];decide)
    rw [HV.out] at cr
    have hln:ReadI.readN (Stph.fetch m) 0=Stpo.lenOf m:=rfl
    rw [hln] at cr
    unfold ReadI.Tup at cr
    have cT:=(CycX.same c q true).2
    have cF:=(CycX.same c q false).2
    unfold CycX.Im at cT cF
    obtain ⟨hh1,hh2⟩:=HH.out
    obtain ⟨c0,c1⟩:=HC.out
    have rT:=Runr.cyc_bd c q true c0 c1
    have rF:=Runr.cyc_bd c q false c0 c1
    generalize CycX.cyc c q true=ct at *
    generalize CycX.cyc c q false=cf at *
    generalize Stpo.lenOf m=ln at *
    generalize Stph.fetch m=fe at *
    have HH2:Hid (_->_):=hh2
    clear hh2 hln
    go_wp2_with fail
    refine Calls.mono (cr _ V.out) ?_
    rintro e w6 ⟨rfl,hb⟩
    have X1:=zHd (X1.out.below hb)
    have X2:=zHd (X2.out.below hb)
    have V:=zHd (CartL.after V.out hb)
    clear hb cr
    go_upto_region 14 with fail
    obtain ⟨u7,hu7⟩ : ∃ u,u=w6.alloc (.cells #[.int .i64 c,.bool q,.int .i64 im] 59):=⟨_,rfl⟩
    obtain ⟨bi,hbi⟩ : ∃ b,b=w6.heap.size:=⟨_,rfl⟩
    have X1:Hid (Bx u7 b1 m po cap):=by show Bx _ _ _ _ _;rw [hu7];exact X1.out.alloc _
    have X2:Hid (Bx u7 b2 R p2 c2):=by show Bx _ _ _ _ _;rw [hu7];exact X2.out.alloc _
    have V:Hid (Below w.heap.size w u7):=by show Below _ _ _;rw [hu7];exact zGr V.out _
    have HB7:Hid (∀ W',Below u7.heap.size u7 W'->W'.cell? ⟨bi,0,none⟩=some (.int .i64 c)/\W'.cell? ⟨bi,1,none⟩=some (.bool q)):=fun W' h=>by
     have hl:bi<u7.heap.size:=by rw [hu7,hbi];simp
     exact ⟨(h.cell (p:=⟨bi,0,none⟩) hl).trans (by rw [hu7,hbi,World.cell?_alloc_new];rfl),(h.cell (p:=⟨bi,1,none⟩) hl).trans (by rw [hu7,hbi,World.cell?_alloc_new];rfl)⟩
    rw [<- hu7,<- hbi]
    clear hu7 hbi
    obtain ⟨j0,j1⟩:=HB7.out _ zRf
    have a22:=celM X2.out.box 22 (.int .i64 R.cyc) rfl
    have b22:=celM X1.out.box 22 (.int .i64 m.cyc) rfl
    have HPC:Hid (0<=m.pc/\m.pc<=65535/\0<=ln/\ln<=3/\0<=c/\c<=255):=⟨pc0,pc1,HLN.out.1,HLN.out.2,c0,c1⟩
    obtain ⟨dd,hdd⟩ : ∃ d,d=R.cyc-m.cyc:=⟨_,rfl⟩
    have d1:IntKind.i64.wrap (R.cyc-m.cyc)=dd:=by rw [IntKind.wrap_i64,hdd];rcases hh1 with h|h <;> omega
    rw [<- hdd] at hh1
    clear hdd pc0 pc1 y0 y1 c0 c1
    go_wp2_with fail
    refine Calls.mono (cT _) ?_
    rintro e w8 ⟨rfl,hb⟩
    have X1:=zHd (X1.out.below hb)
    have X2:=zHd (X2.out.below hb)
    have V:=zHd (CartL.after V.out hb)
    obtain ⟨i0,i1⟩:=HB7.out _ hb
    have HB8:Hid (∀ W',Below w8.heap.size w8 W'->W'.cell? ⟨bi,0,none⟩=some (.int .i64 c)/\W'.cell? ⟨bi,1,none⟩=some (.bool q)):=fun W' h=>HB7.out _ (CartL.after hb h)
    clear hb cT j0 j1 a22 b22 d1 HB7
    have HLAST:Hid (∀ W,Below w8.heap.size w8 W->Hid (Bx W b1 m po cap/\Bx W b2 R p2 c2/\Below w.heap.size w W)):=fun W h=>⟨X1.out.below h,X2.out.below h,CartL.after V.out h⟩
    by_cases hT:dd=ct
    ·have g1:(dd != ct)=false:=by simp [hT]
     clear hh1 rT rF cF
     go_upto_region 17 with fail
     obtain ⟨X1,X2,V⟩:=(HLAST.out w8 zRf).out
     have V:Hid (Below w.heap.size w w8):=V
     obtain ⟨i0,i1⟩:=HB8.out w8 zRf
     have a9:=celM X2.box 9 (.int .i64 R.pc) rfl
     have b9:=celM X1.box 9 (.int .i64 m.pc) rfl
     obtain ⟨pc0,pc1,l0,l1,c0,c1⟩:=HPC.out
     have d1:IntKind.i64.wrap (m.pc+ln)=m.pc+ln:=by rw [IntKind.wrap_i64];omega
     have d2:(m.pc+ln).tmod 65536=(m.pc+ln)%65536:=Int.tmod_eq_emod_of_nonneg (by omega)
     have d3:c.tmod 8=c%8:=Int.tmod_eq_emod_of_nonneg c0
     clear X1 X2 HLAST HB8
     obtain ⟨pl,hpl⟩ : ∃ p,p=Herp.plainB c q:=⟨_,rfl⟩
     have hpq:=HH2.out
     rw [<- hpl] at hpq
     unfold Herp.plainB at hpl
     cases q with
     | true =>
      have e9:=hpq (by rw [hpl];rfl)
      rw [e9] at a9
      clear hpq hpl
      go_wp2
      go_ret
      exact ⟨rfl,V.out⟩
     | false =>
      by_cases n1:63<c
      ·have k1:decide (63<c)=true:=decide_eq_true n1
       by_cases n2:c<192
       ·have k2:decide (c<192)=true:=decide_eq_true n2
        have e9:=hpq (by rw [hpl,k1,k2];rfl)
        rw [e9] at a9
        clear hpq hpl
        go_wp2
        go_ret
        exact ⟨rfl,V.out⟩
       ·have k2:decide (c<192)=false:=decide_eq_false n2
        have k3:decide (c<64)=false:=decide_eq_false (by omega)
        clear hpq hpl
        go_wp2
        go_ret
        exact ⟨rfl,V.out⟩
      ·have k1:decide (63<c)=false:=decide_eq_false n1
       have k3:decide (c<64)=true:=decide_eq_true (by omega)
       by_cases n4:0<c%8
       ·have k4:decide (0<c%8)=true:=decide_eq_true n4
        have e9:=hpq (by rw [hpl,k1,k3,k4];rfl)
        rw [e9] at a9
        clear hpq hpl
        go_wp2
        go_ret
        exact ⟨rfl,V.out⟩
       ·have k4:decide (0<c%8)=false:=decide_eq_false n4
        clear hpq hpl
        go_wp2
        go_ret
        exact ⟨rfl,V.out⟩
    ·have g1:(dd != ct)=true:=by simpa using hT
     have hF:dd=cf:=by rcases hh1 with h|h;exact absurd h hT;exact h
     have g2:(dd != cf)=false:=by simp [hF]
     clear hh1 rT rF hT hF
     go_wp2_with fail
     refine Calls.mono (cF _) ?_
     rintro e w9 ⟨rfl,hb⟩
     have HLAST:Hid (∀ W,Below w9.heap.size w9 W->Hid (Bx W b1 m po cap/\Bx W b2 R p2 c2/\Below w.heap.size w W)):=fun W h=>HLAST.out W (CartL.after hb h)
     have HB8:Hid (∀ W',Below w9.heap.size w9 W'->W'.cell? ⟨bi,0,none⟩=some (.int .i64 c)/\W'.cell? ⟨bi,1,none⟩=some (.bool q)):=fun W' h=>HB8.out _ (CartL.after hb h)
     clear hb cF i0 i1
     go_upto_region 17 with fail
     obtain ⟨X1,X2,V⟩:=(HLAST.out w9 zRf).out
     have V:Hid (Below w.heap.size w w9):=V
     obtain ⟨i0,i1⟩:=HB8.out w9 zRf
     have a9:=celM X2.box 9 (.int .i64 R.pc) rfl
     have b9:=celM X1.box 9 (.int .i64 m.pc) rfl
     obtain ⟨pc0,pc1,l0,l1,c0,c1⟩:=HPC.out
     have d1:IntKind.i64.wrap (m.pc+ln)=m.pc+ln:=by rw [IntKind.wrap_i64];omega
     have d2:(m.pc+ln).tmod 65536=(m.pc+ln)%65536:=Int.tmod_eq_emod_of_nonneg (by omega)
     have d3:c.tmod 8=c%8:=Int.tmod_eq_emod_of_nonneg c0
     clear X1 X2 HLAST HB8
     obtain ⟨pl,hpl⟩ : ∃ p,p=Herp.plainB c q:=⟨_,rfl⟩
     have hpq:=HH2.out
     rw [<- hpl] at hpq
     unfold Herp.plainB at hpl
     cases q with
     | true =>
      have e9:=hpq (by rw [hpl];rfl)
      rw [e9] at a9
      clear hpq hpl
      go_wp2
      go_ret
      exact ⟨rfl,V.out⟩
     | false =>
      by_cases n1:63<c
      ·have k1:decide (63<c)=true:=decide_eq_true n1
       by_cases n2:c<192
       ·have k2:decide (c<192)=true:=decide_eq_true n2
        have e9:=hpq (by rw [hpl,k1,k2];rfl)
        rw [e9] at a9
        clear hpq hpl
        go_wp2
        go_ret
        exact ⟨rfl,V.out⟩
       ·have k2:decide (c<192)=false:=decide_eq_false n2
        have k3:decide (c<64)=false:=decide_eq_false (by omega)
        clear hpq hpl
        go_wp2
        go_ret
        exact ⟨rfl,V.out⟩
      ·have k1:decide (63<c)=false:=decide_eq_false n1
       have k3:decide (c<64)=true:=decide_eq_true (by omega)
       by_cases n4:0<c%8
       ·have k4:decide (0<c%8)=true:=decide_eq_true n4
        have e9:=hpq (by rw [hpl,k1,k3,k4];rfl)
        rw [e9] at a9
        clear hpq hpl
        go_wp2
        go_ret
        exact ⟨rfl,V.out⟩
       ·have k4:decide (0<c%8)=false:=decide_eq_false n4
        clear hpq hpl
        go_wp2
        go_ret
        exact ⟨rfl,V.out⟩
 ·have e0:(cd != 0)=true:=by simpa using h0
  go_wp2
  go_ret
  exact ⟨rfl,V.out⟩
set_option maxRecDepth 100000 in
theorem contract (H:Type) (enc:TypeId × Value->H) (W:World) (base:Nat) (args:Array Value) (ds gs:List (DataW H)) (before:List MemPlace)
  (hval:∀ (j:Nat) t v,Tryz.f9.params[j]? = some t->args[j]? = some v->Value.okWide prog W .any base t v)
  (hW:DataW.Whole enc prog Tryz.f9.params.toList Rows.fnHereSpec.vars false W args.toList ds gs before) (hL:laidMetH prog Rows.fnHereRow.laid W) (hsh:W.ShapedOpen prog) :
  Calls prog 9 args W fun e W'=>∃ v,e=.returned v/\Rows.fnHereSpec.post enc prog Tryz.f9 false true false false W args v W':=by
 have hW':=hW
 obtain ⟨p,q,hA0,hV,hbef,hfz,hnd⟩:=hW
 have hA:DataW.TrodAll enc prog W 0 (fun _=>true) true Tryz.f9.params.toList args.toList ds p:=hA0
 have hVk:DataW.TrodVars enc prog W (fun _=>true) Rows.fnHereSpec.vars gs q:=hV
 rw [Tryz.params9] at hA hval
 obtain ⟨v0,vs0,d0,ds0,p0,q0,hargs,rfl,rfl,h0,r0⟩:=trodAll_cons hA
 obtain ⟨rfl,rfl,rfl⟩:=trodAll_nil r0
 obtain rfl:args=#[v0]:=by cases args;simp_all
 obtain ⟨g1,g2,rfl⟩ : ∃ g1 g2,gs=[g1,g2]:=by
  have hl:=Laid.vars_len hVk
  match gs,hl with
  | [g1,g2],_=>exact ⟨_,_,rfl⟩
 obtain ⟨a0,len0,cap0,rfl⟩:=okWide_slice underlying48 (hval 0 48 v0 rfl rfl)
 have k0:=h0
 have lt0:∀ x ∈ p0,x.block<W.heap.size:=by obtain ⟨m,hm⟩:=k0;exact DataW.trod_lt m _ _ _ hm
 obtain ⟨z0,w0⟩ : ∃ zs,IsRow .u8 W a0 len0 cap0 zs:=by
  obtain ⟨fuel,hf⟩:=h0
  rcases open_ints underlying48 underlying5 (by kernel_rfl) hf with ⟨hcs,_⟩|⟨x,l,c,zs,hcs,_,hl,hm,hz,_,hcell,hwz⟩
  ·simp [Value.cells] at hcs
   obtain ⟨rfl,rfl,rfl⟩:=hcs
   exact ⟨[],.inl ⟨rfl,rfl,rfl,rfl⟩⟩
  ·simp [Value.cells] at hcs
   obtain ⟨rfl,rfl,rfl⟩:=hcs
   exact ⟨zs,.inr ⟨_,rfl,hl,hm,by simpa using hz,hcell,hwz⟩⟩
 clear hA0
 refine (walk W a0 len0 cap0 z0 w0 (tables hL) (Tryz.laysM144.s1_3 W hsh)).mono fun e W' ⟨he,bel⟩=>?_
 subst he
 exact ⟨_,rfl,_,_,_,[],_,q,hW',trodAll_mk1 (shut_bool underlying4 _),(trodAll_cons_mk (Below.trod laidOut (by kernel_rfl) (of_decide_eq_true (by kernel_rfl)) k0 bel lt0) trodAll_mk0),Below.trodVars laidOut bel rowed hVk,bel.frame _,fun h=>by cases h⟩
noncomputable def laidWorld (os:Os):World :=
 { World.holding prog os ⟨#[],#[],[]⟩ with heap:=(fun h=>h.modify 0 fun|.cells _ t frozen=>.cells #[.string ⟨#[98,99]⟩,.string ⟨#[100,101]⟩,.string ⟨#[104,108]⟩,.string ⟨#[97,102]⟩] t frozen|o=>o) <| (fun h=>h.modify 1 fun|.cells _ t frozen=>.cells #[.string ⟨#[]⟩,.string ⟨#[98,105,116]⟩,.string ⟨#[114,101,115]⟩,.string ⟨#[115,101,116]⟩] t frozen|o=>o) <| (World.holding prog os ⟨#[],#[],[]⟩).heap }
theorem laid_met (os:Os):laidMet prog Rows.fnHereRow.laid ((laidWorld os).forCall (fun _ _=>0) ⟨#[],#[.slice none 0 0],[]⟩).memory :=
 laidMet_of_run' 8 (by kernel_rfl) (by kernel_rfl)
theorem reads (os:Os) {H:Type} (enc:TypeId × Value->H):∃ places,DataW.whole enc prog ((laidWorld os).forCall (fun _ _=>0) ⟨#[],#[.slice none 0 0],[]⟩).memory Tryz.f9.params.toList Rows.fnHereSpec.vars false [.slice none 0 0] 8=some ([.nil],[.agg [.lit (.string [98,99]),.lit (.string [100,101]),.lit (.string [104,108]),.lit (.string [97,102])],.agg [.lit (.string []),.lit (.string [98,105,116]),.lit (.string [114,101,115]),.lit (.string [115,101,116])]],places) :=
 ⟨MemPlace.row ⟨0,0,none⟩ 4 ++ MemPlace.row ⟨1,0,none⟩ 4,by kernel_rfl⟩
set_option maxRecDepth 100000 in
theorem lifted (os:Os) (started:os.Started) (H:Type) (enc:TypeId × Value->H) (F:Stop.Interp) :
  ReturnsInHanded {} Tryz.checked os 9 .any ((OpenSpec.ofChange Rows.fnHereSpec).preRow enc prog Tryz.f9 Rows.fnHereRow.domain false Rows.fnHereRow.laid) (((OpenSpec.ofChange Rows.fnHereSpec).at F).post enc prog Tryz.f9 false true false false):=by
 obtain ⟨places,hx⟩:=reads os enc
 refine returnsInHanded_of_row (C:=Tryz.checked) (s:=OpenSpec.ofChange Rows.fnHereSpec) own started (by kernel_rfl) func9
  (witness_row_at (enc:=enc) (C:=Tryz.checked) false (laidWorld os) #[.slice none 0 0] rfl (by kernel_rfl) (by kernel_rfl) (by kernel_rfl)
   (OpenSpec.preRow_of_cond 8 hx (by kernel_rfl) (fun k hk=>by cases hk) (by kernel_rfl) (laid_met os))) ?_
 intro W base args ds gs before hval hW _ _ _ hL hsh _
 exact contract H enc W base args ds gs before hval hW hL hsh
theorem said:Rows.FnHereSaid :=
 OpenClaim.holds_of_cond 9 Tryz.f9 rfl rfl rfl rfl rfl rfl rfl ⟨rfl,rfl,rfl,rfl,rfl⟩ rfl rfl rfl rfl rfl (by kernel_rfl) func9 (by kernel_rfl)
  (of_decide_eq_true (by kernel_rfl)) (by unfold Func.isWrapper;first|(rw [if_pos (by decide +kernel)];kernel_rfl)|(rw [if_neg (by decide +kernel)];exact ⟨rfl,rfl⟩))
  (fun os started H enc _ F=>by rw [OpenClaim.pre_eq_preRow];exact lifted os started H enc F)
theorem plain (f:FuncId) (fn:Func) (hf:Tryz.pinned.checked.prog.funcNamed "loop.example/g00460/laws.FnHere" = some f) (hfn:Tryz.pinned.checked.prog.funcs[f]? = some fn) :
  true=Tryz.pinned.checked.prog.looks []/\∀ (j:Nat) t,fn.params[j]? = some t->Tryz.pinned.checked.prog.wantsStandIn t=false:=by
 obtain rfl:f=9:=Option.some.inj ((show prog.funcNamed "loop.example/g00460/laws.FnHere" = some 9 by kernel_rfl).symm.trans hf) |>.symm
 obtain rfl:fn=Tryz.f9:=(Option.some.inj (func9.symm.trans hfn)).symm
 refine ⟨by kernel_rfl,fun j t ht=>?_⟩
 rw [Tryz.params9] at ht
 have h:t=48:=by simpa using Array.mem_of_getElem? ht
 subst h
 exact (show prog.wantsStandIn 48=false by kernel_rfl)
theorem card:Rows.FnHereCardSaid :=
 Claim7.holds_tied_plain_at .later [] _ _ _ _ said (fun _ h=>by cases h) (by kernel_rfl) (fun _ h=>by cases h) fnHere_row_tie rfl ⟨rfl,rfl⟩ (by kernel_rfl) rfl plain (by kernel_rfl)
end Go.Proofs.YtnjolmbdbgbmbaaGreatDoor.fnHere
namespace Go.Proofs.YtnjolmbdbgbmbaaGreatDoor
theorem fnHere_holds:Rows.FnHereCardSaid:=fnHere.card
end Go.Proofs.YtnjolmbdbgbmbaaGreatDoor
