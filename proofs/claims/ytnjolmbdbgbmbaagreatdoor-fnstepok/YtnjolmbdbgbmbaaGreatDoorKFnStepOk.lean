/- For every code the law FnStepOk answers true: of the drawn machine impl.Step answers as spec.Step does; a step that is made leaves a right machine, takes 1 to 6 cycles, keeps the rom and what was told out; one that is not made leaves the machine as it was; the code read and nothing old written; no condition. -/
import Derived.Test.YtnjolmbdbgbmbaaGreatDoorCards
import Derived.Test.YtnjolmbdbgbmbaaGreatDoorTie
import Derived.ChangeOld
import Derived.ChangeVars
import Derived.OpenVars
import Derived.Deep.DeepHandedRow
import Derived.Test.YtnjolmbdbgbmbaaGreatDoorS42
import Derived.HandedShaped
set_option linter.all false
set_option maxRecDepth 20000
set_option maxHeartbeats 8000000
open Go.ChangeShapes Go.WideShapes Go.ChangeAt Go.RowKit
open Go.Proofs.Tryz
namespace Go.Proofs.YtnjolmbdbgbmbaaGreatDoor.fnStepOk
open Go.ChangeMaps (open_string shut_string)
theorem own:ownKnob prog.godebug=none:=by kernel_rfl
theorem laidOut:laidOutB prog=true:=by kernel_rfl
theorem rowed:varsRowed prog Rows.fnStepOkSpec.vars=true:=by kernel_rfl
def IsRow (k:IntKind) (w:World) (a:Option Addr) (len cap:Nat) (zs:List Int):Prop :=
 (a=none/\len=0/\cap=0/\zs=[]) \/
 ∃ x,a=some x/\len<=cap/\cap<=maxLen/\zs.length=cap/\(∀ i,i<zs.length->w.cell? (x.add i)=some (.int k (zs.getD i 0)))/\∀ n ∈ zs,(Lit.int k n).wf=true
theorem tables {W:World} (h:laidMetH prog Rows.fnStepOkRow.laid W):Stpi.Tb W:=by
 obtain ⟨q0,L0,_⟩ : laidMet prog Rows.fnStepOkRow.laid W:=h
 have t0:=Laid.txts (P:=prog) (l:=[[98,99],[100,101],[104,108],[97,102]]) (show prog.globalNamed "loop.example/g00460/impl.stackNames" = some 0 by kernel_rfl) (show (prog.globals[0]?).map (·.type)=some 189 by kernel_rfl) underlying189 underlying9 (by kernel_rfl) (by kernel_rfl) L0
 obtain ⟨q1,L1⟩:=Laid.skip L0
 have t1:=Laid.txts (P:=prog) (l:=[[],[98,105,116],[114,101,115],[115,101,116]]) (show prog.globalNamed "loop.example/g00460/impl.bitNames" = some 1 by kernel_rfl) (show (prog.globals[1]?).map (·.type)=some 189 by kernel_rfl) underlying189 underlying9 (by kernel_rfl) (by kernel_rfl) L1
 obtain ⟨q2,L2⟩:=Laid.skip L1
 exact ⟨fun i hi=>(t0 i hi).trans (by match i,hi with|0,_=>rfl|1,_=>rfl|2,_=>rfl|3,_=>rfl),fun i hi=>(t1 i hi).trans (by match i,hi with|0,_=>rfl|1,_=>rfl|2,_=>rfl|3,_=>rfl)⟩
open Busw Busx Busy Boxs Boxm Runp
theorem toRow {k:IntKind} {w:World} {a:Option Addr} {len cap:Nat} {zs:List Int} (h:IsRow k w a len cap zs):Rdr.IsRow k w a len cap zs:=h
theorem walk (w:World) (a0:Option Addr) (len0 cap0:Nat) (z0:List Int) (w0:IsRow .u8 w a0 len0 cap0 z0) (hT:Stpi.Tb w) (hm:HolI.MaxL w) :
  Calls prog 8 #[.slice a0 len0 cap0] w fun e w'=>e=.returned (.bool true)/\Below w.heap.size w w':=by
 have H:Hid (Rdr.IsRow .u8 w a0 len0 cap0 z0):=toRow w0
 have HM:Hid (Stpi.Tb w/\HolI.MaxL w):=⟨hT,hm⟩
 have hz:=zeroM
 obtain ⟨cZ,hcZ⟩ : ∃ c,c=cellsM Z0 none 0:=⟨_,rfl⟩
 rw [<- hcZ] at hz
 have HZ:Hid (cZ=cellsM Z0 none 0):=hcZ
 clear w0 hT hm hcZ
 have cb:=Rdr.big_any a0 len0 cap0 w H.out.len
 by_cases hbig:Rdr.bigB len0=true
 ·rw [hbig] at cb
  go_enter func8,ntmps8
  go_wp2_with (go_at_call 25;refine cb.mono ?_;rintro e wx ⟨rfl,hwx⟩;rw [hwx];clear hwx wx)
  go_ret
  exact ⟨rfl,Below.refl _ _⟩
 have hbig:Rdr.bigB len0=false:=by simpa using hbig
 rw [hbig] at cb
 go_enter func8,ntmps8
 go_wp2_with fail
 refine cb.mono ?_
 rintro e wx ⟨rfl,hwx⟩
 rw [hwx]
 clear hwx wx cb hbig
 go_wp2_with fail
 refine Calls.mono (drawStep_any _ _ _ _ _ H.out) ?_
 rintro e w1 ⟨m,po,cap,rfl,hsm,own,hb⟩
 have HS:Hid (Sm m):=hsm
 have OW:Hid (w1.ownsRow w.heap.size 2 1 (.slice po m.out.length cap) m.out.length (outC m.out)):=own
 clear hsm own H
 have V:Hid (Below w.heap.size w w1):=hb
 clear hb
 rename_i hK
 refine hK _ _ ?_
 clear hK
 refine wpList_plain rfl (fun K hK=>?_)
 go_simp
 refine hK _ _ ?_
 clear hK
 refine wpList_store_row rfl 33 _ _ rfl w1.heap.size (cellsM m po cap) rfl rfl _ _ (heap_alloc_last w1 _) (infoMs _ _ _) (by rw [HZ.out,size_M,size_M]) (one_M _ _ _) ?_
 rw [World.setRow_alloc_new]
 obtain ⟨u1,hu⟩ : ∃ u,u=w1.alloc (.cells (cellsM m po cap) 33):=⟨_,rfl⟩
 obtain ⟨b1,hbb⟩ : ∃ b,b=w1.heap.size:=⟨_,rfl⟩
 have X1:Hid (Bx u1 b1 m po cap):=by show Bx _ _ _ _ _;rw [hu,hbb];exact Bx.new OW.out
 have V:Hid (Below w.heap.size w u1):=by show Below _ _ _;rw [hu];exact zGr V.out _
 go_upto_region 4 with fail
 rw [<- hu,<- hbb]
 clear hu hbb OW
 have HL:Hid ((Ista.stepV m).1.out.length<=1048576):=Stdh.stepV_len HS.out
 have HP:Hid (∀ h:¬ (Ista.stepV m).2=3,okMM m=true/\Ista.stepV m=Stpo.stepP m):=fun h=>Runr.stepV_ok h
 obtain ⟨R,hR⟩ : ∃ R,R=(Ista.stepV m).1:=⟨_,rfl⟩
 obtain ⟨cd,hcd⟩ : ∃ c,c=(Ista.stepV m).2:=⟨_,rfl⟩
 rw [<- hR] at HL
 rw [<- hcd] at HP
 have HE:Hid (R=(Ista.stepV m).1/\cd=(Ista.stepV m).2):=⟨hR,hcd⟩
 clear hR hcd
 go_upto_region 4 with fail
 refine wp_region_list ?_
 refine wpList_load_row rfl 33 _ rfl b1 rfl _ _ (0,0) _ X1.out.box underlying33 rfl (infoMs _ _ _) ?_
 go_wp2_with fail
 refine Calls.mono (Ista.implStep_any m po cap _ HS.out X1.out.sl (HM.out.1.below V.out) (HM.out.2.below V.out)) ?_
 rintro e w2 ⟨⟨p2,c2,rfl,own⟩,hb⟩
 rw [<- HE.out.1,<- HE.out.2]
 rw [<- HE.out.1] at own
 have OW:Hid (w2.ownsRow u1.heap.size 2 1 (.slice p2 R.out.length c2) R.out.length (outC R.out)):=own
 clear own
 have X1:=zHd (X1.out.below hb)
 have V:=zHd (CartL.after V.out hb)
 clear hb
 rename_i hK
 refine hK _ _ ?_
 clear hK
 refine wpList_plain rfl (fun K hK=>?_)
 go_simp
 refine hK _ _ ?_
 clear hK
 refine wpList_plain rfl (fun K hK=>?_)
 go_simp
 refine hK _ _ ?_
 clear hK
 refine wpList_plain rfl (fun K hK=>?_)
 go_simp
 refine hK _ _ ?_
 clear hK
 refine wpList_plain rfl (fun K hK=>?_)
 go_simp
 refine hK _ _ ?_
 clear hK
 refine wpList_store_row rfl 33 _ _ rfl w2.heap.size (cellsM R p2 c2) rfl rfl _ _ (heap_alloc_last w2 _) (infoMs _ _ _) (by rw [HZ.out,size_M,size_M]) (one_M _ _ _) ?_
 rw [World.setRow_alloc_new]
 obtain ⟨u2,hu⟩ : ∃ u,u=w2.alloc (.cells (cellsM R p2 c2) 33):=⟨_,rfl⟩
 obtain ⟨b2,hbb⟩ : ∃ b,b=w2.heap.size:=⟨_,rfl⟩
 have X2:Hid (Bx u2 b2 R p2 c2):=by show Bx _ _ _ _ _;rw [hu,hbb];exact Bx.new OW.out
 have X1:Hid (Bx u2 b1 m po cap):=by show Bx _ _ _ _ _;rw [hu];exact X1.out.alloc _
 have V:Hid (Below w.heap.size w u2):=by show Below _ _ _;rw [hu];exact zGr V.out _
 go_upto_region 5 with fail
 rw [<- hu,<- hbb]
 clear hu hbb OW
 go_upto_region 5 with fail
 refine wp_region_list ?_
 refine wpList_load_row rfl 33 _ rfl b1 rfl _ _ (0,0) _ X1.out.box underlying33 rfl (infoMs _ _ _) ?_
 go_wp2_with fail
 refine Calls.mono (Stdh.specStep_any m po cap _ HS.out X1.out.sl X1.out.lt) ?_
 rintro e w3 ⟨⟨p3,c3,rfl,own⟩,hb⟩
 rw [<- HE.out.1,<- HE.out.2]
 rw [<- HE.out.1] at own
 have OW:Hid (w3.ownsRow u2.heap.size 2 1 (.slice p3 R.out.length c3) R.out.length (outC R.out)):=own
 clear own
 have X1:=zHd (X1.out.below hb)
 have X2:=zHd (X2.out.below hb)
 have V:=zHd (CartL.after V.out hb)
 clear hb
 rename_i hK
 refine hK _ _ ?_
 clear hK
 refine wpList_plain rfl (fun K hK=>?_)
 go_simp
 refine hK _ _ ?_
 clear hK
 refine wpList_plain rfl (fun K hK=>?_)
 go_simp
 refine hK _ _ ?_
 clear hK
 refine wpList_plain rfl (fun K hK=>?_)
 go_simp
 refine hK _ _ ?_
 clear hK
 refine wpList_plain rfl (fun K hK=>?_)
 go_simp
 refine hK _ _ ?_
 clear hK
 refine wpList_store_row rfl 33 _ _ rfl w3.heap.size (cellsM R p3 c3) rfl rfl _ _ (heap_alloc_last w3 _) (infoMs _ _ _) (by rw [HZ.out,size_M,size_M]) (one_M _ _ _) ?_
 rw [World.setRow_alloc_new]
 obtain ⟨u3,hu⟩ : ∃ u,u=w3.alloc (.cells (cellsM R p3 c3) 33):=⟨_,rfl⟩
 obtain ⟨b3,hbb⟩ : ∃ b,b=w3.heap.size:=⟨_,rfl⟩
 have X3:Hid (Bx u3 b3 R p3 c3):=by show Bx _ _ _ _ _;rw [hu,hbb];exact Bx.new OW.out
 have X1:Hid (Bx u3 b1 m po cap):=by show Bx _ _ _ _ _;rw [hu];exact X1.out.alloc _
 have X2:Hid (Bx u3 b2 R p2 c2):=by show Bx _ _ _ _ _;rw [hu];exact X2.out.alloc _
 have V:Hid (Below w.heap.size w u3):=by show Below _ _ _;rw [hu];exact zGr V.out _
 go_upto_region 6 with fail
 rw [<- hu,<- hbb]
 clear hu hbb OW
 refine wp_region_list ?_
 refine wpList_plain rfl (fun K hK=>?_)
 go_simp
 refine hK _ _ ?_
 clear hK
 refine wpList_plain rfl (fun K hK=>?_)
 go_simp
 refine hK _ _ ?_
 clear hK
 refine wpList_plain rfl (fun K hK=>?_)
 go_simp
 refine hK _ _ ?_
 clear hK
 refine wpList_plain rfl (fun K hK=>?_)
 go_simp
 refine hK _ _ ?_
 clear hK
 refine wpList_step fun K hK=>?_
 rw [if_pos (by rfl)]
 refine wp_load_row 33 _ rfl b2 rfl _ _ (0,0) _ X2.out.box underlying33 rfl (infoMs _ _ _) ?_
 refine hK _ _ ?_
 clear hK
 refine wpList_step fun K hK=>?_
 rw [if_pos (by rfl)]
 refine wp_load_row 33 _ rfl b3 rfl _ _ (0,0) _ X3.out.box underlying33 rfl (infoMs _ _ _) ?_
 refine hK _ _ ?_
 clear hK
 go_wp2_with fail
 refine Calls.mono (Samm.sameM_any _ _ _ _ _ _ X2.out.sl.row X3.out.sl.row HL.out) ?_
 rintro e w4 ⟨rfl,hb⟩
 have X1:=zHd (X1.out.below hb)
 have X2:=zHd (X2.out.below hb)
 have X3:=zHd (X3.out.below hb)
 have V:=zHd (CartL.after V.out hb)
 clear hb
 by_cases h3:cd=3
 ·have e3:(cd == 3)=true:=by simpa using h3
  go_upto_region 7 with fail
  have k0:Sta.Rg 28 #[.agg (cellsM R p2 c2),.agg (cellsM R p3 c3)] w4 (.bool true):=Sta.rg fun W hb=>Samm.sameM_any _ _ _ _ _ W (X2.out.below hb).sl.row (X3.out.below hb).sl.row HL.out
  have k1:Sta.Rg 33 #[.agg (cellsM m po cap)] w4 (.bool (okMM m)):=Sta.rg fun W hb=>implOk_M m po cap W HS.out (X1.out.below hb).sl
  have k2:Sta.Rg 34 #[.agg (cellsM m po cap)] w4 (.bool (okMM m)):=Sta.rg fun W hb=>specOk_M m po cap W HS.out (X1.out.below hb).sl
  generalize okMM m=ok at *
  have l1:=fun d os=>(X1.out.below (below_regrown w4 d os)).load
  have l2:=fun d os=>(X2.out.below (below_regrown w4 d os)).load
  have l3:=fun d os=>(X3.out.below (below_regrown w4 d os)).load
  generalize cellsM m po cap=cA at *
  generalize cellsM R p2 c2=cB at *
  generalize cellsM R p3 c3=cC at *
  refine wp_region_quiet_below (by kernel_rfl) (by kernel_rfl) ?_
  repeat (first|(go_big_quiet_step (first|fail|with_reducible exact k0 _ _|with_reducible exact k1 _ _|with_reducible exact k2 _ _))|(refine Stps.wpQuiet_load (by rfl) 33 _ rfl ⟨b1,0,none⟩ rfl _ (fun W hW=>by obtain ⟨⟨d,o⟩,rfl⟩:=hW;exact l1 d o) ?_;simp only [Act.put,List.setIfInBounds_toArray,List.set_cons_succ,List.set_cons_zero])|(refine Stps.wpQuiet_load (by rfl) 33 _ rfl ⟨b2,0,none⟩ rfl _ (fun W hW=>by obtain ⟨⟨d,o⟩,rfl⟩:=hW;exact l2 d o) ?_;simp only [Act.put,List.setIfInBounds_toArray,List.set_cons_succ,List.set_cons_zero])|(refine Stps.wpQuiet_load (by rfl) 33 _ rfl ⟨b3,0,none⟩ rfl _ (fun W hW=>by obtain ⟨⟨d,o⟩,rfl⟩:=hW;exact l3 d o) ?_;simp only [Act.put,List.setIfInBounds_toArray,List.set_cons_succ,List.set_cons_zero]))
  refine wpQuiet_nil ?_
  intro _ hw'
  obtain ⟨⟨dq,osq⟩,hw''⟩:=hw'
  subst hw''
  have VV:Hid (Below w.heap.size w (Go.Sort.grow (redrawn w4 dq) osq)):=CartL.after V.out (below_regrown w4 dq osq)
  go_wp2
  go_ret
  exact ⟨rfl,VV.out⟩
 have e3:(cd == 3)=false:=by simpa using h3
 obtain ⟨hok,hst⟩:=HP.out h3
 have HF:Hid (Fine m):=Stpq.good_of hok HS.out
 by_cases h0:cd=0
 ·have e0:(cd != 0)=false:=by simp [h0]
  have HQ:Hid (okMM R=true/\m.cyc<R.cyc/\R.cyc<=m.cyc+6/\R.rom=m.rom/\m.out.length<=R.out.length):=by
   obtain ⟨e1,e2⟩:=HE.out
   rw [hst] at e1 e2
   have hz0:(Stpo.stepP m).2=0:=by rw [<- e2];exact h0
   have hc:=Runr.step_cyc hz0
   have hk:=Runr.step_keep m
   rw [e1]
   exact ⟨Runr.fine_ok (step_fine HF.out),hc.1,hc.2,hk.rom,hk.out⟩
  have HSR:Hid (Sm R):=by
   obtain ⟨e1,e2⟩:=HE.out
   rw [hst] at e1
   show Sm R
   rw [e1]
   exact Mnew.sm_fine (step_fine HF.out)
  have HCY:Hid (m.cyc<=1000000000/\0<=m.cyc):=⟨HF.out.2.2,HF.out.2.1⟩
  clear hst hok
  go_upto_region 10 with fail
  refine wp_region_list ?_
  refine wpList_load_row rfl 33 _ rfl b2 rfl _ _ (0,0) _ X2.out.box underlying33 rfl (infoMs _ _ _) ?_
  go_wp2_with fail
  refine Calls.mono (implOk_M R p2 c2 _ HSR.out X2.out.sl) ?_
  rintro e w5 ⟨rfl,hb⟩
  rw [HQ.out.1]
  have X1:=zHd (X1.out.below hb)
  have X2:=zHd (X2.out.below hb)
  have X3:=zHd (X3.out.below hb)
  have V:=zHd (CartL.after V.out hb)
  clear hb
  have a22:=celM X2.out.box 22 (.int .i64 R.cyc) rfl
  have b22:=celM X1.out.box 22 (.int .i64 m.cyc) rfl
  have a12:=celM X2.out.box 12 (.string R.rom) rfl
  have b12:=celM X1.out.box 12 (.string m.rom) rfl
  have a21:=celM X2.out.box 21 (.slice p2 R.out.length c2) rfl
  have b21:=celM X1.out.box 21 (.slice po m.out.length cap) rfl
  obtain ⟨-,q1,q2,q3,q4⟩:=HQ.out
  obtain ⟨y1,y0⟩:=HCY.out
  rw [q3] at a12
  have d1:decide (m.cyc<R.cyc)=true:=decide_eq_true q1
  have d0:IntKind.i64.wrap (m.cyc+6)=m.cyc+6:=by rw [IntKind.wrap_i64];omega
  have d2:decide (R.cyc<=m.cyc+6)=true:=decide_eq_true q2
  have d4:decide (m.out.length<=R.out.length)=true:=decide_eq_true q4
  have d5:decide ((m.out.length:Int)<=(R.out.length:Int))=true:=decide_eq_true (by omega)
  generalize m.cyc=mc at *
  generalize R.cyc=rc at *
  generalize m.rom=ro at *
  generalize m.out.length=ml at *
  generalize R.out.length=rl at *
  go_wp2
  go_ret
  exact ⟨rfl,V.out⟩
 have e0:(cd != 0)=true:=by simpa using h0
 have hRm:R=m:=by
  obtain ⟨e1,e2⟩:=HE.out
  rw [hst] at e1 e2
  rw [e1]
  exact step_stays (by rw [<- e2];exact h0)
 rw [hRm] at X2
 have HLm:Hid (m.out.length<=1048576):=HS.out.out
 clear hst hok
 go_upto_region 9 with fail
 refine wp_region_list ?_
 refine wpList_load_row rfl 33 _ rfl b2 rfl _ _ (0,0) _ X2.out.box underlying33 rfl (infoMs _ _ _) ?_
 refine wpList_load_row rfl 33 _ rfl b1 rfl _ _ (0,0) _ X1.out.box underlying33 rfl (infoMs _ _ _) ?_
 go_wp2_with fail
 refine Calls.mono (Samm.sameM_any _ _ _ _ _ _ X2.out.sl.row X1.out.sl.row HLm.out) ?_
 rintro e w5 ⟨rfl,hb⟩
 have V:=zHd (CartL.after V.out hb)
 clear hb
 go_wp2
 go_ret
 exact ⟨rfl,V.out⟩
set_option maxRecDepth 100000 in
theorem contract (H:Type) (enc:TypeId × Value->H) (W:World) (base:Nat) (args:Array Value) (ds gs:List (DataW H)) (before:List MemPlace)
  (hval:∀ (j:Nat) t v,Tryz.f8.params[j]? = some t->args[j]? = some v->Value.okWide prog W .any base t v)
  (hW:DataW.Whole enc prog Tryz.f8.params.toList Rows.fnStepOkSpec.vars false W args.toList ds gs before) (hL:laidMetH prog Rows.fnStepOkRow.laid W) (hsh:W.ShapedOpen prog) :
  Calls prog 8 args W fun e W'=>∃ v,e=.returned v/\Rows.fnStepOkSpec.post enc prog Tryz.f8 false true false false W args v W':=by
 have hW':=hW
 obtain ⟨p,q,hA0,hV,hbef,hfz,hnd⟩:=hW
 have hA:DataW.TrodAll enc prog W 0 (fun _=>true) true Tryz.f8.params.toList args.toList ds p:=hA0
 have hVk:DataW.TrodVars enc prog W (fun _=>true) Rows.fnStepOkSpec.vars gs q:=hV
 rw [Tryz.params8] at hA hval
 obtain ⟨v0,vs0,d0,ds0,p0,q0,hargs,rfl,rfl,h0,r0⟩:=trodAll_cons hA
 obtain ⟨rfl,rfl,rfl⟩:=trodAll_nil r0
 obtain rfl:args=#[v0]:=by cases args;simp_all
 obtain ⟨g1,g2,rfl⟩ : ∃ g1 g2,gs=[g1,g2]:=by
  have hl:=Laid.vars_len hVk
  match gs,hl with
  | [g1,g2],_=>exact ⟨_,_,rfl⟩
 obtain ⟨a0,len0,cap0,rfl⟩:=okWide_slice underlying48 (hval 0 48 v0 rfl rfl)
 have k0:=h0
 have lt0:∀ x ∈ p0,x.block<W.heap.size:=by obtain ⟨m,hm⟩:=k0;exact DataW.trod_lt m _ _ _ hm
 obtain ⟨z0,w0⟩ : ∃ zs,IsRow .u8 W a0 len0 cap0 zs:=by
  obtain ⟨fuel,hf⟩:=h0
  rcases open_ints underlying48 underlying5 (by kernel_rfl) hf with ⟨hcs,_⟩|⟨x,l,c,zs,hcs,_,hl,hm,hz,_,hcell,hwz⟩
  ·simp [Value.cells] at hcs
   obtain ⟨rfl,rfl,rfl⟩:=hcs
   exact ⟨[],.inl ⟨rfl,rfl,rfl,rfl⟩⟩
  ·simp [Value.cells] at hcs
   obtain ⟨rfl,rfl,rfl⟩:=hcs
   exact ⟨zs,.inr ⟨_,rfl,hl,hm,by simpa using hz,hcell,hwz⟩⟩
 clear hA0
 refine (walk W a0 len0 cap0 z0 w0 (tables hL) (Tryz.laysM144.s1_3 W hsh)).mono fun e W' ⟨he,bel⟩=>?_
 subst he
 exact ⟨_,rfl,_,_,_,[],_,q,hW',trodAll_mk1 (shut_bool underlying4 _),(trodAll_cons_mk (Below.trod laidOut (by kernel_rfl) (of_decide_eq_true (by kernel_rfl)) k0 bel lt0) trodAll_mk0),Below.trodVars laidOut bel rowed hVk,bel.frame _,fun h=>by cases h⟩
noncomputable def laidWorld (os:Os):World :=
 { World.holding prog os ⟨#[],#[],[]⟩ with heap:=(fun h=>h.modify 0 fun|.cells _ t frozen=>.cells #[.string ⟨#[98,99]⟩,.string ⟨#[100,101]⟩,.string ⟨#[104,108]⟩,.string ⟨#[97,102]⟩] t frozen|o=>o) <| (fun h=>h.modify 1 fun|.cells _ t frozen=>.cells #[.string ⟨#[]⟩,.string ⟨#[98,105,116]⟩,.string ⟨#[114,101,115]⟩,.string ⟨#[115,101,116]⟩] t frozen|o=>o) <| (World.holding prog os ⟨#[],#[],[]⟩).heap }
theorem laid_met (os:Os):laidMet prog Rows.fnStepOkRow.laid ((laidWorld os).forCall (fun _ _=>0) ⟨#[],#[.slice none 0 0],[]⟩).memory :=
 laidMet_of_run' 8 (by kernel_rfl) (by kernel_rfl)
theorem reads (os:Os) {H:Type} (enc:TypeId × Value->H):∃ places,DataW.whole enc prog ((laidWorld os).forCall (fun _ _=>0) ⟨#[],#[.slice none 0 0],[]⟩).memory Tryz.f8.params.toList Rows.fnStepOkSpec.vars false [.slice none 0 0] 8=some ([.nil],[.agg [.lit (.string [98,99]),.lit (.string [100,101]),.lit (.string [104,108]),.lit (.string [97,102])],.agg [.lit (.string []),.lit (.string [98,105,116]),.lit (.string [114,101,115]),.lit (.string [115,101,116])]],places) :=
 ⟨MemPlace.row ⟨0,0,none⟩ 4 ++ MemPlace.row ⟨1,0,none⟩ 4,by kernel_rfl⟩
set_option maxRecDepth 100000 in
theorem lifted (os:Os) (started:os.Started) (H:Type) (enc:TypeId × Value->H) (F:Stop.Interp) :
  ReturnsInHanded {} Tryz.checked os 8 .any ((OpenSpec.ofChange Rows.fnStepOkSpec).preRow enc prog Tryz.f8 Rows.fnStepOkRow.domain false Rows.fnStepOkRow.laid) (((OpenSpec.ofChange Rows.fnStepOkSpec).at F).post enc prog Tryz.f8 false true false false):=by
 obtain ⟨places,hx⟩:=reads os enc
 refine returnsInHanded_of_row (C:=Tryz.checked) (s:=OpenSpec.ofChange Rows.fnStepOkSpec) own started (by kernel_rfl) func8
  (witness_row_at (enc:=enc) (C:=Tryz.checked) false (laidWorld os) #[.slice none 0 0] rfl (by kernel_rfl) (by kernel_rfl) (by kernel_rfl)
   (OpenSpec.preRow_of_cond 8 hx (by kernel_rfl) (fun k hk=>by cases hk) (by kernel_rfl) (laid_met os))) ?_
 intro W base args ds gs before hval hW _ _ _ hL hsh _
 exact contract H enc W base args ds gs before hval hW hL hsh
theorem said:Rows.FnStepOkSaid :=
 OpenClaim.holds_of_cond 8 Tryz.f8 rfl rfl rfl rfl rfl rfl rfl ⟨rfl,rfl,rfl,rfl,rfl⟩ rfl rfl rfl rfl rfl (by kernel_rfl) func8 (by kernel_rfl)
  (of_decide_eq_true (by kernel_rfl)) (by unfold Func.isWrapper;first|(rw [if_pos (by decide +kernel)];kernel_rfl)|(rw [if_neg (by decide +kernel)];exact ⟨rfl,rfl⟩))
  (fun os started H enc _ F=>by rw [OpenClaim.pre_eq_preRow];exact lifted os started H enc F)
theorem plain (f:FuncId) (fn:Func) (hf:Tryz.pinned.checked.prog.funcNamed "loop.example/g00460/laws.FnStepOk" = some f) (hfn:Tryz.pinned.checked.prog.funcs[f]? = some fn) :
  true=Tryz.pinned.checked.prog.looks []/\∀ (j:Nat) t,fn.params[j]? = some t->Tryz.pinned.checked.prog.wantsStandIn t=false:=by
 obtain rfl:f=8:=Option.some.inj ((show prog.funcNamed "loop.example/g00460/laws.FnStepOk" = some 8 by kernel_rfl).symm.trans hf) |>.symm
 obtain rfl:fn=Tryz.f8:=(Option.some.inj (func8.symm.trans hfn)).symm
 refine ⟨by kernel_rfl,fun j t ht=>?_⟩
 rw [Tryz.params8] at ht
 have h:t=48:=by simpa using Array.mem_of_getElem? ht
 subst h
 exact (show prog.wantsStandIn 48=false by kernel_rfl)
theorem card:Rows.FnStepOkCardSaid :=
 Claim7.holds_tied_plain_at .later [] _ _ _ _ said (fun _ h=>by cases h) (by kernel_rfl) (fun _ h=>by cases h) fnStepOk_row_tie rfl ⟨rfl,rfl⟩ (by kernel_rfl) rfl plain (by kernel_rfl)
end Go.Proofs.YtnjolmbdbgbmbaaGreatDoor.fnStepOk
namespace Go.Proofs.YtnjolmbdbgbmbaaGreatDoor
theorem fnStepOk_holds:Rows.FnStepOkCardSaid:=fnStepOk.card
end Go.Proofs.YtnjolmbdbgbmbaaGreatDoor
