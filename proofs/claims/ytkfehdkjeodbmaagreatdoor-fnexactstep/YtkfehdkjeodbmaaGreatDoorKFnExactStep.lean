/- For every machine the law FnExactStep answers true, that is, impl.Step answers as spec.Step does, writes into no argument and keeps nothing of one; its answer owns its memory; no condition. -/
import Derived.Test.YtkfehdkjeodbmaaGreatDoorCards
import Derived.Test.YtkfehdkjeodbmaaGreatDoorTie
import Derived.WalkKit
import Derived.ProofKit
import Derived.OpenShut
import Derived.ShutString
import Derived.ChangeOld
import Derived.ChangeVars
import Derived.OpenVars
import Derived.Below
import Derived.Deep.DeepHandedRow
import Derived.Lib.LaidTab
import Derived.Test.YtkfehdkjeodbmaaGreatDoorS34
import Derived.Test.YtkfehdkjeodbmaaGreatDoorP04
import Derived.Test.YtkfehdkjeodbmaaGreatDoorP11
import Derived.Deep.WholeRow
import Derived.Deep.DeepCutAuto
import Derived.HandedShaped
import Derived.Test.YtkfehdkjeodbmaaGreatDoorP00
set_option linter.unusedVariables false
set_option linter.unusedSimpArgs false
set_option maxRecDepth 20000
set_option maxHeartbeats 8000000
open Go.ChangeShapes Go.WideShapes Go.ChangeAt Go.RowKit
open Go.Proofs.Tryz
namespace Go.Proofs.YtkfehdkjeodbmaaGreatDoor.fnExactStep
open Go.ChangeMaps (open_string shut_string)
theorem own:ownKnob prog.godebug=none:=by kernel_rfl
theorem laidOut:laidOutB prog=true:=by kernel_rfl
theorem rowed:varsRowed prog Rows.fnExactStepSpec.vars=true:=by kernel_rfl
theorem tables {W:World} (h:laidMetH prog Rows.fnExactStepRow.laid W):Stpi.Tb W:=by
 obtain ⟨q0,L0,_⟩ : laidMet prog Rows.fnExactStepRow.laid W:=h
 have t0:=Laid.txts (P:=prog) (l:=[[98,99],[100,101],[104,108],[97,102]]) (show prog.globalNamed "loop.example/g00460/impl.stackNames" = some 0 by kernel_rfl) (show (prog.globals[0]?).map (·.type)=some 167 by kernel_rfl) underlying167 underlying9 (by kernel_rfl) (by kernel_rfl) L0
 obtain ⟨q1,L1⟩:=Laid.skip L0
 have t1:=Laid.txts (P:=prog) (l:=[[],[98,105,116],[114,101,115],[115,101,116]]) (show prog.globalNamed "loop.example/g00460/impl.bitNames" = some 1 by kernel_rfl) (show (prog.globals[1]?).map (·.type)=some 167 by kernel_rfl) underlying167 underlying9 (by kernel_rfl) (by kernel_rfl) L1
 obtain ⟨q2,L2⟩:=Laid.skip L1
 exact ⟨fun i hi=>(t0 i hi).trans (by match i,hi with|0,_=>rfl|1,_=>rfl|2,_=>rfl|3,_=>rfl),fun i hi=>(t1 i hi).trans (by match i,hi with|0,_=>rfl|1,_=>rfl|2,_=>rfl|3,_=>rfl)⟩
open Busw Busx Busy Busm Mact Busl
theorem walk (w:World) (ra rf rB rC rD rE rH rL sp pc:Int) (ime hal:Bool) (rom:ByteArray) (kind bank:Int) (ram:ByteArray) (rb:Int) (on:Bool) (mode:Int) (work high:ByteArray) (po:Option Addr) (L:List Int) (cap:Nat) (cyc:Int) (z1:rom.size<=maxLen) (z2:ram.size<=maxLen) (z3:work.size<=maxLen) (z4:high.size<=maxLen) (z5:L.length<=maxLen) (hN:Outs.Row w po L) (hT:Stpi.Tb w) (hm:HolI.MaxL w) :
  Calls prog 3 #[.agg #[.int .i64 ra,.int .i64 rf,.int .i64 rB,.int .i64 rC,.int .i64 rD,.int .i64 rE,.int .i64 rH,.int .i64 rL,.int .i64 sp,.int .i64 pc,.bool ime,.bool hal,.string rom,.int .i64 kind,.int .i64 bank,.string ram,.int .i64 rb,.bool on,.int .i64 mode,.string work,.string high,.slice po L.length cap,.int .i64 cyc]] w fun e w'=>e=.returned (.bool true)/\Below w.heap.size w w':=by
 obtain ⟨m,hmm⟩ : ∃ m:M,m=⟨ra,rf,rB,rC,rD,rE,rH,rL,sp,pc,ime,hal,rom,kind,bank,ram,rb,on,mode,work,high,L,cyc⟩:=⟨_,rfl⟩
 have hcells:#[.int .i64 ra,.int .i64 rf,.int .i64 rB,.int .i64 rC,.int .i64 rD,.int .i64 rE,.int .i64 rH,.int .i64 rL,.int .i64 sp,.int .i64 pc,.bool ime,.bool hal,.string rom,.int .i64 kind,.int .i64 bank,.string ram,.int .i64 rb,.bool on,.int .i64 mode,.string work,.string high,.slice po L.length cap,.int .i64 cyc]=cellsM m po cap:=by rw [hmm,cells_def]
 have cz:=fun w=>Mach.szMachine_any ra rf rB rC rD rE rH rL sp pc ime hal rom kind bank ram rb on mode work high po L cap cyc w z1 z2 z3 z4 z5
 have hL:m.out=L:=by rw [hmm]
 have H0:Hid (Outs.Row w po m.out):=by show Outs.Row w po m.out;rw [hL];exact hN
 have HSm:Hid (work.size<=1048576->high.size<=1048576->L.length<=1048576->Sm m):=fun h3 h4 h5=>by rw [hmm];exact ⟨z1,z2,h3,h4,h5⟩
 rw [hcells] at cz |-
 clear hcells hN z1 z2 z3 z4 z5 hL hmm
 have hz:=zeroM
 obtain ⟨cZ,hcZ⟩ : ∃ c,c=cellsM Z0 none 0:=⟨_,rfl⟩
 rw [<- hcZ] at hz
 have HZ:Hid (cZ=cellsM Z0 none 0):=hcZ
 clear hcZ
 go_enter func3,ntmps3
 go_upto_region 2 with fail
 refine wp_region_list ?_
 refine wpList_load_row rfl 28 _ rfl w.heap.size rfl _ _ (0,0) _ (heap_alloc_last w _) underlying28 rfl (infoN _ _ _) ?_
 go_wp2_with fail
 refine (cz _).mono ?_
 rintro e w1 ⟨⟨q,rfl,q0,q1,hq⟩,o1,o2,hw1⟩
 clear cz
 have hb1:Below (w.alloc (.cells (cellsM m po cap) 28)).heap.size (w.alloc (.cells (cellsM m po cap) 28)) w1:=by
  rw [hw1]
  exact (by repeat (with_reducible first|exact zRf|refine zGr ?_ _|refine below_drewN ?_ _|refine Below.drew ?_))
 have HB1:Hid (Below (w.alloc (.cells (cellsM m po cap) 28)).heap.size (w.alloc (.cells (cellsM m po cap) 28)) w1):=hb1
 clear hb1 hw1
 by_cases hneg:q<0
 ·go_wp2
  go_ret
  exact ⟨rfl,CartL.after (zAl _ _) HB1.out⟩
 obtain ⟨s1,s2,s3,s4,s5⟩:=hq (by omega)
 have hs:Sm m:=HSm.out s3 s4 s5
 clear hq q1 s1 s2 s3 s4 s5 HSm
 have hRl:=Stdh.stepV_len hs
 have cs:=fun (p:Option Addr) (c:Nat) (W:World) (h:Sl W p m.out c) (hp:∀ x,p=some x->x.block<W.heap.size)=>Stdh.specStep_any m p c W hs h hp
 have ci:=fun (p:Option Addr) (c:Nat) (W:World) (h:Sl W p m.out c) (hb:Below w.heap.size w W)=>Ista.implStep_any m p c W hs h (hT.below hb) (hm.below hb)
 unfold Ista.Told at cs ci
 clear hT hm
 have ct:=fun (p:Option Addr) (c:Nat) (W:World) (h:Outs.Row W p m.out)=>toM_any m p c W h hs.out
 have ce:=fun (p p':Option Addr) (c c':Nat) (W:World) (h:Outs.Row W p m.out) (h':Outs.Row W p' m.out)=>eqM_any m p p' c c' W h h' hs.out
 generalize (Ista.stepV m).1=R at *
 generalize (Ista.stepV m).2=f at *
 have cr:=fun (p p':Option Addr) (c c':Nat) (W:World) (h:Outs.Row W p R.out) (h':Outs.Row W p' R.out)=>eqM_any R p p' c c' W h h' hRl
 have HSO:Hid (m.out.length<=1048576/\R.out.length<=1048576):=⟨hs.out,hRl⟩
 clear hs hRl
 have HA:Hid (∀ W',Below (w.alloc (.cells (cellsM m po cap) 28)).heap.size (w.alloc (.cells (cellsM m po cap) 28)) W'->W'.heap[w.heap.size]? = some (.cells (cellsM m po cap) 28)/\Outs.Row W' po m.out):=fun W' h=>⟨by rw [h.block _ (by simp)];exact heap_alloc_last w _,Outs.Row.below H0.out (CartL.after (zAl _ _) h)⟩
 go_upto_region 5 with fail
 refine wp_region_list ?_
 refine wpList_load_row rfl 28 _ rfl w.heap.size rfl _ _ (0,0) _ (HA.out _ HB1.out).1 underlying28 rfl (infoN _ _ _) ?_
 go_wp2_with fail
 refine Calls.mono (ct _ _ _ (HA.out _ HB1.out).2) ?_
 rintro e w2 ⟨B2,hB2,rfl,hx2,hb2⟩
 have HB2:=zHd (CartL.after HB1.out hb2)
 have HX2:Hid (w2.heap[B2]? = some (Outs.rowO m.out)):=hx2
 clear hb2 hx2 hB2 HB1
 go_wp2_with fail
 refine Calls.mono (cs _ _ _ (sl_row HX2.out _) (fun x e=>by cases e;exact (zLo HX2.out))) ?_
 rintro e w3 ⟨⟨pS,cS,rfl,own3⟩,hb3⟩
 have HB3:=zHd (CartL.after HB2.out hb3)
 have HO3:Hid (w3.ownsRow w2.heap.size 2 1 (.slice pS R.out.length cS) R.out.length (outC R.out)):=own3
 clear own3 hb3 HX2 HB2 cs
 rename_i hK
 refine hK _ _ ?_
 clear hK
 refine wpList_plain rfl (fun K hK=>?_)
 go_simp
 refine hK _ _ ?_
 clear hK
 refine wpList_plain rfl (fun K hK=>?_)
 go_simp
 refine hK _ _ ?_
 clear hK
 refine wpList_plain rfl (fun K hK=>?_)
 go_simp
 refine hK _ _ ?_
 clear hK
 refine wpList_plain rfl (fun K hK=>?_)
 go_simp
 refine hK _ _ ?_
 clear hK
 refine wpList_store_row rfl 33 _ _ rfl w3.heap.size (cellsM R pS cS) rfl rfl _ _ (heap_alloc_last w3 _) (infoMs _ _ _) (by first|rw [size_M,size_M]|rw [HZ.out,size_M,size_M]) (one_M _ _ _) ?_
 rw [World.setRow_alloc_new]
 obtain ⟨u3,hu3⟩ : ∃ u,u=w3.alloc (.cells (cellsM R pS cS) 33):=⟨_,rfl⟩
 obtain ⟨bs,hbs⟩ : ∃ b,b=w3.heap.size:=⟨_,rfl⟩
 have HBu:Hid (Below (w.alloc (.cells (cellsM m po cap) 28)).heap.size (w.alloc (.cells (cellsM m po cap) 28)) u3):=by show Below _ _ _;rw [hu3];exact zGr HB3.out _
 have HS:Hid (∀ W',Kp u3.heap.size u3 W'->(W'.heap[w.heap.size]? = some (.cells (cellsM m po cap) 28)/\Outs.Row W' po m.out)/\W'.heap[bs]? = some (.cells (cellsM R pS cS) 33)/\Outs.Row W' pS R.out):=fun W' h=>by
  have hA:=HA.out _ HBu.out
  have hlA:w.heap.size<u3.heap.size:=(zLo hA.1)
  refine ⟨⟨(h.2 _ hlA).trans hA.1,row_kp hA.2 h⟩,(h.2 _ (by rw [hu3,hbs];simp)).trans (by rw [hu3,hbs];exact heap_alloc_last w3 _),row_kp (u:=u3) ?_ h⟩
  rw [hu3]
  exact (own_sl HO3.out rfl).row.below (zAl _ _)
 go_upto_region 6 with fail
 rw [<- hu3,<- hbs]
 clear hu3 hbs HB3 HO3 HA
 refine wp_region_list ?_
 refine wpList_load_row rfl 28 _ rfl w.heap.size rfl _ _ (0,0) _ (HS.out _ (Kp.of zRf)).1.1 underlying28 rfl (infoN _ _ _) ?_
 go_wp2_with fail
 refine Calls.mono (ct _ _ _ (HS.out _ (Kp.of zRf)).1.2) ?_
 rintro e w4 ⟨B4,hB4,rfl,hx4,hb4⟩
 have HB4:Hid (Below u3.heap.size u3 w4):=hb4
 have HX4:Hid (w4.heap[B4]? = some (Outs.rowO m.out)):=hx4
 clear hb4 hx4
 rename_i hK
 refine hK _ _ ?_
 clear hK
 refine wpList_plain rfl (fun K hK=>?_)
 go_simp
 refine hK _ _ ?_
 clear hK
 refine wpList_store_row rfl 33 _ _ rfl w4.heap.size (cellsM m (some ⟨B4,0,none⟩) m.out.length) rfl rfl _ _ (heap_alloc_last w4 _) (infoMs _ _ _) (by first|rw [size_M,size_M]|rw [HZ.out,size_M,size_M]) (one_M _ _ _) ?_
 rw [World.setRow_alloc_new]
 obtain ⟨u4,hu4⟩ : ∃ u,u=w4.alloc (.cells (cellsM m (some ⟨B4,0,none⟩) m.out.length) 33):=⟨_,rfl⟩
 obtain ⟨bx,hbx⟩ : ∃ b,b=w4.heap.size:=⟨_,rfl⟩
 have HB4u:Hid (Below u3.heap.size u3 u4):=by show Below _ _ _;rw [hu4];exact zGr HB4.out _
 have HXu:Hid (u4.heap[bx]? = some (.cells (cellsM m (some ⟨B4,0,none⟩) m.out.length) 33)/\u4.heap[B4]? = some (Outs.rowO m.out)):=⟨by rw [hu4,hbx];exact heap_alloc_last w4 _,by rw [hu4,alloc_kept _ _ (zLo HX4.out)];exact HX4.out⟩
 refine wpList_nil ?_
 go_upto_region 7 with fail
 rw [<- hu4,<- hbx]
 clear hu4 hbx HB4 HX4
 refine wp_region_list ?_
 refine wpList_load_row rfl 33 _ rfl bx rfl _ _ (0,0) _ HXu.out.1 underlying33 rfl (infoMs _ _ _) ?_
 go_wp2_with fail
 refine Calls.mono (ci _ _ _ (sl_row HXu.out.2 _) (CartL.after (CartL.after (zAl _ _) HBu.out) HB4u.out)) ?_
 rintro e w5 ⟨⟨pG,cG,rfl,own5⟩,hb5⟩
 have HB5:Hid (Below u4.heap.size u4 w5):=hb5
 have HO5:Hid (w5.ownsRow u4.heap.size 2 1 (.slice pG R.out.length cG) R.out.length (outC R.out)):=own5
 clear own5 hb5
 rename_i hK
 refine hK _ _ ?_
 clear hK
 refine wpList_plain rfl (fun K hK=>?_)
 go_simp
 refine hK _ _ ?_
 clear hK
 refine wpList_plain rfl (fun K hK=>?_)
 go_simp
 refine hK _ _ ?_
 clear hK
 refine wpList_plain rfl (fun K hK=>?_)
 go_simp
 refine hK _ _ ?_
 clear hK
 refine wpList_plain rfl (fun K hK=>?_)
 go_simp
 refine hK _ _ ?_
 clear hK
 refine wpList_store_row rfl 33 _ _ rfl w5.heap.size (cellsM R pG cG) rfl rfl _ _ (heap_alloc_last w5 _) (infoMs _ _ _) (by first|rw [size_M,size_M]|rw [HZ.out,size_M,size_M]) (one_M _ _ _) ?_
 rw [World.setRow_alloc_new]
 obtain ⟨u5,hu5⟩ : ∃ u,u=w5.alloc (.cells (cellsM R pG cG) 33):=⟨_,rfl⟩
 obtain ⟨bg,hbg⟩ : ∃ b,b=w5.heap.size:=⟨_,rfl⟩
 have HB5u:Hid (Below u4.heap.size u4 u5):=by show Below _ _ _;rw [hu5];exact zGr HB5.out _
 have HBG:Hid (u4.heap.size<=bg):=by show _<=_;rw [hbg];exact HB5.out.size
 have HGu:Hid (u5.heap[bg]? = some (.cells (cellsM R pG cG) 33)/\u5.ownsRow u4.heap.size 2 1 (.slice pG R.out.length cG) R.out.length (outC R.out)):=⟨by rw [hu5,hbg];exact heap_alloc_last w5 _,by rw [hu5];exact HO5.out.alloc _⟩
 go_upto_region 8 with fail
 rw [<- hu5,<- hbg]
 clear hu5 hbg HB5 HO5
 have HK5:Hid (Kp u3.heap.size u3 u5):=Kp.of (CartL.after HB4u.out HB5u.out)
 refine wp_region_list ?_
 refine wpList_load_row rfl 33 _ rfl bg rfl _ _ (0,0) _ HGu.out.1 underlying33 rfl (infoMs _ _ _) ?_
 refine wpList_load_row rfl 33 _ rfl bs rfl _ _ (0,0) _ (HS.out _ HK5.out).2.1 underlying33 rfl (infoMs _ _ _) ?_
 go_wp2_with fail
 refine Calls.mono (cr _ _ _ _ _ (own_sl HGu.out.2 rfl).row (HS.out _ HK5.out).2.2) ?_
 rintro e w6 ⟨rfl,hb6⟩
 have HB6:Hid (Below u5.heap.size u5 w6):=hb6
 clear hb6
 go_upto_region 10 with fail
 have HX:Hid (∀ W',Below w6.heap.size w6 W'->W'.heap[bx]? = some (.cells (cellsM m (some ⟨B4,0,none⟩) m.out.length) 33)/\W'.heap[B4]? = some (Outs.rowO m.out)):=fun W' h=>by
  have k:=Kp.of (CartL.after HB5u.out (CartL.after HB6.out h))
  exact ⟨(k.2 _ (zLo HXu.out.1)).trans HXu.out.1,(k.2 _ (zLo HXu.out.2)).trans HXu.out.2⟩
 have HS6:Hid (∀ W',Below w6.heap.size w6 W'->Kp u3.heap.size u3 W'):=fun W' h=>(HK5.out.step HB6.out).step h
 have HD:Hid (Below w6.heap.size w6 w6.drew):=zRf.drew
 have HLB:Hid (u3.heap.size<=B4/\B4<u4.heap.size):=⟨hB4,(zLo HXu.out.2)⟩
 have HW:Hid (Below w.heap.size w u3):=CartL.after (zAl _ _) HBu.out
 clear hB4 HXu HBu
 go_cut [45] (fun v wx=>v=.bool false/\Hid (Below w6.heap.size w6 wx))
 case first =>
  refine wp_region_any (by kernel_rfl) ?_
  try (change wpAny _ _ _ _ _ _ _ (World.drew _))
  refine wpAny_ready (rs:=[0,1]) (by kernel_rfl) (by simp) ?_
  refine MachP.any_cons rfl rfl (fun K hK=>?_) (MachP.any_cons rfl rfl (fun K hK=>?_) AllReady.nil)
  ·refine wp_load_row 33 _ rfl bx rfl _ _ (0,0) _ (HX.out _ HD.out).1 underlying33 rfl (infoMs _ _ _) ?_
   refine hK _ _ ?_
   clear hK
   refine wpAny_ready (rs:=[1]) (by kernel_rfl) (by simp) ?_
   refine MachP.any_cons rfl rfl (fun K hK=>?_) AllReady.nil
   refine wp_load_row 28 _ rfl w.heap.size rfl _ _ (0,0) _ (HS.out _ (HS6.out _ HD.out)).1.1 underlying28 rfl (infoN _ _ _) ?_
   refine hK _ _ ?_
   clear hK
   refine wpAny_ready (rs:=[2]) (by kernel_rfl) (by simp) ?_
   refine MachP.any_cons rfl rfl (fun K hK=>?_) AllReady.nil
   go_wp2_with fail
   refine Calls.mono (ct _ _ _ (HS.out _ (HS6.out _ HD.out)).1.2) ?_
   rintro e w7 ⟨B7,hB7,rfl,hx7,hb7⟩
   have HB7:Hid (Below w6.heap.size w6 w7):=HD.out.trans (hb7.mono HD.out.size)
   have HX7:Hid (w7.heap[B7]? = some (Outs.rowO m.out)):=hx7
   clear hb7 hx7 hB7
   refine hK _ _ ?_
   clear hK
   refine wpAny_ready (rs:=[3]) (by kernel_rfl) (by simp) ?_
   refine MachP.any_cons rfl rfl (fun K hK=>?_) AllReady.nil
   go_wp2_with fail
   refine Calls.mono (ce _ _ _ _ _ (sl_row (HX.out _ HB7.out).2 0).row (sl_row HX7.out 0).row) ?_
   rintro e w8 ⟨rfl,hb8⟩
   have HB8:=zHd (CartL.after HB7.out hb8)
   clear hb8 HX7 HB7 ce
   refine hK _ _ ?_
   clear hK
   refine wpAny_ready (rs:=[4]) (by kernel_rfl) (by simp) ?_
   refine MachP.any_cons rfl rfl (fun K hK=>?_) AllReady.nil
   go_simp
   refine hK _ _ ?_
   clear hK
   refine wpAny_done (by kernel_rfl) ?_ _
   go_wp2_with fail
   go_meet
   exact ⟨rfl,HB8.out⟩
  ·refine wp_load_row 28 _ rfl w.heap.size rfl _ _ (0,0) _ (HS.out _ (HS6.out _ HD.out)).1.1 underlying28 rfl (infoN _ _ _) ?_
   refine hK _ _ ?_
   clear hK
   refine wpAny_ready (rs:=[0,2]) (by kernel_rfl) (by simp) ?_
   refine MachP.any_cons rfl rfl (fun K hK=>?_) (MachP.any_cons rfl rfl (fun K hK=>?_) AllReady.nil)
   ·refine wp_load_row 33 _ rfl bx rfl _ _ (0,0) _ (HX.out _ HD.out).1 underlying33 rfl (infoMs _ _ _) ?_
    refine hK _ _ ?_
    clear hK
    refine wpAny_ready (rs:=[2]) (by kernel_rfl) (by simp) ?_
    refine MachP.any_cons rfl rfl (fun K hK=>?_) AllReady.nil
    go_wp2_with fail
    refine Calls.mono (ct _ _ _ (HS.out _ (HS6.out _ HD.out)).1.2) ?_
    rintro e w7 ⟨B7,hB7,rfl,hx7,hb7⟩
    have HB7:Hid (Below w6.heap.size w6 w7):=HD.out.trans (hb7.mono HD.out.size)
    have HX7:Hid (w7.heap[B7]? = some (Outs.rowO m.out)):=hx7
    clear hb7 hx7 hB7
    refine hK _ _ ?_
    clear hK
    refine wpAny_ready (rs:=[3]) (by kernel_rfl) (by simp) ?_
    refine MachP.any_cons rfl rfl (fun K hK=>?_) AllReady.nil
    go_wp2_with fail
    refine Calls.mono (ce _ _ _ _ _ (sl_row (HX.out _ HB7.out).2 0).row (sl_row HX7.out 0).row) ?_
    rintro e w8 ⟨rfl,hb8⟩
    have HB8:=zHd (CartL.after HB7.out hb8)
    clear hb8 HX7 HB7 ce
    refine hK _ _ ?_
    clear hK
    refine wpAny_ready (rs:=[4]) (by kernel_rfl) (by simp) ?_
    refine MachP.any_cons rfl rfl (fun K hK=>?_) AllReady.nil
    go_simp
    refine hK _ _ ?_
    clear hK
    refine wpAny_done (by kernel_rfl) ?_ _
    go_wp2_with fail
    go_meet
    exact ⟨rfl,HB8.out⟩
   ·go_wp2_with fail
    refine Calls.mono (ct _ _ _ (HS.out _ (HS6.out _ HD.out)).1.2) ?_
    rintro e w7 ⟨B7,hB7,rfl,hx7,hb7⟩
    have HB7:Hid (Below w6.heap.size w6 w7):=HD.out.trans (hb7.mono HD.out.size)
    have HX7:Hid (w7.heap[B7]? = some (Outs.rowO m.out)):=hx7
    clear hb7 hx7 hB7
    refine hK _ _ ?_
    clear hK
    refine wpAny_ready (rs:=[0]) (by kernel_rfl) (by simp) ?_
    refine MachP.any_cons rfl rfl (fun K hK=>?_) AllReady.nil
    refine wp_load_row 33 _ rfl bx rfl _ _ (0,0) _ (HX.out _ HB7.out).1 underlying33 rfl (infoMs _ _ _) ?_
    refine hK _ _ ?_
    clear hK
    refine wpAny_ready (rs:=[3]) (by kernel_rfl) (by simp) ?_
    refine MachP.any_cons rfl rfl (fun K hK=>?_) AllReady.nil
    go_wp2_with fail
    refine Calls.mono (ce _ _ _ _ _ (sl_row (HX.out _ HB7.out).2 0).row (sl_row HX7.out 0).row) ?_
    rintro e w8 ⟨rfl,hb8⟩
    have HB8:=zHd (CartL.after HB7.out hb8)
    clear hb8 HX7 HB7 ce
    refine hK _ _ ?_
    clear hK
    refine wpAny_ready (rs:=[4]) (by kernel_rfl) (by simp) ?_
    refine MachP.any_cons rfl rfl (fun K hK=>?_) AllReady.nil
    go_simp
    refine hK _ _ ?_
    clear hK
    refine wpAny_done (by kernel_rfl) ?_ _
    go_wp2_with fail
    go_meet
    exact ⟨rfl,HB8.out⟩
 case rest =>
 obtain ⟨rfl,HB8⟩:=hcut
 rename World=>w8
 clear ce
 go_upto_region 13 with fail
 refine wp_region_list ?_
 refine wpList_load_row rfl 33 _ rfl bx rfl _ _ (0,0) _ (HX.out _ HB8.out).1 underlying33 rfl (infoMs _ _ _) ?_
 go_wp2_with fail
 refine Calls.mono (markMachine_any m _ _ w8 (open_row (HX.out _ HB8.out).2).1 HSO.out.1) ?_
 rintro e w9 ⟨rfl,o9,hm9⟩
 have K9:Hid (Kp u3.heap.size u3 w9):=kp_mid (HS6.out _ HB8.out) hm9 (fun p e=>by cases e;exact HLB.out.1)
 have B58:=CartL.after HB6.out HB8.out
 have own8:=own_stay HGu.out.2 B58
 have box8:w8.heap[bg]? = some (.cells (cellsM R pG cG) 33):=(B58.block _ (zLo HGu.out.1)).trans HGu.out.1
 have O9:Hid (w9.ownsRow u4.heap.size 2 1 (.slice pG R.out.length cG) R.out.length (outC R.out)):=own_mid own8 hm9 HLB.out.2
 have G9:Hid (w9.heap[bg]? = some (.cells (cellsM R pG cG) 33)):=(blk_mid hm9 (zLo box8) (fun p e=>by cases e;have:=HBG.out;have:=HLB.out.2;show B4 ≠ bg;omega)).trans box8
 have V9:Hid (Below w.heap.size w w9):=below_mid (CartL.after (CartL.after HW.out (CartL.after HB4u.out HB5u.out)) B58) hm9 (fun p e=>by cases e;exact Nat.le_trans HW.out.size HLB.out.1)
 clear hm9 B58 own8 box8 HX HB8
 obtain ⟨kx,hkx⟩ : ∃ k:Int,k=1+(m.out.length:Int):=⟨_,rfl⟩
 have kd:decide (kx<0)=false:=by rw [hkx];simp;omega
 rw [<- hkx]
 clear hkx
 go_upto_region 14 with fail
 refine wp_region_list ?_
 refine wpList_plain rfl (fun K hK=>?_)
 go_simp
 refine hK _ _ ?_
 clear hK
 refine wpList_plain rfl (fun K hK=>?_)
 go_simp
 refine hK _ _ ?_
 clear hK
 try rw [kd]
 refine wpList_plain rfl (fun K hK=>?_)
 go_simp
 refine hK _ _ ?_
 clear hK
 refine wpList_step fun K hK=>?_
 rw [if_pos (by rfl)]
 refine wp_load_row 33 _ rfl bg rfl _ _ (0,0) _ G9.out underlying33 rfl (infoMs _ _ _) ?_
 refine hK _ _ ?_
 clear hK
 refine wpList_step fun K hK=>?_
 rw [if_pos (by rfl)]
 refine wp_load_row 33 _ rfl bs rfl _ _ (0,0) _ (HS.out _ K9.out).2.1 underlying33 rfl (infoMs _ _ _) ?_
 refine hK _ _ ?_
 clear hK
 go_wp2_with fail
 refine Calls.mono (cr _ _ _ _ _ (own_sl O9.out rfl).row (HS.out _ K9.out).2.2) ?_
 rintro e w10 ⟨rfl,hb10⟩
 have own10:=own_stay O9.out hb10
 have box10:w10.heap[bg]? = some (.cells (cellsM R pG cG) 33):=(hb10.block _ (zLo G9.out)).trans G9.out
 have O10:Hid (w10.ownsRow u4.heap.size 2 1 (.slice pG R.out.length cG) R.out.length (outC R.out)):=own10
 have G10:Hid (w10.heap[bg]? = some (.cells (cellsM R pG cG) 33)):=box10
 have K10:Hid (Kp u3.heap.size u3 w10):=K9.out.step hb10
 have V10:=zHd (CartL.after V9.out hb10)
 clear hb10 own10 box10 O9 G9 K9 V9 kd
 go_upto_region 17 with fail
 refine wp_region_list ?_
 refine wpList_load_row rfl 33 _ rfl bg rfl _ _ (0,0) _ G10.out underlying33 rfl (infoMs _ _ _) ?_
 go_wp2_with fail
 refine Calls.mono (markMachine_any R _ _ w10 (open_own O10.out rfl) HSO.out.2) ?_
 rintro e w11 ⟨rfl,o11,hm11⟩
 have hat:=own_at O10.out
 have h34:=CartL.after HW.out HB4u.out
 have K11:Hid (Kp u3.heap.size u3 w11):=kp_mid K10.out hm11 (fun p e=>Nat.le_trans HB4u.out.size (hat p e))
 have G11:Hid (w11.heap[bg]? = some (.cells (cellsM R pG cG) 33)):=(blk_mid hm11 (zLo G10.out) (row_box O10.out G10.out)).trans G10.out
 have V11:Hid (Below w.heap.size w w11):=below_mid V10.out hm11 (fun p e=>Nat.le_trans h34.size (hat p e))
 have I11:Hid (Is w11 pG R.out.length (fun i=>1+i)):=hm11.done
 clear hm11 hat h34 O10 G10 K10 V10
 obtain ⟨ky,hky⟩ : ∃ k:Int,k=1+(R.out.length:Int):=⟨_,rfl⟩
 have HKY:Hid (ky=1+(R.out.length:Int)):=hky
 have ky0:¬ ky<0:=by rw [hky];omega
 rw [<- hky]
 clear hky
 have ch:=fun (W:World) (h:Is W pG R.out.length (fun i=>1+i))=>heldMachine_any R pG cG W h HSO.out.2
 rw [<- HKY.out] at ch
 go_upto_region 19 with fail
 refine wp_region_list ?_
 refine wpList_load_row rfl 33 _ rfl bg rfl _ _ (0,0) _ G11.out underlying33 rfl (infoMs _ _ _) ?_
 go_wp2_with fail
 refine Calls.mono (ch _ I11.out) ?_
 rintro e w12 ⟨rfl,o12,hw12⟩
 have hb12:Below w11.heap.size w11 w12:=by rw [hw12];exact zAl _ _
 have B12:Hid (Below w11.heap.size w11 w12):=hb12
 clear hb12 hw12
 go_upto_region 24 with fail
 refine wp_region_list ?_
 refine wpList_load_row rfl 28 _ rfl w.heap.size rfl _ _ (0,0) _ (HS.out _ (K11.out.step B12.out)).1.1 underlying28 rfl (infoN _ _ _) ?_
 go_wp2_with fail
 refine Calls.mono (ct _ _ _ (HS.out _ (K11.out.step B12.out)).1.2) ?_
 rintro e w13 ⟨B13,hB13,rfl,hx13,hb13⟩
 have B1:=zHd (CartL.after B12.out hb13)
 have HX13:Hid (w13.heap[B13]? = some (Outs.rowO m.out)):=hx13
 clear hb13 hx13 hB13 B12
 go_wp2_with fail
 refine Calls.mono (ci _ _ _ (sl_row HX13.out _) (CartL.after V11.out B1.out)) ?_
 rintro e w14 ⟨⟨pH,cH,rfl,own14⟩,hb14⟩
 have B14:=zHd (CartL.after B1.out hb14)
 have O14:Hid (w14.ownsRow w13.heap.size 2 1 (.slice pH R.out.length cH) R.out.length (outC R.out)):=own14
 clear hb14 own14 HX13 B1
 rename_i hK
 refine hK _ _ ?_
 clear hK
 refine wpList_plain rfl (fun K hK=>?_)
 go_simp
 refine hK _ _ ?_
 clear hK
 refine wpList_plain rfl (fun K hK=>?_)
 go_simp
 refine hK _ _ ?_
 clear hK
 refine wpList_plain rfl (fun K hK=>?_)
 go_simp
 refine hK _ _ ?_
 clear hK
 refine wpList_plain rfl (fun K hK=>?_)
 go_simp
 refine hK _ _ ?_
 clear hK
 refine wpList_store_row rfl 33 _ _ rfl w14.heap.size (cellsM R pH cH) rfl rfl _ _ (heap_alloc_last w14 _) (infoMs _ _ _) (by first|rw [size_M,size_M]|rw [HZ.out,size_M,size_M]) (one_M _ _ _) ?_
 rw [World.setRow_alloc_new]
 have B15:Hid (Below w11.heap.size w11 (w14.alloc (.cells (cellsM R pH cH) 33))):=zGr B14.out _
 have O15:Hid ((w14.alloc (.cells (cellsM R pH cH) 33)).ownsRow w13.heap.size 2 1 (.slice pH R.out.length cH) R.out.length (outC R.out)):=O14.out.alloc _
 go_upto_region 25 with fail
 refine wp_region_list ?_
 refine wpList_load_row rfl 33 _ rfl w14.heap.size rfl _ _ (0,0) _ (heap_alloc_last w14 _) underlying33 rfl (infoMs _ _ _) ?_
 refine wpList_load_row rfl 33 _ rfl bs rfl _ _ (0,0) _ (HS.out _ (K11.out.step B15.out)).2.1 underlying33 rfl (infoMs _ _ _) ?_
 go_wp2_with fail
 refine Calls.mono (cr _ _ _ _ _ (own_sl O15.out rfl).row (HS.out _ (K11.out.step B15.out)).2.2) ?_
 rintro e w16 ⟨rfl,hb16⟩
 have B16:=zHd (CartL.after B15.out hb16)
 clear hb16 O14 O15 B14 B15
 have G16:Hid (w16.heap[bg]? = some (.cells (cellsM R pG cG) 33)):=(B16.out.block _ (zLo G11.out)).trans G11.out
 go_upto_region 28 with fail
 refine wp_region_list ?_
 refine wpList_load_row rfl 33 _ rfl bg rfl _ _ (0,0) _ G16.out underlying33 rfl (infoMs _ _ _) ?_
 go_wp2_with fail
 refine Calls.mono (ch _ (is_below I11.out B16.out)) ?_
 rintro e w17 ⟨rfl,o17,hw17⟩
 have V17:Hid (Below w.heap.size w w17):=by show Below _ _ _;rw [hw17];exact zGr (CartL.after V11.out B16.out) _
 clear hw17
 go_wp2
 go_ret
 exact ⟨rfl,V17.out⟩
set_option maxRecDepth 100000 in
theorem contract (H:Type) (enc:TypeId × Value->H) (W:World) (base:Nat) (args:Array Value) (ds gs:List (DataW H)) (before:List MemPlace)
  (hval:∀ (j:Nat) t v,Tryz.f3.params[j]? = some t->args[j]? = some v->Value.okWide prog W .any base t v)
  (hW:DataW.Whole enc prog Tryz.f3.params.toList Rows.fnExactStepSpec.vars false W args.toList ds gs before) (hL:laidMetH prog Rows.fnExactStepRow.laid W) (hsh:W.ShapedOpen prog) :
  Calls prog 3 args W fun e W'=>∃ v,e=.returned v/\Rows.fnExactStepSpec.post enc prog Tryz.f3 false true false false W args v W':=by
 have hW':=hW
 obtain ⟨p,q,hA0,hV,hbef,hfz,hnd⟩:=hW
 have hA:DataW.TrodAll enc prog W 0 (fun _=>true) true Tryz.f3.params.toList args.toList ds p:=hA0
 have hVk:DataW.TrodVars enc prog W (fun _=>true) Rows.fnExactStepSpec.vars gs q:=hV
 rw [Tryz.params3] at hA hval
 obtain ⟨v0,vs0,d0,ds0,p0,q0,hargs,rfl,rfl,h0,r0⟩:=trodAll_cons hA
 obtain ⟨rfl,rfl,rfl⟩:=trodAll_nil r0
 obtain rfl:args=#[v0]:=by cases args;simp_all
 obtain ⟨g1,g2,rfl⟩ : ∃ g1 g2,gs=[g1,g2]:=by
  have hl:=Laid.vars_len hVk
  match gs,hl with
  | [g1,g2],_=>exact ⟨_,_,rfl⟩
 obtain ⟨cs0,rfl,_⟩:=okWide_struct underlying28 (hval 0 28 v0 rfl rfl)
 have kk0:=h0
 have lt0:∀ x ∈ p0,x.block<W.heap.size:=by obtain ⟨m,hm⟩:=kk0;exact DataW.trod_lt m _ _ _ hm
 obtain ⟨ra,rf,rB,rC,rD,rE,rH,rL,sp,pc,ime,hal,rom,kind,bank,ram,rb,on,mode,work,high,po,L,cap,cyc,e0,z1,z2,z3,z4,z5,hN⟩ : ∃ (ra rf rB rC rD rE rH rL sp pc:Int) (ime hal:Bool) (rom:ByteArray) (kind bank:Int) (ram:ByteArray) (rb:Int) (on:Bool) (mode:Int) (work high:ByteArray) (po:Option Addr) (L:List Int) (cap:Nat) (cyc:Int),cs0=#[.int .i64 ra,.int .i64 rf,.int .i64 rB,.int .i64 rC,.int .i64 rD,.int .i64 rE,.int .i64 rH,.int .i64 rL,.int .i64 sp,.int .i64 pc,.bool ime,.bool hal,.string rom,.int .i64 kind,.int .i64 bank,.string ram,.int .i64 rb,.bool on,.int .i64 mode,.string work,.string high,.slice po L.length cap,.int .i64 cyc]/\rom.size<=maxLen/\ram.size<=maxLen/\work.size<=maxLen/\high.size<=maxLen/\L.length<=maxLen/\Outs.Row W po L:=by
  obtain ⟨fuel,hf⟩:=h0
  obtain ⟨ra,rf,rB,rC,rD,rE,rH,rL,sp,pc,ime,hal,rom,kind,bank,ram,rb,on,mode,work,high,po,L,cap,cyc,hcs,q1,q2,q3,q4,q5,q6⟩:=MachP.machine_of hf
  simp [Value.cells] at hcs
  exact ⟨ra,rf,rB,rC,rD,rE,rH,rL,sp,pc,ime,hal,rom,kind,bank,ram,rb,on,mode,work,high,po,L,cap,cyc,by cases cs0;simp_all,q1,q2,q3,q4,q5,q6⟩
 subst e0
 clear hA0
 refine (walk W ra rf rB rC rD rE rH rL sp pc ime hal rom kind bank ram rb on mode work high po L cap cyc z1 z2 z3 z4 z5 hN (tables hL) (Tryz.laysM144.s1_3 W hsh)).mono fun e W' ⟨he,bel⟩=>?_
 subst he
 exact ⟨_,rfl,_,_,_,[],_,q,hW',trodAll_mk1 (shut_bool underlying4 _),(trodAll_cons_mk (Below.trod laidOut (by kernel_rfl) (of_decide_eq_true (by kernel_rfl)) kk0 bel lt0) trodAll_mk0),Below.trodVars laidOut bel rowed hVk,bel.frame _,fun h=>by cases h⟩
noncomputable def laidWorld (os:Os):World :=
 { World.holding prog os ⟨#[],#[],[]⟩ with heap:=(fun h=>h.modify 0 fun|.cells _ t frozen=>.cells #[.string ⟨#[98,99]⟩,.string ⟨#[100,101]⟩,.string ⟨#[104,108]⟩,.string ⟨#[97,102]⟩] t frozen|o=>o) <| (fun h=>h.modify 1 fun|.cells _ t frozen=>.cells #[.string ⟨#[]⟩,.string ⟨#[98,105,116]⟩,.string ⟨#[114,101,115]⟩,.string ⟨#[115,101,116]⟩] t frozen|o=>o) <| (World.holding prog os ⟨#[],#[],[]⟩).heap }
theorem laid_met (os:Os):laidMet prog Rows.fnExactStepRow.laid ((laidWorld os).forCall (fun _ _=>0) ⟨#[],#[.agg #[.int .i64 0,.int .i64 0,.int .i64 0,.int .i64 0,.int .i64 0,.int .i64 0,.int .i64 0,.int .i64 0,.int .i64 0,.int .i64 0,.bool false,.bool false,.string ByteArray.empty,.int .i64 0,.int .i64 0,.string ByteArray.empty,.int .i64 0,.bool false,.int .i64 0,.string ByteArray.empty,.string ByteArray.empty,.slice none 0 0,.int .i64 0]],[]⟩).memory :=
 laidMet_of_run' 8 (by kernel_rfl) (by kernel_rfl)
theorem reads (os:Os) {H:Type} (enc:TypeId × Value->H):∃ places,DataW.whole enc prog ((laidWorld os).forCall (fun _ _=>0) ⟨#[],#[.agg #[.int .i64 0,.int .i64 0,.int .i64 0,.int .i64 0,.int .i64 0,.int .i64 0,.int .i64 0,.int .i64 0,.int .i64 0,.int .i64 0,.bool false,.bool false,.string ByteArray.empty,.int .i64 0,.int .i64 0,.string ByteArray.empty,.int .i64 0,.bool false,.int .i64 0,.string ByteArray.empty,.string ByteArray.empty,.slice none 0 0,.int .i64 0]],[]⟩).memory Tryz.f3.params.toList Rows.fnExactStepSpec.vars false [.agg #[.int .i64 0,.int .i64 0,.int .i64 0,.int .i64 0,.int .i64 0,.int .i64 0,.int .i64 0,.int .i64 0,.int .i64 0,.int .i64 0,.bool false,.bool false,.string ByteArray.empty,.int .i64 0,.int .i64 0,.string ByteArray.empty,.int .i64 0,.bool false,.int .i64 0,.string ByteArray.empty,.string ByteArray.empty,.slice none 0 0,.int .i64 0]] 8=some ([.agg [.agg [.lit (.int .i64 0),.lit (.int .i64 0),.lit (.int .i64 0),.lit (.int .i64 0),.lit (.int .i64 0),.lit (.int .i64 0),.lit (.int .i64 0),.lit (.int .i64 0),.lit (.int .i64 0),.lit (.int .i64 0),.lit (.bool false),.lit (.bool false)],.agg [.lit (.string []),.lit (.int .i64 0),.lit (.int .i64 0),.lit (.string []),.lit (.int .i64 0),.lit (.bool false),.lit (.int .i64 0)],.lit (.string []),.lit (.string []),.nil,.lit (.int .i64 0)]],[.agg [.lit (.string [98,99]),.lit (.string [100,101]),.lit (.string [104,108]),.lit (.string [97,102])],.agg [.lit (.string []),.lit (.string [98,105,116]),.lit (.string [114,101,115]),.lit (.string [115,101,116])]],places) :=
 ⟨MemPlace.row ⟨0,0,none⟩ 4 ++ MemPlace.row ⟨1,0,none⟩ 4,by kernel_rfl⟩
set_option maxRecDepth 100000 in
theorem lifted (os:Os) (started:os.Started) (H:Type) (enc:TypeId × Value->H) (F:Stop.Interp) :
  ReturnsInHanded {} Tryz.checked os 3 .any ((OpenSpec.ofChange Rows.fnExactStepSpec).preRow enc prog Tryz.f3 Rows.fnExactStepRow.domain false Rows.fnExactStepRow.laid) (((OpenSpec.ofChange Rows.fnExactStepSpec).at F).post enc prog Tryz.f3 false true false false):=by
 obtain ⟨places,hx⟩:=reads os enc
 refine returnsInHanded_of_row (C:=Tryz.checked) (s:=OpenSpec.ofChange Rows.fnExactStepSpec) own started (by kernel_rfl) func3
  (witness_row_at (enc:=enc) (C:=Tryz.checked) false (laidWorld os) #[.agg #[.int .i64 0,.int .i64 0,.int .i64 0,.int .i64 0,.int .i64 0,.int .i64 0,.int .i64 0,.int .i64 0,.int .i64 0,.int .i64 0,.bool false,.bool false,.string ByteArray.empty,.int .i64 0,.int .i64 0,.string ByteArray.empty,.int .i64 0,.bool false,.int .i64 0,.string ByteArray.empty,.string ByteArray.empty,.slice none 0 0,.int .i64 0]] rfl (by kernel_rfl) (by kernel_rfl) (by kernel_rfl)
   (OpenSpec.preRow_of_cond 8 hx (by kernel_rfl) (fun k hk=>by cases hk) (by kernel_rfl) (laid_met os))) ?_
 intro W base args ds gs before hval hW _ _ _ hL hsh _
 exact contract H enc W base args ds gs before hval hW hL hsh
theorem said:Rows.FnExactStepSaid :=
 OpenClaim.holds_of_cond 3 Tryz.f3 rfl rfl rfl rfl rfl rfl rfl ⟨rfl,rfl,rfl,rfl,rfl⟩ rfl rfl rfl rfl rfl (by kernel_rfl) func3 (by kernel_rfl)
  (of_decide_eq_true (by kernel_rfl)) (by unfold Func.isWrapper;first|(rw [if_pos (by decide +kernel)];kernel_rfl)|(rw [if_neg (by decide +kernel)];exact ⟨rfl,rfl⟩))
  (fun os started H enc _ F=>by rw [OpenClaim.pre_eq_preRow];exact lifted os started H enc F)
theorem plain (f:FuncId) (fn:Func) (hf:Tryz.pinned.checked.prog.funcNamed "loop.example/g00460/laws.FnExactStep" = some f) (hfn:Tryz.pinned.checked.prog.funcs[f]? = some fn) :
  true=Tryz.pinned.checked.prog.looks []/\∀ (j:Nat) t,fn.params[j]? = some t->Tryz.pinned.checked.prog.wantsStandIn t=false:=by
 obtain rfl:f=3:=Option.some.inj ((show prog.funcNamed "loop.example/g00460/laws.FnExactStep" = some 3 by kernel_rfl).symm.trans hf) |>.symm
 obtain rfl:fn=Tryz.f3:=(Option.some.inj (func3.symm.trans hfn)).symm
 refine ⟨by kernel_rfl,fun j t ht=>?_⟩
 rw [Tryz.params3] at ht
 have h:t=28:=by simpa using Array.mem_of_getElem? ht
 subst h
 exact (show prog.wantsStandIn 28=false by kernel_rfl)
theorem card:Rows.FnExactStepCardSaid :=
 Claim7.holds_tied_plain_at .later [] _ _ _ _ said (fun _ h=>by cases h) (by kernel_rfl) (fun _ h=>by cases h) fnExactStep_row_tie rfl ⟨rfl,rfl⟩ (by kernel_rfl) rfl plain (by kernel_rfl)
end Go.Proofs.YtkfehdkjeodbmaaGreatDoor.fnExactStep
namespace Go.Proofs.YtkfehdkjeodbmaaGreatDoor
theorem fnExactStep_holds:Rows.FnExactStepCardSaid:=fnExactStep.card
end Go.Proofs.YtkfehdkjeodbmaaGreatDoor
