/- For every machine and number the law FnExactTraceOf answers true, that is, impl.TraceOf answers as spec.TraceOf does, writes into no argument and keeps nothing of one; its answer owns its memory; no condition. -/
import Derived.Test.YteglcgnhhoenbaaGreatDoorCards
import Derived.Test.YteglcgnhhoenbaaGreatDoorTie
import Derived.ChangeOld
import Derived.ChangeVars
import Derived.OpenVars
import Derived.Deep.DeepHandedRow
import Derived.Test.YteglcgnhhoenbaaGreatDoorQ43
import Derived.Test.YteglcgnhhoenbaaGreatDoorQ44
import Derived.HandedShaped
set_option linter.all false
set_option maxRecDepth 20000
set_option maxHeartbeats 8000000
open Go.ChangeShapes Go.WideShapes Go.ChangeAt Go.RowKit
open Go.Proofs.Tryz
namespace Go.Proofs.YteglcgnhhoenbaaGreatDoor.fnExactTraceOf
open Go.ChangeMaps (open_string shut_string)
theorem own:ownKnob prog.godebug=none:=by kernel_rfl
theorem laidOut:laidOutB prog=true:=by kernel_rfl
theorem bFK:varsRowed prog Rows.fnExactTraceOfSpec.vars=true:=by kernel_rfl
theorem tables {W:World} (h:laidMetH prog Rows.fnExactTraceOfRow.laid W):PartN.Tables W:=by
 obtain ⟨q0,L0,_⟩ : laidMet prog Rows.fnExactTraceOfRow.laid W:=h;obtain ⟨q1,L1⟩:=Laid.skip L0;obtain ⟨q2,L2⟩:=Laid.skip L1;obtain ⟨q3,L3⟩:=Laid.skip L2;obtain ⟨q4,L4⟩:=Laid.skip L3;have t4:=Laid.nums (P:=prog) (k:=.u8) (zs:=[48,49,50,51,52,53,54,55,56,57,65,66,67,68,69,70]) (show prog.globalNamed "loop.example/g00460/impl.hexDigits" = some 0 by kernel_rfl) (show (prog.globals[0]?).map (·.type)=some 165 by kernel_rfl) underlying165 underlying5 (by kernel_rfl) (by kernel_rfl) L4;obtain ⟨q5,L5⟩:=Laid.skip L4;have t5:=Laid.wK (P:=prog) (l:=[[98],[99],[100],[101],[104],[108],[91,104,108,93],[97]]) (show prog.globalNamed "loop.example/g00460/impl.regNames" = some 7 by kernel_rfl) (show (prog.globals[7]?).map (·.type)=some 190 by kernel_rfl) underlying190 underlying9 (by kernel_rfl) (by kernel_rfl) L5;obtain ⟨q6,L6⟩:=Laid.skip L5;have t6:=Laid.wK (P:=prog) (l:=[[98,99],[100,101],[104,108],[115,112]]) (show prog.globalNamed "loop.example/g00460/impl.pairNames" = some 6 by kernel_rfl) (show (prog.globals[6]?).map (·.type)=some 213 by kernel_rfl) underlying213 underlying9 (by kernel_rfl) (by kernel_rfl) L6;obtain ⟨q7,L7⟩:=Laid.skip L6;have t7:=Laid.wK (P:=prog) (l:=[[98,99],[100,101],[104,108],[97,102]]) (show prog.globalNamed "loop.example/g00460/impl.stackNames" = some 1 by kernel_rfl) (show (prog.globals[1]?).map (·.type)=some 213 by kernel_rfl) underlying213 underlying9 (by kernel_rfl) (by kernel_rfl) L7;obtain ⟨q8,L8⟩:=Laid.skip L7;have t8:=Laid.wK (P:=prog) (l:=[[91,98,99,93],[91,100,101,93],[91,104,108,43,93],[91,104,108,45,93]]) (show prog.globalNamed "loop.example/g00460/impl.placeNames" = some 5 by kernel_rfl) (show (prog.globals[5]?).map (·.type)=some 213 by kernel_rfl) underlying213 underlying9 (by kernel_rfl) (by kernel_rfl) L8;obtain ⟨q9,L9⟩:=Laid.skip L8;have t9:=Laid.wK (P:=prog) (l:=[[110,122],[122],[110,99],[99]]) (show prog.globalNamed "loop.example/g00460/impl.condNames" = some 4 by kernel_rfl) (show (prog.globals[4]?).map (·.type)=some 213 by kernel_rfl) underlying213 underlying9 (by kernel_rfl) (by kernel_rfl) L9;obtain ⟨q10,L10⟩:=Laid.skip L9;have t10:=Laid.wK (P:=prog) (l:=[[97,100,100],[97,100,99],[115,117,98],[115,98,99],[97,110,100],[120,111,114],[111,114],[99,112]]) (show prog.globalNamed "loop.example/g00460/impl.aluNames" = some 3 by kernel_rfl) (show (prog.globals[3]?).map (·.type)=some 190 by kernel_rfl) underlying190 underlying9 (by kernel_rfl) (by kernel_rfl) L10;obtain ⟨q11,L11⟩:=Laid.skip L10;have t11:=Laid.wK (P:=prog) (l:=[[114,108,99],[114,114,99],[114,108],[114,114],[115,108,97],[115,114,97],[115,119,97,112],[115,114,108]]) (show prog.globalNamed "loop.example/g00460/impl.turnNames" = some 8 by kernel_rfl) (show (prog.globals[8]?).map (·.type)=some 190 by kernel_rfl) underlying190 underlying9 (by kernel_rfl) (by kernel_rfl) L11;obtain ⟨q12,L12⟩:=Laid.skip L11;have t12:=Laid.wK (P:=prog) (l:=[[],[98,105,116],[114,101,115],[115,101,116]]) (show prog.globalNamed "loop.example/g00460/impl.bitNames" = some 2 by kernel_rfl) (show (prog.globals[2]?).map (·.type)=some 213 by kernel_rfl) underlying213 underlying9 (by kernel_rfl) (by kernel_rfl) L12;obtain ⟨q13,L13⟩:=Laid.skip L12;obtain ⟨q14,L14⟩:=Laid.skip L13;exact ⟨fun i hi=>(t10 i hi).trans (by match i,hi with|0,_=>rfl|1,_=>rfl|2,_=>rfl|3,_=>rfl|4,_=>rfl|5,_=>rfl|6,_=>rfl|7,_=>rfl),fun i hi=>(t12 i hi).trans (by match i,hi with|0,_=>rfl|1,_=>rfl|2,_=>rfl|3,_=>rfl),fun i hi=>(t9 i hi).trans (by match i,hi with|0,_=>rfl|1,_=>rfl|2,_=>rfl|3,_=>rfl),fun i hi=>(t8 i hi).trans (by match i,hi with|0,_=>rfl|1,_=>rfl|2,_=>rfl|3,_=>rfl),fun i hi=>(t6 i hi).trans (by match i,hi with|0,_=>rfl|1,_=>rfl|2,_=>rfl|3,_=>rfl),fun i hi=>(t7 i hi).trans (by match i,hi with|0,_=>rfl|1,_=>rfl|2,_=>rfl|3,_=>rfl),fun i hi=>(t5 i hi).trans (by match i,hi with|0,_=>rfl|1,_=>rfl|2,_=>rfl|3,_=>rfl|4,_=>rfl|5,_=>rfl|6,_=>rfl|7,_=>rfl),fun i hi=>(t11 i hi).trans (by match i,hi with|0,_=>rfl|1,_=>rfl|2,_=>rfl|3,_=>rfl|4,_=>rfl|5,_=>rfl|6,_=>rfl|7,_=>rfl),fun i hi=>t4 i hi⟩
theorem pow {W:World} (h:laidMetH prog Rows.fnExactTraceOfRow.laid W):Texi.Pow W:=by
 obtain ⟨q0,L0,_⟩ : laidMet prog Rows.fnExactTraceOfRow.laid W:=h;obtain ⟨q1,L1⟩:=Laid.skip L0;obtain ⟨q2,L2⟩:=Laid.skip L1;exact Laid.tab (P:=prog) (k:=.u64) (zs:=Lib.pow10Tab) (show prog.globalNamed "internal/strconv.uint64pow10" = some 12 by kernel_rfl) (show (prog.globals[12]?).map (·.type)=some 241 by kernel_rfl) underlying241 underlying172 (by kernel_rfl) (by kernel_rfl) L2
open Busw Busx Busy Busm Mact Busl
theorem eqL (v v':Value) (b b':Nat) (R:List ByteArray) (W:World) (h:Traa.Ln b v R W) (h':Traa.Ln b' v' R W) (hl:R.length<=100) :
  Calls prog 29 #[v,v'] W fun e w'=>e=.returned (.bool true)/\Below W.heap.size W w':=by
 obtain ⟨a,c,rfl,h1,_⟩:=Txts.fX h;obtain ⟨a',c',rfl,h2,_⟩:=Txts.fX h';exact (Txts.rT a a' c c' R W h1 h2 (by omega)).mono fun e w' ⟨he,n,hw⟩=>⟨he,by rw [hw];exact below_drewN zRf _⟩
theorem walk (w:World) (ra rf rB rC rD rE rH rL sp pc:Int) (ime hal:Bool) (rom:ByteArray) (kind bank:Int) (ram:ByteArray) (rb:Int) (on:Bool) (mode:Int) (work high:ByteArray) (po:Option Addr) (L:List Int) (cap:Nat) (cyc:Int) (z1:rom.size<=maxLen) (z2:ram.size<=maxLen) (z3:work.size<=maxLen) (z4:high.size<=maxLen) (z5:L.length<=maxLen) (hN:Outs.Row w po L) (a1:Int) (w1:(Lit.int .i64 a1).wf=true) (hT:PartN.Tables w) (hP:Texi.Pow w) (hm:HolI.MaxL w) :
  Calls prog 6 #[.agg #[.int .i64 ra,.int .i64 rf,.int .i64 rB,.int .i64 rC,.int .i64 rD,.int .i64 rE,.int .i64 rH,.int .i64 rL,.int .i64 sp,.int .i64 pc,.bool ime,.bool hal,.string rom,.int .i64 kind,.int .i64 bank,.string ram,.int .i64 rb,.bool on,.int .i64 mode,.string work,.string high,.slice po L.length cap,.int .i64 cyc],.int .i64 a1] w fun e w'=>e=.returned (.bool true)/\Below w.heap.size w w':=by
 obtain ⟨m,hmm⟩ : ∃ m:M,m=⟨ra,rf,rB,rC,rD,rE,rH,rL,sp,pc,ime,hal,rom,kind,bank,ram,rb,on,mode,work,high,L,cyc⟩:=⟨_,rfl⟩
 have hcells:#[.int .i64 ra,.int .i64 rf,.int .i64 rB,.int .i64 rC,.int .i64 rD,.int .i64 rE,.int .i64 rH,.int .i64 rL,.int .i64 sp,.int .i64 pc,.bool ime,.bool hal,.string rom,.int .i64 kind,.int .i64 bank,.string ram,.int .i64 rb,.bool on,.int .i64 mode,.string work,.string high,.slice po L.length cap,.int .i64 cyc]=aA m po cap:=by rw [hmm,aT]
 have cz:=fun w=>Mach.sB ra rf rB rC rD rE rH rL sp pc ime hal rom kind bank ram rb on mode work high po L cap cyc w z1 z2 z3 z4 z5
 have hL:m.out=L:=by rw [hmm]
 have H0:Hid (Outs.Row w po m.out):=by show Outs.Row w po m.out;rw [hL];exact hN
 have HSm:Hid (work.size<=1048576->high.size<=1048576->L.length<=1048576->Sm m):=fun h3 h4 h5=>by rw [hmm];exact ⟨z1,z2,h3,h4,h5⟩
 rw [hcells] at cz |-
 clear hcells hN z1 z2 z3 z4 z5 hL hmm;have hz:=fM;obtain ⟨cZ,hcZ⟩ : ∃ c,c=aA Z0 none 0:=⟨_,rfl⟩
 rw [<- hcZ] at hz
 have HZ:Hid (cZ=aA Z0 none 0):=hcZ;clear hcZ;have HCX:Hid (Trab.Cx w/\Stpi.Tb w):=⟨⟨hT,hP,hm⟩,⟨hT.stack,hT.bit⟩⟩;clear hT hP hm
 go_enter func6,ntmps6
 go_upto_region 2 with fail
 refine wp_region_list ?_;refine wpList_load_row rfl 51 _ rfl w.heap.size rfl _ _ (0,0) _ (heap_alloc_last w _) underlying51 rfl (tB _ _ _) ?_
 go_wp2_with fail
 refine (cz _).mono ?_;rintro e w1 ⟨⟨q,rfl,q0,q1,hq⟩,o1,o2,hw1⟩;clear cz;have hb1:Below (w.alloc (.cells (aA m po cap) 51)).heap.size (w.alloc (.cells (aA m po cap) 51)) w1:=by
  rw [hw1];exact (by repeat (with_reducible first|exact zRf|refine zGr ?_ _|refine below_drewN ?_ _|refine Below.drew ?_))
 have HB1:Hid (Below (w.alloc (.cells (aA m po cap) 51)).heap.size (w.alloc (.cells (aA m po cap) 51)) w1):=hb1;clear hb1 hw1
 by_cases hneg:q<0
 ·go_wp2
  go_ret;exact ⟨rfl,CartL.after (zAl _ _) HB1.out⟩
 obtain ⟨s1,s2,s3,s4,s5⟩:=hq (by omega);have hs:Sm m:=HSm.out s3 s4 s5;clear hq q1 s1 s2 s3 s4 s5 HSm;have hRl:=Trap.aEE m a1;have cs:=fun (p:Option Addr) (c:Nat) (W:World) (h:Sl W p m.out c) (hp:∀ x,p=some x->x.block<W.heap.size)=>Trac.sK m p c a1 W hs h hp
 have ci:=fun (p:Option Addr) (c:Nat) (W:World) (h:Sl W p m.out c) (hb:Below w.heap.size w W)=>Trai.sL m p c a1 W hs h (HCX.out.1.below hb) (HCX.out.2.below hb)
 unfold Traa.rR at cs ci
 have ct:=fun (p:Option Addr) (c:Nat) (W:World) (h:Outs.Row W p m.out)=>aTF m p c W h hs.out
 have ce:=fun (p p':Option Addr) (c c':Nat) (W:World) (h:Outs.Row W p m.out) (h':Outs.Row W p' m.out)=>aTG m p p' c c' W h h' hs.out
 generalize Trap.fU m a1=R at *
 have cr:=fun (v v':Value) (b b':Nat) (W:World) (h:Traa.Ln b v R W) (h':Traa.Ln b' v' R W)=>eqL v v' b b' R W h h' hRl
 have HSO:Hid (m.out.length<=1048576/\R.length<=100):=⟨hs.out,hRl⟩;clear hs hRl;have HA:Hid (∀ W',Below (w.alloc (.cells (aA m po cap) 51)).heap.size (w.alloc (.cells (aA m po cap) 51)) W'->W'.heap[w.heap.size]? = some (.cells (aA m po cap) 51)/\Outs.Row W' po m.out):=fun W' h=>⟨by rw [h.block _ (by simp)];exact heap_alloc_last w _,Outs.Row.below H0.out (CartL.after (zAl _ _) h)⟩
 go_upto_region 5 with fail
 refine wp_region_list ?_;refine wpList_load_row rfl 51 _ rfl w.heap.size rfl _ _ (0,0) _ (HA.out _ HB1.out).1 underlying51 rfl (tB _ _ _) ?_
 go_wp2_with fail
 refine Calls.mono (ct _ _ _ (HA.out _ HB1.out).2) ?_;rintro e w2 ⟨B2,hB2,rfl,hx2,hb2⟩;have HB2:=zHd (CartL.after HB1.out hb2);have HX2:Hid (w2.heap[B2]? = some (Outs.lQ m.out)):=hx2;clear hb2 hx2 hB2 HB1
 go_wp2_with fail
 refine Calls.mono (cs _ _ _ (jS HX2.out _) (fun x e=>by cases e;exact (zLo HX2.out))) ?_;rintro e u3 ⟨vS,rfl,own3,hb3⟩;have HBu:=zHd (CartL.after HB2.out hb3);have HO3:Hid (Traa.Ln w2.heap.size vS R u3):=own3;have HS:Hid (∀ W',Kp u3.heap.size u3 W'->(W'.heap[w.heap.size]? = some (.cells (aA m po cap) 51)/\Outs.Row W' po m.out)/\Traa.Ln w2.heap.size vS R W'):=fun W' h=>by
  have hA:=HA.out _ HBu.out;have hlA:w.heap.size<u3.heap.size:=(zLo hA.1);exact ⟨⟨(h.2 _ hlA).trans hA.1,bBO hA.2 h⟩,HO3.out.kept (fun k cs _ e=>h.2 k (zLo e))⟩
 clear own3 hb3 HX2 HB2 cs HO3 HA
 go_upto_region 6 with fail
 refine wp_region_list ?_;refine wpList_load_row rfl 51 _ rfl w.heap.size rfl _ _ (0,0) _ (HS.out _ (Kp.of zRf)).1.1 underlying51 rfl (tB _ _ _) ?_
 go_wp2_with fail
 refine Calls.mono (ct _ _ _ (HS.out _ (Kp.of zRf)).1.2) ?_;rintro e w4 ⟨B4,hB4,rfl,hx4,hb4⟩;have HB4:Hid (Below u3.heap.size u3 w4):=hb4;have HX4:Hid (w4.heap[B4]? = some (Outs.lQ m.out)):=hx4;clear hb4 hx4
 rename_i hK
 refine hK _ _ ?_;clear hK;refine wpList_plain rfl (fun K hK=>?_);go_simp;refine hK _ _ ?_;clear hK;refine wpList_store_row rfl 30 _ _ rfl w4.heap.size (aA m (some ⟨B4,0,none⟩) m.out.length) rfl rfl _ _ (heap_alloc_last w4 _) (aP _ _ _) (by first|rw [aV,aV]|rw [HZ.out,aV,aV]) (dS _ _ _) ?_;rw [World.setRow_alloc_new];obtain ⟨u4,hu4⟩ : ∃ u,u=w4.alloc (.cells (aA m (some ⟨B4,0,none⟩) m.out.length) 30):=⟨_,rfl⟩
 obtain ⟨bx,hbx⟩ : ∃ b,b=w4.heap.size:=⟨_,rfl⟩
 have HB4u:Hid (Below u3.heap.size u3 u4):=by show Below _ _ _;rw [hu4];exact zGr HB4.out _
 have HXu:Hid (u4.heap[bx]? = some (.cells (aA m (some ⟨B4,0,none⟩) m.out.length) 30)/\u4.heap[B4]? = some (Outs.lQ m.out)):=⟨by rw [hu4,hbx];exact heap_alloc_last w4 _,by rw [hu4,aM _ _ (zLo HX4.out)];exact HX4.out⟩;refine wpList_nil ?_
 go_upto_region 7 with fail
 rw [<- hu4,<- hbx];clear hu4 hbx HB4 HX4;refine wp_region_list ?_;refine wpList_load_row rfl 30 _ rfl bx rfl _ _ (0,0) _ HXu.out.1 underlying30 rfl (aP _ _ _) ?_
 go_wp2_with fail
 refine Calls.mono (ci _ _ _ (jS HXu.out.2 _) (CartL.after (CartL.after (zAl _ _) HBu.out) HB4u.out)) ?_;rintro e u5 ⟨vG,rfl,own5,hb5⟩;have HB5u:Hid (Below u4.heap.size u4 u5):=hb5;have HGu:Hid (Traa.Ln u4.heap.size vG R u5):=own5;clear own5 hb5;have HK5:Hid (Kp u3.heap.size u3 u5):=Kp.of (CartL.after HB4u.out HB5u.out)
 go_upto_region 8 with fail
 go_wp2_with fail
 refine Calls.mono (cr _ _ _ _ _ HGu.out (HS.out _ HK5.out).2) ?_;rintro e w6 ⟨rfl,hb6⟩;have HB6:Hid (Below u5.heap.size u5 w6):=hb6;clear hb6
 go_upto_region 10 with fail
 have HX:Hid (∀ W',Below w6.heap.size w6 W'->W'.heap[bx]? = some (.cells (aA m (some ⟨B4,0,none⟩) m.out.length) 30)/\W'.heap[B4]? = some (Outs.lQ m.out)):=fun W' h=>by
  have k:=Kp.of (CartL.after HB5u.out (CartL.after HB6.out h));exact ⟨(k.2 _ (zLo HXu.out.1)).trans HXu.out.1,(k.2 _ (zLo HXu.out.2)).trans HXu.out.2⟩
 have HS6:Hid (∀ W',Below w6.heap.size w6 W'->Kp u3.heap.size u3 W'):=fun W' h=>(HK5.out.step HB6.out).step h
 have HD:Hid (Below w6.heap.size w6 w6.drew):=zRf.drew;have HLB:Hid (u3.heap.size<=B4/\B4<u4.heap.size):=⟨hB4,(zLo HXu.out.2)⟩;have HW:Hid (Below w.heap.size w u3):=CartL.after (zAl _ _) HBu.out;clear hB4 HXu HBu
 go_cut [35] (fun v wx=>v=.bool false/\Hid (Below w6.heap.size w6 wx))
 case first =>
  refine wp_region_any (by kernel_rfl) ?_;try (change wpAny _ _ _ _ _ _ _ (World.drew _))
  refine wpAny_ready (rs:=[0,1]) (by kernel_rfl) (by simp) ?_;refine MachP.bQ rfl rfl (fun K hK=>?_) (MachP.bQ rfl rfl (fun K hK=>?_) AllReady.nil)
  ·refine wp_load_row 30 _ rfl bx rfl _ _ (0,0) _ (HX.out _ HD.out).1 underlying30 rfl (aP _ _ _) ?_
   refine hK _ _ ?_;clear hK;refine wpAny_ready (rs:=[1]) (by kernel_rfl) (by simp) ?_;refine MachP.bQ rfl rfl (fun K hK=>?_) AllReady.nil;refine wp_load_row 51 _ rfl w.heap.size rfl _ _ (0,0) _ (HS.out _ (HS6.out _ HD.out)).1.1 underlying51 rfl (tB _ _ _) ?_;refine hK _ _ ?_;clear hK;refine wpAny_ready (rs:=[2]) (by kernel_rfl) (by simp) ?_;refine MachP.bQ rfl rfl (fun K hK=>?_) AllReady.nil
   go_wp2_with fail
   refine Calls.mono (ct _ _ _ (HS.out _ (HS6.out _ HD.out)).1.2) ?_;rintro e w7 ⟨B7,hB7,rfl,hx7,hb7⟩;have HB7:Hid (Below w6.heap.size w6 w7):=HD.out.trans (hb7.mono HD.out.size);have HX7:Hid (w7.heap[B7]? = some (Outs.lQ m.out)):=hx7;clear hb7 hx7 hB7;refine hK _ _ ?_;clear hK;refine wpAny_ready (rs:=[3]) (by kernel_rfl) (by simp) ?_;refine MachP.bQ rfl rfl (fun K hK=>?_) AllReady.nil
   go_wp2_with fail
   refine Calls.mono (ce _ _ _ _ _ (jS (HX.out _ HB7.out).2 0).row (jS HX7.out 0).row) ?_;rintro e w8 ⟨rfl,hb8⟩;have HB8:=zHd (CartL.after HB7.out hb8);clear hb8 HX7 HB7 ce;refine hK _ _ ?_;clear hK;refine wpAny_ready (rs:=[4]) (by kernel_rfl) (by simp) ?_;refine MachP.bQ rfl rfl (fun K hK=>?_) AllReady.nil;go_simp;refine hK _ _ ?_;clear hK;refine wpAny_done (by kernel_rfl) ?_ _
   go_wp2_with fail
   go_meet
   exact ⟨rfl,HB8.out⟩
  ·refine wp_load_row 51 _ rfl w.heap.size rfl _ _ (0,0) _ (HS.out _ (HS6.out _ HD.out)).1.1 underlying51 rfl (tB _ _ _) ?_
   refine hK _ _ ?_;clear hK;refine wpAny_ready (rs:=[0,2]) (by kernel_rfl) (by simp) ?_;refine MachP.bQ rfl rfl (fun K hK=>?_) (MachP.bQ rfl rfl (fun K hK=>?_) AllReady.nil)
   ·refine wp_load_row 30 _ rfl bx rfl _ _ (0,0) _ (HX.out _ HD.out).1 underlying30 rfl (aP _ _ _) ?_
    refine hK _ _ ?_;clear hK;refine wpAny_ready (rs:=[2]) (by kernel_rfl) (by simp) ?_;refine MachP.bQ rfl rfl (fun K hK=>?_) AllReady.nil
    go_wp2_with fail
    refine Calls.mono (ct _ _ _ (HS.out _ (HS6.out _ HD.out)).1.2) ?_;rintro e w7 ⟨B7,hB7,rfl,hx7,hb7⟩;have HB7:Hid (Below w6.heap.size w6 w7):=HD.out.trans (hb7.mono HD.out.size);have HX7:Hid (w7.heap[B7]? = some (Outs.lQ m.out)):=hx7;clear hb7 hx7 hB7;refine hK _ _ ?_;clear hK;refine wpAny_ready (rs:=[3]) (by kernel_rfl) (by simp) ?_;refine MachP.bQ rfl rfl (fun K hK=>?_) AllReady.nil
    go_wp2_with fail
    refine Calls.mono (ce _ _ _ _ _ (jS (HX.out _ HB7.out).2 0).row (jS HX7.out 0).row) ?_;rintro e w8 ⟨rfl,hb8⟩;have HB8:=zHd (CartL.after HB7.out hb8);clear hb8 HX7 HB7 ce;refine hK _ _ ?_;clear hK;refine wpAny_ready (rs:=[4]) (by kernel_rfl) (by simp) ?_;refine MachP.bQ rfl rfl (fun K hK=>?_) AllReady.nil;go_simp;refine hK _ _ ?_;clear hK;refine wpAny_done (by kernel_rfl) ?_ _
    go_wp2_with fail
    go_meet
    exact ⟨rfl,HB8.out⟩
   ·go_wp2_with fail
    refine Calls.mono (ct _ _ _ (HS.out _ (HS6.out _ HD.out)).1.2) ?_;rintro e w7 ⟨B7,hB7,rfl,hx7,hb7⟩;have HB7:Hid (Below w6.heap.size w6 w7):=HD.out.trans (hb7.mono HD.out.size);have HX7:Hid (w7.heap[B7]? = some (Outs.lQ m.out)):=hx7;clear hb7 hx7 hB7;refine hK _ _ ?_;clear hK;refine wpAny_ready (rs:=[0]) (by kernel_rfl) (by simp) ?_;refine MachP.bQ rfl rfl (fun K hK=>?_) AllReady.nil;refine wp_load_row 30 _ rfl bx rfl _ _ (0,0) _ (HX.out _ HB7.out).1 underlying30 rfl (aP _ _ _) ?_;refine hK _ _ ?_;clear hK;refine wpAny_ready (rs:=[3]) (by kernel_rfl) (by simp) ?_;refine MachP.bQ rfl rfl (fun K hK=>?_) AllReady.nil
    go_wp2_with fail
    refine Calls.mono (ce _ _ _ _ _ (jS (HX.out _ HB7.out).2 0).row (jS HX7.out 0).row) ?_;rintro e w8 ⟨rfl,hb8⟩;have HB8:=zHd (CartL.after HB7.out hb8);clear hb8 HX7 HB7 ce;refine hK _ _ ?_;clear hK;refine wpAny_ready (rs:=[4]) (by kernel_rfl) (by simp) ?_;refine MachP.bQ rfl rfl (fun K hK=>?_) AllReady.nil;go_simp;refine hK _ _ ?_;clear hK;refine wpAny_done (by kernel_rfl) ?_ _
    go_wp2_with fail
    go_meet
    exact ⟨rfl,HB8.out⟩
 case rest =>
 obtain ⟨rfl,HB8⟩:=hcut
 rename World=>w8
 clear ce
 go_upto_region 13 with fail
 refine wp_region_list ?_;refine wpList_load_row rfl 30 _ rfl bx rfl _ _ (0,0) _ (HX.out _ HB8.out).1 underlying30 rfl (aP _ _ _) ?_
 go_wp2_with fail
 refine Calls.mono (pW m _ _ w8 (open_row (HX.out _ HB8.out).2).1 HSO.out.1) ?_;rintro e w9 ⟨rfl,o9,hm9⟩;have K9:Hid (Kp u3.heap.size u3 w9):=bBP (HS6.out _ HB8.out) hm9 (fun p e=>by cases e;exact HLB.out.1);have B58:=CartL.after HB6.out HB8.out;have O9:Hid (Traa.Ln u4.heap.size vG R w9):=(HGu.out.below B58).kept (fun k cs e e2=>vJ hm9 (zLo e2) (fun p e3=>by
  cases e3
  have hge:u4.heap.size<=k:=by
   rcases HGu.out.2 with ⟨h0,_⟩|⟨g,c,cur,h0,hb,_⟩
   ·rw [h0] at e;cases e
   ·rw [h0] at e;cases e;exact hb
  have:=HLB.out.2
  show B4 ≠ k;omega))
 have V9:Hid (Below w.heap.size w w9):=aHL (CartL.after (CartL.after HW.out (CartL.after HB4u.out HB5u.out)) B58) hm9 (fun p e=>by cases e;exact Nat.le_trans HW.out.size HLB.out.1);clear hm9 B58 HX HB8 HGu;obtain ⟨kx,hkx⟩ : ∃ k:Int,k=1+(m.out.length:Int):=⟨_,rfl⟩
 have kd:decide (kx<0)=false:=by rw [hkx];simp;omega
 rw [<- hkx];clear hkx
 go_upto_region 14 with fail
 go_wp2_with fail
 refine Calls.mono (cr _ _ _ _ _ O9.out (HS.out _ K9.out).2) ?_;rintro e w10 ⟨rfl,hb10⟩;have O10:=zHd (O9.out.below hb10);have K10:Hid (Kp u3.heap.size u3 w10):=K9.out.step hb10;have V10:=zHd (CartL.after V9.out hb10);clear hb10 O9 K9 V9 kd
 go_upto_region 17 with fail
 go_wp2_with fail
 refine Calls.mono (Marks.pR vG R.length _ u4.heap.size w10 O10.out (by have:=HSO.out.2;omega)) ?_;rintro e w11 ⟨rfl,own11,hg11⟩;have hge:∀ k,vG.ownBlock=some k->u4.heap.size<=k:=fun k e=>by
  rcases O10.out.2 with ⟨h0,_⟩|⟨g,c,cur,h0,hb,_⟩
  ·rw [h0] at e;cases e
  ·rw [h0] at e;cases e;exact hb
 have h34:=CartL.after HW.out HB4u.out;have K11:Hid (Kp u3.heap.size u3 w11):=⟨Nat.le_trans K10.out.1 hg11.size,fun k hk=>(hg11.block k (Nat.lt_of_lt_of_le hk K10.out.1) (fun e=>by have:=hge k e.symm;have:=HB4u.out.size;omega)).trans (K10.out.2 k hk)⟩;have V11:Hid (Below w.heap.size w w11):=V10.out.grown hg11 V10.out.size (fun k e=>Nat.le_trans h34.size (hge k e));have I11:Hid (w11.ownsRow u4.heap.size 9 1 vG R.length (Marks.fI 1 R.length)):=own11;clear own11 hg11 hge h34 O10 K10 V10;obtain ⟨ky,hky⟩ : ∃ k:Int,k=1+(R.length:Int):=⟨_,rfl⟩
 have HKY:Hid (ky=1+(R.length:Int)):=hky;have ky0:¬ ky<0:=by rw [hky];omega
 rw [<- hky];clear hky;have ch:=fun (W:World) (h:W.ownsRow u4.heap.size 9 1 vG R.length (Marks.fI 1 R.length))=>Marks.pS vG R.length u4.heap.size W h (by have:=HSO.out.2;omega)
 rw [<- HKY.out] at ch
 go_upto_region 19 with fail
 go_wp2_with fail
 refine Calls.mono (ch _ I11.out) ?_;rintro e w12 ⟨rfl,hb12⟩;have B12:Hid (Below w11.heap.size w11 w12):=hb12;clear hb12
 go_upto_region 24 with fail
 refine wp_region_list ?_;refine wpList_load_row rfl 51 _ rfl w.heap.size rfl _ _ (0,0) _ (HS.out _ (K11.out.step B12.out)).1.1 underlying51 rfl (tB _ _ _) ?_
 go_wp2_with fail
 refine Calls.mono (ct _ _ _ (HS.out _ (K11.out.step B12.out)).1.2) ?_;rintro e w13 ⟨B13,hB13,rfl,hx13,hb13⟩;have B1:=zHd (CartL.after B12.out hb13);have HX13:Hid (w13.heap[B13]? = some (Outs.lQ m.out)):=hx13;clear hb13 hx13 hB13 B12
 go_wp2_with fail
 refine Calls.mono (ci _ _ _ (jS HX13.out _) (CartL.after V11.out B1.out)) ?_;rintro e w14 ⟨vH,rfl,own14,hb14⟩;have B14:=zHd (CartL.after B1.out hb14);have O14:Hid (Traa.Ln w13.heap.size vH R w14):=own14;clear hb14 own14 HX13 B1
 go_upto_region 25 with fail
 go_wp2_with fail
 refine Calls.mono (cr _ _ _ _ _ O14.out (HS.out _ (K11.out.step B14.out)).2) ?_;rintro e w16 ⟨rfl,hb16⟩;have B16:=zHd (CartL.after B14.out hb16);clear hb16 O14 B14
 go_upto_region 28 with fail
 go_wp2_with fail
 refine Calls.mono (ch _ (Marks.own_below I11.out B16.out)) ?_;rintro e w17 ⟨rfl,hb17⟩;have V17:Hid (Below w.heap.size w w17):=CartL.after (CartL.after V11.out B16.out) hb17;clear hb17;go_wp2;go_ret;exact ⟨rfl,V17.out⟩
set_option maxRecDepth 100000 in
theorem aIX (H:Type) (enc:TypeId × Value->H) (W:World) (base:Nat) (args:Array Value) (ds gs:List (DataW H)) (before:List MemPlace)
  (hval:∀ (j:Nat) t v,Tryz.f6.params[j]? = some t->args[j]? = some v->Value.okWide prog W .any base t v)
  (hW:DataW.Whole enc prog Tryz.f6.params.toList Rows.fnExactTraceOfSpec.vars false W args.toList ds gs before) (hL:laidMetH prog Rows.fnExactTraceOfRow.laid W) (hsh:W.ShapedOpen prog) :
  Calls prog 6 args W fun e W'=>∃ v,e=.returned v/\Rows.fnExactTraceOfSpec.post enc prog Tryz.f6 false true false false W args v W':=by
 have hW':=hW;obtain ⟨p,q,hA0,hV,hbef,hfz,hnd⟩:=hW;have hA:DataW.TrodAll enc prog W 0 (fun _=>true) true Tryz.f6.params.toList args.toList ds p:=hA0;have hVk:DataW.TrodVars enc prog W (fun _=>true) Rows.fnExactTraceOfSpec.vars gs q:=hV;rw [Tryz.params6] at hA hval
 obtain ⟨v0,vs0,d0,ds0,p0,q0,hargs,rfl,rfl,h0,r0⟩:=trodAll_cons hA;obtain ⟨v1,vs1,d1,ds1,p1,q1,rfl,rfl,rfl,h1,r1⟩:=trodAll_cons r0;obtain ⟨rfl,rfl,rfl⟩:=trodAll_nil r1;obtain rfl:args=#[v0,v1]:=by cases args;simp_all
 obtain ⟨g1,g2,g3,g4,g5,g6,g7,g8,g9,rfl⟩ : ∃ g1 g2 g3 g4 g5 g6 g7 g8 g9,gs=[g1,g2,g3,g4,g5,g6,g7,g8,g9]:=by
  have hl:=Laid.wM hVk
  match gs,hl with
  | [g1,g2,g3,g4,g5,g6,g7,g8,g9],_=>exact ⟨_,_,_,_,_,_,_,_,_,rfl⟩
 obtain ⟨cs0,rfl,_⟩:=okWide_struct underlying51 (hval 0 51 v0 rfl rfl);have kk0:=h0;have lt0:∀ x ∈ p0,x.block<W.heap.size:=by obtain ⟨m,hm⟩:=kk0;exact DataW.trod_lt m _ _ _ hm
 obtain ⟨ra,rf,rB,rC,rD,rE,rH,rL,sp,pc,ime,hal,rom,kind,bank,ram,rb,on,mode,work,high,po,L,cap,cyc,e0,z1,z2,z3,z4,z5,hN⟩ : ∃ (ra rf rB rC rD rE rH rL sp pc:Int) (ime hal:Bool) (rom:ByteArray) (kind bank:Int) (ram:ByteArray) (rb:Int) (on:Bool) (mode:Int) (work high:ByteArray) (po:Option Addr) (L:List Int) (cap:Nat) (cyc:Int),cs0=#[.int .i64 ra,.int .i64 rf,.int .i64 rB,.int .i64 rC,.int .i64 rD,.int .i64 rE,.int .i64 rH,.int .i64 rL,.int .i64 sp,.int .i64 pc,.bool ime,.bool hal,.string rom,.int .i64 kind,.int .i64 bank,.string ram,.int .i64 rb,.bool on,.int .i64 mode,.string work,.string high,.slice po L.length cap,.int .i64 cyc]/\rom.size<=maxLen/\ram.size<=maxLen/\work.size<=maxLen/\high.size<=maxLen/\L.length<=maxLen/\Outs.Row W po L:=by
  obtain ⟨fuel,hf⟩:=h0;obtain ⟨ra,rf,rB,rC,rD,rE,rH,rL,sp,pc,ime,hal,rom,kind,bank,ram,rb,on,mode,work,high,po,L,cap,cyc,hcs,q1,q2,q3,q4,q5,q6⟩:=MachP.aAW hf
  simp [Value.cells] at hcs
  exact ⟨ra,rf,rB,rC,rD,rE,rH,rL,sp,pc,ime,hal,rom,kind,bank,ram,rb,on,mode,work,high,po,L,cap,cyc,by cases cs0;simp_all,q1,q2,q3,q4,q5,q6⟩
 subst e0;obtain ⟨a1,rfl,rfl,rfl,w1⟩:=open_int underlying2 (hval 1 2 v1 rfl rfl) h1;clear hA0;refine (walk W ra rf rB rC rD rE rH rL sp pc ime hal rom kind bank ram rb on mode work high po L cap cyc z1 z2 z3 z4 z5 hN a1 w1 (tables hL) (pow hL) (Tryz.laysM144.s1_3 W hsh)).mono fun e W' ⟨he,bel⟩=>?_
 subst he;exact ⟨_,rfl,_,_,_,[],_,q,hW',trodAll_mk1 (shut_bool underlying4 _),(trodAll_cons_mk (Below.trod laidOut (by kernel_rfl) (u7 (by kernel_rfl)) kk0 bel lt0) (trodAll_cons_mk (shut_int underlying2 w1) trodAll_mk0)),Below.trodVars laidOut bel bFK hVk,bel.frame _,fun h=>by cases h⟩
noncomputable def nV (os:Os):World :=
 { World.holding prog os ⟨#[],#[],[]⟩ with heap:=(fun h=>h.modify 13 fun|.cells _ t frozen=>.cells #[.int .u8 0,.int .u8 1,.int .u8 28,.int .u8 2,.int .u8 29,.int .u8 14,.int .u8 24,.int .u8 3,.int .u8 30,.int .u8 22,.int .u8 20,.int .u8 15,.int .u8 25,.int .u8 17,.int .u8 4,.int .u8 8,.int .u8 31,.int .u8 27,.int .u8 13,.int .u8 23,.int .u8 21,.int .u8 19,.int .u8 16,.int .u8 7,.int .u8 26,.int .u8 12,.int .u8 18,.int .u8 6,.int .u8 11,.int .u8 5,.int .u8 10,.int .u8 9] t frozen|o=>o) <| (fun h=>h.modify 14 fun|.cells _ t frozen=>.cells #[.int .u8 0,.int .u8 1,.int .u8 56,.int .u8 2,.int .u8 57,.int .u8 49,.int .u8 28,.int .u8 3,.int .u8 61,.int .u8 58,.int .u8 42,.int .u8 50,.int .u8 38,.int .u8 29,.int .u8 17,.int .u8 4,.int .u8 62,.int .u8 47,.int .u8 59,.int .u8 36,.int .u8 45,.int .u8 43,.int .u8 51,.int .u8 22,.int .u8 53,.int .u8 39,.int .u8 33,.int .u8 30,.int .u8 24,.int .u8 18,.int .u8 12,.int .u8 5,.int .u8 63,.int .u8 55,.int .u8 48,.int .u8 27,.int .u8 60,.int .u8 41,.int .u8 37,.int .u8 16,.int .u8 46,.int .u8 35,.int .u8 44,.int .u8 21,.int .u8 52,.int .u8 32,.int .u8 23,.int .u8 11,.int .u8 54,.int .u8 26,.int .u8 40,.int .u8 15,.int .u8 34,.int .u8 20,.int .u8 31,.int .u8 10,.int .u8 25,.int .u8 14,.int .u8 19,.int .u8 9,.int .u8 13,.int .u8 8,.int .u8 7,.int .u8 6] t frozen|o=>o) <| (fun h=>h.modify 12 fun|.cells _ t frozen=>.cells #[.int .u64 1,.int .u64 10,.int .u64 100,.int .u64 1000,.int .u64 10000,.int .u64 100000,.int .u64 1000000,.int .u64 10000000,.int .u64 100000000,.int .u64 1000000000,.int .u64 10000000000,.int .u64 100000000000,.int .u64 1000000000000,.int .u64 10000000000000,.int .u64 100000000000000,.int .u64 1000000000000000,.int .u64 10000000000000000,.int .u64 100000000000000000,.int .u64 1000000000000000000,.int .u64 10000000000000000000] t frozen|o=>o) <| (fun h=>h.modify 11 fun|.cells _ t frozen=>.cells #[.int .u8 128,.int .u8 191,.int .u8 160,.int .u8 191,.int .u8 128,.int .u8 159,.int .u8 144,.int .u8 191,.int .u8 128,.int .u8 143,.int .u8 0,.int .u8 0,.int .u8 0,.int .u8 0,.int .u8 0,.int .u8 0,.int .u8 0,.int .u8 0,.int .u8 0,.int .u8 0,.int .u8 0,.int .u8 0,.int .u8 0,.int .u8 0,.int .u8 0,.int .u8 0,.int .u8 0,.int .u8 0,.int .u8 0,.int .u8 0,.int .u8 0,.int .u8 0] t frozen|o=>o) <| (fun h=>h.modify 0 fun|.cells _ t frozen=>.cells #[.int .u8 48,.int .u8 49,.int .u8 50,.int .u8 51,.int .u8 52,.int .u8 53,.int .u8 54,.int .u8 55,.int .u8 56,.int .u8 57,.int .u8 65,.int .u8 66,.int .u8 67,.int .u8 68,.int .u8 69,.int .u8 70] t frozen|o=>o) <| (fun h=>h.modify 7 fun|.cells _ t frozen=>.cells #[.string ⟨#[98]⟩,.string ⟨#[99]⟩,.string ⟨#[100]⟩,.string ⟨#[101]⟩,.string ⟨#[104]⟩,.string ⟨#[108]⟩,.string ⟨#[91,104,108,93]⟩,.string ⟨#[97]⟩] t frozen|o=>o) <| (fun h=>h.modify 6 fun|.cells _ t frozen=>.cells #[.string ⟨#[98,99]⟩,.string ⟨#[100,101]⟩,.string ⟨#[104,108]⟩,.string ⟨#[115,112]⟩] t frozen|o=>o) <| (fun h=>h.modify 1 fun|.cells _ t frozen=>.cells #[.string ⟨#[98,99]⟩,.string ⟨#[100,101]⟩,.string ⟨#[104,108]⟩,.string ⟨#[97,102]⟩] t frozen|o=>o) <| (fun h=>h.modify 5 fun|.cells _ t frozen=>.cells #[.string ⟨#[91,98,99,93]⟩,.string ⟨#[91,100,101,93]⟩,.string ⟨#[91,104,108,43,93]⟩,.string ⟨#[91,104,108,45,93]⟩] t frozen|o=>o) <| (fun h=>h.modify 4 fun|.cells _ t frozen=>.cells #[.string ⟨#[110,122]⟩,.string ⟨#[122]⟩,.string ⟨#[110,99]⟩,.string ⟨#[99]⟩] t frozen|o=>o) <| (fun h=>h.modify 3 fun|.cells _ t frozen=>.cells #[.string ⟨#[97,100,100]⟩,.string ⟨#[97,100,99]⟩,.string ⟨#[115,117,98]⟩,.string ⟨#[115,98,99]⟩,.string ⟨#[97,110,100]⟩,.string ⟨#[120,111,114]⟩,.string ⟨#[111,114]⟩,.string ⟨#[99,112]⟩] t frozen|o=>o) <| (fun h=>h.modify 8 fun|.cells _ t frozen=>.cells #[.string ⟨#[114,108,99]⟩,.string ⟨#[114,114,99]⟩,.string ⟨#[114,108]⟩,.string ⟨#[114,114]⟩,.string ⟨#[115,108,97]⟩,.string ⟨#[115,114,97]⟩,.string ⟨#[115,119,97,112]⟩,.string ⟨#[115,114,108]⟩] t frozen|o=>o) <| (fun h=>h.modify 2 fun|.cells _ t frozen=>.cells #[.string ⟨#[]⟩,.string ⟨#[98,105,116]⟩,.string ⟨#[114,101,115]⟩,.string ⟨#[115,101,116]⟩] t frozen|o=>o) <| (fun h=>h.modify 10 fun|.cells _ t frozen=>.cells ((Go.Pinned.utf8FirstZ).map fun n=>Value.int .u8 (n:Nat)).toArray t frozen|o=>o) <| (World.holding prog os ⟨#[],#[],[]⟩).heap }
theorem aIY (os:Os):laidMet prog Rows.fnExactTraceOfRow.laid ((nV os).forCall (fun _ _=>0) ⟨#[],#[.agg #[.int .i64 0,.int .i64 0,.int .i64 0,.int .i64 0,.int .i64 0,.int .i64 0,.int .i64 0,.int .i64 0,.int .i64 0,.int .i64 0,.bool false,.bool false,.string ByteArray.empty,.int .i64 0,.int .i64 0,.string ByteArray.empty,.int .i64 0,.bool false,.int .i64 0,.string ByteArray.empty,.string ByteArray.empty,.slice none 0 0,.int .i64 0],.int .i64 0],[]⟩).memory :=
 laidMet_of_run' 8 (by kernel_rfl) (by kernel_rfl)
theorem reads (os:Os) {H:Type} (enc:TypeId × Value->H):∃ places,DataW.whole enc prog ((nV os).forCall (fun _ _=>0) ⟨#[],#[.agg #[.int .i64 0,.int .i64 0,.int .i64 0,.int .i64 0,.int .i64 0,.int .i64 0,.int .i64 0,.int .i64 0,.int .i64 0,.int .i64 0,.bool false,.bool false,.string ByteArray.empty,.int .i64 0,.int .i64 0,.string ByteArray.empty,.int .i64 0,.bool false,.int .i64 0,.string ByteArray.empty,.string ByteArray.empty,.slice none 0 0,.int .i64 0],.int .i64 0],[]⟩).memory Tryz.f6.params.toList Rows.fnExactTraceOfSpec.vars false [.agg #[.int .i64 0,.int .i64 0,.int .i64 0,.int .i64 0,.int .i64 0,.int .i64 0,.int .i64 0,.int .i64 0,.int .i64 0,.int .i64 0,.bool false,.bool false,.string ByteArray.empty,.int .i64 0,.int .i64 0,.string ByteArray.empty,.int .i64 0,.bool false,.int .i64 0,.string ByteArray.empty,.string ByteArray.empty,.slice none 0 0,.int .i64 0],.int .i64 0] 8=some ([.agg [.agg [.lit (.int .i64 0),.lit (.int .i64 0),.lit (.int .i64 0),.lit (.int .i64 0),.lit (.int .i64 0),.lit (.int .i64 0),.lit (.int .i64 0),.lit (.int .i64 0),.lit (.int .i64 0),.lit (.int .i64 0),.lit (.bool false),.lit (.bool false)],.agg [.lit (.string []),.lit (.int .i64 0),.lit (.int .i64 0),.lit (.string []),.lit (.int .i64 0),.lit (.bool false),.lit (.int .i64 0)],.lit (.string []),.lit (.string []),.nil,.lit (.int .i64 0)],.lit (.int .i64 0)],[.agg [.lit (.string [98,99]),.lit (.string [100,101]),.lit (.string [104,108]),.lit (.string [97,102])],.agg [.lit (.string []),.lit (.string [98,105,116]),.lit (.string [114,101,115]),.lit (.string [115,101,116])],.agg [.lit (.int .u8 48),.lit (.int .u8 49),.lit (.int .u8 50),.lit (.int .u8 51),.lit (.int .u8 52),.lit (.int .u8 53),.lit (.int .u8 54),.lit (.int .u8 55),.lit (.int .u8 56),.lit (.int .u8 57),.lit (.int .u8 65),.lit (.int .u8 66),.lit (.int .u8 67),.lit (.int .u8 68),.lit (.int .u8 69),.lit (.int .u8 70)],.agg [.lit (.string [97,100,100]),.lit (.string [97,100,99]),.lit (.string [115,117,98]),.lit (.string [115,98,99]),.lit (.string [97,110,100]),.lit (.string [120,111,114]),.lit (.string [111,114]),.lit (.string [99,112])],.agg [.lit (.string [110,122]),.lit (.string [122]),.lit (.string [110,99]),.lit (.string [99])],.agg [.lit (.string [91,98,99,93]),.lit (.string [91,100,101,93]),.lit (.string [91,104,108,43,93]),.lit (.string [91,104,108,45,93])],.agg [.lit (.string [98,99]),.lit (.string [100,101]),.lit (.string [104,108]),.lit (.string [115,112])],.agg [.lit (.string [98]),.lit (.string [99]),.lit (.string [100]),.lit (.string [101]),.lit (.string [104]),.lit (.string [108]),.lit (.string [91,104,108,93]),.lit (.string [97])],.agg [.lit (.string [114,108,99]),.lit (.string [114,114,99]),.lit (.string [114,108]),.lit (.string [114,114]),.lit (.string [115,108,97]),.lit (.string [115,114,97]),.lit (.string [115,119,97,112]),.lit (.string [115,114,108])]],places) :=
 ⟨MemPlace.row ⟨1,0,none⟩ 4 ++ MemPlace.row ⟨2,0,none⟩ 4 ++ MemPlace.row ⟨0,0,none⟩ 16 ++ MemPlace.row ⟨3,0,none⟩ 8 ++ MemPlace.row ⟨4,0,none⟩ 4 ++ MemPlace.row ⟨5,0,none⟩ 4 ++ MemPlace.row ⟨6,0,none⟩ 4 ++ MemPlace.row ⟨7,0,none⟩ 8 ++ MemPlace.row ⟨8,0,none⟩ 8,by kernel_rfl⟩
set_option maxRecDepth 100000 in
theorem lifted (os:Os) (started:os.Started) (H:Type) (enc:TypeId × Value->H) (F:Stop.Interp) :
  ReturnsInHanded {} Tryz.checked os 6 .any ((OpenSpec.ofChange Rows.fnExactTraceOfSpec).preRow enc prog Tryz.f6 Rows.fnExactTraceOfRow.domain false Rows.fnExactTraceOfRow.laid) (((OpenSpec.ofChange Rows.fnExactTraceOfSpec).at F).post enc prog Tryz.f6 false true false false):=by
 obtain ⟨places,hx⟩:=reads os enc;refine returnsInHanded_of_row (C:=Tryz.checked) (s:=OpenSpec.ofChange Rows.fnExactTraceOfSpec) own started (by kernel_rfl) func6
  (witness_row_at (enc:=enc) (C:=Tryz.checked) false (nV os) #[.agg #[.int .i64 0,.int .i64 0,.int .i64 0,.int .i64 0,.int .i64 0,.int .i64 0,.int .i64 0,.int .i64 0,.int .i64 0,.int .i64 0,.bool false,.bool false,.string ByteArray.empty,.int .i64 0,.int .i64 0,.string ByteArray.empty,.int .i64 0,.bool false,.int .i64 0,.string ByteArray.empty,.string ByteArray.empty,.slice none 0 0,.int .i64 0],.int .i64 0] rfl (by kernel_rfl) (by kernel_rfl) (by kernel_rfl)
   (OpenSpec.preRow_of_cond 8 hx (by kernel_rfl) (fun k hk=>by cases hk) (by kernel_rfl) (aIY os))) ?_
 intro W base args ds gs before hval hW _ _ _ hL hsh _;exact aIX H enc W base args ds gs before hval hW hL hsh
theorem f1:(Rows.fnExactTraceOfRow.inPlace == Tryz.pinned.checked.prog.inPlace 6)=true:=by kernel_rfl
theorem f2:(Rows.fnExactTraceOfRow.unfollowed == Tryz.pinned.checked.prog.unfollowed 6)=true:=by kernel_rfl
theorem f3:(Rows.fnExactTraceOfRow.recurses == Tryz.pinned.checked.prog.recurses 6)=true:=by kernel_rfl
theorem f4:(Rows.fnExactTraceOfRow.named == Tryz.pinned.checked.prog.varsNamed 6)=true:=by kernel_rfl
theorem closed:joinedFacts Tryz.pinned.checked.prog 6 Tryz.f6 (OpenSpec.ofChange Rows.fnExactTraceOfSpec).bare Rows.fnExactTraceOfRow=true:=by
 unfold joinedFacts;rw [f1,f2,f3,f4]
 kernel_rfl
theorem said:Rows.FnExactTraceOfSaid :=
 OpenClaim.holds_of_cond 6 Tryz.f6 rfl rfl rfl rfl rfl rfl rfl ⟨rfl,rfl,rfl,rfl,rfl⟩ rfl rfl rfl rfl rfl (by kernel_rfl) func6 closed
  (u7 (by kernel_rfl)) (by unfold Func.isWrapper;first|(rw [if_pos (by decide +kernel)];kernel_rfl)|(rw [if_neg (by decide +kernel)];exact ⟨rfl,rfl⟩))
  (fun os started H enc _ F=>by rw [OpenClaim.pre_eq_preRow];exact lifted os started H enc F)
theorem plain (f:FuncId) (fn:Func) (hf:Tryz.pinned.checked.prog.funcNamed "loop.example/g00460/laws.FnExactTraceOf" = some f) (hfn:Tryz.pinned.checked.prog.funcs[f]? = some fn) :
  true=Tryz.pinned.checked.prog.looks []/\∀ (j:Nat) t,fn.params[j]? = some t->Tryz.pinned.checked.prog.wantsStandIn t=false:=by
 obtain rfl:f=6:=Option.some.inj ((show prog.funcNamed "loop.example/g00460/laws.FnExactTraceOf" = some 6 by kernel_rfl).symm.trans hf) |>.symm
 obtain rfl:fn=Tryz.f6:=(Option.some.inj (func6.symm.trans hfn)).symm;refine ⟨by kernel_rfl,fun j t ht=>?_⟩;rw [Tryz.params6] at ht
 have h:t=51 \/ t=2:=by simpa using Array.mem_of_getElem? ht
 rcases h with rfl|rfl
 ·exact (show prog.wantsStandIn 51=false by kernel_rfl)
 ·exact (show prog.wantsStandIn 2=false by kernel_rfl)
theorem bKV:Rows.FnExactTraceOfCardSaid :=
 Claim7.holds_tied_plain_at .later [] _ _ _ _ said (fun _ h=>by cases h) (by kernel_rfl) (fun _ h=>by cases h) fnExactTraceOf_row_tie rfl ⟨rfl,rfl⟩ (by kernel_rfl) rfl plain (by kernel_rfl)
end Go.Proofs.YteglcgnhhoenbaaGreatDoor.fnExactTraceOf
namespace Go.Proofs.YteglcgnhhoenbaaGreatDoor
theorem fnExactTraceOf_holds:Rows.FnExactTraceOfCardSaid:=fnExactTraceOf.bKV
end Go.Proofs.YteglcgnhhoenbaaGreatDoor
