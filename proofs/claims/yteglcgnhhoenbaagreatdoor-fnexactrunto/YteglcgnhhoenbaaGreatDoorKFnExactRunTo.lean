/- For every machine, stops and number the law FnExactRunTo answers true, that is, impl.RunTo answers as spec.RunTo does, writes into no argument and keeps nothing of one; its answer owns its memory; no condition. -/
import Derived.Test.YteglcgnhhoenbaaGreatDoorCards
import Derived.Test.YteglcgnhhoenbaaGreatDoorTie
import Derived.ChangeOld
import Derived.ChangeVars
import Derived.OpenVars
import Derived.Deep.DeepHandedRow
import Derived.Test.YteglcgnhhoenbaaGreatDoorP42
import Derived.HandedShaped
set_option linter.all false
set_option maxRecDepth 20000
set_option maxHeartbeats 8000000
open Go.ChangeShapes Go.WideShapes Go.ChangeAt Go.RowKit
open Go.Proofs.Tryz
namespace Go.Proofs.YteglcgnhhoenbaaGreatDoor.fnExactRunTo
open Go.ChangeMaps (open_string shut_string)
theorem own:ownKnob prog.godebug=none:=by kernel_rfl
theorem laidOut:laidOutB prog=true:=by kernel_rfl
theorem rowed:varsRowed prog Rows.fnExactRunToSpec.vars=true:=by kernel_rfl
theorem tables {W:World} (h:laidMetH prog Rows.fnExactRunToRow.laid W):Stpi.Tb W:=by
 obtain ⟨q0,L0,_⟩ : laidMet prog Rows.fnExactRunToRow.laid W:=h
 have t0:=Laid.txts (P:=prog) (l:=[[98,99],[100,101],[104,108],[97,102]]) (show prog.globalNamed "loop.example/g00460/impl.stackNames" = some 1 by kernel_rfl) (show (prog.globals[1]?).map (·.type)=some 213 by kernel_rfl) underlying213 underlying9 (by kernel_rfl) (by kernel_rfl) L0
 obtain ⟨q1,L1⟩:=Laid.skip L0
 have t1:=Laid.txts (P:=prog) (l:=[[],[98,105,116],[114,101,115],[115,101,116]]) (show prog.globalNamed "loop.example/g00460/impl.bitNames" = some 2 by kernel_rfl) (show (prog.globals[2]?).map (·.type)=some 213 by kernel_rfl) underlying213 underlying9 (by kernel_rfl) (by kernel_rfl) L1
 obtain ⟨q2,L2⟩:=Laid.skip L1
 exact ⟨fun i hi=>(t0 i hi).trans (by match i,hi with|0,_=>rfl|1,_=>rfl|2,_=>rfl|3,_=>rfl),fun i hi=>(t1 i hi).trans (by match i,hi with|0,_=>rfl|1,_=>rfl|2,_=>rfl|3,_=>rfl)⟩
open Busw Busx Busy Busm Mact Busl
theorem walk (w:World) (ra rf rB rC rD rE rH rL sp pc:Int) (ime hal:Bool) (rom:ByteArray) (kind bank:Int) (ram:ByteArray) (rb:Int) (on:Bool) (mode:Int) (work high:ByteArray) (po:Option Addr) (L:List Int) (cap:Nat) (cyc:Int) (z1:rom.size<=maxLen) (z2:ram.size<=maxLen) (z3:work.size<=maxLen) (z4:high.size<=maxLen) (z5:L.length<=maxLen) (hN:Outs.Row w po L) (a1:Option Addr) (cap1:Nat) (L1:List Stor.X) (w1:Stor.Row 0 w a1 L1) (l1:L1.length<=maxLen) (a2:Int) (w2:(Lit.int .i64 a2).wf=true) (hT:Stpi.Tb w) (hm:HolI.MaxL w) :
  Calls prog 5 #[.agg #[.int .i64 ra,.int .i64 rf,.int .i64 rB,.int .i64 rC,.int .i64 rD,.int .i64 rE,.int .i64 rH,.int .i64 rL,.int .i64 sp,.int .i64 pc,.bool ime,.bool hal,.string rom,.int .i64 kind,.int .i64 bank,.string ram,.int .i64 rb,.bool on,.int .i64 mode,.string work,.string high,.slice po L.length cap,.int .i64 cyc],.slice a1 L1.length cap1,.int .i64 a2] w fun e w'=>e=.returned (.bool true)/\Below w.heap.size w w':=by
 have HJ:Hid (∀ W,Below w.heap.size w W->Stor.Row 0 W a1 L1):=fun W h=>Stor.Row.below w1 h
 clear w1
 obtain ⟨m,hmm⟩ : ∃ m:M,m=⟨ra,rf,rB,rC,rD,rE,rH,rL,sp,pc,ime,hal,rom,kind,bank,ram,rb,on,mode,work,high,L,cyc⟩:=⟨_,rfl⟩
 have hcells:#[.int .i64 ra,.int .i64 rf,.int .i64 rB,.int .i64 rC,.int .i64 rD,.int .i64 rE,.int .i64 rH,.int .i64 rL,.int .i64 sp,.int .i64 pc,.bool ime,.bool hal,.string rom,.int .i64 kind,.int .i64 bank,.string ram,.int .i64 rb,.bool on,.int .i64 mode,.string work,.string high,.slice po L.length cap,.int .i64 cyc]=cellsM m po cap:=by rw [hmm,cells_def]
 have cz:=fun w=>Mach.szMachine_any ra rf rB rC rD rE rH rL sp pc ime hal rom kind bank ram rb on mode work high po L cap cyc w z1 z2 z3 z4 z5
 have hL:m.out=L:=by rw [hmm]
 have H0:Hid (Outs.Row w po m.out):=by show Outs.Row w po m.out;rw [hL];exact hN
 have HSm:Hid (work.size<=1048576->high.size<=1048576->L.length<=1048576->Sm m):=fun h3 h4 h5=>by rw [hmm];exact ⟨z1,z2,h3,h4,h5⟩
 rw [hcells] at cz |-
 clear hcells hN z1 z2 z3 z4 z5 hL hmm
 have hz:=zeroM
 obtain ⟨cZ,hcZ⟩ : ∃ c,c=cellsM Z0 none 0:=⟨_,rfl⟩
 rw [<- hcZ] at hz
 have HZ:Hid (cZ=cellsM Z0 none 0):=hcZ
 clear hcZ
 go_enter func5,ntmps5
 go_upto_region 2 with fail
 refine wp_region_list ?_
 refine wpList_load_row rfl 51 _ rfl w.heap.size rfl _ _ (0,0) _ (heap_alloc_last w _) underlying51 rfl (infoN _ _ _) ?_
 go_wp2_with fail
 refine (cz _).mono ?_
 rintro e w1 ⟨⟨q,rfl,q0,q1,hq⟩,o1,o2,hw1⟩
 clear cz
 have hb1:Below (w.alloc (.cells (cellsM m po cap) 51)).heap.size (w.alloc (.cells (cellsM m po cap) 51)) w1:=by
  rw [hw1]
  exact (by repeat (with_reducible first|exact zRf|refine zGr ?_ _|refine below_drewN ?_ _|refine Below.drew ?_))
 have HB1:Hid (Below (w.alloc (.cells (cellsM m po cap) 51)).heap.size (w.alloc (.cells (cellsM m po cap) 51)) w1):=hb1
 clear hb1 hw1
 by_cases hneg:q<0
 ·go_wp2
  go_ret
  exact ⟨rfl,CartL.after (zAl _ _) HB1.out⟩
 have hq1:=q1
 obtain ⟨s1,s2,s3,s4,s5⟩:=hq (by omega)
 have hs:Sm m:=HSm.out s3 s4 s5
 clear hq q1 s1 s2 s3 s4 s5 HSm
 have HW1:Hid (Below w.heap.size w w1):=CartL.after (zAl _ _) HB1.out
 go_upto_region 5 with fail
 go_wp2_with fail
 refine (Stor.szStopS_any a1 L1.length cap1 q _ l1 (by omega) hq1).mono ?_
 rintro e w1' ⟨rfl,rfl⟩
 by_cases hneg2:q-(L1.length:Int)<0
 ·rw [if_pos hneg2]
  go_wp2
  go_ret
  exact ⟨rfl,HW1.out⟩
 rw [if_neg hneg2]
 have hsm:Stor.Small L1:=⟨by omega,fun _ _=>trivial⟩
 obtain ⟨q',hq'⟩ : ∃ x,x=q-(L1.length:Int):=⟨_,rfl⟩
 rw [<- hq'] at hneg2 |-
 clear hq' hq1 hneg HW1
 have hRl:=Runt.toV_len (hit:=Plac.hitS (Stor.pairs L1)) (len:=L1.length) (n:=a2) hs
 have cs:=fun (p:Option Addr) (c:Nat) (p':Option Addr) (c':Nat) (W:World) (h:Sl W p m.out c) (h':∃ N,Stor.Made N W p' L1)=>Runv.specTo_any (Stor.pairs L1) p' L1.length c' m p c a2 W l1 (Stor.pairs_len _) (h'.elim fun _ h'=>h'.row.stops) hs h
 have ci:=fun (p:Option Addr) (c:Nat) (p':Option Addr) (c':Nat) (W:World) (h:Sl W p m.out c) (hb:Below w.heap.size w W) (h':∃ N,Stor.Made N W p' L1)=>Rtoi.implTo_any (Stor.pairs L1) p' L1.length c' m p c a2 W l1 (Stor.pairs_len _) (h'.elim fun _ h'=>h'.row.stops) hs h (hT.below hb) (hm.below hb)
 have cts:=fun (W:World) (h:Below w.heap.size w W)=>Stor.toXS_any a1 cap1 L1 W (HJ.out W h) hsm
 have cte:=fun (p p':Option Addr) (c c':Nat) (W:World) (h:∃ N,Stor.Made N W p L1) (h':∃ N,Stor.Made N W p' L1)=>Stor.eqXS_any p p' c c' L1 W (h.elim fun _ h=>h.row.mono (Nat.zero_le _)) (h'.elim fun _ h=>h.row.mono (Nat.zero_le _)) hsm
 have hl1:=hsm.1
 clear hsm HJ
 unfold Runt.ToldT at cs ci
 clear hT hm
 have ct:=fun (p:Option Addr) (c:Nat) (W:World) (h:Outs.Row W p m.out)=>toM_any m p c W h hs.out
 have ce:=fun (p p':Option Addr) (c c':Nat) (W:World) (h:Outs.Row W p m.out) (h':Outs.Row W p' m.out)=>eqM_any m p p' c c' W h h' hs.out
 generalize (Runt.toV (Plac.hitS (Stor.pairs L1)) L1.length m a2).1=R at *
 generalize (Runt.toV (Plac.hitS (Stor.pairs L1)) L1.length m a2).2.1=f at *
 generalize (Runt.toV (Plac.hitS (Stor.pairs L1)) L1.length m a2).2.2=st at *
 obtain ⟨sl,hsl⟩ : ∃ n,n=L1.length:=⟨_,rfl⟩
 have HSL:Hid (sl=L1.length/\sl<=1048576):=⟨hsl,by rw [hsl];exact hl1⟩
 rw [<- hsl] at cs ci cts cte |-
 clear hsl hl1 l1
 have cr:=fun (p p':Option Addr) (c c':Nat) (W:World) (h:Outs.Row W p R.out) (h':Outs.Row W p' R.out)=>eqM_any R p p' c c' W h h' hRl
 have HSO:Hid (m.out.length<=1048576/\R.out.length<=1048576):=⟨hs.out,hRl⟩
 clear hs hRl
 have HA:Hid (∀ W',Below (w.alloc (.cells (cellsM m po cap) 51)).heap.size (w.alloc (.cells (cellsM m po cap) 51)) W'->W'.heap[w.heap.size]? = some (.cells (cellsM m po cap) 51)/\Outs.Row W' po m.out):=fun W' h=>⟨by rw [h.block _ (by simp)];exact heap_alloc_last w _,Outs.Row.below H0.out (CartL.after (zAl _ _) h)⟩
 go_upto_region 8 with fail
 refine wp_region_list ?_
 refine wpList_load_row rfl 51 _ rfl w.heap.size rfl _ _ (0,0) _ (HA.out _ HB1.out).1 underlying51 rfl (infoN _ _ _) ?_
 go_wp2_with fail
 refine Calls.mono (ct _ _ _ (HA.out _ HB1.out).2) ?_
 rintro e w2 ⟨B2,hB2,rfl,hx2,hb2⟩
 have HB2:=zHd (CartL.after HB1.out hb2)
 have HX2:Hid (w2.heap[B2]? = some (Outs.rowO m.out)):=hx2
 clear hb2 hx2 hB2 HB1
 go_wp2_with fail
 refine Calls.mono (cts _ (CartL.after (zAl _ _) HB2.out)) ?_
 rintro e w2' ⟨⟨pT,kT,rfl,made2⟩,hb2'⟩
 have HB2:=zHd (CartL.after HB2.out hb2')
 have HX2:Hid (w2'.heap[B2]? = some (Outs.rowO m.out)):=(hb2'.block _ (zLo HX2.out)).trans HX2.out
 have HM2:Hid (∃ N,Stor.Made N w2' pT L1):=⟨_,made2⟩
 clear made2 hb2'
 go_wp2_with fail
 refine Calls.mono (cs _ _ _ _ _ (sl_row HX2.out _) HM2.out) ?_
 rintro e w3 ⟨⟨pS,cS,rfl,own3⟩,hb3⟩
 have HB3:=zHd (CartL.after HB2.out hb3)
 have HO3:Hid (w3.ownsRow w2'.heap.size 2 1 (.slice pS R.out.length cS) R.out.length (outC R.out)):=own3
 clear own3 hb3 HX2 HB2 HM2 cs
 rename_i hK
 refine hK _ _ ?_
 clear hK
 refine wpList_plain rfl (fun K hK=>?_)
 go_simp
 refine hK _ _ ?_
 clear hK
 refine wpList_plain rfl (fun K hK=>?_)
 go_simp
 refine hK _ _ ?_
 clear hK
 refine wpList_plain rfl (fun K hK=>?_)
 go_simp
 refine hK _ _ ?_
 clear hK
 refine wpList_plain rfl (fun K hK=>?_)
 go_simp
 refine hK _ _ ?_
 clear hK
 refine wpList_plain rfl (fun K hK=>?_)
 go_simp
 refine hK _ _ ?_
 clear hK
 refine wpList_store_row rfl 30 _ _ rfl w3.heap.size (cellsM R pS cS) rfl rfl _ _ (heap_alloc_last w3 _) (infoMs _ _ _) (by first|rw [size_M,size_M]|rw [HZ.out,size_M,size_M]) (one_M _ _ _) ?_
 rw [World.setRow_alloc_new]
 obtain ⟨u3,hu3⟩ : ∃ u,u=w3.alloc (.cells (cellsM R pS cS) 30):=⟨_,rfl⟩
 obtain ⟨bs,hbs⟩ : ∃ b,b=w3.heap.size:=⟨_,rfl⟩
 have HBu:Hid (Below (w.alloc (.cells (cellsM m po cap) 51)).heap.size (w.alloc (.cells (cellsM m po cap) 51)) u3):=by show Below _ _ _;rw [hu3];exact zGr HB3.out _
 have HS:Hid (∀ W',Kp u3.heap.size u3 W'->(W'.heap[w.heap.size]? = some (.cells (cellsM m po cap) 51)/\Outs.Row W' po m.out)/\W'.heap[bs]? = some (.cells (cellsM R pS cS) 30)/\Outs.Row W' pS R.out):=fun W' h=>by
  have hA:=HA.out _ HBu.out
  have hlA:w.heap.size<u3.heap.size:=(zLo hA.1)
  refine ⟨⟨(h.2 _ hlA).trans hA.1,row_kp hA.2 h⟩,(h.2 _ (by rw [hu3,hbs];simp)).trans (by rw [hu3,hbs];exact heap_alloc_last w3 _),row_kp (u:=u3) ?_ h⟩
  rw [hu3]
  exact (own_sl HO3.out rfl).row.below (zAl _ _)
 go_upto_region 9 with fail
 rw [<- hu3,<- hbs]
 clear hu3 hbs HB3 HO3 HA
 refine wp_region_list ?_
 refine wpList_load_row rfl 51 _ rfl w.heap.size rfl _ _ (0,0) _ (HS.out _ (Kp.of zRf)).1.1 underlying51 rfl (infoN _ _ _) ?_
 go_wp2_with fail
 refine Calls.mono (ct _ _ _ (HS.out _ (Kp.of zRf)).1.2) ?_
 rintro e w4 ⟨B4,hB4,rfl,hx4,hb4⟩
 have HB4:Hid (Below u3.heap.size u3 w4):=hb4
 have HX4:Hid (w4.heap[B4]? = some (Outs.rowO m.out)):=hx4
 clear hb4 hx4
 rename_i hK
 refine hK _ _ ?_
 clear hK
 refine wpList_plain rfl (fun K hK=>?_)
 go_simp
 refine hK _ _ ?_
 clear hK
 refine wpList_store_row rfl 30 _ _ rfl w4.heap.size (cellsM m (some ⟨B4,0,none⟩) m.out.length) rfl rfl _ _ (heap_alloc_last w4 _) (infoMs _ _ _) (by first|rw [size_M,size_M]|rw [HZ.out,size_M,size_M]) (one_M _ _ _) ?_
 rw [World.setRow_alloc_new]
 obtain ⟨u4,hu4⟩ : ∃ u,u=w4.alloc (.cells (cellsM m (some ⟨B4,0,none⟩) m.out.length) 30):=⟨_,rfl⟩
 obtain ⟨bx,hbx⟩ : ∃ b,b=w4.heap.size:=⟨_,rfl⟩
 have HB4u:Hid (Below u3.heap.size u3 u4):=by show Below _ _ _;rw [hu4];exact zGr HB4.out _
 have HXu:Hid (u4.heap[bx]? = some (.cells (cellsM m (some ⟨B4,0,none⟩) m.out.length) 30)/\u4.heap[B4]? = some (Outs.rowO m.out)):=⟨by rw [hu4,hbx];exact heap_alloc_last w4 _,by rw [hu4,alloc_kept _ _ (zLo HX4.out)];exact HX4.out⟩
 refine wpList_nil ?_
 go_upto_region 10 with fail
 rw [<- hu4,<- hbx]
 clear hu4 hbx HB4 HX4
 go_wp2_with fail
 refine Calls.mono (cts _ (CartL.after (CartL.after (zAl _ _) HBu.out) HB4u.out)) ?_
 rintro e v4 ⟨⟨pX,kX,rfl,made4⟩,hb4'⟩
 have HLX:Hid (∀ p,pX=some p->u3.heap.size<=p.block/\B4<p.block/\p.block<v4.heap.size):=fun p e=>by
  obtain ⟨b,e2,hN,hp⟩:=made4
  rw [e2] at e
  cases e
  exact ⟨Nat.le_trans HB4u.out.size hN,Nat.lt_of_lt_of_le (zLo HXu.out.2) hN,hp.2.2.2⟩
 have HB4v:=zHd (CartL.after HB4u.out hb4')
 have HXv:Hid (v4.heap[bx]? = some (.cells (cellsM m (some ⟨B4,0,none⟩) m.out.length) 30)/\v4.heap[B4]? = some (Outs.rowO m.out)):=⟨(hb4'.block _ (zLo HXu.out.1)).trans HXu.out.1,(hb4'.block _ (zLo HXu.out.2)).trans HXu.out.2⟩
 have HMX:Hid (∃ N,Stor.Made N v4 pX L1):=⟨_,made4⟩
 clear made4 hb4' HB4u HXu
 go_upto_region 11 with fail
 refine wp_region_list ?_
 refine wpList_load_row rfl 30 _ rfl bx rfl _ _ (0,0) _ HXv.out.1 underlying30 rfl (infoMs _ _ _) ?_
 go_wp2_with fail
 refine Calls.mono (ci _ _ _ _ _ (sl_row HXv.out.2 _) (CartL.after (CartL.after (zAl _ _) HBu.out) HB4v.out) HMX.out) ?_
 rintro e w5 ⟨⟨pG,cG,rfl,own5⟩,hb5⟩
 have HB5:Hid (Below v4.heap.size v4 w5):=hb5
 have HO5:Hid (w5.ownsRow v4.heap.size 2 1 (.slice pG R.out.length cG) R.out.length (outC R.out)):=own5
 clear own5 hb5
 rename_i hK
 refine hK _ _ ?_
 clear hK
 refine wpList_plain rfl (fun K hK=>?_)
 go_simp
 refine hK _ _ ?_
 clear hK
 refine wpList_plain rfl (fun K hK=>?_)
 go_simp
 refine hK _ _ ?_
 clear hK
 refine wpList_plain rfl (fun K hK=>?_)
 go_simp
 refine hK _ _ ?_
 clear hK
 refine wpList_plain rfl (fun K hK=>?_)
 go_simp
 refine hK _ _ ?_
 clear hK
 refine wpList_plain rfl (fun K hK=>?_)
 go_simp
 refine hK _ _ ?_
 clear hK
 refine wpList_store_row rfl 30 _ _ rfl w5.heap.size (cellsM R pG cG) rfl rfl _ _ (heap_alloc_last w5 _) (infoMs _ _ _) (by first|rw [size_M,size_M]|rw [HZ.out,size_M,size_M]) (one_M _ _ _) ?_
 rw [World.setRow_alloc_new]
 obtain ⟨u5,hu5⟩ : ∃ u,u=w5.alloc (.cells (cellsM R pG cG) 30):=⟨_,rfl⟩
 obtain ⟨bg,hbg⟩ : ∃ b,b=w5.heap.size:=⟨_,rfl⟩
 have HB5u:Hid (Below v4.heap.size v4 u5):=by show Below _ _ _;rw [hu5];exact zGr HB5.out _
 have HBG:Hid (v4.heap.size<=bg):=by show _<=_;rw [hbg];exact HB5.out.size
 have HGu:Hid (u5.heap[bg]? = some (.cells (cellsM R pG cG) 30)/\u5.ownsRow v4.heap.size 2 1 (.slice pG R.out.length cG) R.out.length (outC R.out)):=⟨by rw [hu5,hbg];exact heap_alloc_last w5 _,by rw [hu5];exact HO5.out.alloc _⟩
 go_upto_region 12 with fail
 rw [<- hu5,<- hbg]
 clear hu5 hbg HB5 HO5
 have HK5:Hid (Kp u3.heap.size u3 u5):=Kp.of (CartL.after HB4v.out HB5u.out)
 refine wp_region_list ?_
 refine wpList_load_row rfl 30 _ rfl bg rfl _ _ (0,0) _ HGu.out.1 underlying30 rfl (infoMs _ _ _) ?_
 refine wpList_load_row rfl 30 _ rfl bs rfl _ _ (0,0) _ (HS.out _ HK5.out).2.1 underlying30 rfl (infoMs _ _ _) ?_
 go_wp2_with fail
 refine Calls.mono (cr _ _ _ _ _ (own_sl HGu.out.2 rfl).row (HS.out _ HK5.out).2.2) ?_
 rintro e w6 ⟨rfl,hb6⟩
 have HB6:Hid (Below u5.heap.size u5 w6):=hb6
 clear hb6
 go_upto_region 14 with fail
 have HX:Hid (∀ W',Below w6.heap.size w6 W'->W'.heap[bx]? = some (.cells (cellsM m (some ⟨B4,0,none⟩) m.out.length) 30)/\W'.heap[B4]? = some (Outs.rowO m.out)):=fun W' h=>by
  have k:=Kp.of (CartL.after HB5u.out (CartL.after HB6.out h))
  exact ⟨(k.2 _ (zLo HXv.out.1)).trans HXv.out.1,(k.2 _ (zLo HXv.out.2)).trans HXv.out.2⟩
 have HS6:Hid (∀ W',Below w6.heap.size w6 W'->Kp u3.heap.size u3 W'):=fun W' h=>(HK5.out.step HB6.out).step h
 have HD:Hid (Below w6.heap.size w6 w6.drew):=zRf.drew
 have HLB:Hid (u3.heap.size<=B4/\B4<v4.heap.size):=⟨hB4,(zLo HXv.out.2)⟩
 have HW:Hid (Below w.heap.size w u3):=CartL.after (zAl _ _) HBu.out
 clear hB4 HXv HBu
 go_cut [72] (fun v wx=>v=.bool false/\Hid (Below w6.heap.size w6 wx))
 case first =>
  refine wp_region_any (by kernel_rfl) ?_
  try (change wpAny _ _ _ _ _ _ _ (World.drew _))
  refine wpAny_ready (rs:=[0,1]) (by kernel_rfl) (by simp) ?_
  refine MachP.any_cons rfl rfl (fun K hK=>?_) (MachP.any_cons rfl rfl (fun K hK=>?_) AllReady.nil)
  ·refine wp_load_row 30 _ rfl bx rfl _ _ (0,0) _ (HX.out _ HD.out).1 underlying30 rfl (infoMs _ _ _) ?_
   refine hK _ _ ?_
   clear hK
   refine wpAny_ready (rs:=[1]) (by kernel_rfl) (by simp) ?_
   refine MachP.any_cons rfl rfl (fun K hK=>?_) AllReady.nil
   refine wp_load_row 51 _ rfl w.heap.size rfl _ _ (0,0) _ (HS.out _ (HS6.out _ HD.out)).1.1 underlying51 rfl (infoN _ _ _) ?_
   refine hK _ _ ?_
   clear hK
   refine wpAny_ready (rs:=[2]) (by kernel_rfl) (by simp) ?_
   refine MachP.any_cons rfl rfl (fun K hK=>?_) AllReady.nil
   go_wp2_with fail
   refine Calls.mono (ct _ _ _ (HS.out _ (HS6.out _ HD.out)).1.2) ?_
   rintro e w7 ⟨B7,hB7,rfl,hx7,hb7⟩
   have HB7:Hid (Below w6.heap.size w6 w7):=HD.out.trans (hb7.mono HD.out.size)
   have HX7:Hid (w7.heap[B7]? = some (Outs.rowO m.out)):=hx7
   clear hb7 hx7 hB7
   refine hK _ _ ?_
   clear hK
   refine wpAny_ready (rs:=[3]) (by kernel_rfl) (by simp) ?_
   refine MachP.any_cons rfl rfl (fun K hK=>?_) AllReady.nil
   go_wp2_with fail
   refine Calls.mono (ce _ _ _ _ _ (sl_row (HX.out _ HB7.out).2 0).row (sl_row HX7.out 0).row) ?_
   rintro e w8 ⟨rfl,hb8⟩
   have HB8:=zHd (CartL.after HB7.out hb8)
   clear hb8 HX7 HB7 ce
   refine hK _ _ ?_
   clear hK
   refine wpAny_ready (rs:=[4]) (by kernel_rfl) (by simp) ?_
   refine MachP.any_cons rfl rfl (fun K hK=>?_) AllReady.nil
   go_simp
   refine hK _ _ ?_
   clear hK
   refine wpAny_done (by kernel_rfl) ?_ _
   go_wp2_with fail
   go_meet
   exact ⟨rfl,HB8.out⟩
  ·refine wp_load_row 51 _ rfl w.heap.size rfl _ _ (0,0) _ (HS.out _ (HS6.out _ HD.out)).1.1 underlying51 rfl (infoN _ _ _) ?_
   refine hK _ _ ?_
   clear hK
   refine wpAny_ready (rs:=[0,2]) (by kernel_rfl) (by simp) ?_
   refine MachP.any_cons rfl rfl (fun K hK=>?_) (MachP.any_cons rfl rfl (fun K hK=>?_) AllReady.nil)
   ·refine wp_load_row 30 _ rfl bx rfl _ _ (0,0) _ (HX.out _ HD.out).1 underlying30 rfl (infoMs _ _ _) ?_
    refine hK _ _ ?_
    clear hK
    refine wpAny_ready (rs:=[2]) (by kernel_rfl) (by simp) ?_
    refine MachP.any_cons rfl rfl (fun K hK=>?_) AllReady.nil
    go_wp2_with fail
    refine Calls.mono (ct _ _ _ (HS.out _ (HS6.out _ HD.out)).1.2) ?_
    rintro e w7 ⟨B7,hB7,rfl,hx7,hb7⟩
    have HB7:Hid (Below w6.heap.size w6 w7):=HD.out.trans (hb7.mono HD.out.size)
    have HX7:Hid (w7.heap[B7]? = some (Outs.rowO m.out)):=hx7
    clear hb7 hx7 hB7
    refine hK _ _ ?_
    clear hK
    refine wpAny_ready (rs:=[3]) (by kernel_rfl) (by simp) ?_
    refine MachP.any_cons rfl rfl (fun K hK=>?_) AllReady.nil
    go_wp2_with fail
    refine Calls.mono (ce _ _ _ _ _ (sl_row (HX.out _ HB7.out).2 0).row (sl_row HX7.out 0).row) ?_
    rintro e w8 ⟨rfl,hb8⟩
    have HB8:=zHd (CartL.after HB7.out hb8)
    clear hb8 HX7 HB7 ce
    refine hK _ _ ?_
    clear hK
    refine wpAny_ready (rs:=[4]) (by kernel_rfl) (by simp) ?_
    refine MachP.any_cons rfl rfl (fun K hK=>?_) AllReady.nil
    go_simp
    refine hK _ _ ?_
    clear hK
    refine wpAny_done (by kernel_rfl) ?_ _
    go_wp2_with fail
    go_meet
    exact ⟨rfl,HB8.out⟩
   ·go_wp2_with fail
    refine Calls.mono (ct _ _ _ (HS.out _ (HS6.out _ HD.out)).1.2) ?_
    rintro e w7 ⟨B7,hB7,rfl,hx7,hb7⟩
    have HB7:Hid (Below w6.heap.size w6 w7):=HD.out.trans (hb7.mono HD.out.size)
    have HX7:Hid (w7.heap[B7]? = some (Outs.rowO m.out)):=hx7
    clear hb7 hx7 hB7
    refine hK _ _ ?_
    clear hK
    refine wpAny_ready (rs:=[0]) (by kernel_rfl) (by simp) ?_
    refine MachP.any_cons rfl rfl (fun K hK=>?_) AllReady.nil
    refine wp_load_row 30 _ rfl bx rfl _ _ (0,0) _ (HX.out _ HB7.out).1 underlying30 rfl (infoMs _ _ _) ?_
    refine hK _ _ ?_
    clear hK
    refine wpAny_ready (rs:=[3]) (by kernel_rfl) (by simp) ?_
    refine MachP.any_cons rfl rfl (fun K hK=>?_) AllReady.nil
    go_wp2_with fail
    refine Calls.mono (ce _ _ _ _ _ (sl_row (HX.out _ HB7.out).2 0).row (sl_row HX7.out 0).row) ?_
    rintro e w8 ⟨rfl,hb8⟩
    have HB8:=zHd (CartL.after HB7.out hb8)
    clear hb8 HX7 HB7 ce
    refine hK _ _ ?_
    clear hK
    refine wpAny_ready (rs:=[4]) (by kernel_rfl) (by simp) ?_
    refine MachP.any_cons rfl rfl (fun K hK=>?_) AllReady.nil
    go_simp
    refine hK _ _ ?_
    clear hK
    refine wpAny_done (by kernel_rfl) ?_ _
    go_wp2_with fail
    go_meet
    exact ⟨rfl,HB8.out⟩
 case rest =>
 obtain ⟨rfl,HB8⟩:=hcut
 rename World=>w8
 clear ce
 have HM8:Hid (∃ N,Stor.Made N w8 pX L1):=HMX.out.elim fun N h=>⟨N,h.below (CartL.after HB5u.out (CartL.after HB6.out HB8.out))⟩
 have HW8:Hid (Below w.heap.size w w8):=CartL.after (CartL.after HW.out (CartL.after HB4v.out HB5u.out)) (CartL.after HB6.out HB8.out)
 go_upto_region 16 with fail
 go_wp2_with fail
 refine Calls.mono (cts _ HW8.out) ?_
 rintro e w8' ⟨⟨pY,kY,rfl,made8⟩,hb8'⟩
 have HB8:=zHd (CartL.after HB8.out hb8')
 have HM8:Hid ((∃ N,Stor.Made N w8' pX L1)/\∃ N,Stor.Made N w8' pY L1):=⟨HM8.out.elim fun N h=>⟨N,h.below hb8'⟩,_,made8⟩
 clear made8 hb8' HW8
 go_wp2_with fail
 refine Calls.mono (cte _ _ _ _ _ HM8.out.1 HM8.out.2) ?_
 rintro e v8 ⟨rfl,hb8⟩
 have HB8:=zHd (CartL.after HB8.out hb8)
 have HO8:Hid (Stor.OpenS v8 pX sl):=by show Stor.OpenS _ _ _;rw [HSL.out.1];exact HM8.out.1.elim fun N h=>(h.below hb8).opened
 clear hb8 HM8 HMX cte
 go_upto_region 19 with fail
 refine wp_region_list ?_
 refine wpList_load_row rfl 30 _ rfl bx rfl _ _ (0,0) _ (HX.out _ HB8.out).1 underlying30 rfl (infoMs _ _ _) ?_
 go_wp2_with fail
 refine Calls.mono (markMachine_any m _ _ v8 (open_row (HX.out _ HB8.out).2).1 HSO.out.1) ?_
 rintro e w9 ⟨rfl,o9,hm9⟩
 have K9:Hid (Kp u3.heap.size u3 w9):=kp_mid (HS6.out _ HB8.out) hm9 (fun p e=>by cases e;exact HLB.out.1)
 have B58:=CartL.after HB6.out HB8.out
 have own8:=own_stay HGu.out.2 B58
 have box8:v8.heap[bg]? = some (.cells (cellsM R pG cG) 30):=(B58.block _ (zLo HGu.out.1)).trans HGu.out.1
 have O9:Hid (w9.ownsRow v4.heap.size 2 1 (.slice pG R.out.length cG) R.out.length (outC R.out)):=own_mid own8 hm9 HLB.out.2
 have G9:Hid (w9.heap[bg]? = some (.cells (cellsM R pG cG) 30)):=(blk_mid hm9 (zLo box8) (fun p e=>by cases e;have:=HBG.out;have:=HLB.out.2;show B4 ≠ bg;omega)).trans box8
 have V9:Hid (Below w.heap.size w w9):=below_mid (CartL.after (CartL.after HW.out (CartL.after HB4v.out HB5u.out)) B58) hm9 (fun p e=>by cases e;exact Nat.le_trans HW.out.size HLB.out.1)
 have O9':Hid (Stor.OpenS w9 pX sl):=HO8.out.same (fun p e=>blk_mid hm9 (by obtain ⟨h1,h2,h3⟩:=HLX.out p e;have:=HB5u.out.size;have:=B58.size;omega) (fun q e2=>by cases e2;have:=(HLX.out p e).2.1;show B4 ≠ p.block;omega)) (by rw [hm9.size];simp)
 clear hm9 B58 own8 box8 HX HB8 HO8
 go_upto_region 20 with fail
 go_wp2_with fail
 refine Calls.mono (Stor.markStopS_any pX sl kX (1+(m.out.length:Int)) w9 O9'.out HSL.out.2 (by omega) (by have:=HSO.out.1;omega)) ?_
 rintro e v9 ⟨rfl,hg9,hz9⟩
 have hne:∀ k,(∀ p,pX=some p->k ≠ p.block)->pX.map (·.block) ≠ some k:=fun k h e2=>by
  cases hp:pX with
  | none=>rw [hp] at e2;cases e2
  | some p=>rw [hp] at e2;exact h p hp (Option.some.inj e2).symm
 have K9:Hid (Kp u3.heap.size u3 v9):=⟨by rw [hz9];exact K9.out.1,fun k hk=>(hg9.block k (Nat.lt_of_lt_of_le hk K9.out.1) (fun e2=>hne k (fun p e=>by have:=(HLX.out p e).1;omega) e2.symm)).trans (K9.out.2 k hk)⟩
 have G9:Hid (v9.heap[bg]? = some (.cells (cellsM R pG cG) 30)):=(hg9.block bg (zLo G9.out) (fun e2=>hne bg (fun p e=>by have:=(HLX.out p e).2.2;have:=HBG.out;omega) e2.symm)).trans G9.out
 have O9:Hid (v9.ownsRow v4.heap.size 2 1 (.slice pG R.out.length cG) R.out.length (outC R.out)):=O9.out.kept hg9 (by
  cases hp:pX with
  | none =>
   cases pG with
   | none=>exact .inl rfl
   | some q=>exact .inr (by intro e;cases e)
  | some p =>
   refine .inr (fun e2=>?_)
   have h1:=(HLX.out p hp).2.2
   rw [blk_own] at e2
   cases hq:pG with
   | none=>rw [hq] at e2;cases e2
   | some q=>rw [hq] at e2;have h2:=own_at O9.out q hq;have h3:q.block=p.block:=Option.some.inj e2;omega)
 have V9:Hid (Below w.heap.size w v9):=⟨hg9.os.trans V9.out.os,hg9.tape.trans V9.out.tape,hg9.output.trans V9.out.output,by rw [hz9];exact V9.out.size,fun k hk=>(hg9.block k (Nat.lt_of_lt_of_le hk V9.out.size) (fun e2=>hne k (fun p e=>by have:=(HLX.out p e).1;have:=HW.out.size;omega) e2.symm)).trans (V9.out.block k hk)⟩
 clear hg9 hz9 hne O9'
 obtain ⟨kx,hkx⟩ : ∃ k:Int,k=1+(m.out.length:Int)+2*(sl:Int):=⟨_,rfl⟩
 have kd:decide (kx<0)=false:=by rw [hkx];simp;omega
 rw [<- hkx]
 clear hkx
 go_upto_region 21 with fail
 refine wp_region_list ?_
 refine wpList_plain rfl (fun K hK=>?_)
 go_simp
 refine hK _ _ ?_
 clear hK
 refine wpList_plain rfl (fun K hK=>?_)
 go_simp
 refine hK _ _ ?_
 clear hK
 try rw [kd]
 refine wpList_plain rfl (fun K hK=>?_)
 go_simp
 refine hK _ _ ?_
 clear hK
 refine wpList_step fun K hK=>?_
 rw [if_pos (by rfl)]
 refine wp_load_row 30 _ rfl bg rfl _ _ (0,0) _ G9.out underlying30 rfl (infoMs _ _ _) ?_
 refine hK _ _ ?_
 clear hK
 refine wpList_step fun K hK=>?_
 rw [if_pos (by rfl)]
 refine wp_load_row 30 _ rfl bs rfl _ _ (0,0) _ (HS.out _ K9.out).2.1 underlying30 rfl (infoMs _ _ _) ?_
 refine hK _ _ ?_
 clear hK
 go_wp2_with fail
 refine Calls.mono (cr _ _ _ _ _ (own_sl O9.out rfl).row (HS.out _ K9.out).2.2) ?_
 rintro e w10 ⟨rfl,hb10⟩
 have own10:=own_stay O9.out hb10
 have box10:w10.heap[bg]? = some (.cells (cellsM R pG cG) 30):=(hb10.block _ (zLo G9.out)).trans G9.out
 have O10:Hid (w10.ownsRow v4.heap.size 2 1 (.slice pG R.out.length cG) R.out.length (outC R.out)):=own10
 have G10:Hid (w10.heap[bg]? = some (.cells (cellsM R pG cG) 30)):=box10
 have K10:Hid (Kp u3.heap.size u3 w10):=K9.out.step hb10
 have V10:=zHd (CartL.after V9.out hb10)
 clear hb10 own10 box10 O9 G9 K9 V9 kd
 go_upto_region 24 with fail
 refine wp_region_list ?_
 refine wpList_load_row rfl 30 _ rfl bg rfl _ _ (0,0) _ G10.out underlying30 rfl (infoMs _ _ _) ?_
 go_wp2_with fail
 refine Calls.mono (markMachine_any R _ _ w10 (open_own O10.out rfl) HSO.out.2) ?_
 rintro e w11 ⟨rfl,o11,hm11⟩
 have hat:=own_at O10.out
 have h34:=CartL.after HW.out HB4v.out
 have K11:Hid (Kp u3.heap.size u3 w11):=kp_mid K10.out hm11 (fun p e=>Nat.le_trans HB4v.out.size (hat p e))
 have G11:Hid (w11.heap[bg]? = some (.cells (cellsM R pG cG) 30)):=(blk_mid hm11 (zLo G10.out) (row_box O10.out G10.out)).trans G10.out
 have V11:Hid (Below w.heap.size w w11):=below_mid V10.out hm11 (fun p e=>Nat.le_trans h34.size (hat p e))
 have I11:Hid (Is w11 pG R.out.length (fun i=>1+i)):=hm11.done
 clear hm11 hat h34 O10 G10 K10 V10
 obtain ⟨ky,hky⟩ : ∃ k:Int,k=1+(R.out.length:Int):=⟨_,rfl⟩
 have HKY:Hid (ky=1+(R.out.length:Int)):=hky
 have ky0:¬ ky<0:=by rw [hky];omega
 rw [<- hky]
 clear hky
 have ch:=fun (W:World) (h:Is W pG R.out.length (fun i=>1+i))=>heldMachine_any R pG cG W h HSO.out.2
 rw [<- HKY.out] at ch
 go_upto_region 26 with fail
 refine wp_region_list ?_
 refine wpList_load_row rfl 30 _ rfl bg rfl _ _ (0,0) _ G11.out underlying30 rfl (infoMs _ _ _) ?_
 go_wp2_with fail
 refine Calls.mono (ch _ I11.out) ?_
 rintro e w12 ⟨rfl,o12,hw12⟩
 have hb12:Below w11.heap.size w11 w12:=by rw [hw12];exact zAl _ _
 have B12:Hid (Below w11.heap.size w11 w12):=hb12
 clear hb12 hw12
 go_upto_region 31 with fail
 refine wp_region_list ?_
 refine wpList_load_row rfl 51 _ rfl w.heap.size rfl _ _ (0,0) _ (HS.out _ (K11.out.step B12.out)).1.1 underlying51 rfl (infoN _ _ _) ?_
 go_wp2_with fail
 refine Calls.mono (ct _ _ _ (HS.out _ (K11.out.step B12.out)).1.2) ?_
 rintro e w13 ⟨B13,hB13,rfl,hx13,hb13⟩
 have B1:=zHd (CartL.after B12.out hb13)
 have HX13:Hid (w13.heap[B13]? = some (Outs.rowO m.out)):=hx13
 clear hb13 hx13 hB13 B12
 go_wp2_with fail
 refine Calls.mono (cts _ (CartL.after V11.out B1.out)) ?_
 rintro e v13 ⟨⟨pZ,kZ,rfl,made13⟩,hb13⟩
 have B1:=zHd (CartL.after B1.out hb13)
 have HX13:Hid (v13.heap[B13]? = some (Outs.rowO m.out)):=(hb13.block _ (zLo HX13.out)).trans HX13.out
 have HMZ:Hid (∃ N,Stor.Made N v13 pZ L1):=⟨_,made13⟩
 clear made13 hb13
 go_wp2_with fail
 refine Calls.mono (ci _ _ _ _ _ (sl_row HX13.out _) (CartL.after V11.out B1.out) HMZ.out) ?_
 rintro e w14 ⟨⟨pH,cH,rfl,own14⟩,hb14⟩
 have B14:=zHd (CartL.after B1.out hb14)
 have O14:Hid (w14.ownsRow v13.heap.size 2 1 (.slice pH R.out.length cH) R.out.length (outC R.out)):=own14
 clear hb14 own14 HX13 B1
 rename_i hK
 refine hK _ _ ?_
 clear hK
 refine wpList_plain rfl (fun K hK=>?_)
 go_simp
 refine hK _ _ ?_
 clear hK
 refine wpList_plain rfl (fun K hK=>?_)
 go_simp
 refine hK _ _ ?_
 clear hK
 refine wpList_plain rfl (fun K hK=>?_)
 go_simp
 refine hK _ _ ?_
 clear hK
 refine wpList_plain rfl (fun K hK=>?_)
 go_simp
 refine hK _ _ ?_
 clear hK
 refine wpList_plain rfl (fun K hK=>?_)
 go_simp
 refine hK _ _ ?_
 clear hK
 refine wpList_store_row rfl 30 _ _ rfl w14.heap.size (cellsM R pH cH) rfl rfl _ _ (heap_alloc_last w14 _) (infoMs _ _ _) (by first|rw [size_M,size_M]|rw [HZ.out,size_M,size_M]) (one_M _ _ _) ?_
 rw [World.setRow_alloc_new]
 have B15:Hid (Below w11.heap.size w11 (w14.alloc (.cells (cellsM R pH cH) 30))):=zGr B14.out _
 have O15:Hid ((w14.alloc (.cells (cellsM R pH cH) 30)).ownsRow v13.heap.size 2 1 (.slice pH R.out.length cH) R.out.length (outC R.out)):=O14.out.alloc _
 go_upto_region 32 with fail
 refine wp_region_list ?_
 refine wpList_load_row rfl 30 _ rfl w14.heap.size rfl _ _ (0,0) _ (heap_alloc_last w14 _) underlying30 rfl (infoMs _ _ _) ?_
 refine wpList_load_row rfl 30 _ rfl bs rfl _ _ (0,0) _ (HS.out _ (K11.out.step B15.out)).2.1 underlying30 rfl (infoMs _ _ _) ?_
 go_wp2_with fail
 refine Calls.mono (cr _ _ _ _ _ (own_sl O15.out rfl).row (HS.out _ (K11.out.step B15.out)).2.2) ?_
 rintro e w16 ⟨rfl,hb16⟩
 have B16:=zHd (CartL.after B15.out hb16)
 clear hb16 O14 O15 B14 B15
 have G16:Hid (w16.heap[bg]? = some (.cells (cellsM R pG cG) 30)):=(B16.out.block _ (zLo G11.out)).trans G11.out
 go_upto_region 35 with fail
 refine wp_region_list ?_
 refine wpList_load_row rfl 30 _ rfl bg rfl _ _ (0,0) _ G16.out underlying30 rfl (infoMs _ _ _) ?_
 go_wp2_with fail
 refine Calls.mono (ch _ (is_below I11.out B16.out)) ?_
 rintro e w17 ⟨rfl,o17,hw17⟩
 have V17:Hid (Below w.heap.size w w17):=by show Below _ _ _;rw [hw17];exact zGr (CartL.after V11.out B16.out) _
 clear hw17
 go_wp2
 go_ret
 exact ⟨rfl,V17.out⟩
set_option maxRecDepth 100000 in
theorem contract (H:Type) (enc:TypeId × Value->H) (W:World) (base:Nat) (args:Array Value) (ds gs:List (DataW H)) (before:List MemPlace)
  (hval:∀ (j:Nat) t v,Tryz.f5.params[j]? = some t->args[j]? = some v->Value.okWide prog W .any base t v)
  (hW:DataW.Whole enc prog Tryz.f5.params.toList Rows.fnExactRunToSpec.vars false W args.toList ds gs before) (hL:laidMetH prog Rows.fnExactRunToRow.laid W) (hsh:W.ShapedOpen prog) :
  Calls prog 5 args W fun e W'=>∃ v,e=.returned v/\Rows.fnExactRunToSpec.post enc prog Tryz.f5 false true false false W args v W':=by
 have hW':=hW
 obtain ⟨p,q,hA0,hV,hbef,hfz,hnd⟩:=hW
 have hA:DataW.TrodAll enc prog W 0 (fun _=>true) true Tryz.f5.params.toList args.toList ds p:=hA0
 have hVk:DataW.TrodVars enc prog W (fun _=>true) Rows.fnExactRunToSpec.vars gs q:=hV
 rw [Tryz.params5] at hA hval
 obtain ⟨v0,vs0,d0,ds0,p0,q0,hargs,rfl,rfl,h0,r0⟩:=trodAll_cons hA
 obtain ⟨v1,vs1,d1,ds1,p1,q1,rfl,rfl,rfl,h1,r1⟩:=trodAll_cons r0
 obtain ⟨v2,vs2,d2,ds2,p2,q2,rfl,rfl,rfl,h2,r2⟩:=trodAll_cons r1
 obtain ⟨rfl,rfl,rfl⟩:=trodAll_nil r2
 obtain rfl:args=#[v0,v1,v2]:=by cases args;simp_all
 obtain ⟨g1,g2,rfl⟩ : ∃ g1 g2,gs=[g1,g2]:=by
  have hl:=Laid.vars_len hVk
  match gs,hl with
  | [g1,g2],_=>exact ⟨_,_,rfl⟩
 obtain ⟨cs0,rfl,_⟩:=okWide_struct underlying51 (hval 0 51 v0 rfl rfl)
 have kk0:=h0
 have lt0:∀ x ∈ p0,x.block<W.heap.size:=by obtain ⟨m,hm⟩:=kk0;exact DataW.trod_lt m _ _ _ hm
 obtain ⟨ra,rf,rB,rC,rD,rE,rH,rL,sp,pc,ime,hal,rom,kind,bank,ram,rb,on,mode,work,high,po,L,cap,cyc,e0,z1,z2,z3,z4,z5,hN⟩ : ∃ (ra rf rB rC rD rE rH rL sp pc:Int) (ime hal:Bool) (rom:ByteArray) (kind bank:Int) (ram:ByteArray) (rb:Int) (on:Bool) (mode:Int) (work high:ByteArray) (po:Option Addr) (L:List Int) (cap:Nat) (cyc:Int),cs0=#[.int .i64 ra,.int .i64 rf,.int .i64 rB,.int .i64 rC,.int .i64 rD,.int .i64 rE,.int .i64 rH,.int .i64 rL,.int .i64 sp,.int .i64 pc,.bool ime,.bool hal,.string rom,.int .i64 kind,.int .i64 bank,.string ram,.int .i64 rb,.bool on,.int .i64 mode,.string work,.string high,.slice po L.length cap,.int .i64 cyc]/\rom.size<=maxLen/\ram.size<=maxLen/\work.size<=maxLen/\high.size<=maxLen/\L.length<=maxLen/\Outs.Row W po L:=by
  obtain ⟨fuel,hf⟩:=h0
  obtain ⟨ra,rf,rB,rC,rD,rE,rH,rL,sp,pc,ime,hal,rom,kind,bank,ram,rb,on,mode,work,high,po,L,cap,cyc,hcs,q1,q2,q3,q4,q5,q6⟩:=MachP.machine_of hf
  simp [Value.cells] at hcs
  exact ⟨ra,rf,rB,rC,rD,rE,rH,rL,sp,pc,ime,hal,rom,kind,bank,ram,rb,on,mode,work,high,po,L,cap,cyc,by cases cs0;simp_all,q1,q2,q3,q4,q5,q6⟩
 subst e0
 obtain ⟨a1,len1,cap1,rfl⟩:=okWide_slice underlying52 (hval 1 52 v1 rfl rfl)
 have k1:=h1
 have lt1:∀ x ∈ p1,x.block<W.heap.size:=by obtain ⟨m,hm⟩:=k1;exact DataW.trod_lt m _ _ _ hm
 obtain ⟨L1,e1,l1,w1⟩ : ∃ L:List Stor.X,L.length=len1/\L.length<=maxLen/\Stor.Row 0 W a1 L:=by
  obtain ⟨fuel,hf⟩:=h1
  obtain ⟨a,len,cap,L,hcs,h1,h2,h3⟩:=Stor.row_of hf
  simp [Value.cells] at hcs
  obtain ⟨rfl,rfl,rfl⟩:=hcs
  exact ⟨L,h1,by rw [h1];exact h2,h3⟩
 subst e1
 obtain ⟨a2,rfl,rfl,rfl,w2⟩:=open_int underlying2 (hval 2 2 v2 rfl rfl) h2
 clear hA0
 refine (walk W ra rf rB rC rD rE rH rL sp pc ime hal rom kind bank ram rb on mode work high po L cap cyc z1 z2 z3 z4 z5 hN a1 cap1 L1 w1 l1 a2 w2 (tables hL) (Tryz.laysM144.s1_3 W hsh)).mono fun e W' ⟨he,bel⟩=>?_
 subst he
 exact ⟨_,rfl,_,_,_,[],_,q,hW',trodAll_mk1 (shut_bool underlying4 _),(trodAll_cons_mk (Below.trod laidOut (by kernel_rfl) (of_decide_eq_true (by kernel_rfl)) kk0 bel lt0) (trodAll_cons_mk (Below.trod laidOut (by kernel_rfl) (of_decide_eq_true (by kernel_rfl)) k1 bel lt1) (trodAll_cons_mk (shut_int underlying2 w2) trodAll_mk0))),Below.trodVars laidOut bel rowed hVk,bel.frame _,fun h=>by cases h⟩
noncomputable def laidWorld (os:Os):World :=
 { World.holding prog os ⟨#[],#[],[]⟩ with heap:=(fun h=>h.modify 1 fun|.cells _ t frozen=>.cells #[.string ⟨#[98,99]⟩,.string ⟨#[100,101]⟩,.string ⟨#[104,108]⟩,.string ⟨#[97,102]⟩] t frozen|o=>o) <| (fun h=>h.modify 2 fun|.cells _ t frozen=>.cells #[.string ⟨#[]⟩,.string ⟨#[98,105,116]⟩,.string ⟨#[114,101,115]⟩,.string ⟨#[115,101,116]⟩] t frozen|o=>o) <| (World.holding prog os ⟨#[],#[],[]⟩).heap }
theorem laid_met (os:Os):laidMet prog Rows.fnExactRunToRow.laid ((laidWorld os).forCall (fun _ _=>0) ⟨#[],#[.agg #[.int .i64 0,.int .i64 0,.int .i64 0,.int .i64 0,.int .i64 0,.int .i64 0,.int .i64 0,.int .i64 0,.int .i64 0,.int .i64 0,.bool false,.bool false,.string ByteArray.empty,.int .i64 0,.int .i64 0,.string ByteArray.empty,.int .i64 0,.bool false,.int .i64 0,.string ByteArray.empty,.string ByteArray.empty,.slice none 0 0,.int .i64 0],.slice none 0 0,.int .i64 0],[]⟩).memory :=
 laidMet_of_run' 8 (by kernel_rfl) (by kernel_rfl)
theorem reads (os:Os) {H:Type} (enc:TypeId × Value->H):∃ places,DataW.whole enc prog ((laidWorld os).forCall (fun _ _=>0) ⟨#[],#[.agg #[.int .i64 0,.int .i64 0,.int .i64 0,.int .i64 0,.int .i64 0,.int .i64 0,.int .i64 0,.int .i64 0,.int .i64 0,.int .i64 0,.bool false,.bool false,.string ByteArray.empty,.int .i64 0,.int .i64 0,.string ByteArray.empty,.int .i64 0,.bool false,.int .i64 0,.string ByteArray.empty,.string ByteArray.empty,.slice none 0 0,.int .i64 0],.slice none 0 0,.int .i64 0],[]⟩).memory Tryz.f5.params.toList Rows.fnExactRunToSpec.vars false [.agg #[.int .i64 0,.int .i64 0,.int .i64 0,.int .i64 0,.int .i64 0,.int .i64 0,.int .i64 0,.int .i64 0,.int .i64 0,.int .i64 0,.bool false,.bool false,.string ByteArray.empty,.int .i64 0,.int .i64 0,.string ByteArray.empty,.int .i64 0,.bool false,.int .i64 0,.string ByteArray.empty,.string ByteArray.empty,.slice none 0 0,.int .i64 0],.slice none 0 0,.int .i64 0] 8=some ([.agg [.agg [.lit (.int .i64 0),.lit (.int .i64 0),.lit (.int .i64 0),.lit (.int .i64 0),.lit (.int .i64 0),.lit (.int .i64 0),.lit (.int .i64 0),.lit (.int .i64 0),.lit (.int .i64 0),.lit (.int .i64 0),.lit (.bool false),.lit (.bool false)],.agg [.lit (.string []),.lit (.int .i64 0),.lit (.int .i64 0),.lit (.string []),.lit (.int .i64 0),.lit (.bool false),.lit (.int .i64 0)],.lit (.string []),.lit (.string []),.nil,.lit (.int .i64 0)],.nil,.lit (.int .i64 0)],[.agg [.lit (.string [98,99]),.lit (.string [100,101]),.lit (.string [104,108]),.lit (.string [97,102])],.agg [.lit (.string []),.lit (.string [98,105,116]),.lit (.string [114,101,115]),.lit (.string [115,101,116])]],places) :=
 ⟨MemPlace.row ⟨1,0,none⟩ 4 ++ MemPlace.row ⟨2,0,none⟩ 4,by kernel_rfl⟩
set_option maxRecDepth 100000 in
theorem lifted (os:Os) (started:os.Started) (H:Type) (enc:TypeId × Value->H) (F:Stop.Interp) :
  ReturnsInHanded {} Tryz.checked os 5 .any ((OpenSpec.ofChange Rows.fnExactRunToSpec).preRow enc prog Tryz.f5 Rows.fnExactRunToRow.domain false Rows.fnExactRunToRow.laid) (((OpenSpec.ofChange Rows.fnExactRunToSpec).at F).post enc prog Tryz.f5 false true false false):=by
 obtain ⟨places,hx⟩:=reads os enc
 refine returnsInHanded_of_row (C:=Tryz.checked) (s:=OpenSpec.ofChange Rows.fnExactRunToSpec) own started (by kernel_rfl) func5
  (witness_row_at (enc:=enc) (C:=Tryz.checked) false (laidWorld os) #[.agg #[.int .i64 0,.int .i64 0,.int .i64 0,.int .i64 0,.int .i64 0,.int .i64 0,.int .i64 0,.int .i64 0,.int .i64 0,.int .i64 0,.bool false,.bool false,.string ByteArray.empty,.int .i64 0,.int .i64 0,.string ByteArray.empty,.int .i64 0,.bool false,.int .i64 0,.string ByteArray.empty,.string ByteArray.empty,.slice none 0 0,.int .i64 0],.slice none 0 0,.int .i64 0] rfl (by kernel_rfl) (by kernel_rfl) (by kernel_rfl)
   (OpenSpec.preRow_of_cond 8 hx (by kernel_rfl) (fun k hk=>by cases hk) (by kernel_rfl) (laid_met os))) ?_
 intro W base args ds gs before hval hW _ _ _ hL hsh _
 exact contract H enc W base args ds gs before hval hW hL hsh
theorem said:Rows.FnExactRunToSaid :=
 OpenClaim.holds_of_cond 5 Tryz.f5 rfl rfl rfl rfl rfl rfl rfl ⟨rfl,rfl,rfl,rfl,rfl⟩ rfl rfl rfl rfl rfl (by kernel_rfl) func5 (by kernel_rfl)
  (of_decide_eq_true (by kernel_rfl)) (by unfold Func.isWrapper;first|(rw [if_pos (by decide +kernel)];kernel_rfl)|(rw [if_neg (by decide +kernel)];exact ⟨rfl,rfl⟩))
  (fun os started H enc _ F=>by rw [OpenClaim.pre_eq_preRow];exact lifted os started H enc F)
theorem plain (f:FuncId) (fn:Func) (hf:Tryz.pinned.checked.prog.funcNamed "loop.example/g00460/laws.FnExactRunTo" = some f) (hfn:Tryz.pinned.checked.prog.funcs[f]? = some fn) :
  true=Tryz.pinned.checked.prog.looks []/\∀ (j:Nat) t,fn.params[j]? = some t->Tryz.pinned.checked.prog.wantsStandIn t=false:=by
 obtain rfl:f=5:=Option.some.inj ((show prog.funcNamed "loop.example/g00460/laws.FnExactRunTo" = some 5 by kernel_rfl).symm.trans hf) |>.symm
 obtain rfl:fn=Tryz.f5:=(Option.some.inj (func5.symm.trans hfn)).symm
 refine ⟨by kernel_rfl,fun j t ht=>?_⟩
 rw [Tryz.params5] at ht
 have h:t=51 \/ t=52 \/ t=2:=by simpa using Array.mem_of_getElem? ht
 rcases h with rfl|rfl|rfl
 ·exact (show prog.wantsStandIn 51=false by kernel_rfl)
 ·exact (show prog.wantsStandIn 52=false by kernel_rfl)
 ·exact (show prog.wantsStandIn 2=false by kernel_rfl)
theorem card:Rows.FnExactRunToCardSaid :=
 Claim7.holds_tied_plain_at .later [] _ _ _ _ said (fun _ h=>by cases h) (by kernel_rfl) (fun _ h=>by cases h) fnExactRunTo_row_tie rfl ⟨rfl,rfl⟩ (by kernel_rfl) rfl plain (by kernel_rfl)
end Go.Proofs.YteglcgnhhoenbaaGreatDoor.fnExactRunTo
namespace Go.Proofs.YteglcgnhhoenbaaGreatDoor
theorem fnExactRunTo_holds:Rows.FnExactRunToCardSaid:=fnExactRunTo.card
end Go.Proofs.YteglcgnhhoenbaaGreatDoor
