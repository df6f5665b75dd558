import Derived.Test.YtnjolmbdbgbmbaaGreatDoorP19
import Derived.Test.YtnjolmbdbgbmbaaGreatDoorP13
import Derived.Test.YtnjolmbdbgbmbaaGreatDoorP08
import Derived.Test.YtnjolmbdbgbmbaaGreatDoorP09
set_option linter.all false
set_option maxRecDepth 20000
set_option maxHeartbeats 8000000
open Go.ChangeShapes Go.WideShapes Go.ChangeAt Go.RowKit
open Go.Proofs.Tryz
namespace Go.Proofs.YtnjolmbdbgbmbaaGreatDoor
namespace Sta
open Go.Deep
open Signed (inB sgn ret_int ret_bool)
open Busw Busx Busy Stpp Stpq Stps
abbrev Rg (f:FuncId) (args:Array Value) (W:World) (v:Value):Prop:=∀ d os,Calls prog f args (Go.Sort.grow (redrawn W d) os) fun e w''=>e=.returned v/\∃ p:Regrown,w''=Go.Sort.grow (redrawn W p.d) p.os
theorem rg {f:FuncId} {args:Array Value} {W:World} {v:Value} (h:∀ W',Below W.heap.size W W'->Calls prog f args W' fun e w'=>e=.returned v/\Below W'.heap.size W' w'):Rg f args W v:=fun d os=>Calls.regrown_of (h _ (below_regrown W d os))
theorem after {a w w':World} (h:Below a.heap.size a w) (k:Below w.heap.size w w'):Below a.heap.size a w':=h.trans (k.mono h.size)
theorem hlS (g:SG) (m:M) (full:Bool) (w:World) (h:InS g w m full) (hg:Stpq.Good m) :
  Calls prog 127 #[.pointer (some ⟨g.X,0,none⟩)] w fun e w'=>e=.returned (.int .i64 (hl m))/\Below w.heap.size w w':=by
 have h1:=hg.h
 have h2:=hg.l
 have d1:IntKind.i64.wrap (256*m.rH)=256*m.rH:=by rw [IntKind.wrap_i64];omega
 have d2:IntKind.i64.wrap (256*m.rH+m.rL)=256*m.rH+m.rL:=by rw [IntKind.wrap_i64];omega
 have q_rH:=h.cell 6 _ rfl
 have q_rL:=h.cell 7 _ rfl
 clear h hg h1 h2
 go_enter func127,ntmps127
 go_wp2_with fail
 go_quiet (fail)
 go_wp2
 go_ret
 exact ⟨rfl,by repeat (with_reducible first|exact zRf|refine zGr ?_ _|refine below_drewN ?_ _|refine Below.drew ?_)⟩
theorem writeS (g:SG) (m:M) (full:Bool) (addr v:Int) (w:World) (h:InS g w m full) (hr:Rt m) (a0:0<=addr) (v0:0<=v) (v1:v<=255) :
  Calls prog 122 #[.pointer (some ⟨g.X,0,none⟩),.int .i64 addr,.int .i64 v] w fun e w'=>e=.returned (.tuple #[])/\InS g w' (wr ⟨m,full⟩ addr v).m (wr ⟨m,full⟩ addr v).full:=by
 obtain ⟨po,cap,hA⟩:=h
 have hq:0<=addr%65536/\addr%65536<=65535:=by omega
 have c1:=swrite_any m po cap (addr%65536) v w hr hA.sl (decide_eq_true hq) (decide_eq_true ⟨v0,v1⟩)
 have hl:=hA.load (W':=w) rfl
 have d1:addr.tmod 65536=addr%65536:=Int.tmod_eq_emod_of_nonneg a0
 have HA:Hid (SAt g w m full po cap):=hA
 have hz:=zeroM
 have HWR:Hid (wr ⟨m,full⟩ addr v=match wrM m (addr%65536) v with|some m'=>⟨m',full⟩|none=>⟨m,true⟩):=rfl
 generalize wr ⟨m,full⟩ addr v=t at *
 obtain ⟨rr,hrr⟩ : ∃ r,r=wrM m (addr%65536) v:=⟨_,rfl⟩
 rw [<- hrr] at c1 HWR
 clear hrr hA hr hq
 generalize addr%65536=aq at *
 obtain ⟨cZ,hcZ⟩ : ∃ c,c=cellsM Z0 none 0:=⟨_,rfl⟩
 have HZ:Hid (cZ=cellsM Z0 none 0):=hcZ
 rw [<- hcZ] at hz
 clear hcZ
 go_enter func122,ntmps122
 go_upto_region 0 with fail
 refine wp_region_list ?_
 refine wpList_plain rfl (fun K hK=>?_)
 go_simp
 refine hK _ _ ?_
 clear hK
 refine wpList_plain rfl (fun K hK=>?_)
 go_simp
 refine hK _ _ ?_
 clear hK
 refine wpList_plain rfl (fun K hK=>?_)
 go_simp
 refine hK _ _ ?_
 clear hK
 refine wpList_load_any rfl 33 _ rfl ⟨g.X,0,none⟩ rfl _ hl ?_
 go_wp2_with fail
 refine Calls.mono c1 ?_
 rintro e w1 ⟨hc,hb1⟩
 obtain ⟨m',po',cap',ok,hok,rfl,hsl,hmm⟩ : ∃ m' po' cap' ok,t=⟨m',full || !ok⟩/\e=.returned (.tuple #[.agg (cellsM m' po' cap'),.bool ok])/\Sl w1 po' m'.out cap'/\(∀ p,po'=some p->p.block ≠ g.X):=by
  rcases hc with ⟨m',po',cap',hr,he,hs,hfr⟩|⟨hr,he⟩
  ·refine ⟨m',po',cap',true,?_,he,hs,?_⟩
   ·rw [HWR.out,hr];simp
   ·intro p hp
    rcases hfr with rfl|hfr
    ·exact HA.out.ne p hp
    ·have h1:=hfr p hp
     have h2:=HA.out.lt
     omega
  ·refine ⟨m,po,cap,false,?_,he,HA.out.sl.below hb1,HA.out.ne⟩
   rw [HWR.out,hr];simp
 have HS1:Hid (Sl w1 po' m'.out cap'/\∀ p,po'=some p->p.block ≠ g.X):=⟨hsl,hmm⟩
 have HB1:Hid (Below w.heap.size w w1):=hb1
 have HXX:Hid (w1.heap[g.X]? = some (.cells (cellsW m po cap full) 109 (0,0))):=(hb1.block _ HA.out.lt).trans HA.out.box
 have HT:Hid (t=⟨m',full || !ok⟩):=hok
 clear hc hsl hmm hb1 HWR c1 hl hok
 rename_i hK
 refine hK _ _ ?_
 clear hK
 refine wpList_plain rfl (fun K hK=>?_)
 go_simp
 refine hK _ _ ?_
 clear hK
 refine wpList_plain rfl (fun K hK=>?_)
 go_simp
 refine hK _ _ ?_
 clear hK
 refine wpList_plain rfl (fun K hK=>?_)
 go_simp
 refine hK _ _ ?_
 clear hK
 refine wpList_plain rfl (fun K hK=>?_)
 go_simp
 refine hK _ _ ?_
 clear hK
 refine wpList_store_row rfl 33 _ _ rfl w1.heap.size (cellsM m' po' cap') rfl rfl _ _ (heap_alloc_last w1 _) (infoMs _ _ _) (by rw [HZ.out,size_M,size_M]) (one_M _ _ _) ?_
 rw [World.setRow_alloc_new]
 obtain ⟨u1,hu1⟩ : ∃ u,u=w1.alloc (.cells (cellsM m' po' cap') 33):=⟨_,rfl⟩
 have HU:Hid (u1.heap[w1.heap.size]? = some (.cells (cellsM m' po' cap') 33)/\u1.heap[g.X]? = some (.cells (cellsW m po cap full) 109 (0,0))/\Below w.heap.size w u1/\Sl u1 po' m'.out cap'/\g.X<w1.heap.size):=by
  have hx:=(zLo HXX.out)
  have hbb:Below w1.heap.size w1 u1:=by rw [hu1];exact zAl _ _
  exact ⟨by rw [hu1];exact heap_alloc_last w1 _,(hbb.block _ hx).trans HXX.out,after HB1.out hbb,HS1.out.1.below hbb,hx⟩
 obtain ⟨bM,hbM⟩ : ∃ b,b=w1.heap.size:=⟨_,rfl⟩
 rw [<- hu1,<- hbM]
 rw [<- hbM] at HU
 clear hu1 hbM HXX HB1
 go_upto_region 1 with fail
 refine wp_region_list ?_
 refine wpList_plain rfl (fun K hK=>?_)
 go_simp
 refine hK _ _ ?_
 clear hK
 refine wpList_load_row rfl 33 _ rfl bM rfl _ _ (0,0) _ HU.out.1 underlying33 rfl (infoMs _ _ _) ?_
 refine wpList_plain rfl (fun K hK=>?_)
 go_simp
 refine hK _ _ ?_
 clear hK
 refine wpList_plain rfl (fun K hK=>?_)
 go_simp
 refine hK _ _ ?_
 clear hK
 refine wpList_store_part rfl 33 _ _ rfl g.X (cellsM m' po' cap') rfl rfl _ _ HU.out.2.1 (infoMs _ _ _) (by rw [size_M,size_W];decide) (one_M _ _ _) ?_
 rw [part_W]
 obtain ⟨u2,hu2⟩ : ∃ u,u=u1.setRow g.X (cellsW m' po' cap' full):=⟨_,rfl⟩
 have HI:Hid (InS g u2 m' full):=by
  obtain ⟨h1,h2,h3,h4,h5⟩:=HU.out
  rw [hu2]
  refine ⟨po',cap',MachT.heap_row h2,?_,HS1.out.2,?_⟩
  ·exact sl_grown h4 HS1.out.2 (set_row_grown _ _ _)
  ·exact grown_trans (grown_trans HA.out.grown (below_grown h3)) (set_row_grown _ _ _)
 rw [<- hu2]
 clear hu2 HU HS1 HA
 have q:=HI.out.cellFull
 have f:=HI.out.fro 23
 have HF:Hid (InS g (u2.setCell ⟨g.X,23,none⟩ (.bool (full || !ok))) m' (full || !ok)):=HI.out.setFull _
 clear HI
 refine wpList_nil ?_
 cases full <;> cases ok
 all_goals
  go_wp2
  go_end0
  exact ⟨rfl,by rw [HT.out];exact HF.out⟩
theorem reg_0 (g:SG) (m:M) (full:Bool) (w:World) (h:InS g w m full) :
  Calls prog 88 #[.pointer (some ⟨g.X,0,none⟩),.int .i64 0] w fun e w'=>e=.returned (.int .i64 (m.rB))/\Below w.heap.size w w':=by
 have q_ra:=h.cell 0 _ rfl
 have q_rf:=h.cell 1 _ rfl
 have q_rB:=h.cell 2 _ rfl
 have q_rC:=h.cell 3 _ rfl
 have q_rD:=h.cell 4 _ rfl
 have q_rE:=h.cell 5 _ rfl
 have q_rH:=h.cell 6 _ rfl
 have q_rL:=h.cell 7 _ rfl
 have q_sp:=h.cell 8 _ rfl
 have q_pc:=h.cell 9 _ rfl
 have q_ime:=h.cell 10 _ rfl
 have q_hal:=h.cell 11 _ rfl
 have hl:=h.lt
 clear h
 go_enter func88,ntmps88
 go_wp2
 go_ret
 exact ⟨rfl,by repeat (with_reducible first|exact zRf|refine zGr ?_ _|refine below_drewN ?_ _|refine Below.drew ?_)⟩
theorem reg_1 (g:SG) (m:M) (full:Bool) (w:World) (h:InS g w m full) :
  Calls prog 88 #[.pointer (some ⟨g.X,0,none⟩),.int .i64 1] w fun e w'=>e=.returned (.int .i64 (m.rC))/\Below w.heap.size w w':=by
 have q_ra:=h.cell 0 _ rfl
 have q_rf:=h.cell 1 _ rfl
 have q_rB:=h.cell 2 _ rfl
 have q_rC:=h.cell 3 _ rfl
 have q_rD:=h.cell 4 _ rfl
 have q_rE:=h.cell 5 _ rfl
 have q_rH:=h.cell 6 _ rfl
 have q_rL:=h.cell 7 _ rfl
 have q_sp:=h.cell 8 _ rfl
 have q_pc:=h.cell 9 _ rfl
 have q_ime:=h.cell 10 _ rfl
 have q_hal:=h.cell 11 _ rfl
 have hl:=h.lt
 clear h
 go_enter func88,ntmps88
 go_wp2
 go_ret
 exact ⟨rfl,by repeat (with_reducible first|exact zRf|refine zGr ?_ _|refine below_drewN ?_ _|refine Below.drew ?_)⟩
theorem reg_2 (g:SG) (m:M) (full:Bool) (w:World) (h:InS g w m full) :
  Calls prog 88 #[.pointer (some ⟨g.X,0,none⟩),.int .i64 2] w fun e w'=>e=.returned (.int .i64 (m.rD))/\Below w.heap.size w w':=by
 have q_ra:=h.cell 0 _ rfl
 have q_rf:=h.cell 1 _ rfl
 have q_rB:=h.cell 2 _ rfl
 have q_rC:=h.cell 3 _ rfl
 have q_rD:=h.cell 4 _ rfl
 have q_rE:=h.cell 5 _ rfl
 have q_rH:=h.cell 6 _ rfl
 have q_rL:=h.cell 7 _ rfl
 have q_sp:=h.cell 8 _ rfl
 have q_pc:=h.cell 9 _ rfl
 have q_ime:=h.cell 10 _ rfl
 have q_hal:=h.cell 11 _ rfl
 have hl:=h.lt
 clear h
 go_enter func88,ntmps88
 go_wp2
 go_ret
 exact ⟨rfl,by repeat (with_reducible first|exact zRf|refine zGr ?_ _|refine below_drewN ?_ _|refine Below.drew ?_)⟩
theorem reg_3 (g:SG) (m:M) (full:Bool) (w:World) (h:InS g w m full) :
  Calls prog 88 #[.pointer (some ⟨g.X,0,none⟩),.int .i64 3] w fun e w'=>e=.returned (.int .i64 (m.rE))/\Below w.heap.size w w':=by
 have q_ra:=h.cell 0 _ rfl
 have q_rf:=h.cell 1 _ rfl
 have q_rB:=h.cell 2 _ rfl
 have q_rC:=h.cell 3 _ rfl
 have q_rD:=h.cell 4 _ rfl
 have q_rE:=h.cell 5 _ rfl
 have q_rH:=h.cell 6 _ rfl
 have q_rL:=h.cell 7 _ rfl
 have q_sp:=h.cell 8 _ rfl
 have q_pc:=h.cell 9 _ rfl
 have q_ime:=h.cell 10 _ rfl
 have q_hal:=h.cell 11 _ rfl
 have hl:=h.lt
 clear h
 go_enter func88,ntmps88
 go_wp2
 go_ret
 exact ⟨rfl,by repeat (with_reducible first|exact zRf|refine zGr ?_ _|refine below_drewN ?_ _|refine Below.drew ?_)⟩
theorem reg_4 (g:SG) (m:M) (full:Bool) (w:World) (h:InS g w m full) :
  Calls prog 88 #[.pointer (some ⟨g.X,0,none⟩),.int .i64 4] w fun e w'=>e=.returned (.int .i64 (m.rH))/\Below w.heap.size w w':=by
 have q_ra:=h.cell 0 _ rfl
 have q_rf:=h.cell 1 _ rfl
 have q_rB:=h.cell 2 _ rfl
 have q_rC:=h.cell 3 _ rfl
 have q_rD:=h.cell 4 _ rfl
 have q_rE:=h.cell 5 _ rfl
 have q_rH:=h.cell 6 _ rfl
 have q_rL:=h.cell 7 _ rfl
 have q_sp:=h.cell 8 _ rfl
 have q_pc:=h.cell 9 _ rfl
 have q_ime:=h.cell 10 _ rfl
 have q_hal:=h.cell 11 _ rfl
 have hl:=h.lt
 clear h
 go_enter func88,ntmps88
 go_wp2
 go_ret
 exact ⟨rfl,by repeat (with_reducible first|exact zRf|refine zGr ?_ _|refine below_drewN ?_ _|refine Below.drew ?_)⟩
theorem reg_5 (g:SG) (m:M) (full:Bool) (w:World) (h:InS g w m full) :
  Calls prog 88 #[.pointer (some ⟨g.X,0,none⟩),.int .i64 5] w fun e w'=>e=.returned (.int .i64 (m.rL))/\Below w.heap.size w w':=by
 have q_ra:=h.cell 0 _ rfl
 have q_rf:=h.cell 1 _ rfl
 have q_rB:=h.cell 2 _ rfl
 have q_rC:=h.cell 3 _ rfl
 have q_rD:=h.cell 4 _ rfl
 have q_rE:=h.cell 5 _ rfl
 have q_rH:=h.cell 6 _ rfl
 have q_rL:=h.cell 7 _ rfl
 have q_sp:=h.cell 8 _ rfl
 have q_pc:=h.cell 9 _ rfl
 have q_ime:=h.cell 10 _ rfl
 have q_hal:=h.cell 11 _ rfl
 have hl:=h.lt
 clear h
 go_enter func88,ntmps88
 go_wp2
 go_ret
 exact ⟨rfl,by repeat (with_reducible first|exact zRf|refine zGr ?_ _|refine below_drewN ?_ _|refine Below.drew ?_)⟩
theorem reg_7 (g:SG) (m:M) (full:Bool) (w:World) (h:InS g w m full) :
  Calls prog 88 #[.pointer (some ⟨g.X,0,none⟩),.int .i64 7] w fun e w'=>e=.returned (.int .i64 (m.ra))/\Below w.heap.size w w':=by
 have q_ra:=h.cell 0 _ rfl
 have q_rf:=h.cell 1 _ rfl
 have q_rB:=h.cell 2 _ rfl
 have q_rC:=h.cell 3 _ rfl
 have q_rD:=h.cell 4 _ rfl
 have q_rE:=h.cell 5 _ rfl
 have q_rH:=h.cell 6 _ rfl
 have q_rL:=h.cell 7 _ rfl
 have q_sp:=h.cell 8 _ rfl
 have q_pc:=h.cell 9 _ rfl
 have q_ime:=h.cell 10 _ rfl
 have q_hal:=h.cell 11 _ rfl
 have hl:=h.lt
 clear h
 go_enter func88,ntmps88
 go_wp2
 go_ret
 exact ⟨rfl,by repeat (with_reducible first|exact zRf|refine zGr ?_ _|refine below_drewN ?_ _|refine Below.drew ?_)⟩
theorem reg_6 (g:SG) (m:M) (full:Bool) (w:World) (h:InS g w m full) (hg:Stpq.Good m) :
  Calls prog 88 #[.pointer (some ⟨g.X,0,none⟩),.int .i64 6] w fun e w'=>e=.returned (.int .i64 (rd m (hl m)))/\Below w.heap.size w w':=by
 have q_ra:=h.cell 0 _ rfl
 have q_rf:=h.cell 1 _ rfl
 have q_rB:=h.cell 2 _ rfl
 have q_rC:=h.cell 3 _ rfl
 have q_rD:=h.cell 4 _ rfl
 have q_rE:=h.cell 5 _ rfl
 have q_rH:=h.cell 6 _ rfl
 have q_rL:=h.cell 7 _ rfl
 have q_sp:=h.cell 8 _ rfl
 have q_pc:=h.cell 9 _ rfl
 have q_ime:=h.cell 10 _ rfl
 have q_hal:=h.cell 11 _ rfl
 have hlt:=h.lt
 obtain ⟨o,ho⟩ : ∃ o:Obj,o=.cells #[.int .i64 m.ra,.int .i64 m.rf,.int .i64 m.rB,.int .i64 m.rC,.int .i64 m.rD,.int .i64 m.rE,.int .i64 m.rH,.int .i64 m.rL,.int .i64 m.sp,.int .i64 m.pc,.bool m.ime,.bool m.hal] 30:=⟨_,rfl⟩
 have hIA:InS g (w.alloc o) m full:=h.below (zAl _ _)
 have HI:Hid (InS g (w.alloc o) m full):=hIA
 obtain ⟨po,cap,hA⟩:=hIA
 have hb:=hl_bd hg
 have c1:Rg 127 #[.pointer (some ⟨g.X,0,none⟩)] (w.alloc o) (.int .i64 (hl m)):=rg fun W hb=>hlS g m full W (HI.out.below hb) hg
 have c2:Rg 117 #[.agg (cellsM m po cap),.int .i64 (hl m)] (w.alloc o) (.int .i64 (rd m (hl m))):=rg fun W hb'=>l6Read_M m po cap (hl m) W hg.rt hb.1
 have hld:∀ d os,(loadVar 33 ⟨g.X,0,none⟩).run prog (Go.Sort.grow (redrawn (w.alloc o) d) os)=.ok (.agg (cellsM m po cap)) (Go.Sort.grow (redrawn (w.alloc o) d) os):=fun d os=>hA.load ((below_regrown (w.alloc o) d os).block _ hA.lt)
 have HBW:Hid (Below w.heap.size w (w.alloc o)):=zAl _ _
 generalize rd m (hl m)=r at *
 generalize hl m=a at *
 generalize cellsM m po cap=cM at *
 clear h hg hb hA
 go_enter func88,ntmps88
 go_upto_region 3 with fail
 rw [<- ho]
 clear ho
 refine wp_region_quiet_below (by kernel_rfl) (by kernel_rfl) ?_
 repeat (first|(go_big_quiet_step (first|with_reducible exact c1 _ _|with_reducible exact c2 _ _))|(refine wpQuiet_load (by rfl) 33 _ rfl ⟨g.X,0,none⟩ rfl _ (fun W hW=>by obtain ⟨⟨d,o⟩,rfl⟩:=hW;exact hld d o) ?_;simp only [Act.put,List.setIfInBounds_toArray,List.set_cons_succ,List.set_cons_zero]))
 refine wpQuiet_nil ?_
 intro _ hw'
 obtain ⟨⟨dq,osq⟩,hw''⟩:=hw'
 subst hw''
 have H2:Hid (InS g (Go.Sort.grow (redrawn (w.alloc o) dq) osq) m full):=HI.out.below (below_regrown (w.alloc o) dq osq)
 have hbg:Below (w.alloc o).heap.size (w.alloc o) (Go.Sort.grow (redrawn (w.alloc o) dq) osq):=below_regrown (w.alloc o) dq osq
 generalize Go.Sort.grow (redrawn (w.alloc o) dq) osq=W2 at *
 clear HI c1 c2 hld
 have HB2:Hid (Below w.heap.size w W2):=after HBW.out hbg
 clear hbg
 go_wp2
 go_ret
 exact ⟨rfl,HB2.out⟩
theorem regS (g:SG) (m:M) (full:Bool) (n:Int) (w:World) (h:InS g w m full) (hg:Stpq.Good m) (n0:0<=n) (n1:n<=7) :
  Calls prog 88 #[.pointer (some ⟨g.X,0,none⟩),.int .i64 n] w fun e w'=>e=.returned (.int .i64 (Stpp.get m n))/\Below w.heap.size w w':=by
 have hn:n=0 \/ n=1 \/ n=2 \/ n=3 \/ n=4 \/ n=5 \/ n=6 \/ n=7:=by omega
 rcases hn with rfl|rfl|rfl|rfl|rfl|rfl|rfl|rfl
 ·exact reg_0 g m full w h
 ·exact reg_1 g m full w h
 ·exact reg_2 g m full w h
 ·exact reg_3 g m full w h
 ·exact reg_4 g m full w h
 ·exact reg_5 g m full w h
 ·exact reg_6 g m full w h hg
 ·exact reg_7 g m full w h
theorem set_0 (g:SG) (m:M) (full:Bool) (v:Int) (w:World) (h:InS g w m full) :
  Calls prog 87 #[.pointer (some ⟨g.X,0,none⟩),.int .i64 0,.int .i64 v] w fun e w'=>e=.returned (.tuple #[])/\InS g w' { m with rB:=v } full:=by
 have q:=h.cell 2 _ rfl
 have f:=h.fro 2
 have HF:Hid (InS g (w.setCell ⟨g.X,2,none⟩ (.int .i64 v)) { m with rB:=v } full):=h.s_rB v
 clear h
 go_enter func87,ntmps87
 go_wp2
 go_end0
 exact ⟨rfl,HF.out⟩
theorem set_1 (g:SG) (m:M) (full:Bool) (v:Int) (w:World) (h:InS g w m full) :
  Calls prog 87 #[.pointer (some ⟨g.X,0,none⟩),.int .i64 1,.int .i64 v] w fun e w'=>e=.returned (.tuple #[])/\InS g w' { m with rC:=v } full:=by
 have q:=h.cell 3 _ rfl
 have f:=h.fro 3
 have HF:Hid (InS g (w.setCell ⟨g.X,3,none⟩ (.int .i64 v)) { m with rC:=v } full):=h.s_rC v
 clear h
 go_enter func87,ntmps87
 go_wp2
 go_end0
 exact ⟨rfl,HF.out⟩
theorem set_2 (g:SG) (m:M) (full:Bool) (v:Int) (w:World) (h:InS g w m full) :
  Calls prog 87 #[.pointer (some ⟨g.X,0,none⟩),.int .i64 2,.int .i64 v] w fun e w'=>e=.returned (.tuple #[])/\InS g w' { m with rD:=v } full:=by
 have q:=h.cell 4 _ rfl
 have f:=h.fro 4
 have HF:Hid (InS g (w.setCell ⟨g.X,4,none⟩ (.int .i64 v)) { m with rD:=v } full):=h.s_rD v
 clear h
 go_enter func87,ntmps87
 go_wp2
 go_end0
 exact ⟨rfl,HF.out⟩
theorem set_3 (g:SG) (m:M) (full:Bool) (v:Int) (w:World) (h:InS g w m full) :
  Calls prog 87 #[.pointer (some ⟨g.X,0,none⟩),.int .i64 3,.int .i64 v] w fun e w'=>e=.returned (.tuple #[])/\InS g w' { m with rE:=v } full:=by
 have q:=h.cell 5 _ rfl
 have f:=h.fro 5
 have HF:Hid (InS g (w.setCell ⟨g.X,5,none⟩ (.int .i64 v)) { m with rE:=v } full):=h.s_rE v
 clear h
 go_enter func87,ntmps87
 go_wp2
 go_end0
 exact ⟨rfl,HF.out⟩
theorem set_4 (g:SG) (m:M) (full:Bool) (v:Int) (w:World) (h:InS g w m full) :
  Calls prog 87 #[.pointer (some ⟨g.X,0,none⟩),.int .i64 4,.int .i64 v] w fun e w'=>e=.returned (.tuple #[])/\InS g w' { m with rH:=v } full:=by
 have q:=h.cell 6 _ rfl
 have f:=h.fro 6
 have HF:Hid (InS g (w.setCell ⟨g.X,6,none⟩ (.int .i64 v)) { m with rH:=v } full):=h.s_rH v
 clear h
 go_enter func87,ntmps87
 go_wp2
 go_end0
 exact ⟨rfl,HF.out⟩
theorem set_5 (g:SG) (m:M) (full:Bool) (v:Int) (w:World) (h:InS g w m full) :
  Calls prog 87 #[.pointer (some ⟨g.X,0,none⟩),.int .i64 5,.int .i64 v] w fun e w'=>e=.returned (.tuple #[])/\InS g w' { m with rL:=v } full:=by
 have q:=h.cell 7 _ rfl
 have f:=h.fro 7
 have HF:Hid (InS g (w.setCell ⟨g.X,7,none⟩ (.int .i64 v)) { m with rL:=v } full):=h.s_rL v
 clear h
 go_enter func87,ntmps87
 go_wp2
 go_end0
 exact ⟨rfl,HF.out⟩
theorem set_7 (g:SG) (m:M) (full:Bool) (v:Int) (w:World) (h:InS g w m full) :
  Calls prog 87 #[.pointer (some ⟨g.X,0,none⟩),.int .i64 7,.int .i64 v] w fun e w'=>e=.returned (.tuple #[])/\InS g w' { m with ra:=v } full:=by
 have q:=h.cell 0 _ rfl
 have f:=h.fro 0
 have HF:Hid (InS g (w.setCell ⟨g.X,0,none⟩ (.int .i64 v)) { m with ra:=v } full):=h.s_ra v
 clear h
 go_enter func87,ntmps87
 go_wp2
 go_end0
 exact ⟨rfl,HF.out⟩
theorem set_6 (g:SG) (m:M) (full:Bool) (v:Int) (w:World) (h:InS g w m full) (hg:Stpq.Good m) (v0:0<=v) (v1:v<=255) :
  Calls prog 87 #[.pointer (some ⟨g.X,0,none⟩),.int .i64 6,.int .i64 v] w fun e w'=>e=.returned (.tuple #[])/\InS g w' (wr ⟨m,full⟩ (hl m) v).m (wr ⟨m,full⟩ (hl m) v).full:=by
 have c1:=hlS g m full w h hg
 have HC:Hid (∀ W,InS g W m full->Calls prog 122 #[.pointer (some ⟨g.X,0,none⟩),.int .i64 (hl m),.int .i64 v] W fun e w'=>e=.returned (.tuple #[])/\InS g w' (wr ⟨m,full⟩ (hl m) v).m (wr ⟨m,full⟩ (hl m) v).full):=fun W hi=>writeS g m full _ _ W hi hg.rt (hl_bd hg).1 v0 v1
 have HI:Hid (InS g w m full):=h
 generalize wr ⟨m,full⟩ (hl m) v=t at *
 generalize hl m=a at *
 clear h hg v0 v1
 go_enter func87,ntmps87
 go_wp2_with fail
 refine Calls.mono c1 ?_
 rintro e w1 ⟨rfl,hb1⟩
 have H1:=zHd (HI.out.below hb1)
 clear hb1 HI c1
 go_wp2_with fail
 refine Calls.mono (HC.out _ H1.out) ?_
 rintro e w2 ⟨rfl,hi2⟩
 have H2:Hid (InS g w2 t.m t.full):=hi2
 clear hi2 H1 HC
 go_wp2
 go_end0
 exact ⟨rfl,H2.out⟩
theorem setS (g:SG) (m:M) (full:Bool) (n v:Int) (w:World) (h:InS g w m full) (hg:Stpq.Good m) (n0:0<=n) (n1:n<=7) (v0:0<=v) (v1:v<=255) :
  Calls prog 87 #[.pointer (some ⟨g.X,0,none⟩),.int .i64 n,.int .i64 v] w fun e w'=>e=.returned (.tuple #[])/\InS g w' (put ⟨m,full⟩ n v).m (put ⟨m,full⟩ n v).full:=by
 have hn:n=0 \/ n=1 \/ n=2 \/ n=3 \/ n=4 \/ n=5 \/ n=6 \/ n=7:=by omega
 rcases hn with rfl|rfl|rfl|rfl|rfl|rfl|rfl|rfl
 ·exact set_0 g m full v w h
 ·exact set_1 g m full v w h
 ·exact set_2 g m full v w h
 ·exact set_3 g m full v w h
 ·exact set_4 g m full v w h
 ·exact set_5 g m full v w h
 ·exact set_6 g m full v w h hg v0 v1
 ·exact set_7 g m full v w h
end Sta
namespace CycO
open Signed (inB ret_int)
open CycD CycE CycS CycQ Cyc Leng Tmpl
theorem spec_top (code:Int) (t:Bool) (w:World) (y z:Int) (hx:code / 64=3) (hy:code / 8%8=y) (hz:code%8=z) (h0:0<=code) (h1:code<=255) (hl:Len code false) :
  Calls prog 91 #[.int .i64 code,.bool false,.bool t] w fun e w'=>e=.returned (.int .i64 (topC y z t))/\Below w.heap.size w w':=by
 have hh:¬ code=118:=by omega
 have q118:(code == 118)=false:=by simpa using hh
 have c:=fun w=>cycles_any y z t w (by omega) (by omega) (by omega) (by omega)
 generalize topC y z t=T at c |-
 go_enter func91,ntmps91
 go_wp2_with fail
 refine (hl _).mono ?_
 rintro e w1 ⟨⟨n,rfl,hn⟩,b1⟩
 have hn':(n == 0)=false:=by simpa using hn
 have B1:Hid (Below w.heap.size w w1):=b1
 clear b1 hl
 go_wp2_with fail
 simp only [hy,hz]
 refine (c _).mono ?_
 rintro e w2 ⟨rfl,b2⟩
 have B2:Hid (Below w.heap.size w w2):=B1.out.trans (b2.mono B1.out.size)
 clear b2 B1
 go_wp2
 go_ret
 exact ⟨rfl,B2.out⟩
theorem spec_any (code:Int) (cb t:Bool) (w:World) (h0:0<=code) (h1:code<=255) (hl:Len code cb) :
  Calls prog 91 #[.int .i64 code,.bool cb,.bool t] w fun e w'=>e=.returned (.int .i64 (cycV code cb t))/\Below w.heap.size w w':=by
 unfold cycV
 cases cb with
 | true =>
  rw [if_pos rfl]
  unfold prefC
  by_cases hz:code%8=6
  ·rw [if_pos hz]
   by_cases hx:code / 64=1
   ·rw [if_pos hx];exact spec_cb3 code t w hz hx h0 h1 hl
   ·rw [if_neg hx];exact spec_cb4 code t w hz hx h0 h1 hl
  ·rw [if_neg hz];exact spec_cb2 code t w hz h0 h1 hl
 | false =>
  rw [if_neg (by decide)]
  by_cases hx:code / 64=0
  ·rw [if_pos hx]
   have e:code / 8%8*8+code%8=code:=by omega
   have h:=spec_low (code / 8%8) (code%8) t w (by omega) (by omega) (by omega) (by omega) (by rw [e];exact hl)
   rw [e] at h
   exact h
  rw [if_neg hx]
  by_cases h3:code / 64=3
  ·rw [if_pos h3];exact spec_top code t w _ _ h3 rfl rfl h0 h1 hl
  rw [if_neg h3]
  by_cases h8:code=118
  ·rw [if_pos h8];exact spec_halt code t w h8 h0 h1 hl
  rw [if_neg h8]
  by_cases hz:code%8=6
  ·rw [if_pos hz]
   by_cases h2:code / 64=1
   ·exact spec_1z code t w h2 h8 hz h0 h1 hl
   ·exact spec_2z code t w (by omega) hz h0 h1 hl
  rw [if_neg hz]
  by_cases h2:code / 64=1
  ·by_cases hy:code / 8%8=6
   ·rw [if_pos ⟨h2,hy⟩];exact spec_1y code t w h2 h8 hy h0 h1 hl
   ·rw [if_neg (fun h=>hy h.2)];exact spec_1n code t w h2 hy hz h0 h1 hl
  ·rw [if_neg (fun h=>h2 h.1)];exact spec_2n code t w (by omega) hz h0 h1 hl
end CycO
namespace CycP
open Signed (inB ret_int)
open CycD CycA CycB Cyc Leng CycQ
def Shp (code:Int) (cb:Bool):Prop:=∀ w,Calls prog 77 #[.int .i64 code,.bool cb] w fun e w'=>(∃ s:ByteArray,e=.returned (.string s)/\¬ s.size=0)/\Below w.heap.size w w'
def Prt (code x y z p q:Int):Prop:=∀ w,Calls prog 78 #[.int .i64 code] w fun e w'=>e=.returned (.agg #[.int .i64 x,.int .i64 y,.int .i64 z,.int .i64 p,.int .i64 q])/\Below w.heap.size w w'
theorem impl_cb (code x y z p q:Int) (t:Bool) (w:World)  (hs:Shp code true) (hp:Prt code x y z p q) :
  Calls prog 37 #[.int .i64 code,.bool true,.bool t] w fun e w'=>e=.returned (.int .i64 (prefC x z))/\Below w.heap.size w w':=by
 have c:=fun w=>prefixCycles_any x y z p q w
 generalize prefC x z=T at c |-
 go_enter func37,ntmps37
 go_wp2_with fail
 refine (hs _).mono ?_
 rintro e w1 ⟨⟨s,rfl,hs0⟩,b1⟩
 have he:=empty_no hs0
 have B1:Hid (Below w.heap.size w w1):=b1
 clear b1 hs
 go_wp2_with fail
 refine (hp _).mono ?_
 rintro e w2 ⟨rfl,b2⟩
 have B2:Hid (Below w.heap.size w w2):=B1.out.trans (b2.mono B1.out.size)
 clear b2 hp B1 he hs0
 go_wp2_with fail
 refine (c _).mono ?_
 rintro e w3 ⟨rfl,b3⟩
 have B3:Hid (Below w.heap.size w w3):=(Lgrow B2.out _).trans (b3.mono (by have:=B2.out.size;first|omega|(simp;omega)))
 clear b3 B2
 go_wp2
 go_ret
 exact ⟨rfl,B3.out⟩
theorem impl_low (code y z p q:Int) (t:Bool) (w:World) (hq:q=y%2) (y0:0<=y) (y1:y<=7) (z0:0<=z) (z1:z<=7) (hs:Shp code false) (hp:Prt code 0 y z p q) :
  Calls prog 37 #[.int .i64 code,.bool false,.bool t] w fun e w'=>e=.returned (.int .i64 (lowC y z t))/\Below w.heap.size w w':=by
 have c:=fun w=>lowCycles_any 0 y z p q t w hq y0 y1 z0 z1
 generalize lowC y z t=T at c |-
 clear hq y0 y1 z0 z1
 go_enter func37,ntmps37
 go_wp2_with fail
 refine (hs _).mono ?_
 rintro e w1 ⟨⟨s,rfl,hs0⟩,b1⟩
 have he:=empty_no hs0
 have B1:Hid (Below w.heap.size w w1):=b1
 clear b1 hs
 go_wp2_with fail
 refine (hp _).mono ?_
 rintro e w2 ⟨rfl,b2⟩
 have B2:Hid (Below w.heap.size w w2):=B1.out.trans (b2.mono B1.out.size)
 clear b2 hp B1 he hs0
 go_wp2_with fail
 refine (c _).mono ?_
 rintro e w3 ⟨rfl,b3⟩
 have B3:Hid (Below w.heap.size w w3):=(Lgrow B2.out _).trans (b3.mono (by have:=B2.out.size;first|omega|(simp;omega)))
 clear b3 B2
 go_wp2
 go_ret
 exact ⟨rfl,B3.out⟩
theorem impl_top (code y z p q:Int) (t:Bool) (w:World) (hq:q=y%2) (y0:0<=y) (y1:y<=7) (z0:0<=z) (z1:z<=7) (hg:¬ goneB y z=true) (hs:Shp code false) (hp:Prt code 3 y z p q) :
  Calls prog 37 #[.int .i64 code,.bool false,.bool t] w fun e w'=>e=.returned (.int .i64 (topC y z t))/\Below w.heap.size w w':=by
 have c:=fun w=>highCycles_any 3 y z p q t w hq y0 y1 z0 z1 hg
 generalize topC y z t=T at c |-
 clear hq y0 y1 z0 z1 hg
 go_enter func37,ntmps37
 go_wp2_with fail
 refine (hs _).mono ?_
 rintro e w1 ⟨⟨s,rfl,hs0⟩,b1⟩
 have he:=empty_no hs0
 have B1:Hid (Below w.heap.size w w1):=b1
 clear b1 hs
 go_wp2_with fail
 refine (hp _).mono ?_
 rintro e w2 ⟨rfl,b2⟩
 have B2:Hid (Below w.heap.size w w2):=B1.out.trans (b2.mono B1.out.size)
 clear b2 hp B1 he hs0
 go_wp2_with fail
 refine (c _).mono ?_
 rintro e w3 ⟨rfl,b3⟩
 have B3:Hid (Below w.heap.size w w3):=(Lgrow B2.out _).trans (b3.mono (by have:=B2.out.size;first|omega|(simp;omega)))
 clear b3 B2
 go_wp2
 go_ret
 exact ⟨rfl,B3.out⟩
theorem impl_halt (code x y z p q:Int) (t:Bool) (w:World) (hx0:¬ x=0) (hx3:¬ x=3) (hc:code=118) (hs:Shp code false) (hp:Prt code x y z p q) :
  Calls prog 37 #[.int .i64 code,.bool false,.bool t] w fun e w'=>e=.returned (.int .i64 (1))/\Below w.heap.size w w':=by
 subst hc
 have qx0:(x == 0)=false:=by simpa using hx0
 have qx3:(x == 3)=false:=by simpa using hx3
 go_enter func37,ntmps37
 go_wp2_with fail
 refine (hs _).mono ?_
 rintro e w1 ⟨⟨s,rfl,hs0⟩,b1⟩
 have he:=empty_no hs0
 have B1:Hid (Below w.heap.size w w1):=b1
 clear b1 hs
 go_wp2_with fail
 refine (hp _).mono ?_
 rintro e w2 ⟨rfl,b2⟩
 have B2:Hid (Below w.heap.size w w2):=B1.out.trans (b2.mono B1.out.size)
 clear b2 hp B1 he hs0
 go_wp2
 go_ret
 refine ⟨rfl,?_⟩
 with_reducible first|exact B2.out|exact Lgrow B2.out _
theorem impl_z (code x y p q:Int) (t:Bool) (w:World) (hx0:¬ x=0) (hx3:¬ x=3) (hh:¬ code=118) (hs:Shp code false) (hp:Prt code x y 6 p q) :
  Calls prog 37 #[.int .i64 code,.bool false,.bool t] w fun e w'=>e=.returned (.int .i64 (2))/\Below w.heap.size w w':=by
 have qx0:(x == 0)=false:=by simpa using hx0
 have qx3:(x == 3)=false:=by simpa using hx3
 have q118:(code == 118)=false:=by simpa using hh
 go_enter func37,ntmps37
 go_wp2_with fail
 refine (hs _).mono ?_
 rintro e w1 ⟨⟨s,rfl,hs0⟩,b1⟩
 have he:=empty_no hs0
 have B1:Hid (Below w.heap.size w w1):=b1
 clear b1 hs
 go_wp2_with fail
 refine (hp _).mono ?_
 rintro e w2 ⟨rfl,b2⟩
 have B2:Hid (Below w.heap.size w w2):=B1.out.trans (b2.mono B1.out.size)
 clear b2 hp B1 he hs0
 go_wp2
 go_ret
 refine ⟨rfl,?_⟩
 with_reducible first|exact B2.out|exact Lgrow B2.out _
theorem impl_y (code z p q:Int) (t:Bool) (w:World) (hh:¬ code=118) (hz:¬ z=6) (hs:Shp code false) (hp:Prt code 1 6 z p q) :
  Calls prog 37 #[.int .i64 code,.bool false,.bool t] w fun e w'=>e=.returned (.int .i64 (2))/\Below w.heap.size w w':=by
 have q118:(code == 118)=false:=by simpa using hh
 have qz:(z == 6)=false:=by simpa using hz
 go_enter func37,ntmps37
 go_wp2_with fail
 refine (hs _).mono ?_
 rintro e w1 ⟨⟨s,rfl,hs0⟩,b1⟩
 have he:=empty_no hs0
 have B1:Hid (Below w.heap.size w w1):=b1
 clear b1 hs
 go_wp2_with fail
 refine (hp _).mono ?_
 rintro e w2 ⟨rfl,b2⟩
 have B2:Hid (Below w.heap.size w w2):=B1.out.trans (b2.mono B1.out.size)
 clear b2 hp B1 he hs0
 go_wp2
 go_ret
 refine ⟨rfl,?_⟩
 with_reducible first|exact B2.out|exact Lgrow B2.out _
theorem impl_n1 (code y z p q:Int) (t:Bool) (w:World) (hh:¬ code=118) (hz:¬ z=6) (hy:¬ y=6) (hs:Shp code false) (hp:Prt code 1 y z p q) :
  Calls prog 37 #[.int .i64 code,.bool false,.bool t] w fun e w'=>e=.returned (.int .i64 (1))/\Below w.heap.size w w':=by
 have q118:(code == 118)=false:=by simpa using hh
 have qz:(z == 6)=false:=by simpa using hz
 have qy:(y == 6)=false:=by simpa using hy
 go_enter func37,ntmps37
 go_wp2_with fail
 refine (hs _).mono ?_
 rintro e w1 ⟨⟨s,rfl,hs0⟩,b1⟩
 have he:=empty_no hs0
 have B1:Hid (Below w.heap.size w w1):=b1
 clear b1 hs
 go_wp2_with fail
 refine (hp _).mono ?_
 rintro e w2 ⟨rfl,b2⟩
 have B2:Hid (Below w.heap.size w w2):=B1.out.trans (b2.mono B1.out.size)
 clear b2 hp B1 he hs0
 go_wp2
 go_ret
 refine ⟨rfl,?_⟩
 with_reducible first|exact B2.out|exact Lgrow B2.out _
theorem impl_n2 (code y z p q:Int) (t:Bool) (w:World) (hh:¬ code=118) (hz:¬ z=6) (hs:Shp code false) (hp:Prt code 2 y z p q) :
  Calls prog 37 #[.int .i64 code,.bool false,.bool t] w fun e w'=>e=.returned (.int .i64 (1))/\Below w.heap.size w w':=by
 have q118:(code == 118)=false:=by simpa using hh
 have qz:(z == 6)=false:=by simpa using hz
 go_enter func37,ntmps37
 go_wp2_with fail
 refine (hs _).mono ?_
 rintro e w1 ⟨⟨s,rfl,hs0⟩,b1⟩
 have he:=empty_no hs0
 have B1:Hid (Below w.heap.size w w1):=b1
 clear b1 hs
 go_wp2_with fail
 refine (hp _).mono ?_
 rintro e w2 ⟨rfl,b2⟩
 have B2:Hid (Below w.heap.size w w2):=B1.out.trans (b2.mono B1.out.size)
 clear b2 hp B1 he hs0
 go_wp2
 go_ret
 refine ⟨rfl,?_⟩
 with_reducible first|exact B2.out|exact Lgrow B2.out _
theorem impl_any (code:Int) (cb t:Bool) (w:World) (h0:0<=code) (h1:code<=255) (hs:Shp code cb) (hg:cb=false->code / 64=3->¬ goneB (code / 8%8) (code%8)=true) :
  Calls prog 37 #[.int .i64 code,.bool cb,.bool t] w fun e w'=>e=.returned (.int .i64 (cycV code cb t))/\Below w.heap.size w w':=by
 have hp:Prt code (code / 64) (code / 8%8) (code%8) (code / 8%8 / 2) (code / 8%8%2):=fun w=>Shape.partsOf_any code w h0 h1
 unfold cycV
 cases cb with
 | true =>
  rw [if_pos rfl];exact impl_cb code _ _ _ _ _ t w hs hp
 | false =>
  rw [if_neg (by decide)]
  by_cases hx:code / 64=0
  ·rw [if_pos hx];rw [hx] at hp;exact impl_low code _ _ _ _ t w rfl (by omega) (by omega) (by omega) (by omega) hs hp
  rw [if_neg hx]
  by_cases h3:code / 64=3
  ·rw [if_pos h3];have hg':=hg rfl h3;rw [h3] at hp;exact impl_top code _ _ _ _ t w rfl (by omega) (by omega) (by omega) (by omega) hg' hs hp
  rw [if_neg h3]
  by_cases h8:code=118
  ·rw [if_pos h8];exact impl_halt code _ _ _ _ _ t w hx h3 h8 hs hp
  rw [if_neg h8]
  by_cases hz:code%8=6
  ·rw [if_pos hz];rw [hz] at hp;exact impl_z code _ _ _ _ t w hx h3 h8 hs hp
  rw [if_neg hz]
  by_cases h2:code / 64=1
  ·rw [h2] at hp
   by_cases hy:code / 8%8=6
   ·rw [if_pos ⟨h2,hy⟩];rw [hy] at hp;exact impl_y code _ _ _ t w h8 hz hs hp
   ·rw [if_neg (fun h=>hy h.2)];exact impl_n1 code _ _ _ _ t w h8 hz hy hs hp
  ·have h4:code / 64=2:=by omega
   rw [h4] at hp
   rw [if_neg (fun h=>h2 h.1)];exact impl_n2 code _ _ _ _ t w h8 hz hs hp
end CycP
namespace CycX
open Signed (inB)
theorem both_all:∀ (c:Fin 256) (b:Bool),((Tmpl.tmplS (c.val:Int) b).size=0 ↔ (Shape.shapeR (c.val:Int) b).size=0)/\((Tmpl.tmplS (c.val:Int) b).size ≠ 0->b=false->(c.val:Int) / 64=3->¬ CycD.goneB ((c.val:Int) / 8%8) ((c.val:Int)%8)=true):=by decide +kernel
theorem both (code:Int) (cb:Bool) (h0:0<=code) (h1:code<=255):((Tmpl.tmplS code cb).size=0 ↔ (Shape.shapeR code cb).size=0)/\((Tmpl.tmplS code cb).size ≠ 0->cb=false->code / 64=3->¬ CycD.goneB (code / 8%8) (code%8)=true):=by
 have:=both_all ⟨code.toNat,by omega⟩ cb
 rwa [show ((⟨code.toNat,by omega⟩ : Fin 256).val:Int)=code by show ((code.toNat:Nat):Int)=code;omega] at this
theorem shape_in {code:Int} {cb:Bool} (h:inB code 0 255=true):Shape.shape code cb=Shape.shapeR code cb:=by unfold Shape.shape;rw [if_pos h]
theorem shape_out {code:Int} {cb:Bool} (h:inB code 0 255=false):Shape.shape code cb=⟨#[]⟩:=by unfold Shape.shape;rw [h];rfl
def Sp (code:Int) (cb t:Bool) (v:Int):Prop:=∀ w,Calls prog 91 #[.int .i64 code,.bool cb,.bool t] w fun e w'=>e=.returned (.int .i64 v)/\Below w.heap.size w w'
def Im (code:Int) (cb t:Bool) (v:Int):Prop:=∀ w,Calls prog 37 #[.int .i64 code,.bool cb,.bool t] w fun e w'=>e=.returned (.int .i64 v)/\Below w.heap.size w w'
theorem spec_none (code:Int) (cb t:Bool) (hl:∀ w,Calls prog 135 #[.int .i64 code,.bool cb] w fun e w'=>e=.returned (.int .i64 0)/\Below w.heap.size w w'):Sp code cb t 0:=fun w=>by
 go_enter func91,ntmps91
 go_wp2_with fail
 refine (hl _).mono ?_
 rintro e w1 ⟨rfl,b1⟩
 have B1:Hid (Below w.heap.size w w1):=b1
 clear b1 hl
 go_wp2
 go_ret
 exact ⟨rfl,B1.out⟩
theorem impl_none (code:Int) (cb t:Bool) (hs:(Shape.shape code cb).size=0):Im code cb t 0:=fun w=>by
 have c:=fun w=>Shape.shapeOf_any code cb w
 have he:=Leng.empty_yes hs
 generalize Shape.shape code cb=T at c he
 go_enter func37,ntmps37
 go_wp2_with fail
 refine (c _).mono ?_
 rintro e w1 ⟨rfl,b1⟩
 have B1:Hid (Below w.heap.size w w1):=b1
 clear b1 c
 go_wp2
 go_ret
 exact ⟨rfl,B1.out⟩
def cyc (code:Int) (cb t:Bool):Int:=if LenX.none? code cb=true then 0 else CycQ.cycV code cb t
theorem sp (code:Int) (cb t:Bool):Sp code cb t (cyc code cb t):=by
 cases hb:inB code 0 255
 ·have hn:LenX.none? code cb=true:=by unfold LenX.none?;rw [hb];rfl
  have hc:cyc code cb t=0:=by unfold cyc;rw [if_pos hn]
  rw [hc]
  refine spec_none code cb t (fun w=>(Leng.lengthOf_out code cb w hb).mono ?_)
  rintro e w' ⟨he,hw⟩
  exact ⟨he,by rw [hw];exact zRf⟩
 obtain ⟨h0,h1⟩:=of_decide_eq_true hb
 by_cases hz:(Tmpl.tmplS code cb).size=0
 ·have hn:LenX.none? code cb=true:=by unfold LenX.none?;rw [hz];simp
  have hc:cyc code cb t=0:=by unfold cyc;rw [if_pos hn]
  rw [hc]
  refine spec_none code cb t (fun w=>(Leng.lengthOf_any code cb w h0 h1).mono ?_)
  rintro e w' ⟨⟨n,rfl,hn,_⟩,hw⟩
  exact ⟨by rw [hn.2 hz],hw⟩
 ·have hn:LenX.none? code cb=false:=by unfold LenX.none?;rw [hb];simp [hz]
  have hc:cyc code cb t=CycQ.cycV code cb t:=by unfold cyc;rw [hn];rfl
  rw [hc]
  refine fun w=>CycO.spec_any code cb t w h0 h1 (fun w=>(Leng.lengthOf_any code cb w h0 h1).mono ?_)
  rintro e w' ⟨⟨n,rfl,hn,_⟩,hw⟩
  exact ⟨⟨n,rfl,fun h=>hz (hn.1 h)⟩,hw⟩
theorem same (code:Int) (cb t:Bool):Sp code cb t (cyc code cb t)/\Im code cb t (cyc code cb t):=by
 cases hb:inB code 0 255
 ·have hn:LenX.none? code cb=true:=by unfold LenX.none?;rw [hb];rfl
  have hc:cyc code cb t=0:=by unfold cyc;rw [if_pos hn]
  rw [hc]
  refine ⟨spec_none code cb t (fun w=>(Leng.lengthOf_out code cb w hb).mono ?_),impl_none code cb t ?_⟩
  ·rintro e w' ⟨he,hw⟩
   exact ⟨he,by rw [hw];exact zRf⟩
  ·rw [shape_out hb];rfl
 obtain ⟨h0,h1⟩:=of_decide_eq_true hb
 obtain ⟨h2,h3⟩:=both code cb h0 h1
 by_cases hz:(Tmpl.tmplS code cb).size=0
 ·have hn:LenX.none? code cb=true:=by unfold LenX.none?;rw [hz];simp
  have hc:cyc code cb t=0:=by unfold cyc;rw [if_pos hn]
  rw [hc]
  refine ⟨spec_none code cb t (fun w=>(Leng.lengthOf_any code cb w h0 h1).mono ?_),impl_none code cb t ?_⟩
  ·rintro e w' ⟨⟨n,rfl,hn,_⟩,hw⟩
   exact ⟨by rw [hn.2 hz],hw⟩
  ·rw [shape_in hb];exact h2.1 hz
 ·have hn:LenX.none? code cb=false:=by unfold LenX.none?;rw [hb];simp [hz]
  have hc:cyc code cb t=CycQ.cycV code cb t:=by unfold cyc;rw [hn];rfl
  rw [hc]
  refine ⟨fun w=>CycO.spec_any code cb t w h0 h1 (fun w=>(Leng.lengthOf_any code cb w h0 h1).mono ?_),fun w=>CycP.impl_any code cb t w h0 h1 (fun w=>(Shape.shapeOf_any code cb w).mono ?_) (h3 hz)⟩
  ·rintro e w' ⟨⟨n,rfl,hn,_⟩,hw⟩
   exact ⟨⟨n,rfl,fun h=>hz (hn.1 h)⟩,hw⟩
  ·rintro e w' ⟨rfl,hw⟩
   exact ⟨⟨_,rfl,fun h=>hz (h2.2 (by rwa [shape_in hb] at h))⟩,hw⟩
theorem range_all:∀ (c:Fin 256) (b t:Bool),LenX.none? (c.val:Int) b=false->0<CycQ.cycV (c.val:Int) b t/\CycQ.cycV (c.val:Int) b t<7/\CycQ.cycV (c.val:Int) b false<=CycQ.cycV (c.val:Int) b true:=by decide +kernel
theorem range (code:Int) (cb t:Bool) (h0:0<=code) (h1:code<=255) (h:LenX.none? code cb=false):0<cyc code cb t/\cyc code cb t<7/\cyc code cb false<=cyc code cb true:=by
 have:=range_all ⟨code.toNat,by omega⟩ cb t
 rw [show ((⟨code.toNat,by omega⟩ : Fin 256).val:Int)=code by show ((code.toNat:Nat):Int)=code;omega] at this
 unfold cyc
 rw [h]
 exact this h
end CycX
end Go.Proofs.YtnjolmbdbgbmbaaGreatDoor
