import Derived.Test.YtfpecdgcapfgfaaGreatP15
import Derived.Test.YtfpecdgcapfgfaaGreatProg
import Derived.Test.YtfpecdgcapfgfaaGreatP08
set_option linter.all false
set_option maxRecDepth 20000
set_option maxHeartbeats 8000000
open Go.ChangeShapes Go.WideShapes Go.ChangeAt Go.RowKit
open Go.Proofs.Tryz
namespace Go.Proofs.YtfpecdgcapfgfaaGreat
namespace Sta
open Go.Deep
open Signed (inB sgn ret_int ret_bool)
open Busw Busx Busy Stpp Stpq Stps
abbrev Rg (f:FuncId) (args:Array Value) (W:World) (v:Value):Prop:=∀ d os,Calls prog f args (Go.Sort.grow (redrawn W d) os) fun e w''=>e=.returned v/\∃ p:Regrown,w''=Go.Sort.grow (redrawn W p.d) p.os
theorem rg {f:FuncId} {args:Array Value} {W:World} {v:Value} (h:∀ W',Below W.heap.size W W'->Calls prog f args W' fun e w'=>e=.returned v/\Below W'.heap.size W' w'):Rg f args W v:=fun d os=>Calls.regrown_of (h _ (below_regrown W d os))
theorem after {a w w':World} (h:Below a.heap.size a w) (k:Below w.heap.size w w'):Below a.heap.size a w':=h.trans (k.mono h.size)
theorem hlS (g:SG) (m:M) (full:Bool) (w:World) (h:InS g w m full) (hg:Stpq.Good m) :
  Calls prog 90 #[.pointer (some ⟨g.X,0,none⟩)] w fun e w'=>e=.returned (.int .i64 (hl m))/\Below w.heap.size w w':=by
 have h1:=hg.h
 have h2:=hg.l
 have d1:IntKind.i64.wrap (256*m.rH)=256*m.rH:=by rw [IntKind.wrap_i64];omega
 have d2:IntKind.i64.wrap (256*m.rH+m.rL)=256*m.rH+m.rL:=by rw [IntKind.wrap_i64];omega
 have q_rH:=h.cell 6 _ rfl
 have q_rL:=h.cell 7 _ rfl
 clear h hg h1 h2
 go_enter func90,ntmps90
 go_wp2_with fail
 go_quiet (fail)
 go_wp2
 go_ret
 exact ⟨rfl,by repeat (with_reducible first|exact zRf|refine zGr ?_ _|refine below_drewN ?_ _|refine Below.drew ?_)⟩
theorem writeS (g:SG) (m:M) (full:Bool) (addr v:Int) (w:World) (h:InS g w m full) (hr:Rt m) (a0:0<=addr) (v0:0<=v) (v1:v<=255) :
  Calls prog 85 #[.pointer (some ⟨g.X,0,none⟩),.int .i64 addr,.int .i64 v] w fun e w'=>e=.returned (.tuple #[])/\InS g w' (wr ⟨m,full⟩ addr v).m (wr ⟨m,full⟩ addr v).full:=by
 obtain ⟨po,cap,hA⟩:=h
 have hq:0<=addr%65536/\addr%65536<=65535:=by omega
 have c1:=swrite_any m po cap (addr%65536) v w hr hA.sl (decide_eq_true hq) (decide_eq_true ⟨v0,v1⟩)
 have hl:=hA.load (W':=w) rfl
 have d1:addr.tmod 65536=addr%65536:=Int.tmod_eq_emod_of_nonneg a0
 have HA:Hid (SAt g w m full po cap):=hA
 have hz:=zeroM
 have HWR:Hid (wr ⟨m,full⟩ addr v=match wrM m (addr%65536) v with|some m'=>⟨m',full⟩|none=>⟨m,true⟩):=rfl
 generalize wr ⟨m,full⟩ addr v=t at *
 obtain ⟨rr,hrr⟩ : ∃ r,r=wrM m (addr%65536) v:=⟨_,rfl⟩
 rw [<- hrr] at c1 HWR
 clear hrr hA hr hq
 generalize addr%65536=aq at *
 obtain ⟨cZ,hcZ⟩ : ∃ c,c=cellsM Z0 none 0:=⟨_,rfl⟩
 have HZ:Hid (cZ=cellsM Z0 none 0):=hcZ
 rw [<- hcZ] at hz
 clear hcZ
 go_enter func85,ntmps85
 go_upto_region 0 with fail
 refine wp_region_list ?_
 refine wpList_plain rfl (fun K hK=>?_)
 go_simp
 refine hK _ _ ?_
 clear hK
 refine wpList_plain rfl (fun K hK=>?_)
 go_simp
 refine hK _ _ ?_
 clear hK
 refine wpList_plain rfl (fun K hK=>?_)
 go_simp
 refine hK _ _ ?_
 clear hK
 refine wpList_load_any rfl 30 _ rfl ⟨g.X,0,none⟩ rfl _ hl ?_
 go_wp2_with fail
 refine Calls.mono c1 ?_
 rintro e w1 ⟨hc,hb1⟩
 obtain ⟨m',po',cap',ok,hok,rfl,hsl,hmm⟩ : ∃ m' po' cap' ok,t=⟨m',full || !ok⟩/\e=.returned (.tuple #[.agg (cellsM m' po' cap'),.bool ok])/\Sl w1 po' m'.out cap'/\(∀ p,po'=some p->p.block ≠ g.X):=by
  rcases hc with ⟨m',po',cap',hr,he,hs,hfr⟩|⟨hr,he⟩
  ·refine ⟨m',po',cap',true,?_,he,hs,?_⟩
   ·rw [HWR.out,hr];simp
   ·intro p hp
    rcases hfr with rfl|hfr
    ·exact HA.out.ne p hp
    ·have h1:=hfr p hp
     have h2:=HA.out.lt
     omega
  ·refine ⟨m,po,cap,false,?_,he,HA.out.sl.below hb1,HA.out.ne⟩
   rw [HWR.out,hr];simp
 have HS1:Hid (Sl w1 po' m'.out cap'/\∀ p,po'=some p->p.block ≠ g.X):=⟨hsl,hmm⟩
 have HB1:Hid (Below w.heap.size w w1):=hb1
 have HXX:Hid (w1.heap[g.X]? = some (.cells (cellsW m po cap full) 93 (0,0))):=(hb1.block _ HA.out.lt).trans HA.out.box
 have HT:Hid (t=⟨m',full || !ok⟩):=hok
 clear hc hsl hmm hb1 HWR c1 hl hok
 rename_i hK
 refine hK _ _ ?_
 clear hK
 refine wpList_plain rfl (fun K hK=>?_)
 go_simp
 refine hK _ _ ?_
 clear hK
 refine wpList_plain rfl (fun K hK=>?_)
 go_simp
 refine hK _ _ ?_
 clear hK
 refine wpList_plain rfl (fun K hK=>?_)
 go_simp
 refine hK _ _ ?_
 clear hK
 refine wpList_plain rfl (fun K hK=>?_)
 go_simp
 refine hK _ _ ?_
 clear hK
 refine wpList_store_row rfl 30 _ _ rfl w1.heap.size (cellsM m' po' cap') rfl rfl _ _ (heap_alloc_last w1 _) (infoMs _ _ _) (by rw [HZ.out,size_M,size_M]) (one_M _ _ _) ?_
 rw [World.setRow_alloc_new]
 obtain ⟨u1,hu1⟩ : ∃ u,u=w1.alloc (.cells (cellsM m' po' cap') 30):=⟨_,rfl⟩
 have HU:Hid (u1.heap[w1.heap.size]? = some (.cells (cellsM m' po' cap') 30)/\u1.heap[g.X]? = some (.cells (cellsW m po cap full) 93 (0,0))/\Below w.heap.size w u1/\Sl u1 po' m'.out cap'/\g.X<w1.heap.size):=by
  have hx:=(zLo HXX.out)
  have hbb:Below w1.heap.size w1 u1:=by rw [hu1];exact zAl _ _
  exact ⟨by rw [hu1];exact heap_alloc_last w1 _,(hbb.block _ hx).trans HXX.out,after HB1.out hbb,HS1.out.1.below hbb,hx⟩
 obtain ⟨bM,hbM⟩ : ∃ b,b=w1.heap.size:=⟨_,rfl⟩
 rw [<- hu1,<- hbM]
 rw [<- hbM] at HU
 clear hu1 hbM HXX HB1
 go_upto_region 1 with fail
 refine wp_region_list ?_
 refine wpList_plain rfl (fun K hK=>?_)
 go_simp
 refine hK _ _ ?_
 clear hK
 refine wpList_load_row rfl 30 _ rfl bM rfl _ _ (0,0) _ HU.out.1 underlying30 rfl (infoMs _ _ _) ?_
 refine wpList_plain rfl (fun K hK=>?_)
 go_simp
 refine hK _ _ ?_
 clear hK
 refine wpList_plain rfl (fun K hK=>?_)
 go_simp
 refine hK _ _ ?_
 clear hK
 refine wpList_store_part rfl 30 _ _ rfl g.X (cellsM m' po' cap') rfl rfl _ _ HU.out.2.1 (infoMs _ _ _) (by rw [size_M,size_W];decide) (one_M _ _ _) ?_
 rw [part_W]
 obtain ⟨u2,hu2⟩ : ∃ u,u=u1.setRow g.X (cellsW m' po' cap' full):=⟨_,rfl⟩
 have HI:Hid (InS g u2 m' full):=by
  obtain ⟨h1,h2,h3,h4,h5⟩:=HU.out
  rw [hu2]
  refine ⟨po',cap',MachT.heap_row h2,?_,HS1.out.2,?_⟩
  ·exact sl_grown h4 HS1.out.2 (set_row_grown _ _ _)
  ·exact grown_trans (grown_trans HA.out.grown (below_grown h3)) (set_row_grown _ _ _)
 rw [<- hu2]
 clear hu2 HU HS1 HA
 have q:=HI.out.cellFull
 have f:=HI.out.fro 23
 have HF:Hid (InS g (u2.setCell ⟨g.X,23,none⟩ (.bool (full || !ok))) m' (full || !ok)):=HI.out.setFull _
 clear HI
 refine wpList_nil ?_
 cases full <;> cases ok
 all_goals
  go_wp2
  go_end0
  exact ⟨rfl,by rw [HT.out];exact HF.out⟩
theorem reg_0 (g:SG) (m:M) (full:Bool) (w:World) (h:InS g w m full) :
  Calls prog 70 #[.pointer (some ⟨g.X,0,none⟩),.int .i64 0] w fun e w'=>e=.returned (.int .i64 (m.rB))/\Below w.heap.size w w':=by
 have q_ra:=h.cell 0 _ rfl
 have q_rf:=h.cell 1 _ rfl
 have q_rB:=h.cell 2 _ rfl
 have q_rC:=h.cell 3 _ rfl
 have q_rD:=h.cell 4 _ rfl
 have q_rE:=h.cell 5 _ rfl
 have q_rH:=h.cell 6 _ rfl
 have q_rL:=h.cell 7 _ rfl
 have q_sp:=h.cell 8 _ rfl
 have q_pc:=h.cell 9 _ rfl
 have q_ime:=h.cell 10 _ rfl
 have q_hal:=h.cell 11 _ rfl
 have hl:=h.lt
 clear h
 go_enter func70,ntmps70
 go_wp2
 go_ret
 exact ⟨rfl,by repeat (with_reducible first|exact zRf|refine zGr ?_ _|refine below_drewN ?_ _|refine Below.drew ?_)⟩
theorem reg_1 (g:SG) (m:M) (full:Bool) (w:World) (h:InS g w m full) :
  Calls prog 70 #[.pointer (some ⟨g.X,0,none⟩),.int .i64 1] w fun e w'=>e=.returned (.int .i64 (m.rC))/\Below w.heap.size w w':=by
 have q_ra:=h.cell 0 _ rfl
 have q_rf:=h.cell 1 _ rfl
 have q_rB:=h.cell 2 _ rfl
 have q_rC:=h.cell 3 _ rfl
 have q_rD:=h.cell 4 _ rfl
 have q_rE:=h.cell 5 _ rfl
 have q_rH:=h.cell 6 _ rfl
 have q_rL:=h.cell 7 _ rfl
 have q_sp:=h.cell 8 _ rfl
 have q_pc:=h.cell 9 _ rfl
 have q_ime:=h.cell 10 _ rfl
 have q_hal:=h.cell 11 _ rfl
 have hl:=h.lt
 clear h
 go_enter func70,ntmps70
 go_wp2
 go_ret
 exact ⟨rfl,by repeat (with_reducible first|exact zRf|refine zGr ?_ _|refine below_drewN ?_ _|refine Below.drew ?_)⟩
theorem reg_2 (g:SG) (m:M) (full:Bool) (w:World) (h:InS g w m full) :
  Calls prog 70 #[.pointer (some ⟨g.X,0,none⟩),.int .i64 2] w fun e w'=>e=.returned (.int .i64 (m.rD))/\Below w.heap.size w w':=by
 have q_ra:=h.cell 0 _ rfl
 have q_rf:=h.cell 1 _ rfl
 have q_rB:=h.cell 2 _ rfl
 have q_rC:=h.cell 3 _ rfl
 have q_rD:=h.cell 4 _ rfl
 have q_rE:=h.cell 5 _ rfl
 have q_rH:=h.cell 6 _ rfl
 have q_rL:=h.cell 7 _ rfl
 have q_sp:=h.cell 8 _ rfl
 have q_pc:=h.cell 9 _ rfl
 have q_ime:=h.cell 10 _ rfl
 have q_hal:=h.cell 11 _ rfl
 have hl:=h.lt
 clear h
 go_enter func70,ntmps70
 go_wp2
 go_ret
 exact ⟨rfl,by repeat (with_reducible first|exact zRf|refine zGr ?_ _|refine below_drewN ?_ _|refine Below.drew ?_)⟩
theorem reg_3 (g:SG) (m:M) (full:Bool) (w:World) (h:InS g w m full) :
  Calls prog 70 #[.pointer (some ⟨g.X,0,none⟩),.int .i64 3] w fun e w'=>e=.returned (.int .i64 (m.rE))/\Below w.heap.size w w':=by
 have q_ra:=h.cell 0 _ rfl
 have q_rf:=h.cell 1 _ rfl
 have q_rB:=h.cell 2 _ rfl
 have q_rC:=h.cell 3 _ rfl
 have q_rD:=h.cell 4 _ rfl
 have q_rE:=h.cell 5 _ rfl
 have q_rH:=h.cell 6 _ rfl
 have q_rL:=h.cell 7 _ rfl
 have q_sp:=h.cell 8 _ rfl
 have q_pc:=h.cell 9 _ rfl
 have q_ime:=h.cell 10 _ rfl
 have q_hal:=h.cell 11 _ rfl
 have hl:=h.lt
 clear h
 go_enter func70,ntmps70
 go_wp2
 go_ret
 exact ⟨rfl,by repeat (with_reducible first|exact zRf|refine zGr ?_ _|refine below_drewN ?_ _|refine Below.drew ?_)⟩
theorem reg_4 (g:SG) (m:M) (full:Bool) (w:World) (h:InS g w m full) :
  Calls prog 70 #[.pointer (some ⟨g.X,0,none⟩),.int .i64 4] w fun e w'=>e=.returned (.int .i64 (m.rH))/\Below w.heap.size w w':=by
 have q_ra:=h.cell 0 _ rfl
 have q_rf:=h.cell 1 _ rfl
 have q_rB:=h.cell 2 _ rfl
 have q_rC:=h.cell 3 _ rfl
 have q_rD:=h.cell 4 _ rfl
 have q_rE:=h.cell 5 _ rfl
 have q_rH:=h.cell 6 _ rfl
 have q_rL:=h.cell 7 _ rfl
 have q_sp:=h.cell 8 _ rfl
 have q_pc:=h.cell 9 _ rfl
 have q_ime:=h.cell 10 _ rfl
 have q_hal:=h.cell 11 _ rfl
 have hl:=h.lt
 clear h
 go_enter func70,ntmps70
 go_wp2
 go_ret
 exact ⟨rfl,by repeat (with_reducible first|exact zRf|refine zGr ?_ _|refine below_drewN ?_ _|refine Below.drew ?_)⟩
theorem reg_5 (g:SG) (m:M) (full:Bool) (w:World) (h:InS g w m full) :
  Calls prog 70 #[.pointer (some ⟨g.X,0,none⟩),.int .i64 5] w fun e w'=>e=.returned (.int .i64 (m.rL))/\Below w.heap.size w w':=by
 have q_ra:=h.cell 0 _ rfl
 have q_rf:=h.cell 1 _ rfl
 have q_rB:=h.cell 2 _ rfl
 have q_rC:=h.cell 3 _ rfl
 have q_rD:=h.cell 4 _ rfl
 have q_rE:=h.cell 5 _ rfl
 have q_rH:=h.cell 6 _ rfl
 have q_rL:=h.cell 7 _ rfl
 have q_sp:=h.cell 8 _ rfl
 have q_pc:=h.cell 9 _ rfl
 have q_ime:=h.cell 10 _ rfl
 have q_hal:=h.cell 11 _ rfl
 have hl:=h.lt
 clear h
 go_enter func70,ntmps70
 go_wp2
 go_ret
 exact ⟨rfl,by repeat (with_reducible first|exact zRf|refine zGr ?_ _|refine below_drewN ?_ _|refine Below.drew ?_)⟩
theorem reg_7 (g:SG) (m:M) (full:Bool) (w:World) (h:InS g w m full) :
  Calls prog 70 #[.pointer (some ⟨g.X,0,none⟩),.int .i64 7] w fun e w'=>e=.returned (.int .i64 (m.ra))/\Below w.heap.size w w':=by
 have q_ra:=h.cell 0 _ rfl
 have q_rf:=h.cell 1 _ rfl
 have q_rB:=h.cell 2 _ rfl
 have q_rC:=h.cell 3 _ rfl
 have q_rD:=h.cell 4 _ rfl
 have q_rE:=h.cell 5 _ rfl
 have q_rH:=h.cell 6 _ rfl
 have q_rL:=h.cell 7 _ rfl
 have q_sp:=h.cell 8 _ rfl
 have q_pc:=h.cell 9 _ rfl
 have q_ime:=h.cell 10 _ rfl
 have q_hal:=h.cell 11 _ rfl
 have hl:=h.lt
 clear h
 go_enter func70,ntmps70
 go_wp2
 go_ret
 exact ⟨rfl,by repeat (with_reducible first|exact zRf|refine zGr ?_ _|refine below_drewN ?_ _|refine Below.drew ?_)⟩
theorem reg_6 (g:SG) (m:M) (full:Bool) (w:World) (h:InS g w m full) (hg:Stpq.Good m) :
  Calls prog 70 #[.pointer (some ⟨g.X,0,none⟩),.int .i64 6] w fun e w'=>e=.returned (.int .i64 (rd m (hl m)))/\Below w.heap.size w w':=by
 have q_ra:=h.cell 0 _ rfl
 have q_rf:=h.cell 1 _ rfl
 have q_rB:=h.cell 2 _ rfl
 have q_rC:=h.cell 3 _ rfl
 have q_rD:=h.cell 4 _ rfl
 have q_rE:=h.cell 5 _ rfl
 have q_rH:=h.cell 6 _ rfl
 have q_rL:=h.cell 7 _ rfl
 have q_sp:=h.cell 8 _ rfl
 have q_pc:=h.cell 9 _ rfl
 have q_ime:=h.cell 10 _ rfl
 have q_hal:=h.cell 11 _ rfl
 have hlt:=h.lt
 obtain ⟨o,ho⟩ : ∃ o:Obj,o=.cells #[.int .i64 m.ra,.int .i64 m.rf,.int .i64 m.rB,.int .i64 m.rC,.int .i64 m.rD,.int .i64 m.rE,.int .i64 m.rH,.int .i64 m.rL,.int .i64 m.sp,.int .i64 m.pc,.bool m.ime,.bool m.hal] 25:=⟨_,rfl⟩
 have hIA:InS g (w.alloc o) m full:=h.below (zAl _ _)
 have HI:Hid (InS g (w.alloc o) m full):=hIA
 obtain ⟨po,cap,hA⟩:=hIA
 have hb:=hl_bd hg
 have c1:Rg 90 #[.pointer (some ⟨g.X,0,none⟩)] (w.alloc o) (.int .i64 (hl m)):=rg fun W hb=>hlS g m full W (HI.out.below hb) hg
 have c2:Rg 29 #[.agg (cellsM m po cap),.int .i64 (hl m)] (w.alloc o) (.int .i64 (rd m (hl m))):=rg fun W hb'=>l6Read_M m po cap (hl m) W hg.rt hb.1
 have hld:∀ d os,(loadVar 30 ⟨g.X,0,none⟩).run prog (Go.Sort.grow (redrawn (w.alloc o) d) os)=.ok (.agg (cellsM m po cap)) (Go.Sort.grow (redrawn (w.alloc o) d) os):=fun d os=>hA.load ((below_regrown (w.alloc o) d os).block _ hA.lt)
 have HBW:Hid (Below w.heap.size w (w.alloc o)):=zAl _ _
 generalize rd m (hl m)=r at *
 generalize hl m=a at *
 generalize cellsM m po cap=cM at *
 clear h hg hb hA
 go_enter func70,ntmps70
 go_upto_region 3 with fail
 rw [<- ho]
 clear ho
 refine wp_region_quiet_below (by kernel_rfl) (by kernel_rfl) ?_
 repeat (first|(go_big_quiet_step (first|with_reducible exact c1 _ _|with_reducible exact c2 _ _))|(refine wpQuiet_load (by rfl) 30 _ rfl ⟨g.X,0,none⟩ rfl _ (fun W hW=>by obtain ⟨⟨d,o⟩,rfl⟩:=hW;exact hld d o) ?_;simp only [Act.put,List.setIfInBounds_toArray,List.set_cons_succ,List.set_cons_zero]))
 refine wpQuiet_nil ?_
 intro _ hw'
 obtain ⟨⟨dq,osq⟩,hw''⟩:=hw'
 subst hw''
 have H2:Hid (InS g (Go.Sort.grow (redrawn (w.alloc o) dq) osq) m full):=HI.out.below (below_regrown (w.alloc o) dq osq)
 have hbg:Below (w.alloc o).heap.size (w.alloc o) (Go.Sort.grow (redrawn (w.alloc o) dq) osq):=below_regrown (w.alloc o) dq osq
 generalize Go.Sort.grow (redrawn (w.alloc o) dq) osq=W2 at *
 clear HI c1 c2 hld
 have HB2:Hid (Below w.heap.size w W2):=after HBW.out hbg
 clear hbg
 go_wp2
 go_ret
 exact ⟨rfl,HB2.out⟩
theorem regS (g:SG) (m:M) (full:Bool) (n:Int) (w:World) (h:InS g w m full) (hg:Stpq.Good m) (n0:0<=n) (n1:n<=7) :
  Calls prog 70 #[.pointer (some ⟨g.X,0,none⟩),.int .i64 n] w fun e w'=>e=.returned (.int .i64 (Stpp.get m n))/\Below w.heap.size w w':=by
 have hn:n=0 \/ n=1 \/ n=2 \/ n=3 \/ n=4 \/ n=5 \/ n=6 \/ n=7:=by omega
 rcases hn with rfl|rfl|rfl|rfl|rfl|rfl|rfl|rfl
 ·exact reg_0 g m full w h
 ·exact reg_1 g m full w h
 ·exact reg_2 g m full w h
 ·exact reg_3 g m full w h
 ·exact reg_4 g m full w h
 ·exact reg_5 g m full w h
 ·exact reg_6 g m full w h hg
 ·exact reg_7 g m full w h
theorem set_0 (g:SG) (m:M) (full:Bool) (v:Int) (w:World) (h:InS g w m full) :
  Calls prog 69 #[.pointer (some ⟨g.X,0,none⟩),.int .i64 0,.int .i64 v] w fun e w'=>e=.returned (.tuple #[])/\InS g w' { m with rB:=v } full:=by
 have q:=h.cell 2 _ rfl
 have f:=h.fro 2
 have HF:Hid (InS g (w.setCell ⟨g.X,2,none⟩ (.int .i64 v)) { m with rB:=v } full):=h.s_rB v
 clear h
 go_enter func69,ntmps69
 go_wp2
 go_end0
 exact ⟨rfl,HF.out⟩
theorem set_1 (g:SG) (m:M) (full:Bool) (v:Int) (w:World) (h:InS g w m full) :
  Calls prog 69 #[.pointer (some ⟨g.X,0,none⟩),.int .i64 1,.int .i64 v] w fun e w'=>e=.returned (.tuple #[])/\InS g w' { m with rC:=v } full:=by
 have q:=h.cell 3 _ rfl
 have f:=h.fro 3
 have HF:Hid (InS g (w.setCell ⟨g.X,3,none⟩ (.int .i64 v)) { m with rC:=v } full):=h.s_rC v
 clear h
 go_enter func69,ntmps69
 go_wp2
 go_end0
 exact ⟨rfl,HF.out⟩
theorem set_2 (g:SG) (m:M) (full:Bool) (v:Int) (w:World) (h:InS g w m full) :
  Calls prog 69 #[.pointer (some ⟨g.X,0,none⟩),.int .i64 2,.int .i64 v] w fun e w'=>e=.returned (.tuple #[])/\InS g w' { m with rD:=v } full:=by
 have q:=h.cell 4 _ rfl
 have f:=h.fro 4
 have HF:Hid (InS g (w.setCell ⟨g.X,4,none⟩ (.int .i64 v)) { m with rD:=v } full):=h.s_rD v
 clear h
 go_enter func69,ntmps69
 go_wp2
 go_end0
 exact ⟨rfl,HF.out⟩
theorem set_3 (g:SG) (m:M) (full:Bool) (v:Int) (w:World) (h:InS g w m full) :
  Calls prog 69 #[.pointer (some ⟨g.X,0,none⟩),.int .i64 3,.int .i64 v] w fun e w'=>e=.returned (.tuple #[])/\InS g w' { m with rE:=v } full:=by
 have q:=h.cell 5 _ rfl
 have f:=h.fro 5
 have HF:Hid (InS g (w.setCell ⟨g.X,5,none⟩ (.int .i64 v)) { m with rE:=v } full):=h.s_rE v
 clear h
 go_enter func69,ntmps69
 go_wp2
 go_end0
 exact ⟨rfl,HF.out⟩
theorem set_4 (g:SG) (m:M) (full:Bool) (v:Int) (w:World) (h:InS g w m full) :
  Calls prog 69 #[.pointer (some ⟨g.X,0,none⟩),.int .i64 4,.int .i64 v] w fun e w'=>e=.returned (.tuple #[])/\InS g w' { m with rH:=v } full:=by
 have q:=h.cell 6 _ rfl
 have f:=h.fro 6
 have HF:Hid (InS g (w.setCell ⟨g.X,6,none⟩ (.int .i64 v)) { m with rH:=v } full):=h.s_rH v
 clear h
 go_enter func69,ntmps69
 go_wp2
 go_end0
 exact ⟨rfl,HF.out⟩
theorem set_5 (g:SG) (m:M) (full:Bool) (v:Int) (w:World) (h:InS g w m full) :
  Calls prog 69 #[.pointer (some ⟨g.X,0,none⟩),.int .i64 5,.int .i64 v] w fun e w'=>e=.returned (.tuple #[])/\InS g w' { m with rL:=v } full:=by
 have q:=h.cell 7 _ rfl
 have f:=h.fro 7
 have HF:Hid (InS g (w.setCell ⟨g.X,7,none⟩ (.int .i64 v)) { m with rL:=v } full):=h.s_rL v
 clear h
 go_enter func69,ntmps69
 go_wp2
 go_end0
 exact ⟨rfl,HF.out⟩
theorem set_7 (g:SG) (m:M) (full:Bool) (v:Int) (w:World) (h:InS g w m full) :
  Calls prog 69 #[.pointer (some ⟨g.X,0,none⟩),.int .i64 7,.int .i64 v] w fun e w'=>e=.returned (.tuple #[])/\InS g w' { m with ra:=v } full:=by
 have q:=h.cell 0 _ rfl
 have f:=h.fro 0
 have HF:Hid (InS g (w.setCell ⟨g.X,0,none⟩ (.int .i64 v)) { m with ra:=v } full):=h.s_ra v
 clear h
 go_enter func69,ntmps69
 go_wp2
 go_end0
 exact ⟨rfl,HF.out⟩
theorem set_6 (g:SG) (m:M) (full:Bool) (v:Int) (w:World) (h:InS g w m full) (hg:Stpq.Good m) (v0:0<=v) (v1:v<=255) :
  Calls prog 69 #[.pointer (some ⟨g.X,0,none⟩),.int .i64 6,.int .i64 v] w fun e w'=>e=.returned (.tuple #[])/\InS g w' (wr ⟨m,full⟩ (hl m) v).m (wr ⟨m,full⟩ (hl m) v).full:=by
 have c1:=hlS g m full w h hg
 have HC:Hid (∀ W,InS g W m full->Calls prog 85 #[.pointer (some ⟨g.X,0,none⟩),.int .i64 (hl m),.int .i64 v] W fun e w'=>e=.returned (.tuple #[])/\InS g w' (wr ⟨m,full⟩ (hl m) v).m (wr ⟨m,full⟩ (hl m) v).full):=fun W hi=>writeS g m full _ _ W hi hg.rt (hl_bd hg).1 v0 v1
 have HI:Hid (InS g w m full):=h
 generalize wr ⟨m,full⟩ (hl m) v=t at *
 generalize hl m=a at *
 clear h hg v0 v1
 go_enter func69,ntmps69
 go_wp2_with fail
 refine Calls.mono c1 ?_
 rintro e w1 ⟨rfl,hb1⟩
 have H1:=zHd (HI.out.below hb1)
 clear hb1 HI c1
 go_wp2_with fail
 refine Calls.mono (HC.out _ H1.out) ?_
 rintro e w2 ⟨rfl,hi2⟩
 have H2:Hid (InS g w2 t.m t.full):=hi2
 clear hi2 H1 HC
 go_wp2
 go_end0
 exact ⟨rfl,H2.out⟩
theorem setS (g:SG) (m:M) (full:Bool) (n v:Int) (w:World) (h:InS g w m full) (hg:Stpq.Good m) (n0:0<=n) (n1:n<=7) (v0:0<=v) (v1:v<=255) :
  Calls prog 69 #[.pointer (some ⟨g.X,0,none⟩),.int .i64 n,.int .i64 v] w fun e w'=>e=.returned (.tuple #[])/\InS g w' (put ⟨m,full⟩ n v).m (put ⟨m,full⟩ n v).full:=by
 have hn:n=0 \/ n=1 \/ n=2 \/ n=3 \/ n=4 \/ n=5 \/ n=6 \/ n=7:=by omega
 rcases hn with rfl|rfl|rfl|rfl|rfl|rfl|rfl|rfl
 ·exact set_0 g m full v w h
 ·exact set_1 g m full v w h
 ·exact set_2 g m full v w h
 ·exact set_3 g m full v w h
 ·exact set_4 g m full v w h
 ·exact set_5 g m full v w h
 ·exact set_6 g m full v w h hg v0 v1
 ·exact set_7 g m full v w h
end Sta
namespace Stb
open Go.Deep
open Signed (inB sgn ret_int ret_bool)
open Reck ReckS ReckM ReckD TurnS
open Busw Busx Busy Stpp Stpq Stps Sta
theorem pair_0f (g:SG) (m:M) (full:Bool) (w:World) (h:InS g w m full) (hg:Stpq.Good m) :
  Calls prog 91 #[.pointer (some ⟨g.X,0,none⟩),.int .i64 0,.bool false] w fun e w'=>e=.returned (.int .i64 (256*m.rB+m.rC))/\Below w.heap.size w w':=by
 have ha:=hg.b
 have hb:=hg.c
 have d1:IntKind.i64.wrap (256*m.rB)=256*m.rB:=by rw [IntKind.wrap_i64];omega
 have d2:IntKind.i64.wrap (256*m.rB+m.rC)=256*m.rB+m.rC:=by rw [IntKind.wrap_i64];omega
 have C1:Hid (∀ W,Below w.heap.size w W->Calls prog 70 #[.pointer (some ⟨g.X,0,none⟩),.int .i64 0] W fun e w'=>e=.returned (.int .i64 m.rB)/\Below W.heap.size W w'):=fun W hb=>reg_0 g m full W (h.below hb)
 have C2:Hid (∀ W,Below w.heap.size w W->Calls prog 70 #[.pointer (some ⟨g.X,0,none⟩),.int .i64 1] W fun e w'=>e=.returned (.int .i64 m.rC)/\Below W.heap.size W w'):=fun W hb=>reg_1 g m full W (h.below hb)
 have q_ra:=h.cell 0 _ rfl
 have q_rf:=h.cell 1 _ rfl
 have q_rB:=h.cell 2 _ rfl
 have q_rC:=h.cell 3 _ rfl
 have q_rD:=h.cell 4 _ rfl
 have q_rE:=h.cell 5 _ rfl
 have q_rH:=h.cell 6 _ rfl
 have q_rL:=h.cell 7 _ rfl
 have q_sp:=h.cell 8 _ rfl
 have q_pc:=h.cell 9 _ rfl
 have q_ime:=h.cell 10 _ rfl
 have q_hal:=h.cell 11 _ rfl
 have hl:=h.lt
 clear h hg ha hb
 go_enter func91,ntmps91
 go_wp2_with fail
 refine Calls.mono (C1.out _ (by repeat (with_reducible first|exact zRf|refine zGr ?_ _|refine below_drewN ?_ _|refine Below.drew ?_))) ?_
 rintro e w1 ⟨rfl,hb1⟩
 have H1:Hid (Below w.heap.size w w1):=after (by repeat (with_reducible first|exact zRf|refine zGr ?_ _|refine below_drewN ?_ _|refine Below.drew ?_)) hb1
 clear hb1 C1
 go_wp2_with fail
 refine Calls.mono (C2.out _ H1.out) ?_
 rintro e w2 ⟨rfl,hb2⟩
 have H2:Hid (Below w.heap.size w w2):=after H1.out hb2
 clear hb2 C2 H1
 go_wp2
 go_ret
 exact ⟨rfl,H2.out⟩
theorem pair_0t (g:SG) (m:M) (full:Bool) (w:World) (h:InS g w m full) (hg:Stpq.Good m) :
  Calls prog 91 #[.pointer (some ⟨g.X,0,none⟩),.int .i64 0,.bool true] w fun e w'=>e=.returned (.int .i64 (256*m.rB+m.rC))/\Below w.heap.size w w':=by
 have ha:=hg.b
 have hb:=hg.c
 have d1:IntKind.i64.wrap (256*m.rB)=256*m.rB:=by rw [IntKind.wrap_i64];omega
 have d2:IntKind.i64.wrap (256*m.rB+m.rC)=256*m.rB+m.rC:=by rw [IntKind.wrap_i64];omega
 have C1:Hid (∀ W,Below w.heap.size w W->Calls prog 70 #[.pointer (some ⟨g.X,0,none⟩),.int .i64 0] W fun e w'=>e=.returned (.int .i64 m.rB)/\Below W.heap.size W w'):=fun W hb=>reg_0 g m full W (h.below hb)
 have C2:Hid (∀ W,Below w.heap.size w W->Calls prog 70 #[.pointer (some ⟨g.X,0,none⟩),.int .i64 1] W fun e w'=>e=.returned (.int .i64 m.rC)/\Below W.heap.size W w'):=fun W hb=>reg_1 g m full W (h.below hb)
 have q_ra:=h.cell 0 _ rfl
 have q_rf:=h.cell 1 _ rfl
 have q_rB:=h.cell 2 _ rfl
 have q_rC:=h.cell 3 _ rfl
 have q_rD:=h.cell 4 _ rfl
 have q_rE:=h.cell 5 _ rfl
 have q_rH:=h.cell 6 _ rfl
 have q_rL:=h.cell 7 _ rfl
 have q_sp:=h.cell 8 _ rfl
 have q_pc:=h.cell 9 _ rfl
 have q_ime:=h.cell 10 _ rfl
 have q_hal:=h.cell 11 _ rfl
 have hl:=h.lt
 clear h hg ha hb
 go_enter func91,ntmps91
 go_wp2_with fail
 refine Calls.mono (C1.out _ (by repeat (with_reducible first|exact zRf|refine zGr ?_ _|refine below_drewN ?_ _|refine Below.drew ?_))) ?_
 rintro e w1 ⟨rfl,hb1⟩
 have H1:Hid (Below w.heap.size w w1):=after (by repeat (with_reducible first|exact zRf|refine zGr ?_ _|refine below_drewN ?_ _|refine Below.drew ?_)) hb1
 clear hb1 C1
 go_wp2_with fail
 refine Calls.mono (C2.out _ H1.out) ?_
 rintro e w2 ⟨rfl,hb2⟩
 have H2:Hid (Below w.heap.size w w2):=after H1.out hb2
 clear hb2 C2 H1
 go_wp2
 go_ret
 exact ⟨rfl,H2.out⟩
theorem pair_1f (g:SG) (m:M) (full:Bool) (w:World) (h:InS g w m full) (hg:Stpq.Good m) :
  Calls prog 91 #[.pointer (some ⟨g.X,0,none⟩),.int .i64 1,.bool false] w fun e w'=>e=.returned (.int .i64 (256*m.rD+m.rE))/\Below w.heap.size w w':=by
 have ha:=hg.d
 have hb:=hg.e
 have d1:IntKind.i64.wrap (256*m.rD)=256*m.rD:=by rw [IntKind.wrap_i64];omega
 have d2:IntKind.i64.wrap (256*m.rD+m.rE)=256*m.rD+m.rE:=by rw [IntKind.wrap_i64];omega
 have C1:Hid (∀ W,Below w.heap.size w W->Calls prog 70 #[.pointer (some ⟨g.X,0,none⟩),.int .i64 2] W fun e w'=>e=.returned (.int .i64 m.rD)/\Below W.heap.size W w'):=fun W hb=>reg_2 g m full W (h.below hb)
 have C2:Hid (∀ W,Below w.heap.size w W->Calls prog 70 #[.pointer (some ⟨g.X,0,none⟩),.int .i64 3] W fun e w'=>e=.returned (.int .i64 m.rE)/\Below W.heap.size W w'):=fun W hb=>reg_3 g m full W (h.below hb)
 have q_ra:=h.cell 0 _ rfl
 have q_rf:=h.cell 1 _ rfl
 have q_rB:=h.cell 2 _ rfl
 have q_rC:=h.cell 3 _ rfl
 have q_rD:=h.cell 4 _ rfl
 have q_rE:=h.cell 5 _ rfl
 have q_rH:=h.cell 6 _ rfl
 have q_rL:=h.cell 7 _ rfl
 have q_sp:=h.cell 8 _ rfl
 have q_pc:=h.cell 9 _ rfl
 have q_ime:=h.cell 10 _ rfl
 have q_hal:=h.cell 11 _ rfl
 have hl:=h.lt
 clear h hg ha hb
 go_enter func91,ntmps91
 go_wp2_with fail
 refine Calls.mono (C1.out _ (by repeat (with_reducible first|exact zRf|refine zGr ?_ _|refine below_drewN ?_ _|refine Below.drew ?_))) ?_
 rintro e w1 ⟨rfl,hb1⟩
 have H1:Hid (Below w.heap.size w w1):=after (by repeat (with_reducible first|exact zRf|refine zGr ?_ _|refine below_drewN ?_ _|refine Below.drew ?_)) hb1
 clear hb1 C1
 go_wp2_with fail
 refine Calls.mono (C2.out _ H1.out) ?_
 rintro e w2 ⟨rfl,hb2⟩
 have H2:Hid (Below w.heap.size w w2):=after H1.out hb2
 clear hb2 C2 H1
 go_wp2
 go_ret
 exact ⟨rfl,H2.out⟩
theorem pair_1t (g:SG) (m:M) (full:Bool) (w:World) (h:InS g w m full) (hg:Stpq.Good m) :
  Calls prog 91 #[.pointer (some ⟨g.X,0,none⟩),.int .i64 1,.bool true] w fun e w'=>e=.returned (.int .i64 (256*m.rD+m.rE))/\Below w.heap.size w w':=by
 have ha:=hg.d
 have hb:=hg.e
 have d1:IntKind.i64.wrap (256*m.rD)=256*m.rD:=by rw [IntKind.wrap_i64];omega
 have d2:IntKind.i64.wrap (256*m.rD+m.rE)=256*m.rD+m.rE:=by rw [IntKind.wrap_i64];omega
 have C1:Hid (∀ W,Below w.heap.size w W->Calls prog 70 #[.pointer (some ⟨g.X,0,none⟩),.int .i64 2] W fun e w'=>e=.returned (.int .i64 m.rD)/\Below W.heap.size W w'):=fun W hb=>reg_2 g m full W (h.below hb)
 have C2:Hid (∀ W,Below w.heap.size w W->Calls prog 70 #[.pointer (some ⟨g.X,0,none⟩),.int .i64 3] W fun e w'=>e=.returned (.int .i64 m.rE)/\Below W.heap.size W w'):=fun W hb=>reg_3 g m full W (h.below hb)
 have q_ra:=h.cell 0 _ rfl
 have q_rf:=h.cell 1 _ rfl
 have q_rB:=h.cell 2 _ rfl
 have q_rC:=h.cell 3 _ rfl
 have q_rD:=h.cell 4 _ rfl
 have q_rE:=h.cell 5 _ rfl
 have q_rH:=h.cell 6 _ rfl
 have q_rL:=h.cell 7 _ rfl
 have q_sp:=h.cell 8 _ rfl
 have q_pc:=h.cell 9 _ rfl
 have q_ime:=h.cell 10 _ rfl
 have q_hal:=h.cell 11 _ rfl
 have hl:=h.lt
 clear h hg ha hb
 go_enter func91,ntmps91
 go_wp2_with fail
 refine Calls.mono (C1.out _ (by repeat (with_reducible first|exact zRf|refine zGr ?_ _|refine below_drewN ?_ _|refine Below.drew ?_))) ?_
 rintro e w1 ⟨rfl,hb1⟩
 have H1:Hid (Below w.heap.size w w1):=after (by repeat (with_reducible first|exact zRf|refine zGr ?_ _|refine below_drewN ?_ _|refine Below.drew ?_)) hb1
 clear hb1 C1
 go_wp2_with fail
 refine Calls.mono (C2.out _ H1.out) ?_
 rintro e w2 ⟨rfl,hb2⟩
 have H2:Hid (Below w.heap.size w w2):=after H1.out hb2
 clear hb2 C2 H1
 go_wp2
 go_ret
 exact ⟨rfl,H2.out⟩
theorem pair_2f (g:SG) (m:M) (full:Bool) (w:World) (h:InS g w m full) (hg:Stpq.Good m) :
  Calls prog 91 #[.pointer (some ⟨g.X,0,none⟩),.int .i64 2,.bool false] w fun e w'=>e=.returned (.int .i64 (256*m.rH+m.rL))/\Below w.heap.size w w':=by
 have ha:=hg.h
 have hb:=hg.l
 have d1:IntKind.i64.wrap (256*m.rH)=256*m.rH:=by rw [IntKind.wrap_i64];omega
 have d2:IntKind.i64.wrap (256*m.rH+m.rL)=256*m.rH+m.rL:=by rw [IntKind.wrap_i64];omega
 have C1:Hid (∀ W,Below w.heap.size w W->Calls prog 70 #[.pointer (some ⟨g.X,0,none⟩),.int .i64 4] W fun e w'=>e=.returned (.int .i64 m.rH)/\Below W.heap.size W w'):=fun W hb=>reg_4 g m full W (h.below hb)
 have C2:Hid (∀ W,Below w.heap.size w W->Calls prog 70 #[.pointer (some ⟨g.X,0,none⟩),.int .i64 5] W fun e w'=>e=.returned (.int .i64 m.rL)/\Below W.heap.size W w'):=fun W hb=>reg_5 g m full W (h.below hb)
 have q_ra:=h.cell 0 _ rfl
 have q_rf:=h.cell 1 _ rfl
 have q_rB:=h.cell 2 _ rfl
 have q_rC:=h.cell 3 _ rfl
 have q_rD:=h.cell 4 _ rfl
 have q_rE:=h.cell 5 _ rfl
 have q_rH:=h.cell 6 _ rfl
 have q_rL:=h.cell 7 _ rfl
 have q_sp:=h.cell 8 _ rfl
 have q_pc:=h.cell 9 _ rfl
 have q_ime:=h.cell 10 _ rfl
 have q_hal:=h.cell 11 _ rfl
 have hl:=h.lt
 clear h hg ha hb
 go_enter func91,ntmps91
 go_wp2_with fail
 refine Calls.mono (C1.out _ (by repeat (with_reducible first|exact zRf|refine zGr ?_ _|refine below_drewN ?_ _|refine Below.drew ?_))) ?_
 rintro e w1 ⟨rfl,hb1⟩
 have H1:Hid (Below w.heap.size w w1):=after (by repeat (with_reducible first|exact zRf|refine zGr ?_ _|refine below_drewN ?_ _|refine Below.drew ?_)) hb1
 clear hb1 C1
 go_wp2_with fail
 refine Calls.mono (C2.out _ H1.out) ?_
 rintro e w2 ⟨rfl,hb2⟩
 have H2:Hid (Below w.heap.size w w2):=after H1.out hb2
 clear hb2 C2 H1
 go_wp2
 go_ret
 exact ⟨rfl,H2.out⟩
theorem pair_2t (g:SG) (m:M) (full:Bool) (w:World) (h:InS g w m full) (hg:Stpq.Good m) :
  Calls prog 91 #[.pointer (some ⟨g.X,0,none⟩),.int .i64 2,.bool true] w fun e w'=>e=.returned (.int .i64 (256*m.rH+m.rL))/\Below w.heap.size w w':=by
 have ha:=hg.h
 have hb:=hg.l
 have d1:IntKind.i64.wrap (256*m.rH)=256*m.rH:=by rw [IntKind.wrap_i64];omega
 have d2:IntKind.i64.wrap (256*m.rH+m.rL)=256*m.rH+m.rL:=by rw [IntKind.wrap_i64];omega
 have C1:Hid (∀ W,Below w.heap.size w W->Calls prog 70 #[.pointer (some ⟨g.X,0,none⟩),.int .i64 4] W fun e w'=>e=.returned (.int .i64 m.rH)/\Below W.heap.size W w'):=fun W hb=>reg_4 g m full W (h.below hb)
 have C2:Hid (∀ W,Below w.heap.size w W->Calls prog 70 #[.pointer (some ⟨g.X,0,none⟩),.int .i64 5] W fun e w'=>e=.returned (.int .i64 m.rL)/\Below W.heap.size W w'):=fun W hb=>reg_5 g m full W (h.below hb)
 have q_ra:=h.cell 0 _ rfl
 have q_rf:=h.cell 1 _ rfl
 have q_rB:=h.cell 2 _ rfl
 have q_rC:=h.cell 3 _ rfl
 have q_rD:=h.cell 4 _ rfl
 have q_rE:=h.cell 5 _ rfl
 have q_rH:=h.cell 6 _ rfl
 have q_rL:=h.cell 7 _ rfl
 have q_sp:=h.cell 8 _ rfl
 have q_pc:=h.cell 9 _ rfl
 have q_ime:=h.cell 10 _ rfl
 have q_hal:=h.cell 11 _ rfl
 have hl:=h.lt
 clear h hg ha hb
 go_enter func91,ntmps91
 go_wp2_with fail
 refine Calls.mono (C1.out _ (by repeat (with_reducible first|exact zRf|refine zGr ?_ _|refine below_drewN ?_ _|refine Below.drew ?_))) ?_
 rintro e w1 ⟨rfl,hb1⟩
 have H1:Hid (Below w.heap.size w w1):=after (by repeat (with_reducible first|exact zRf|refine zGr ?_ _|refine below_drewN ?_ _|refine Below.drew ?_)) hb1
 clear hb1 C1
 go_wp2_with fail
 refine Calls.mono (C2.out _ H1.out) ?_
 rintro e w2 ⟨rfl,hb2⟩
 have H2:Hid (Below w.heap.size w w2):=after H1.out hb2
 clear hb2 C2 H1
 go_wp2
 go_ret
 exact ⟨rfl,H2.out⟩
theorem pair_3f (g:SG) (m:M) (full:Bool) (w:World) (h:InS g w m full) (hg:Stpq.Good m) :
  Calls prog 91 #[.pointer (some ⟨g.X,0,none⟩),.int .i64 3,.bool false] w fun e w'=>e=.returned (.int .i64 (m.sp))/\Below w.heap.size w w':=by
 have q_ra:=h.cell 0 _ rfl
 have q_rf:=h.cell 1 _ rfl
 have q_rB:=h.cell 2 _ rfl
 have q_rC:=h.cell 3 _ rfl
 have q_rD:=h.cell 4 _ rfl
 have q_rE:=h.cell 5 _ rfl
 have q_rH:=h.cell 6 _ rfl
 have q_rL:=h.cell 7 _ rfl
 have q_sp:=h.cell 8 _ rfl
 have q_pc:=h.cell 9 _ rfl
 have q_ime:=h.cell 10 _ rfl
 have q_hal:=h.cell 11 _ rfl
 have hl:=h.lt
 clear h hg
 go_enter func91,ntmps91
 go_wp2
 go_ret
 exact ⟨rfl,by repeat (with_reducible first|exact zRf|refine zGr ?_ _|refine below_drewN ?_ _|refine Below.drew ?_)⟩
theorem pair_3t (g:SG) (m:M) (full:Bool) (w:World) (h:InS g w m full) (hg:Stpq.Good m) :
  Calls prog 91 #[.pointer (some ⟨g.X,0,none⟩),.int .i64 3,.bool true] w fun e w'=>e=.returned (.int .i64 (256*m.ra+m.rf))/\Below w.heap.size w w':=by
 have ha:=hg.a
 have hb:=hg.f
 have d1:IntKind.i64.wrap (256*m.ra)=256*m.ra:=by rw [IntKind.wrap_i64];omega
 have d2:IntKind.i64.wrap (256*m.ra+m.rf)=256*m.ra+m.rf:=by rw [IntKind.wrap_i64];omega
 have q_ra:=h.cell 0 _ rfl
 have q_rf:=h.cell 1 _ rfl
 have q_rB:=h.cell 2 _ rfl
 have q_rC:=h.cell 3 _ rfl
 have q_rD:=h.cell 4 _ rfl
 have q_rE:=h.cell 5 _ rfl
 have q_rH:=h.cell 6 _ rfl
 have q_rL:=h.cell 7 _ rfl
 have q_sp:=h.cell 8 _ rfl
 have q_pc:=h.cell 9 _ rfl
 have q_ime:=h.cell 10 _ rfl
 have q_hal:=h.cell 11 _ rfl
 have hl:=h.lt
 clear h hg ha hb
 go_enter func91,ntmps91
 go_wp2
 go_ret
 exact ⟨rfl,by repeat (with_reducible first|exact zRf|refine zGr ?_ _|refine below_drewN ?_ _|refine Below.drew ?_)⟩
theorem cases4 {n:Int} (n0:0<=n) (n1:n<=3):n=0 \/ n=1 \/ n=2 \/ n=3:=by omega
theorem pairS (g:SG) (m:M) (full:Bool) (k:Int) (w:World) (h:InS g w m full) (hg:Stpq.Good m) (k0:0<=k) (k1:k<=3) :
  Calls prog 91 #[.pointer (some ⟨g.X,0,none⟩),.int .i64 k,.bool false] w fun e w'=>e=.returned (.int .i64 (pr m k))/\Below w.heap.size w w':=by
 rcases cases4 k0 k1 with rfl|rfl|rfl|rfl
 ·exact pair_0f g m full w h hg
 ·exact pair_1f g m full w h hg
 ·exact pair_2f g m full w h hg
 ·exact pair_3f g m full w h hg
theorem pairQ (g:SG) (m:M) (full:Bool) (k:Int) (w:World) (h:InS g w m full) (hg:Stpq.Good m) (k0:0<=k) (k1:k<=3) :
  Calls prog 91 #[.pointer (some ⟨g.X,0,none⟩),.int .i64 k,.bool true] w fun e w'=>e=.returned (.int .i64 (prQ m k))/\Below w.heap.size w w':=by
 rcases cases4 k0 k1 with rfl|rfl|rfl|rfl
 ·exact pair_0t g m full w h hg
 ·exact pair_1t g m full w h hg
 ·exact pair_2t g m full w h hg
 ·exact pair_3t g m full w h hg
theorem setp_0f (g:SG) (m:M) (full:Bool) (v:Int) (v0:0<=v) (v1:v<=65535) (w:World) (h:InS g w m full) (hg:Stpq.Good m) :
  Calls prog 88 #[.pointer (some ⟨g.X,0,none⟩),.int .i64 0,.int .i64 v,.bool false] w fun e w'=>e=.returned (.tuple #[])/\InS g w' { m with rB:=v / 256,rC:=v%256 } full:=by
 have t1:v.tdiv 256=v / 256:=Int.tdiv_eq_ediv_of_nonneg v0
 have t2:v.tmod 256=v%256:=Int.tmod_eq_emod_of_nonneg v0
 have t3:IntKind.i64.wrap (v / 256)=v / 256:=by rw [IntKind.wrap_i64];omega
 have C1:Hid (Calls prog 69 #[.pointer (some ⟨g.X,0,none⟩),.int .i64 0,.int .i64 (v / 256)] w fun e w'=>e=.returned (.tuple #[])/\InS g w' { m with rB:=v / 256 } full):=set_0 g m full _ w h
 have C2:Hid (∀ W,InS g W { m with rB:=v / 256 } full->Calls prog 69 #[.pointer (some ⟨g.X,0,none⟩),.int .i64 1,.int .i64 (v%256)] W fun e w'=>e=.returned (.tuple #[])/\InS g w' { m with rB:=v / 256,rC:=v%256 } full):=fun W hi=>set_1 g _ full _ W hi
 clear h hg
 go_enter func88,ntmps88
 go_wp2_with fail
 refine Calls.mono C1.out ?_
 rintro e w1 ⟨rfl,hi1⟩
 have H1:Hid (InS g w1 { m with rB:=v / 256 } full):=hi1
 clear hi1 C1
 go_wp2_with fail
 refine Calls.mono (C2.out _ H1.out) ?_
 rintro e w2 ⟨rfl,hi2⟩
 have H2:Hid (InS g w2 { m with rB:=v / 256,rC:=v%256 } full):=hi2
 clear hi2 C2 H1
 go_wp2
 go_end0
 exact ⟨rfl,H2.out⟩
theorem setp_0t (g:SG) (m:M) (full:Bool) (v:Int) (v0:0<=v) (v1:v<=65535) (w:World) (h:InS g w m full) (hg:Stpq.Good m) :
  Calls prog 88 #[.pointer (some ⟨g.X,0,none⟩),.int .i64 0,.int .i64 v,.bool true] w fun e w'=>e=.returned (.tuple #[])/\InS g w' { m with rB:=v / 256,rC:=v%256 } full:=by
 have t1:v.tdiv 256=v / 256:=Int.tdiv_eq_ediv_of_nonneg v0
 have t2:v.tmod 256=v%256:=Int.tmod_eq_emod_of_nonneg v0
 have t3:IntKind.i64.wrap (v / 256)=v / 256:=by rw [IntKind.wrap_i64];omega
 have C1:Hid (Calls prog 69 #[.pointer (some ⟨g.X,0,none⟩),.int .i64 0,.int .i64 (v / 256)] w fun e w'=>e=.returned (.tuple #[])/\InS g w' { m with rB:=v / 256 } full):=set_0 g m full _ w h
 have C2:Hid (∀ W,InS g W { m with rB:=v / 256 } full->Calls prog 69 #[.pointer (some ⟨g.X,0,none⟩),.int .i64 1,.int .i64 (v%256)] W fun e w'=>e=.returned (.tuple #[])/\InS g w' { m with rB:=v / 256,rC:=v%256 } full):=fun W hi=>set_1 g _ full _ W hi
 clear h hg
 go_enter func88,ntmps88
 go_wp2_with fail
 refine Calls.mono C1.out ?_
 rintro e w1 ⟨rfl,hi1⟩
 have H1:Hid (InS g w1 { m with rB:=v / 256 } full):=hi1
 clear hi1 C1
 go_wp2_with fail
 refine Calls.mono (C2.out _ H1.out) ?_
 rintro e w2 ⟨rfl,hi2⟩
 have H2:Hid (InS g w2 { m with rB:=v / 256,rC:=v%256 } full):=hi2
 clear hi2 C2 H1
 go_wp2
 go_end0
 exact ⟨rfl,H2.out⟩
theorem setp_1f (g:SG) (m:M) (full:Bool) (v:Int) (v0:0<=v) (v1:v<=65535) (w:World) (h:InS g w m full) (hg:Stpq.Good m) :
  Calls prog 88 #[.pointer (some ⟨g.X,0,none⟩),.int .i64 1,.int .i64 v,.bool false] w fun e w'=>e=.returned (.tuple #[])/\InS g w' { m with rD:=v / 256,rE:=v%256 } full:=by
 have t1:v.tdiv 256=v / 256:=Int.tdiv_eq_ediv_of_nonneg v0
 have t2:v.tmod 256=v%256:=Int.tmod_eq_emod_of_nonneg v0
 have t3:IntKind.i64.wrap (v / 256)=v / 256:=by rw [IntKind.wrap_i64];omega
 have C1:Hid (Calls prog 69 #[.pointer (some ⟨g.X,0,none⟩),.int .i64 2,.int .i64 (v / 256)] w fun e w'=>e=.returned (.tuple #[])/\InS g w' { m with rD:=v / 256 } full):=set_2 g m full _ w h
 have C2:Hid (∀ W,InS g W { m with rD:=v / 256 } full->Calls prog 69 #[.pointer (some ⟨g.X,0,none⟩),.int .i64 3,.int .i64 (v%256)] W fun e w'=>e=.returned (.tuple #[])/\InS g w' { m with rD:=v / 256,rE:=v%256 } full):=fun W hi=>set_3 g _ full _ W hi
 clear h hg
 go_enter func88,ntmps88
 go_wp2_with fail
 refine Calls.mono C1.out ?_
 rintro e w1 ⟨rfl,hi1⟩
 have H1:Hid (InS g w1 { m with rD:=v / 256 } full):=hi1
 clear hi1 C1
 go_wp2_with fail
 refine Calls.mono (C2.out _ H1.out) ?_
 rintro e w2 ⟨rfl,hi2⟩
 have H2:Hid (InS g w2 { m with rD:=v / 256,rE:=v%256 } full):=hi2
 clear hi2 C2 H1
 go_wp2
 go_end0
 exact ⟨rfl,H2.out⟩
theorem setp_1t (g:SG) (m:M) (full:Bool) (v:Int) (v0:0<=v) (v1:v<=65535) (w:World) (h:InS g w m full) (hg:Stpq.Good m) :
  Calls prog 88 #[.pointer (some ⟨g.X,0,none⟩),.int .i64 1,.int .i64 v,.bool true] w fun e w'=>e=.returned (.tuple #[])/\InS g w' { m with rD:=v / 256,rE:=v%256 } full:=by
 have t1:v.tdiv 256=v / 256:=Int.tdiv_eq_ediv_of_nonneg v0
 have t2:v.tmod 256=v%256:=Int.tmod_eq_emod_of_nonneg v0
 have t3:IntKind.i64.wrap (v / 256)=v / 256:=by rw [IntKind.wrap_i64];omega
 have C1:Hid (Calls prog 69 #[.pointer (some ⟨g.X,0,none⟩),.int .i64 2,.int .i64 (v / 256)] w fun e w'=>e=.returned (.tuple #[])/\InS g w' { m with rD:=v / 256 } full):=set_2 g m full _ w h
 have C2:Hid (∀ W,InS g W { m with rD:=v / 256 } full->Calls prog 69 #[.pointer (some ⟨g.X,0,none⟩),.int .i64 3,.int .i64 (v%256)] W fun e w'=>e=.returned (.tuple #[])/\InS g w' { m with rD:=v / 256,rE:=v%256 } full):=fun W hi=>set_3 g _ full _ W hi
 clear h hg
 go_enter func88,ntmps88
 go_wp2_with fail
 refine Calls.mono C1.out ?_
 rintro e w1 ⟨rfl,hi1⟩
 have H1:Hid (InS g w1 { m with rD:=v / 256 } full):=hi1
 clear hi1 C1
 go_wp2_with fail
 refine Calls.mono (C2.out _ H1.out) ?_
 rintro e w2 ⟨rfl,hi2⟩
 have H2:Hid (InS g w2 { m with rD:=v / 256,rE:=v%256 } full):=hi2
 clear hi2 C2 H1
 go_wp2
 go_end0
 exact ⟨rfl,H2.out⟩
theorem setp_2f (g:SG) (m:M) (full:Bool) (v:Int) (v0:0<=v) (v1:v<=65535) (w:World) (h:InS g w m full) (hg:Stpq.Good m) :
  Calls prog 88 #[.pointer (some ⟨g.X,0,none⟩),.int .i64 2,.int .i64 v,.bool false] w fun e w'=>e=.returned (.tuple #[])/\InS g w' { m with rH:=v / 256,rL:=v%256 } full:=by
 have t1:v.tdiv 256=v / 256:=Int.tdiv_eq_ediv_of_nonneg v0
 have t2:v.tmod 256=v%256:=Int.tmod_eq_emod_of_nonneg v0
 have t3:IntKind.i64.wrap (v / 256)=v / 256:=by rw [IntKind.wrap_i64];omega
 have C1:Hid (Calls prog 69 #[.pointer (some ⟨g.X,0,none⟩),.int .i64 4,.int .i64 (v / 256)] w fun e w'=>e=.returned (.tuple #[])/\InS g w' { m with rH:=v / 256 } full):=set_4 g m full _ w h
 have C2:Hid (∀ W,InS g W { m with rH:=v / 256 } full->Calls prog 69 #[.pointer (some ⟨g.X,0,none⟩),.int .i64 5,.int .i64 (v%256)] W fun e w'=>e=.returned (.tuple #[])/\InS g w' { m with rH:=v / 256,rL:=v%256 } full):=fun W hi=>set_5 g _ full _ W hi
 clear h hg
 go_enter func88,ntmps88
 go_wp2_with fail
 refine Calls.mono C1.out ?_
 rintro e w1 ⟨rfl,hi1⟩
 have H1:Hid (InS g w1 { m with rH:=v / 256 } full):=hi1
 clear hi1 C1
 go_wp2_with fail
 refine Calls.mono (C2.out _ H1.out) ?_
 rintro e w2 ⟨rfl,hi2⟩
 have H2:Hid (InS g w2 { m with rH:=v / 256,rL:=v%256 } full):=hi2
 clear hi2 C2 H1
 go_wp2
 go_end0
 exact ⟨rfl,H2.out⟩
theorem setp_2t (g:SG) (m:M) (full:Bool) (v:Int) (v0:0<=v) (v1:v<=65535) (w:World) (h:InS g w m full) (hg:Stpq.Good m) :
  Calls prog 88 #[.pointer (some ⟨g.X,0,none⟩),.int .i64 2,.int .i64 v,.bool true] w fun e w'=>e=.returned (.tuple #[])/\InS g w' { m with rH:=v / 256,rL:=v%256 } full:=by
 have t1:v.tdiv 256=v / 256:=Int.tdiv_eq_ediv_of_nonneg v0
 have t2:v.tmod 256=v%256:=Int.tmod_eq_emod_of_nonneg v0
 have t3:IntKind.i64.wrap (v / 256)=v / 256:=by rw [IntKind.wrap_i64];omega
 have C1:Hid (Calls prog 69 #[.pointer (some ⟨g.X,0,none⟩),.int .i64 4,.int .i64 (v / 256)] w fun e w'=>e=.returned (.tuple #[])/\InS g w' { m with rH:=v / 256 } full):=set_4 g m full _ w h
 have C2:Hid (∀ W,InS g W { m with rH:=v / 256 } full->Calls prog 69 #[.pointer (some ⟨g.X,0,none⟩),.int .i64 5,.int .i64 (v%256)] W fun e w'=>e=.returned (.tuple #[])/\InS g w' { m with rH:=v / 256,rL:=v%256 } full):=fun W hi=>set_5 g _ full _ W hi
 clear h hg
 go_enter func88,ntmps88
 go_wp2_with fail
 refine Calls.mono C1.out ?_
 rintro e w1 ⟨rfl,hi1⟩
 have H1:Hid (InS g w1 { m with rH:=v / 256 } full):=hi1
 clear hi1 C1
 go_wp2_with fail
 refine Calls.mono (C2.out _ H1.out) ?_
 rintro e w2 ⟨rfl,hi2⟩
 have H2:Hid (InS g w2 { m with rH:=v / 256,rL:=v%256 } full):=hi2
 clear hi2 C2 H1
 go_wp2
 go_end0
 exact ⟨rfl,H2.out⟩
theorem setp_3f (g:SG) (m:M) (full:Bool) (v:Int) (v0:0<=v) (v1:v<=65535) (w:World) (h:InS g w m full) (hg:Stpq.Good m) :
  Calls prog 88 #[.pointer (some ⟨g.X,0,none⟩),.int .i64 3,.int .i64 v,.bool false] w fun e w'=>e=.returned (.tuple #[])/\InS g w' { m with sp:=v } full:=by
 have HI:Hid (InS g w m full):=h
 clear h hg
 have q_sp:=HI.out.cell 8 _ rfl
 have f_sp:=HI.out.fro 8
 have HF:Hid (InS g (w.setCell ⟨g.X,8,none⟩ (.int .i64 v)) { m with sp:=v } full):=HI.out.s_sp v
 clear HI
 go_enter func88,ntmps88
 go_wp2
 go_end0
 exact ⟨rfl,HF.out⟩
theorem setp_3t (g:SG) (m:M) (full:Bool) (v:Int) (v0:0<=v) (v1:v<=65535) (w:World) (h:InS g w m full) (hg:Stpq.Good m) :
  Calls prog 88 #[.pointer (some ⟨g.X,0,none⟩),.int .i64 3,.int .i64 v,.bool true] w fun e w'=>e=.returned (.tuple #[])/\InS g w' { m with ra:=v / 256,rf:=v%256 / 16*16 } full:=by
 have t1:v.tdiv 256=v / 256:=Int.tdiv_eq_ediv_of_nonneg v0
 have t2:v.tmod 256=v%256:=Int.tmod_eq_emod_of_nonneg v0
 have t3:IntKind.i64.wrap (v / 256)=v / 256:=by rw [IntKind.wrap_i64];omega
 have t4:(v%256).tdiv 16=v%256 / 16:=Int.tdiv_eq_ediv_of_nonneg (by omega)
 have t5:IntKind.i64.wrap (v%256 / 16)=v%256 / 16:=by rw [IntKind.wrap_i64];omega
 have t6:IntKind.i64.wrap (v%256 / 16*16)=v%256 / 16*16:=by rw [IntKind.wrap_i64];omega
 have q0:=h.cell 0 _ rfl
 have q1:=h.cell 1 _ rfl
 have f0:=h.fro 0
 have f1:=h.fro 1
 have hl:=h.lt
 have HF:Hid (InS g ((w.setCell ⟨g.X,0,none⟩ (.int .i64 (v / 256))).setCell ⟨g.X,1,none⟩ (.int .i64 (v%256 / 16*16))) { m with ra:=v / 256,rf:=v%256 / 16*16 } full):=(h.s_ra _).s_rf _
 clear h hg
 go_enter func88,ntmps88
 go_wp2
 go_end0
 exact ⟨rfl,HF.out⟩
theorem setPairS (g:SG) (m:M) (full:Bool) (k v:Int) (w:World) (h:InS g w m full) (hg:Stpq.Good m) (k0:0<=k) (k1:k<=3) (v0:0<=v) (v1:v<=65535) :
  Calls prog 88 #[.pointer (some ⟨g.X,0,none⟩),.int .i64 k,.int .i64 v,.bool false] w fun e w'=>e=.returned (.tuple #[])/\InS g w' (setP m k v) full:=by
 rcases cases4 k0 k1 with rfl|rfl|rfl|rfl
 ·exact setp_0f g m full v v0 v1 w h hg
 ·exact setp_1f g m full v v0 v1 w h hg
 ·exact setp_2f g m full v v0 v1 w h hg
 ·exact setp_3f g m full v v0 v1 w h hg
theorem setPairQ (g:SG) (m:M) (full:Bool) (k v:Int) (w:World) (h:InS g w m full) (hg:Stpq.Good m) (k0:0<=k) (k1:k<=3) (v0:0<=v) (v1:v<=65535) :
  Calls prog 88 #[.pointer (some ⟨g.X,0,none⟩),.int .i64 k,.int .i64 v,.bool true] w fun e w'=>e=.returned (.tuple #[])/\InS g w' (setQ m k v) full:=by
 rcases cases4 k0 k1 with rfl|rfl|rfl|rfl
 ·exact setp_0t g m full v v0 v1 w h hg
 ·exact setp_1t g m full v v0 v1 w h hg
 ·exact setp_2t g m full v v0 v1 w h hg
 ·exact setp_3t g m full v v0 v1 w h hg
theorem pushS (g:SG) (m:M) (full:Bool) (v:Int) (v0:0<=v) (v1:v<=65535) (w:World) (h:InS g w m full) (hg:Stpq.Good m) :
  Calls prog 96 #[.pointer (some ⟨g.X,0,none⟩),.int .i64 v] w fun e w'=>e=.returned (.tuple #[])/\InS g w' (push ⟨m,full⟩ v).m (push ⟨m,full⟩ v).full:=by
 obtain ⟨s0,s1⟩:=hg.sp
 have t1:v.tdiv 256=v / 256:=Int.tdiv_eq_ediv_of_nonneg v0
 have t2:v.tmod 256=v%256:=Int.tmod_eq_emod_of_nonneg v0
 have t3:IntKind.i64.wrap (v / 256)=v / 256:=by rw [IntKind.wrap_i64];omega
 have d1:IntKind.i64.wrap (m.sp+65535)=m.sp+65535:=by rw [IntKind.wrap_i64];omega
 have d2:IntKind.i64.wrap (m.sp+65534)=m.sp+65534:=by rw [IntKind.wrap_i64];omega
 have d3:(m.sp+65534).tmod 65536=(m.sp+65534)%65536:=Int.tmod_eq_emod_of_nonneg (by omega)
 have c1:Hid (∀ W,InS g W m full->Calls prog 85 #[.pointer (some ⟨g.X,0,none⟩),.int .i64 (m.sp+65535),.int .i64 (v / 256)] W fun e w'=>e=.returned (.tuple #[])/\InS g w' (wr ⟨m,full⟩ (m.sp+65535) (v / 256)).m (wr ⟨m,full⟩ (m.sp+65535) (v / 256)).full):=fun W hi=>writeS g m full _ _ W hi hg.rt (by omega) (by omega) (by omega)
 have g1:=wr_good (s:=⟨m,full⟩) hg (m.sp+65535) (v / 256) (by omega) (by omega)
 unfold push
 simp only []
 generalize wr ⟨m,full⟩ (m.sp+65535) (v / 256)=t at *
 have c2:Hid (∀ W,InS g W t.m t.full->Calls prog 85 #[.pointer (some ⟨g.X,0,none⟩),.int .i64 (m.sp+65534),.int .i64 (v%256)] W fun e w'=>e=.returned (.tuple #[])/\InS g w' (wr t (m.sp+65534) (v%256)).m (wr t (m.sp+65534) (v%256)).full):=fun W hi=>writeS g t.m t.full _ _ W hi g1.rt (by omega) (by omega) (by omega)
 generalize wr t (m.sp+65534) (v%256)=t2 at *
 have q_0:=h.cell 8 _ rfl
 have HI:Hid (InS g w m full):=h
 clear h hg g1 s0 s1
 go_enter func96,ntmps96
 go_wp2_with fail
 refine Calls.mono (c1.out _ HI.out) ?_
 rintro e w1 ⟨rfl,hi1⟩
 have H1:Hid (InS g w1 t.m t.full):=hi1
 clear hi1 HI c1
 go_wp2_with fail
 refine Calls.mono (c2.out _ H1.out) ?_
 rintro e w2 ⟨rfl,hi1⟩
 have H2:Hid (InS g w2 t2.m t2.full):=hi1
 clear hi1 H1 c2
 have q_sp:=H2.out.cell 8 _ rfl
 have f_sp:=H2.out.fro 8
 have HF:Hid (InS g (w2.setCell ⟨g.X,8,none⟩ (.int .i64 ((m.sp+65534)%65536))) { t2.m with sp:=((m.sp+65534)%65536) } t2.full):=H2.out.s_sp ((m.sp+65534)%65536)
 clear H2
 go_wp2
 go_end0
 exact ⟨rfl,HF.out⟩
theorem popS (g:SG) (m:M) (full:Bool) (w:World) (h:InS g w m full) (hg:Stpq.Good m) :
  Calls prog 94 #[.pointer (some ⟨g.X,0,none⟩)] w fun e w'=>e=.returned (.int .i64 (popV m))/\InS g w' (popM m) full:=by
 obtain ⟨s0,s1⟩:=hg.sp
 have d1:IntKind.i64.wrap (m.sp+2)=m.sp+2:=by rw [IntKind.wrap_i64];omega
 have d2:(m.sp+2).tmod 65536=(m.sp+2)%65536:=Int.tmod_eq_emod_of_nonneg (by omega)
 have d3:IntKind.i64.wrap (m.sp+1)=m.sp+1:=by rw [IntKind.wrap_i64];omega
 have d4:(m.sp+1).tmod 65536=(m.sp+1)%65536:=Int.tmod_eq_emod_of_nonneg (by omega)
 have b1:=rd_bd m m.sp
 have b2:=rd_bd m ((m.sp+1)%65536)
 have e0:popV m=rd m m.sp+256*rd m ((m.sp+1)%65536):=rfl
 rw [e0]
 have q8:=h.cell 8 _ rfl
 have f8:=h.fro 8
 obtain ⟨u,hu⟩ : ∃ u,u=w.setCell ⟨g.X,8,none⟩ (.int .i64 ((m.sp+2)%65536)):=⟨_,rfl⟩
 have hI:InS g u (popM m) full:=by rw [hu];exact h.s_sp _
 have HI:Hid (InS g u (popM m) full):=hI
 obtain ⟨po,cap,hA⟩:=hI
 have c1:Rg 29 #[.agg (cellsM (popM m) po cap),.int .i64 m.sp] u (.int .i64 (rd m m.sp)):=rg fun W hb=>l6Read_M (popM m) po cap m.sp W (popM_good hg).rt s0
 have c2:Rg 29 #[.agg (cellsM (popM m) po cap),.int .i64 ((m.sp+1)%65536)] u (.int .i64 (rd m ((m.sp+1)%65536))):=rg fun W hb=>l6Read_M (popM m) po cap _ W (popM_good hg).rt (by omega)
 have hld:∀ d os,(loadVar 30 ⟨g.X,0,none⟩).run prog (Go.Sort.grow (redrawn u d) os)=.ok (.agg (cellsM (popM m) po cap)) (Go.Sort.grow (redrawn u d) os):=fun d os=>hA.load ((below_regrown u d os).block _ hA.lt)
 generalize rd m m.sp=x1 at *
 generalize rd m ((m.sp+1)%65536)=x2 at *
 have d5:IntKind.i64.wrap (256*x2)=256*x2:=by rw [IntKind.wrap_i64];omega
 have d6:IntKind.i64.wrap (x1+256*x2)=x1+256*x2:=by rw [IntKind.wrap_i64];omega
 generalize cellsM (popM m) po cap=cM at *
 clear h hg hA s0 s1 b1 b2 e0
 go_enter func94,ntmps94
 go_upto_region 3 with fail
 rw [<- hu]
 clear hu q8 f8
 refine wp_region_quiet_below (by kernel_rfl) (by kernel_rfl) ?_
 repeat (first|(go_big_quiet_step (first|with_reducible exact c1 _ _|with_reducible exact c2 _ _))|(refine wpQuiet_load (by rfl) 30 _ rfl ⟨g.X,0,none⟩ rfl _ (fun W hW=>by obtain ⟨⟨d,o⟩,rfl⟩:=hW;exact hld d o) ?_;simp only [Act.put,List.setIfInBounds_toArray,List.set_cons_succ,List.set_cons_zero]))
 refine wpQuiet_nil ?_
 intro _ hw'
 obtain ⟨⟨dq,osq⟩,hw''⟩:=hw'
 subst hw''
 have H2:=zHd (HI.out.below (below_regrown u dq osq))
 have hbg:=below_regrown u dq osq
 generalize Go.Sort.grow (redrawn u dq) osq=W2 at *
 clear HI c1 c2 hld
 go_wp2
 go_ret
 exact ⟨rfl,H2.out⟩
theorem callS (g:SG) (m:M) (full:Bool) (v:Int) (w:World) (h:InS g w m full) (hg:Stpq.Good m) :
  Calls prog 97 #[.pointer (some ⟨g.X,0,none⟩),.int .i64 v] w fun e w'=>e=.returned (.tuple #[])/\InS g w' (callE v ⟨m,full⟩).m (callE v ⟨m,full⟩).full:=by
 have c1:Hid (∀ W,InS g W m full->Calls prog 96 #[.pointer (some ⟨g.X,0,none⟩),.int .i64 m.pc] W fun e w'=>e=.returned (.tuple #[])/\InS g w' (push ⟨m,full⟩ m.pc).m (push ⟨m,full⟩ m.pc).full):=fun W hi=>pushS g m full _ hg.pc.1 hg.pc.2 W hi hg
 unfold callE
 simp only []
 generalize push ⟨m,full⟩ m.pc=t at *
 have q9:=h.cell 9 _ rfl
 have HI:Hid (InS g w m full):=h
 clear h hg
 go_enter func97,ntmps97
 go_wp2_with fail
 refine Calls.mono (c1.out _ HI.out) ?_
 rintro e w1 ⟨rfl,hi1⟩
 have H1:Hid (InS g w1 t.m t.full):=hi1
 clear hi1 HI c1
 have q_pc:=H1.out.cell 9 _ rfl
 have f_pc:=H1.out.fro 9
 have HF:Hid (InS g (w1.setCell ⟨g.X,9,none⟩ (.int .i64 v)) { t.m with pc:=v } t.full):=H1.out.s_pc v
 clear H1
 go_wp2
 go_end0
 exact ⟨rfl,HF.out⟩
theorem cond_0 (g:SG) (m:M) (full:Bool) (w:World) (h:InS g w m full) (hg:Stpq.Good m) :
  Calls prog 86 #[.pointer (some ⟨g.X,0,none⟩),.int .i64 0] w fun e w'=>e=.returned (.bool (decide (m.rf / 128%2=0)))/\Below w.heap.size w w':=by
 have hf:=hg.f
 have t1:m.rf.tdiv 128=m.rf / 128:=Int.tdiv_eq_ediv_of_nonneg hf.1
 have t2:(m.rf / 128).tmod 2=m.rf / 128%2:=Int.tmod_eq_emod_of_nonneg (by omega)
 have t3:IntKind.i64.wrap (m.rf / 128)=m.rf / 128:=by rw [IntKind.wrap_i64];omega
 have t4:(m.rf / 128%2 == 0)=decide (m.rf / 128%2=0):=by by_cases h:m.rf / 128%2=0 <;> simp [h]
 have q1:=h.cell 1 _ rfl
 clear h hg hf
 generalize m.rf / 128%2=r at *
 generalize decide (r=0)=bb at *
 go_enter func86,ntmps86
 go_wp2
 go_ret
 exact ⟨rfl,by repeat (with_reducible first|exact zRf|refine zGr ?_ _|refine below_drewN ?_ _|refine Below.drew ?_)⟩
theorem cond_1 (g:SG) (m:M) (full:Bool) (w:World) (h:InS g w m full) (hg:Stpq.Good m) :
  Calls prog 86 #[.pointer (some ⟨g.X,0,none⟩),.int .i64 1] w fun e w'=>e=.returned (.bool (decide (m.rf / 128%2=1)))/\Below w.heap.size w w':=by
 have hf:=hg.f
 have t1:m.rf.tdiv 128=m.rf / 128:=Int.tdiv_eq_ediv_of_nonneg hf.1
 have t2:(m.rf / 128).tmod 2=m.rf / 128%2:=Int.tmod_eq_emod_of_nonneg (by omega)
 have t3:IntKind.i64.wrap (m.rf / 128)=m.rf / 128:=by rw [IntKind.wrap_i64];omega
 have t4:(m.rf / 128%2 == 1)=decide (m.rf / 128%2=1):=by by_cases h:m.rf / 128%2=1 <;> simp [h]
 have q1:=h.cell 1 _ rfl
 clear h hg hf
 generalize m.rf / 128%2=r at *
 generalize decide (r=1)=bb at *
 go_enter func86,ntmps86
 go_wp2
 go_ret
 exact ⟨rfl,by repeat (with_reducible first|exact zRf|refine zGr ?_ _|refine below_drewN ?_ _|refine Below.drew ?_)⟩
theorem cond_2 (g:SG) (m:M) (full:Bool) (w:World) (h:InS g w m full) (hg:Stpq.Good m) :
  Calls prog 86 #[.pointer (some ⟨g.X,0,none⟩),.int .i64 2] w fun e w'=>e=.returned (.bool (decide (m.rf / 16%2=0)))/\Below w.heap.size w w':=by
 have hf:=hg.f
 have t1:m.rf.tdiv 16=m.rf / 16:=Int.tdiv_eq_ediv_of_nonneg hf.1
 have t2:(m.rf / 16).tmod 2=m.rf / 16%2:=Int.tmod_eq_emod_of_nonneg (by omega)
 have t3:IntKind.i64.wrap (m.rf / 16)=m.rf / 16:=by rw [IntKind.wrap_i64];omega
 have t4:(m.rf / 16%2 == 0)=decide (m.rf / 16%2=0):=by by_cases h:m.rf / 16%2=0 <;> simp [h]
 have q1:=h.cell 1 _ rfl
 clear h hg hf
 generalize m.rf / 16%2=r at *
 generalize decide (r=0)=bb at *
 go_enter func86,ntmps86
 go_wp2
 go_ret
 exact ⟨rfl,by repeat (with_reducible first|exact zRf|refine zGr ?_ _|refine below_drewN ?_ _|refine Below.drew ?_)⟩
theorem cond_3 (g:SG) (m:M) (full:Bool) (w:World) (h:InS g w m full) (hg:Stpq.Good m) :
  Calls prog 86 #[.pointer (some ⟨g.X,0,none⟩),.int .i64 3] w fun e w'=>e=.returned (.bool (decide (m.rf / 16%2=1)))/\Below w.heap.size w w':=by
 have hf:=hg.f
 have t1:m.rf.tdiv 16=m.rf / 16:=Int.tdiv_eq_ediv_of_nonneg hf.1
 have t2:(m.rf / 16).tmod 2=m.rf / 16%2:=Int.tmod_eq_emod_of_nonneg (by omega)
 have t3:IntKind.i64.wrap (m.rf / 16)=m.rf / 16:=by rw [IntKind.wrap_i64];omega
 have t4:(m.rf / 16%2 == 1)=decide (m.rf / 16%2=1):=by by_cases h:m.rf / 16%2=1 <;> simp [h]
 have q1:=h.cell 1 _ rfl
 clear h hg hf
 generalize m.rf / 16%2=r at *
 generalize decide (r=1)=bb at *
 go_enter func86,ntmps86
 go_wp2
 go_ret
 exact ⟨rfl,by repeat (with_reducible first|exact zRf|refine zGr ?_ _|refine below_drewN ?_ _|refine Below.drew ?_)⟩
theorem condS (g:SG) (m:M) (full:Bool) (k:Int) (w:World) (h:InS g w m full) (hg:Stpq.Good m) (k0:0<=k) (k1:k<=3) :
  Calls prog 86 #[.pointer (some ⟨g.X,0,none⟩),.int .i64 k] w fun e w'=>e=.returned (.bool (Stpp.cond m k))/\Below w.heap.size w w':=by
 rcases cases4 k0 k1 with rfl|rfl|rfl|rfl
 ·exact cond_0 g m full w h hg
 ·exact cond_1 g m full w h hg
 ·exact cond_2 g m full w h hg
 ·exact cond_3 g m full w h hg
end Stb
namespace Stph
open Go.Deep
open Signed (inB sgn ret_int ret_bool)
open Busw Busx Stpp Stpq
def u (m:M) (k:Int):UInt8:=UInt8.ofNat (rd m ((m.pc+k)%65536)).toNat
theorem u_eq (m:M) (k:Int):((u m k).toNat:Int)=rd m ((m.pc+k)%65536):=by
 have h:=rd_bd m ((m.pc+k)%65536)
 unfold u
 rw [UInt8.toNat_ofNat']
 omega
def fetch (m:M):ByteArray:=⟨#[u m 0,u m 1,u m 2]⟩
theorem fetch_size (m:M):(fetch m).size=3:=rfl
end Stph
namespace CycO
open Signed (inB ret_int)
open CycD CycE CycS CycQ Cyc Leng Tmpl
theorem spec_top (code:Int) (t:Bool) (w:World) (y z:Int) (hx:code / 64=3) (hy:code / 8%8=y) (hz:code%8=z) (h0:0<=code) (h1:code<=255) (hl:Len code false) :
  Calls prog 73 #[.int .i64 code,.bool false,.bool t] w fun e w'=>e=.returned (.int .i64 (topC y z t))/\Below w.heap.size w w':=by
 have hh:¬ code=118:=by omega
 have q118:(code == 118)=false:=by simpa using hh
 have c:=fun w=>cycles_any y z t w (by omega) (by omega) (by omega) (by omega)
 generalize topC y z t=T at c |-
 go_enter func73,ntmps73
 go_wp2_with fail
 refine (hl _).mono ?_
 rintro e w1 ⟨⟨n,rfl,hn⟩,b1⟩
 have hn':(n == 0)=false:=by simpa using hn
 have B1:Hid (Below w.heap.size w w1):=b1
 clear b1 hl
 go_wp2_with fail
 simp only [hy,hz]
 refine (c _).mono ?_
 rintro e w2 ⟨rfl,b2⟩
 have B2:Hid (Below w.heap.size w w2):=B1.out.trans (b2.mono B1.out.size)
 clear b2 B1
 go_wp2
 go_ret
 exact ⟨rfl,B2.out⟩
theorem spec_any (code:Int) (cb t:Bool) (w:World) (h0:0<=code) (h1:code<=255) (hl:Len code cb) :
  Calls prog 73 #[.int .i64 code,.bool cb,.bool t] w fun e w'=>e=.returned (.int .i64 (cycV code cb t))/\Below w.heap.size w w':=by
 unfold cycV
 cases cb with
 | true =>
  rw [if_pos rfl]
  unfold prefC
  by_cases hz:code%8=6
  ·rw [if_pos hz]
   by_cases hx:code / 64=1
   ·rw [if_pos hx];exact spec_cb3 code t w hz hx h0 h1 hl
   ·rw [if_neg hx];exact spec_cb4 code t w hz hx h0 h1 hl
  ·rw [if_neg hz];exact spec_cb2 code t w hz h0 h1 hl
 | false =>
  rw [if_neg (by decide)]
  by_cases hx:code / 64=0
  ·rw [if_pos hx]
   have e:code / 8%8*8+code%8=code:=by omega
   have h:=spec_low (code / 8%8) (code%8) t w (by omega) (by omega) (by omega) (by omega) (by rw [e];exact hl)
   rw [e] at h
   exact h
  rw [if_neg hx]
  by_cases h3:code / 64=3
  ·rw [if_pos h3];exact spec_top code t w _ _ h3 rfl rfl h0 h1 hl
  rw [if_neg h3]
  by_cases h8:code=118
  ·rw [if_pos h8];exact spec_halt code t w h8 h0 h1 hl
  rw [if_neg h8]
  by_cases hz:code%8=6
  ·rw [if_pos hz]
   by_cases h2:code / 64=1
   ·exact spec_1z code t w h2 h8 hz h0 h1 hl
   ·exact spec_2z code t w (by omega) hz h0 h1 hl
  rw [if_neg hz]
  by_cases h2:code / 64=1
  ·by_cases hy:code / 8%8=6
   ·rw [if_pos ⟨h2,hy⟩];exact spec_1y code t w h2 h8 hy h0 h1 hl
   ·rw [if_neg (fun h=>hy h.2)];exact spec_1n code t w h2 hy hz h0 h1 hl
  ·rw [if_neg (fun h=>h2 h.1)];exact spec_2n code t w (by omega) hz h0 h1 hl
end CycO
namespace CycX
open Signed (inB)
def Sp (code:Int) (cb t:Bool) (v:Int):Prop:=∀ w,Calls prog 73 #[.int .i64 code,.bool cb,.bool t] w fun e w'=>e=.returned (.int .i64 v)/\Below w.heap.size w w'
theorem spec_none (code:Int) (cb t:Bool) (hl:∀ w,Calls prog 78 #[.int .i64 code,.bool cb] w fun e w'=>e=.returned (.int .i64 0)/\Below w.heap.size w w'):Sp code cb t 0:=fun w=>by
 go_enter func73,ntmps73
 go_wp2_with fail
 refine (hl _).mono ?_
 rintro e w1 ⟨rfl,b1⟩
 have B1:Hid (Below w.heap.size w w1):=b1
 clear b1 hl
 go_wp2
 go_ret
 exact ⟨rfl,B1.out⟩
def cyc (code:Int) (cb t:Bool):Int:=if LenX.none? code cb=true then 0 else CycQ.cycV code cb t
theorem sp (code:Int) (cb t:Bool):Sp code cb t (cyc code cb t):=by
 cases hb:inB code 0 255
 ·have hn:LenX.none? code cb=true:=by unfold LenX.none?;rw [hb];rfl
  have hc:cyc code cb t=0:=by unfold cyc;rw [if_pos hn]
  rw [hc]
  refine spec_none code cb t (fun w=>(Leng.lengthOf_out code cb w hb).mono ?_)
  rintro e w' ⟨he,hw⟩
  exact ⟨he,by rw [hw];exact zRf⟩
 obtain ⟨h0,h1⟩:=of_decide_eq_true hb
 by_cases hz:(Tmpl.tmplS code cb).size=0
 ·have hn:LenX.none? code cb=true:=by unfold LenX.none?;rw [hz];simp
  have hc:cyc code cb t=0:=by unfold cyc;rw [if_pos hn]
  rw [hc]
  refine spec_none code cb t (fun w=>(Leng.lengthOf_any code cb w h0 h1).mono ?_)
  rintro e w' ⟨⟨n,rfl,hn,_⟩,hw⟩
  exact ⟨by rw [hn.2 hz],hw⟩
 ·have hn:LenX.none? code cb=false:=by unfold LenX.none?;rw [hb];simp [hz]
  have hc:cyc code cb t=CycQ.cycV code cb t:=by unfold cyc;rw [hn];rfl
  rw [hc]
  refine fun w=>CycO.spec_any code cb t w h0 h1 (fun w=>(Leng.lengthOf_any code cb w h0 h1).mono ?_)
  rintro e w' ⟨⟨n,rfl,hn,_⟩,hw⟩
  exact ⟨⟨n,rfl,fun h=>hz (hn.1 h)⟩,hw⟩
theorem range_all:∀ (c:Fin 256) (b t:Bool),LenX.none? (c.val:Int) b=false->0<CycQ.cycV (c.val:Int) b t/\CycQ.cycV (c.val:Int) b t<7/\CycQ.cycV (c.val:Int) b false<=CycQ.cycV (c.val:Int) b true:=by decide +kernel
theorem range (code:Int) (cb t:Bool) (h0:0<=code) (h1:code<=255) (h:LenX.none? code cb=false):0<cyc code cb t/\cyc code cb t<7/\cyc code cb false<=cyc code cb true:=by
 have:=range_all ⟨code.toNat,by omega⟩ cb t
 rw [show ((⟨code.toNat,by omega⟩ : Fin 256).val:Int)=code by show ((code.toNat:Nat):Int)=code;omega] at this
 unfold cyc
 rw [h]
 exact this h
end CycX
end Go.Proofs.YtfpecdgcapfgfaaGreat
