/-
  Contracts and facts of ours, joined: Sta.
-/
import Derived.Test.YtkfehdkjeodbmaaGreatDoorP08
import Derived.Test.YtkfehdkjeodbmaaGreatDoorP00
set_option linter.unusedVariables false
set_option linter.unusedSimpArgs false
set_option maxRecDepth 20000
set_option maxHeartbeats 8000000
open Go.ChangeShapes Go.WideShapes Go.ChangeAt Go.RowKit
open Go.Proofs.Tryz
namespace Go.Proofs.YtkfehdkjeodbmaaGreatDoor.Sta
open Go.Deep
open Signed (inB sgn ret_int ret_bool)
open Busw Busx Busy Stpp Stpq Stps
abbrev Rg (f:FuncId) (args:Array Value) (W:World) (v:Value):Prop:=∀ d os,Calls prog f args (Go.Sort.grow (redrawn W d) os) fun e w''=>e=.returned v/\∃ p:Regrown,w''=Go.Sort.grow (redrawn W p.d) p.os
theorem rg {f:FuncId} {args:Array Value} {W:World} {v:Value} (h:∀ W',Below W.heap.size W W'->Calls prog f args W' fun e w'=>e=.returned v/\Below W'.heap.size W' w'):Rg f args W v:=fun d os=>Calls.regrown_of (h _ (below_regrown W d os))
theorem after {a w w':World} (h:Below a.heap.size a w) (k:Below w.heap.size w w'):Below a.heap.size a w':=h.trans (k.mono h.size)
theorem hlS (g:SG) (m:M) (full:Bool) (w:World) (h:InS g w m full) (hg:Stpq.Good m) :
  Calls prog 80 #[.pointer (some ⟨g.X,0,none⟩)] w fun e w'=>e=.returned (.int .i64 (hl m))/\Below w.heap.size w w':=by
 have h1:=hg.h
 have h2:=hg.l
 have d1:IntKind.i64.wrap (256*m.rH)=256*m.rH:=by rw [IntKind.wrap_i64];omega
 have d2:IntKind.i64.wrap (256*m.rH+m.rL)=256*m.rH+m.rL:=by rw [IntKind.wrap_i64];omega
 have q_rH:=h.cell 6 _ rfl
 have q_rL:=h.cell 7 _ rfl
 clear h hg h1 h2
 go_enter func80,ntmps80
 go_wp2_with fail
 go_quiet (fail)
 go_wp2
 go_ret
 exact ⟨rfl,by repeat (with_reducible first|exact zRf|refine zGr ?_ _|refine below_drewN ?_ _|refine Below.drew ?_)⟩
theorem writeS (g:SG) (m:M) (full:Bool) (addr v:Int) (w:World) (h:InS g w m full) (hr:Rt m) (a0:0<=addr) (v0:0<=v) (v1:v<=255) :
  Calls prog 75 #[.pointer (some ⟨g.X,0,none⟩),.int .i64 addr,.int .i64 v] w fun e w'=>e=.returned (.tuple #[])/\InS g w' (wr ⟨m,full⟩ addr v).m (wr ⟨m,full⟩ addr v).full:=by
 obtain ⟨po,cap,hA⟩:=h
 have hq:0<=addr%65536/\addr%65536<=65535:=by omega
 have c1:=swrite_any m po cap (addr%65536) v w hr hA.sl (decide_eq_true hq) (decide_eq_true ⟨v0,v1⟩)
 have hl:=hA.load (W':=w) rfl
 have d1:addr.tmod 65536=addr%65536:=Int.tmod_eq_emod_of_nonneg a0
 have HA:Hid (SAt g w m full po cap):=hA
 have hz:=zeroM
 have HWR:Hid (wr ⟨m,full⟩ addr v=match wrM m (addr%65536) v with|some m'=>⟨m',full⟩|none=>⟨m,true⟩):=rfl
 generalize wr ⟨m,full⟩ addr v=t at *
 obtain ⟨rr,hrr⟩ : ∃ r,r=wrM m (addr%65536) v:=⟨_,rfl⟩
 rw [<- hrr] at c1 HWR
 clear hrr hA hr hq
 generalize addr%65536=aq at *
 obtain ⟨cZ,hcZ⟩ : ∃ c,c=cellsM Z0 none 0:=⟨_,rfl⟩
 have HZ:Hid (cZ=cellsM Z0 none 0):=hcZ
 rw [<- hcZ] at hz
 clear hcZ
 go_enter func75,ntmps75
 go_upto_region 0 with fail
 refine wp_region_list ?_
 refine wpList_plain rfl (fun K hK=>?_)
 go_simp
 refine hK _ _ ?_
 clear hK
 refine wpList_plain rfl (fun K hK=>?_)
 go_simp
 refine hK _ _ ?_
 clear hK
 refine wpList_plain rfl (fun K hK=>?_)
 go_simp
 refine hK _ _ ?_
 clear hK
 refine wpList_load_any rfl 33 _ rfl ⟨g.X,0,none⟩ rfl _ hl ?_
 go_wp2_with fail
 refine Calls.mono c1 ?_
 rintro e w1 ⟨hc,hb1⟩
 obtain ⟨m',po',cap',ok,hok,rfl,hsl,hmm⟩ : ∃ m' po' cap' ok,t=⟨m',full || !ok⟩/\e=.returned (.tuple #[.agg (cellsM m' po' cap'),.bool ok])/\Sl w1 po' m'.out cap'/\(∀ p,po'=some p->p.block ≠ g.X):=by
  rcases hc with ⟨m',po',cap',hr,he,hs,hfr⟩|⟨hr,he⟩
  ·refine ⟨m',po',cap',true,?_,he,hs,?_⟩
   ·rw [HWR.out,hr];simp
   ·intro p hp
    rcases hfr with rfl|hfr
    ·exact HA.out.ne p hp
    ·have h1:=hfr p hp
     have h2:=HA.out.lt
     omega
  ·refine ⟨m,po,cap,false,?_,he,HA.out.sl.below hb1,HA.out.ne⟩
   rw [HWR.out,hr];simp
 have HS1:Hid (Sl w1 po' m'.out cap'/\∀ p,po'=some p->p.block ≠ g.X):=⟨hsl,hmm⟩
 have HB1:Hid (Below w.heap.size w w1):=hb1
 have HXX:Hid (w1.heap[g.X]? = some (.cells (cellsW m po cap full) 82 (0,0))):=(hb1.block _ HA.out.lt).trans HA.out.box
 have HT:Hid (t=⟨m',full || !ok⟩):=hok
 clear hc hsl hmm hb1 HWR c1 hl hok
 rename_i hK
 refine hK _ _ ?_
 clear hK
 refine wpList_plain rfl (fun K hK=>?_)
 go_simp
 refine hK _ _ ?_
 clear hK
 refine wpList_plain rfl (fun K hK=>?_)
 go_simp
 refine hK _ _ ?_
 clear hK
 refine wpList_plain rfl (fun K hK=>?_)
 go_simp
 refine hK _ _ ?_
 clear hK
 refine wpList_plain rfl (fun K hK=>?_)
 go_simp
 refine hK _ _ ?_
 clear hK
 refine wpList_store_row rfl 33 _ _ rfl w1.heap.size (cellsM m' po' cap') rfl rfl _ _ (heap_alloc_last w1 _) (infoMs _ _ _) (by rw [HZ.out,size_M,size_M]) (one_M _ _ _) ?_
 rw [World.setRow_alloc_new]
 obtain ⟨u1,hu1⟩ : ∃ u,u=w1.alloc (.cells (cellsM m' po' cap') 33):=⟨_,rfl⟩
 have HU:Hid (u1.heap[w1.heap.size]? = some (.cells (cellsM m' po' cap') 33)/\u1.heap[g.X]? = some (.cells (cellsW m po cap full) 82 (0,0))/\Below w.heap.size w u1/\Sl u1 po' m'.out cap'/\g.X<w1.heap.size):=by
  have hx:=(zLo HXX.out)
  have hbb:Below w1.heap.size w1 u1:=by rw [hu1];exact zAl _ _
  exact ⟨by rw [hu1];exact heap_alloc_last w1 _,(hbb.block _ hx).trans HXX.out,after HB1.out hbb,HS1.out.1.below hbb,hx⟩
 obtain ⟨bM,hbM⟩ : ∃ b,b=w1.heap.size:=⟨_,rfl⟩
 rw [<- hu1,<- hbM]
 rw [<- hbM] at HU
 clear hu1 hbM HXX HB1
 go_upto_region 1 with fail
 refine wp_region_list ?_
 refine wpList_plain rfl (fun K hK=>?_)
 go_simp
 refine hK _ _ ?_
 clear hK
 refine wpList_load_row rfl 33 _ rfl bM rfl _ _ (0,0) _ HU.out.1 underlying33 rfl (infoMs _ _ _) ?_
 refine wpList_plain rfl (fun K hK=>?_)
 go_simp
 refine hK _ _ ?_
 clear hK
 refine wpList_plain rfl (fun K hK=>?_)
 go_simp
 refine hK _ _ ?_
 clear hK
 refine wpList_store_part rfl 33 _ _ rfl g.X (cellsM m' po' cap') rfl rfl _ _ HU.out.2.1 (infoMs _ _ _) (by rw [size_M,size_W];decide) (one_M _ _ _) ?_
 rw [part_W]
 obtain ⟨u2,hu2⟩ : ∃ u,u=u1.setRow g.X (cellsW m' po' cap' full):=⟨_,rfl⟩
 have HI:Hid (InS g u2 m' full):=by
  obtain ⟨h1,h2,h3,h4,h5⟩:=HU.out
  rw [hu2]
  refine ⟨po',cap',MachT.heap_row h2,?_,HS1.out.2,?_⟩
  ·exact sl_grown h4 HS1.out.2 (set_row_grown _ _ _)
  ·exact grown_trans (grown_trans HA.out.grown (below_grown h3)) (set_row_grown _ _ _)
 rw [<- hu2]
 clear hu2 HU HS1 HA
 have q:=HI.out.cellFull
 have f:=HI.out.fro 23
 have HF:Hid (InS g (u2.setCell ⟨g.X,23,none⟩ (.bool (full || !ok))) m' (full || !ok)):=HI.out.setFull _
 clear HI
 refine wpList_nil ?_
 cases full <;> cases ok
 all_goals
  go_wp2
  go_end0
  exact ⟨rfl,by rw [HT.out];exact HF.out⟩
theorem reg_0 (g:SG) (m:M) (full:Bool) (w:World) (h:InS g w m full) :
  Calls prog 51 #[.pointer (some ⟨g.X,0,none⟩),.int .i64 0] w fun e w'=>e=.returned (.int .i64 (m.rB))/\Below w.heap.size w w':=by
 have q_ra:=h.cell 0 _ rfl
 have q_rf:=h.cell 1 _ rfl
 have q_rB:=h.cell 2 _ rfl
 have q_rC:=h.cell 3 _ rfl
 have q_rD:=h.cell 4 _ rfl
 have q_rE:=h.cell 5 _ rfl
 have q_rH:=h.cell 6 _ rfl
 have q_rL:=h.cell 7 _ rfl
 have q_sp:=h.cell 8 _ rfl
 have q_pc:=h.cell 9 _ rfl
 have q_ime:=h.cell 10 _ rfl
 have q_hal:=h.cell 11 _ rfl
 have hl:=h.lt
 clear h
 go_enter func51,ntmps51
 go_wp2
 go_ret
 exact ⟨rfl,by repeat (with_reducible first|exact zRf|refine zGr ?_ _|refine below_drewN ?_ _|refine Below.drew ?_)⟩
theorem reg_1 (g:SG) (m:M) (full:Bool) (w:World) (h:InS g w m full) :
  Calls prog 51 #[.pointer (some ⟨g.X,0,none⟩),.int .i64 1] w fun e w'=>e=.returned (.int .i64 (m.rC))/\Below w.heap.size w w':=by
 have q_ra:=h.cell 0 _ rfl
 have q_rf:=h.cell 1 _ rfl
 have q_rB:=h.cell 2 _ rfl
 have q_rC:=h.cell 3 _ rfl
 have q_rD:=h.cell 4 _ rfl
 have q_rE:=h.cell 5 _ rfl
 have q_rH:=h.cell 6 _ rfl
 have q_rL:=h.cell 7 _ rfl
 have q_sp:=h.cell 8 _ rfl
 have q_pc:=h.cell 9 _ rfl
 have q_ime:=h.cell 10 _ rfl
 have q_hal:=h.cell 11 _ rfl
 have hl:=h.lt
 clear h
 go_enter func51,ntmps51
 go_wp2
 go_ret
 exact ⟨rfl,by repeat (with_reducible first|exact zRf|refine zGr ?_ _|refine below_drewN ?_ _|refine Below.drew ?_)⟩
theorem reg_2 (g:SG) (m:M) (full:Bool) (w:World) (h:InS g w m full) :
  Calls prog 51 #[.pointer (some ⟨g.X,0,none⟩),.int .i64 2] w fun e w'=>e=.returned (.int .i64 (m.rD))/\Below w.heap.size w w':=by
 have q_ra:=h.cell 0 _ rfl
 have q_rf:=h.cell 1 _ rfl
 have q_rB:=h.cell 2 _ rfl
 have q_rC:=h.cell 3 _ rfl
 have q_rD:=h.cell 4 _ rfl
 have q_rE:=h.cell 5 _ rfl
 have q_rH:=h.cell 6 _ rfl
 have q_rL:=h.cell 7 _ rfl
 have q_sp:=h.cell 8 _ rfl
 have q_pc:=h.cell 9 _ rfl
 have q_ime:=h.cell 10 _ rfl
 have q_hal:=h.cell 11 _ rfl
 have hl:=h.lt
 clear h
 go_enter func51,ntmps51
 go_wp2
 go_ret
 exact ⟨rfl,by repeat (with_reducible first|exact zRf|refine zGr ?_ _|refine below_drewN ?_ _|refine Below.drew ?_)⟩
theorem reg_3 (g:SG) (m:M) (full:Bool) (w:World) (h:InS g w m full) :
  Calls prog 51 #[.pointer (some ⟨g.X,0,none⟩),.int .i64 3] w fun e w'=>e=.returned (.int .i64 (m.rE))/\Below w.heap.size w w':=by
 have q_ra:=h.cell 0 _ rfl
 have q_rf:=h.cell 1 _ rfl
 have q_rB:=h.cell 2 _ rfl
 have q_rC:=h.cell 3 _ rfl
 have q_rD:=h.cell 4 _ rfl
 have q_rE:=h.cell 5 _ rfl
 have q_rH:=h.cell 6 _ rfl
 have q_rL:=h.cell 7 _ rfl
 have q_sp:=h.cell 8 _ rfl
 have q_pc:=h.cell 9 _ rfl
 have q_ime:=h.cell 10 _ rfl
 have q_hal:=h.cell 11 _ rfl
 have hl:=h.lt
 clear h
 go_enter func51,ntmps51
 go_wp2
 go_ret
 exact ⟨rfl,by repeat (with_reducible first|exact zRf|refine zGr ?_ _|refine below_drewN ?_ _|refine Below.drew ?_)⟩
theorem reg_4 (g:SG) (m:M) (full:Bool) (w:World) (h:InS g w m full) :
  Calls prog 51 #[.pointer (some ⟨g.X,0,none⟩),.int .i64 4] w fun e w'=>e=.returned (.int .i64 (m.rH))/\Below w.heap.size w w':=by
 have q_ra:=h.cell 0 _ rfl
 have q_rf:=h.cell 1 _ rfl
 have q_rB:=h.cell 2 _ rfl
 have q_rC:=h.cell 3 _ rfl
 have q_rD:=h.cell 4 _ rfl
 have q_rE:=h.cell 5 _ rfl
 have q_rH:=h.cell 6 _ rfl
 have q_rL:=h.cell 7 _ rfl
 have q_sp:=h.cell 8 _ rfl
 have q_pc:=h.cell 9 _ rfl
 have q_ime:=h.cell 10 _ rfl
 have q_hal:=h.cell 11 _ rfl
 have hl:=h.lt
 clear h
 go_enter func51,ntmps51
 go_wp2
 go_ret
 exact ⟨rfl,by repeat (with_reducible first|exact zRf|refine zGr ?_ _|refine below_drewN ?_ _|refine Below.drew ?_)⟩
theorem reg_5 (g:SG) (m:M) (full:Bool) (w:World) (h:InS g w m full) :
  Calls prog 51 #[.pointer (some ⟨g.X,0,none⟩),.int .i64 5] w fun e w'=>e=.returned (.int .i64 (m.rL))/\Below w.heap.size w w':=by
 have q_ra:=h.cell 0 _ rfl
 have q_rf:=h.cell 1 _ rfl
 have q_rB:=h.cell 2 _ rfl
 have q_rC:=h.cell 3 _ rfl
 have q_rD:=h.cell 4 _ rfl
 have q_rE:=h.cell 5 _ rfl
 have q_rH:=h.cell 6 _ rfl
 have q_rL:=h.cell 7 _ rfl
 have q_sp:=h.cell 8 _ rfl
 have q_pc:=h.cell 9 _ rfl
 have q_ime:=h.cell 10 _ rfl
 have q_hal:=h.cell 11 _ rfl
 have hl:=h.lt
 clear h
 go_enter func51,ntmps51
 go_wp2
 go_ret
 exact ⟨rfl,by repeat (with_reducible first|exact zRf|refine zGr ?_ _|refine below_drewN ?_ _|refine Below.drew ?_)⟩
theorem reg_7 (g:SG) (m:M) (full:Bool) (w:World) (h:InS g w m full) :
  Calls prog 51 #[.pointer (some ⟨g.X,0,none⟩),.int .i64 7] w fun e w'=>e=.returned (.int .i64 (m.ra))/\Below w.heap.size w w':=by
 have q_ra:=h.cell 0 _ rfl
 have q_rf:=h.cell 1 _ rfl
 have q_rB:=h.cell 2 _ rfl
 have q_rC:=h.cell 3 _ rfl
 have q_rD:=h.cell 4 _ rfl
 have q_rE:=h.cell 5 _ rfl
 have q_rH:=h.cell 6 _ rfl
 have q_rL:=h.cell 7 _ rfl
 have q_sp:=h.cell 8 _ rfl
 have q_pc:=h.cell 9 _ rfl
 have q_ime:=h.cell 10 _ rfl
 have q_hal:=h.cell 11 _ rfl
 have hl:=h.lt
 clear h
 go_enter func51,ntmps51
 go_wp2
 go_ret
 exact ⟨rfl,by repeat (with_reducible first|exact zRf|refine zGr ?_ _|refine below_drewN ?_ _|refine Below.drew ?_)⟩
theorem reg_6 (g:SG) (m:M) (full:Bool) (w:World) (h:InS g w m full) (hg:Stpq.Good m) :
  Calls prog 51 #[.pointer (some ⟨g.X,0,none⟩),.int .i64 6] w fun e w'=>e=.returned (.int .i64 (rd m (hl m)))/\Below w.heap.size w w':=by
 have q_ra:=h.cell 0 _ rfl
 have q_rf:=h.cell 1 _ rfl
 have q_rB:=h.cell 2 _ rfl
 have q_rC:=h.cell 3 _ rfl
 have q_rD:=h.cell 4 _ rfl
 have q_rE:=h.cell 5 _ rfl
 have q_rH:=h.cell 6 _ rfl
 have q_rL:=h.cell 7 _ rfl
 have q_sp:=h.cell 8 _ rfl
 have q_pc:=h.cell 9 _ rfl
 have q_ime:=h.cell 10 _ rfl
 have q_hal:=h.cell 11 _ rfl
 have hlt:=h.lt
 obtain ⟨o,ho⟩ : ∃ o:Obj,o=.cells #[.int .i64 m.ra,.int .i64 m.rf,.int .i64 m.rB,.int .i64 m.rC,.int .i64 m.rD,.int .i64 m.rE,.int .i64 m.rH,.int .i64 m.rL,.int .i64 m.sp,.int .i64 m.pc,.bool m.ime,.bool m.hal] 30:=⟨_,rfl⟩
 have hIA:InS g (w.alloc o) m full:=h.below (zAl _ _)
 have HI:Hid (InS g (w.alloc o) m full):=hIA
 obtain ⟨po,cap,hA⟩:=hIA
 have hb:=hl_bd hg
 have c1:Rg 80 #[.pointer (some ⟨g.X,0,none⟩)] (w.alloc o) (.int .i64 (hl m)):=rg fun W hb=>hlS g m full W (HI.out.below hb) hg
 have c2:Rg 70 #[.agg (cellsM m po cap),.int .i64 (hl m)] (w.alloc o) (.int .i64 (rd m (hl m))):=rg fun W hb'=>l6Read_M m po cap (hl m) W hg.rt hb.1
 have hld:∀ d os,(loadVar 33 ⟨g.X,0,none⟩).run prog (Go.Sort.grow (redrawn (w.alloc o) d) os)=.ok (.agg (cellsM m po cap)) (Go.Sort.grow (redrawn (w.alloc o) d) os):=fun d os=>hA.load ((below_regrown (w.alloc o) d os).block _ hA.lt)
 have HBW:Hid (Below w.heap.size w (w.alloc o)):=zAl _ _
 generalize rd m (hl m)=r at *
 generalize hl m=a at *
 generalize cellsM m po cap=cM at *
 clear h hg hb hA
 go_enter func51,ntmps51
 go_upto_region 3 with fail
 rw [<- ho]
 clear ho
 refine wp_region_quiet_below (by kernel_rfl) (by kernel_rfl) ?_
 repeat (first|(go_big_quiet_step (first|with_reducible exact c1 _ _|with_reducible exact c2 _ _))|(refine wpQuiet_load (by rfl) 33 _ rfl ⟨g.X,0,none⟩ rfl _ (fun W hW=>by obtain ⟨⟨d,o⟩,rfl⟩:=hW;exact hld d o) ?_;simp only [Act.put,List.setIfInBounds_toArray,List.set_cons_succ,List.set_cons_zero]))
 refine wpQuiet_nil ?_
 intro _ hw'
 obtain ⟨⟨dq,osq⟩,hw''⟩:=hw'
 subst hw''
 have H2:Hid (InS g (Go.Sort.grow (redrawn (w.alloc o) dq) osq) m full):=HI.out.below (below_regrown (w.alloc o) dq osq)
 have hbg:Below (w.alloc o).heap.size (w.alloc o) (Go.Sort.grow (redrawn (w.alloc o) dq) osq):=below_regrown (w.alloc o) dq osq
 generalize Go.Sort.grow (redrawn (w.alloc o) dq) osq=W2 at *
 clear HI c1 c2 hld
 have HB2:Hid (Below w.heap.size w W2):=after HBW.out hbg
 clear hbg
 go_wp2
 go_ret
 exact ⟨rfl,HB2.out⟩
theorem regS (g:SG) (m:M) (full:Bool) (n:Int) (w:World) (h:InS g w m full) (hg:Stpq.Good m) (n0:0<=n) (n1:n<=7) :
  Calls prog 51 #[.pointer (some ⟨g.X,0,none⟩),.int .i64 n] w fun e w'=>e=.returned (.int .i64 (Stpp.get m n))/\Below w.heap.size w w':=by
 have hn:n=0 \/ n=1 \/ n=2 \/ n=3 \/ n=4 \/ n=5 \/ n=6 \/ n=7:=by omega
 rcases hn with rfl|rfl|rfl|rfl|rfl|rfl|rfl|rfl
 ·exact reg_0 g m full w h
 ·exact reg_1 g m full w h
 ·exact reg_2 g m full w h
 ·exact reg_3 g m full w h
 ·exact reg_4 g m full w h
 ·exact reg_5 g m full w h
 ·exact reg_6 g m full w h hg
 ·exact reg_7 g m full w h
theorem set_0 (g:SG) (m:M) (full:Bool) (v:Int) (w:World) (h:InS g w m full) :
  Calls prog 50 #[.pointer (some ⟨g.X,0,none⟩),.int .i64 0,.int .i64 v] w fun e w'=>e=.returned (.tuple #[])/\InS g w' { m with rB:=v } full:=by
 have q:=h.cell 2 _ rfl
 have f:=h.fro 2
 have HF:Hid (InS g (w.setCell ⟨g.X,2,none⟩ (.int .i64 v)) { m with rB:=v } full):=h.s_rB v
 clear h
 go_enter func50,ntmps50
 go_wp2
 go_end0
 exact ⟨rfl,HF.out⟩
theorem set_1 (g:SG) (m:M) (full:Bool) (v:Int) (w:World) (h:InS g w m full) :
  Calls prog 50 #[.pointer (some ⟨g.X,0,none⟩),.int .i64 1,.int .i64 v] w fun e w'=>e=.returned (.tuple #[])/\InS g w' { m with rC:=v } full:=by
 have q:=h.cell 3 _ rfl
 have f:=h.fro 3
 have HF:Hid (InS g (w.setCell ⟨g.X,3,none⟩ (.int .i64 v)) { m with rC:=v } full):=h.s_rC v
 clear h
 go_enter func50,ntmps50
 go_wp2
 go_end0
 exact ⟨rfl,HF.out⟩
theorem set_2 (g:SG) (m:M) (full:Bool) (v:Int) (w:World) (h:InS g w m full) :
  Calls prog 50 #[.pointer (some ⟨g.X,0,none⟩),.int .i64 2,.int .i64 v] w fun e w'=>e=.returned (.tuple #[])/\InS g w' { m with rD:=v } full:=by
 have q:=h.cell 4 _ rfl
 have f:=h.fro 4
 have HF:Hid (InS g (w.setCell ⟨g.X,4,none⟩ (.int .i64 v)) { m with rD:=v } full):=h.s_rD v
 clear h
 go_enter func50,ntmps50
 go_wp2
 go_end0
 exact ⟨rfl,HF.out⟩
theorem set_3 (g:SG) (m:M) (full:Bool) (v:Int) (w:World) (h:InS g w m full) :
  Calls prog 50 #[.pointer (some ⟨g.X,0,none⟩),.int .i64 3,.int .i64 v] w fun e w'=>e=.returned (.tuple #[])/\InS g w' { m with rE:=v } full:=by
 have q:=h.cell 5 _ rfl
 have f:=h.fro 5
 have HF:Hid (InS g (w.setCell ⟨g.X,5,none⟩ (.int .i64 v)) { m with rE:=v } full):=h.s_rE v
 clear h
 go_enter func50,ntmps50
 go_wp2
 go_end0
 exact ⟨rfl,HF.out⟩
theorem set_4 (g:SG) (m:M) (full:Bool) (v:Int) (w:World) (h:InS g w m full) :
  Calls prog 50 #[.pointer (some ⟨g.X,0,none⟩),.int .i64 4,.int .i64 v] w fun e w'=>e=.returned (.tuple #[])/\InS g w' { m with rH:=v } full:=by
 have q:=h.cell 6 _ rfl
 have f:=h.fro 6
 have HF:Hid (InS g (w.setCell ⟨g.X,6,none⟩ (.int .i64 v)) { m with rH:=v } full):=h.s_rH v
 clear h
 go_enter func50,ntmps50
 go_wp2
 go_end0
 exact ⟨rfl,HF.out⟩
theorem set_5 (g:SG) (m:M) (full:Bool) (v:Int) (w:World) (h:InS g w m full) :
  Calls prog 50 #[.pointer (some ⟨g.X,0,none⟩),.int .i64 5,.int .i64 v] w fun e w'=>e=.returned (.tuple #[])/\InS g w' { m with rL:=v } full:=by
 have q:=h.cell 7 _ rfl
 have f:=h.fro 7
 have HF:Hid (InS g (w.setCell ⟨g.X,7,none⟩ (.int .i64 v)) { m with rL:=v } full):=h.s_rL v
 clear h
 go_enter func50,ntmps50
 go_wp2
 go_end0
 exact ⟨rfl,HF.out⟩
theorem set_7 (g:SG) (m:M) (full:Bool) (v:Int) (w:World) (h:InS g w m full) :
  Calls prog 50 #[.pointer (some ⟨g.X,0,none⟩),.int .i64 7,.int .i64 v] w fun e w'=>e=.returned (.tuple #[])/\InS g w' { m with ra:=v } full:=by
 have q:=h.cell 0 _ rfl
 have f:=h.fro 0
 have HF:Hid (InS g (w.setCell ⟨g.X,0,none⟩ (.int .i64 v)) { m with ra:=v } full):=h.s_ra v
 clear h
 go_enter func50,ntmps50
 go_wp2
 go_end0
 exact ⟨rfl,HF.out⟩
theorem set_6 (g:SG) (m:M) (full:Bool) (v:Int) (w:World) (h:InS g w m full) (hg:Stpq.Good m) (v0:0<=v) (v1:v<=255) :
  Calls prog 50 #[.pointer (some ⟨g.X,0,none⟩),.int .i64 6,.int .i64 v] w fun e w'=>e=.returned (.tuple #[])/\InS g w' (wr ⟨m,full⟩ (hl m) v).m (wr ⟨m,full⟩ (hl m) v).full:=by
 have c1:=hlS g m full w h hg
 have HC:Hid (∀ W,InS g W m full->Calls prog 75 #[.pointer (some ⟨g.X,0,none⟩),.int .i64 (hl m),.int .i64 v] W fun e w'=>e=.returned (.tuple #[])/\InS g w' (wr ⟨m,full⟩ (hl m) v).m (wr ⟨m,full⟩ (hl m) v).full):=fun W hi=>writeS g m full _ _ W hi hg.rt (hl_bd hg).1 v0 v1
 have HI:Hid (InS g w m full):=h
 generalize wr ⟨m,full⟩ (hl m) v=t at *
 generalize hl m=a at *
 clear h hg v0 v1
 go_enter func50,ntmps50
 go_wp2_with fail
 refine Calls.mono c1 ?_
 rintro e w1 ⟨rfl,hb1⟩
 have H1:=zHd (HI.out.below hb1)
 clear hb1 HI c1
 go_wp2_with fail
 refine Calls.mono (HC.out _ H1.out) ?_
 rintro e w2 ⟨rfl,hi2⟩
 have H2:Hid (InS g w2 t.m t.full):=hi2
 clear hi2 H1 HC
 go_wp2
 go_end0
 exact ⟨rfl,H2.out⟩
theorem setS (g:SG) (m:M) (full:Bool) (n v:Int) (w:World) (h:InS g w m full) (hg:Stpq.Good m) (n0:0<=n) (n1:n<=7) (v0:0<=v) (v1:v<=255) :
  Calls prog 50 #[.pointer (some ⟨g.X,0,none⟩),.int .i64 n,.int .i64 v] w fun e w'=>e=.returned (.tuple #[])/\InS g w' (put ⟨m,full⟩ n v).m (put ⟨m,full⟩ n v).full:=by
 have hn:n=0 \/ n=1 \/ n=2 \/ n=3 \/ n=4 \/ n=5 \/ n=6 \/ n=7:=by omega
 rcases hn with rfl|rfl|rfl|rfl|rfl|rfl|rfl|rfl
 ·exact set_0 g m full v w h
 ·exact set_1 g m full v w h
 ·exact set_2 g m full v w h
 ·exact set_3 g m full v w h
 ·exact set_4 g m full v w h
 ·exact set_5 g m full v w h
 ·exact set_6 g m full v w h hg v0 v1
 ·exact set_7 g m full v w h
end Go.Proofs.YtkfehdkjeodbmaaGreatDoor.Sta
