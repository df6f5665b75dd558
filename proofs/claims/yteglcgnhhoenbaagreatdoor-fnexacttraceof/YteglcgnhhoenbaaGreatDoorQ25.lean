import Derived.Test.YteglcgnhhoenbaaGreatDoorQ24
set_option linter.all false
set_option maxRecDepth 20000
set_option maxHeartbeats 8000000
open Go.ChangeShapes Go.WideShapes Go.ChangeAt Go.RowKit
open Go.Proofs.Tryz
namespace Go.Proofs.YteglcgnhhoenbaaGreatDoor
namespace Stcl
open Go.Deep
open Signed (inB sgn aG aB)
open Reck ReckS ReckM ReckD TurnS
open Busw Busx Busy Stpp Stpq Stps Sta Stb Stck Stcz
theorem aKF (g:SG) (m:M) (full:Bool) (imm:Int) (i0:0<=imm) (i1:imm<=65535) (w:World) (h:InS g w m full) (hg:Stpq.Good m) :
  Calls prog 83 #[.pointer (some ⟨g.X,0,none⟩),.agg #[.int .i64 0,.bool false,.int .i64 imm]] w fun e w'=>e=.returned (.bool false)/\InS g w' (⟨m,full⟩ : S).m (⟨m,full⟩ : S).full:=by
 obtain ⟨u,hu,hI,HI,k0,k2,HLX⟩:=stq (c:=0) (imm:=imm) h;rw [hu] at HI
 clear h hg hI i0 i1 hu k0 k2 HLX
 go_enter func83,ntmps83
 go_wp2;go_ret;exact ⟨rfl,HI.out⟩
theorem bCI (g:SG) (m:M) (full:Bool) (imm:Int) (i0:0<=imm) (i1:imm<=65535) (w:World) (h:InS g w m full) (hg:Stpq.Good m) :
  Calls prog 83 #[.pointer (some ⟨g.X,0,none⟩),.agg #[.int .i64 16,.bool false,.int .i64 imm]] w fun e w'=>e=.returned (.bool false)/\InS g w' (⟨m,full⟩ : S).m (⟨m,full⟩ : S).full:=by
 obtain ⟨u,hu,hI,HI,k0,k2,HLX⟩:=stq (c:=16) (imm:=imm) h;rw [hu] at HI
 clear h hg hI i0 i1 hu k0 k2 HLX
 go_enter func83,ntmps83
 go_wp2;go_ret;exact ⟨rfl,HI.out⟩
theorem bHO (g:SG) (m:M) (full:Bool) (imm:Int) (i0:0<=imm) (i1:imm<=65535) (w:World) (h:InS g w m full) (hg:Stpq.Good m) :
  Calls prog 83 #[.pointer (some ⟨g.X,0,none⟩),.agg #[.int .i64 8,.bool false,.int .i64 imm]] w fun e w'=>e=.returned (.bool false)/\InS g w' (spE imm ⟨m,full⟩).m (spE imm ⟨m,full⟩).full:=by
 obtain ⟨u,hu,hI,HI,k0,k2,HLX⟩:=stq (c:=8) (imm:=imm) h;obtain ⟨s0,s1⟩:=hg.sp;have d1:m.sp.tmod 256=m.sp%256:=x4 s0;have d2:m.sp.tdiv 256=m.sp / 256:=x5 s0;have d3:IntKind.i64.wrap (imm+1)=imm+1:=by rw [x6];omega
 have d4:IntKind.i64.wrap (m.sp / 256)=m.sp / 256:=by rw [x6];omega
 have c1:Hid (∀ W,InS g W m full->Calls prog 119 #[.pointer (some ⟨g.X,0,none⟩),.int .i64 imm,.int .i64 (m.sp%256)] W fun e w'=>e=.returned (.tuple #[])/\InS g w' (wr ⟨m,full⟩ imm (m.sp%256)).m (wr ⟨m,full⟩ imm (m.sp%256)).full/\W.grownBy w' (some g.X)):=fun W hi=>both hi (fun g' hX hi'=>by rw [<- hX];exact gE g' m full _ _ W hi' hg.rt i0 (by omega) (by omega))
 have g1:=dT (s:=⟨m,full⟩) hg imm (m.sp%256) (by omega) (by omega);have HP:Hid ((wr ⟨m,full⟩ imm (m.sp%256)).m.sp=m.sp):=by show _=_;rw [<- lH ⟨m,full⟩ imm (m.sp%256)];rfl
 unfold spE;simp only [];generalize wr ⟨m,full⟩ imm (m.sp%256)=t at *
 have c2:Hid (∀ W,InS g W t.m t.full->Calls prog 119 #[.pointer (some ⟨g.X,0,none⟩),.int .i64 (imm+1),.int .i64 (m.sp / 256)] W fun e w'=>e=.returned (.tuple #[])/\InS g w' (wr t (imm+1) (m.sp / 256)).m (wr t (imm+1) (m.sp / 256)).full):=fun W hi=>gE g t.m t.full _ _ W hi g1.rt (by omega) (by omega) (by omega)
 generalize wr t (imm+1) (m.sp / 256)=t2 at *
 have r0:=x7 (hI.cell 8 _ rfl);have r1:=x7 k2;clear s0 s1 g1;clear h hg hI i0 i1
 go_enter func83,ntmps83
 go_upto_region 5 with fail
 rw [<- hu];clear hu;refine Qtail.aI 10 (by kernel_rfl) (by kernel_rfl) ?_;simp only [List.take_succ_cons,List.take_zero,List.drop_succ_cons,List.drop_zero]
 repeat (first|(go_big_quiet_step (first|fail))|(refine aK (by rfl) 30 _ rfl ⟨g.X,0,none⟩ rfl _ (fun W hW=>by obtain ⟨⟨d,o⟩,rfl⟩:=hW;exact hld d o) ?_;simp only [Act.put,List.setIfInBounds_toArray,List.set_cons_succ,List.set_cons_zero]))
 refine wpQuiet_nil ?_;intro _ hw';obtain ⟨⟨dq,osq⟩,hw''⟩:=hw';subst hw'';have H2:=zHd (HI.out.below (x8 u dq osq));have hbg:=x8 u dq osq;generalize Go.Sort.grow (redrawn u dq) osq=W2 at *
 clear HI r0 r1
 go_wp2_with fail
 refine Calls.mono (c1.out _ H2.out) ?_;rintro e w1 ⟨rfl,hi1,hgr⟩;have k2':w1.cell? ⟨w.heap.size,2,none⟩=some (.int .i64 imm):=fT hgr (Nat.lt_of_lt_of_le HLX.out.1 hbg.size) HLX.out.2 ((hbg.cell (p:=⟨w.heap.size,2,none⟩) HLX.out.1).trans k2);have H3:Hid (InS g w1 t.m t.full):=hi1;have r0:=x7 (hi1.cell 8 _ rfl);simp only [List.getElem_toArray,List.getElem_cons_succ,List.getElem_cons_zero,HP.out] at r0
 have r1:=x7 k2';clear hi1 hgr H2 c1 k0 k2 hbg
 go_upto_region 6 with fail
 refine Qtail.aI 11 (by kernel_rfl) (by kernel_rfl) ?_;simp only [List.take_succ_cons,List.take_zero,List.drop_succ_cons,List.drop_zero]
 repeat (first|(go_big_quiet_step (first|fail))|(refine aK (by rfl) 30 _ rfl ⟨g.X,0,none⟩ rfl _ (fun W hW=>by obtain ⟨⟨d,o⟩,rfl⟩:=hW;exact hld d o) ?_;simp only [Act.put,List.setIfInBounds_toArray,List.set_cons_succ,List.set_cons_zero]))
 refine wpQuiet_nil ?_;intro _ hw';obtain ⟨⟨dq,osq⟩,hw''⟩:=hw';subst hw'';have H4:=zHd (H3.out.below (x8 w1 dq osq));have hbg:=x8 w1 dq osq;generalize Go.Sort.grow (redrawn w1 dq) osq=W4 at *
 clear H3 r0 r1 k2'
 go_wp2_with fail
 refine Calls.mono (c2.out _ H4.out) ?_;rintro e w5 ⟨rfl,hi1⟩;have H5:Hid (InS g w5 t2.m t2.full):=hi1;clear hi1 H4 c2;go_wp2;go_ret;exact ⟨rfl,H5.out⟩
theorem bCJ (g:SG) (m:M) (full:Bool) (imm:Int) (i0:0<=imm) (i1:imm<=65535) (w:World) (h:InS g w m full) (hg:Stpq.Good m) :
  Calls prog 83 #[.pointer (some ⟨g.X,0,none⟩),.agg #[.int .i64 24,.bool false,.int .i64 imm]] w fun e w'=>e=.returned (.bool true)/\InS g w' (⟨{ m with pc:=(m.pc+sgn imm+65536)%65536 },full⟩ : S).m (⟨{ m with pc:=(m.pc+sgn imm+65536)%65536 },full⟩ : S).full:=by
 obtain ⟨u,hu,hI,HI,k0,k2,HLX⟩:=stq (c:=24) (imm:=imm) h;have hpc:=hg.pc;have hs:=ReckM.dI imm;have d1:IntKind.i64.wrap (m.pc+sgn imm)=m.pc+sgn imm:=by rw [x6];omega
 have d2:IntKind.i64.wrap (m.pc+sgn imm+65536)=m.pc+sgn imm+65536:=by rw [x6];omega
 have d3:(m.pc+sgn imm+65536).tmod 65536=(m.pc+sgn imm+65536)%65536:=x4 (by omega);have CS:Hid (∀ W:World,Rg 106 #[.int .i64 imm] W (.int .i64 (sgn imm))):=fun W=>rg fun W' hb=>(Signed.cR imm W').mono fun e w' h=>⟨h.1,by rw [h.2];exact zRf⟩
 generalize (m.pc+sgn imm+65536)%65536=vpc at *
 generalize sgn imm=sg at *
 clear hpc hs;clear h hg hI i0 i1
 go_enter func83,ntmps83
 go_upto_region 9 with fail
 rw [<- hu];clear hu;have r0:=x7 (HI.out.cell 9 _ rfl);have r1:=x7 k2;have c1:=CS.out u;refine Qtail.aI 17 (by kernel_rfl) (by kernel_rfl) ?_;simp only [List.take_succ_cons,List.take_zero,List.drop_succ_cons,List.drop_zero]
 repeat (first|(go_big_quiet_step (first|with_reducible exact c1 _ _))|(refine aK (by rfl) 30 _ rfl ⟨g.X,0,none⟩ rfl _ (fun W hW=>by obtain ⟨⟨d,o⟩,rfl⟩:=hW;exact hld d o) ?_;simp only [Act.put,List.setIfInBounds_toArray,List.set_cons_succ,List.set_cons_zero]))
 refine wpQuiet_nil ?_;intro _ hw';obtain ⟨⟨dq,osq⟩,hw''⟩:=hw';subst hw'';have HJ:=zHd (HI.out.below (x8 u dq osq));have hbg:=x8 u dq osq;generalize Go.Sort.grow (redrawn u dq) osq=WJ at *
 clear HI r0 r1 c1 CS;have q_pc:=HJ.out.cell 9 _ rfl;have f_pc:=HJ.out.fro 9;have HF:Hid (InS g (WJ.setCell ⟨g.X,9,none⟩ (.int .i64 vpc)) { m with pc:=vpc } full):=HJ.out.s_pc vpc;clear HJ;go_wp2;go_ret;exact ⟨rfl,HF.out⟩
theorem aUF (g:SG) (m:M) (full:Bool) (imm:Int) (i0:0<=imm) (i1:imm<=65535) (hc:Stpp.cond m 0=true) (w:World) (h:InS g w m full) (hg:Stpq.Good m) :
  Calls prog 83 #[.pointer (some ⟨g.X,0,none⟩),.agg #[.int .i64 32,.bool false,.int .i64 imm]] w fun e w'=>e=.returned (.bool true)/\InS g w' (⟨{ m with pc:=(m.pc+sgn imm+65536)%65536 },full⟩ : S).m (⟨{ m with pc:=(m.pc+sgn imm+65536)%65536 },full⟩ : S).full:=by
 obtain ⟨u,hu,hI,HI,k0,k2,HLX⟩:=stq (c:=32) (imm:=imm) h;have cc:Hid (∀ W,InS g W m full->Calls prog 120 #[.pointer (some ⟨g.X,0,none⟩),.int .i64 0] W fun e w'=>e=.returned (.bool true)/\Below W.heap.size W w'):=fun W hi=>by have h:=dG g m full 0 W hi hg (by omega) (by omega);rw [hc] at h;exact h
 have hpc:=hg.pc;have hs:=ReckM.dI imm;have d1:IntKind.i64.wrap (m.pc+sgn imm)=m.pc+sgn imm:=by rw [x6];omega
 have d2:IntKind.i64.wrap (m.pc+sgn imm+65536)=m.pc+sgn imm+65536:=by rw [x6];omega
 have d3:(m.pc+sgn imm+65536).tmod 65536=(m.pc+sgn imm+65536)%65536:=x4 (by omega);have CS:Hid (∀ W:World,Rg 106 #[.int .i64 imm] W (.int .i64 (sgn imm))):=fun W=>rg fun W' hb=>(Signed.cR imm W').mono fun e w' h=>⟨h.1,by rw [h.2];exact zRf⟩
 generalize (m.pc+sgn imm+65536)%65536=vpc at *
 generalize sgn imm=sg at *
 clear hpc hs;clear h hg hI i0 i1
 go_enter func83,ntmps83
 go_wp2_with fail
 rw [<- hu];refine Calls.mono (cc.out _ HI.out) ?_;rintro e w1 ⟨rfl,hb1⟩;have H1:=zHd (HI.out.below hb1);have k2':=(hb1.cell (p:=⟨w.heap.size,2,none⟩) HLX.out.1).trans k2;have k0':=(hb1.cell (p:=⟨w.heap.size,0,none⟩) HLX.out.1).trans k0;clear hb1 HI cc hu k0 k2
 go_upto_region 9 with fail
 have r0:=x7 (H1.out.cell 9 _ rfl);have r1:=x7 k2';have c1:=CS.out w1;refine Qtail.aI 17 (by kernel_rfl) (by kernel_rfl) ?_;simp only [List.take_succ_cons,List.take_zero,List.drop_succ_cons,List.drop_zero]
 repeat (first|(go_big_quiet_step (first|with_reducible exact c1 _ _))|(refine aK (by rfl) 30 _ rfl ⟨g.X,0,none⟩ rfl _ (fun W hW=>by obtain ⟨⟨d,o⟩,rfl⟩:=hW;exact hld d o) ?_;simp only [Act.put,List.setIfInBounds_toArray,List.set_cons_succ,List.set_cons_zero]))
 refine wpQuiet_nil ?_;intro _ hw';obtain ⟨⟨dq,osq⟩,hw''⟩:=hw';subst hw'';have HJ:=zHd (H1.out.below (x8 w1 dq osq));have hbg:=x8 w1 dq osq;generalize Go.Sort.grow (redrawn w1 dq) osq=WJ at *
 clear H1 r0 r1 c1 CS;have q_pc:=HJ.out.cell 9 _ rfl;have f_pc:=HJ.out.fro 9;have HF:Hid (InS g (WJ.setCell ⟨g.X,9,none⟩ (.int .i64 vpc)) { m with pc:=vpc } full):=HJ.out.s_pc vpc;clear HJ;go_wp2;go_ret;exact ⟨rfl,HF.out⟩
theorem aUG (g:SG) (m:M) (full:Bool) (imm:Int) (i0:0<=imm) (i1:imm<=65535) (hc:Stpp.cond m 0=false) (w:World) (h:InS g w m full) (hg:Stpq.Good m) :
  Calls prog 83 #[.pointer (some ⟨g.X,0,none⟩),.agg #[.int .i64 32,.bool false,.int .i64 imm]] w fun e w'=>e=.returned (.bool false)/\InS g w' (⟨m,full⟩ : S).m (⟨m,full⟩ : S).full:=by
 obtain ⟨u,hu,hI,HI,k0,k2,HLX⟩:=stq (c:=32) (imm:=imm) h;have cc:Hid (∀ W,InS g W m full->Calls prog 120 #[.pointer (some ⟨g.X,0,none⟩),.int .i64 0] W fun e w'=>e=.returned (.bool false)/\Below W.heap.size W w'):=fun W hi=>by have h:=dG g m full 0 W hi hg (by omega) (by omega);rw [hc] at h;exact h
 clear h hg hI i0 i1
 go_enter func83,ntmps83
 go_wp2_with fail
 rw [<- hu];refine Calls.mono (cc.out _ HI.out) ?_;rintro e w1 ⟨rfl,hb1⟩;have H1:=zHd (HI.out.below hb1);have k2':=(hb1.cell (p:=⟨w.heap.size,2,none⟩) HLX.out.1).trans k2;have k0':=(hb1.cell (p:=⟨w.heap.size,0,none⟩) HLX.out.1).trans k0;clear hb1 HI cc hu k0 k2;go_wp2;go_ret;exact ⟨rfl,H1.out⟩
theorem aUH (g:SG) (m:M) (full:Bool) (imm:Int) (i0:0<=imm) (i1:imm<=65535) (hc:Stpp.cond m 1=true) (w:World) (h:InS g w m full) (hg:Stpq.Good m) :
  Calls prog 83 #[.pointer (some ⟨g.X,0,none⟩),.agg #[.int .i64 40,.bool false,.int .i64 imm]] w fun e w'=>e=.returned (.bool true)/\InS g w' (⟨{ m with pc:=(m.pc+sgn imm+65536)%65536 },full⟩ : S).m (⟨{ m with pc:=(m.pc+sgn imm+65536)%65536 },full⟩ : S).full:=by
 obtain ⟨u,hu,hI,HI,k0,k2,HLX⟩:=stq (c:=40) (imm:=imm) h;have cc:Hid (∀ W,InS g W m full->Calls prog 120 #[.pointer (some ⟨g.X,0,none⟩),.int .i64 1] W fun e w'=>e=.returned (.bool true)/\Below W.heap.size W w'):=fun W hi=>by have h:=dG g m full 1 W hi hg (by omega) (by omega);rw [hc] at h;exact h
 have hpc:=hg.pc;have hs:=ReckM.dI imm;have d1:IntKind.i64.wrap (m.pc+sgn imm)=m.pc+sgn imm:=by rw [x6];omega
 have d2:IntKind.i64.wrap (m.pc+sgn imm+65536)=m.pc+sgn imm+65536:=by rw [x6];omega
 have d3:(m.pc+sgn imm+65536).tmod 65536=(m.pc+sgn imm+65536)%65536:=x4 (by omega);have CS:Hid (∀ W:World,Rg 106 #[.int .i64 imm] W (.int .i64 (sgn imm))):=fun W=>rg fun W' hb=>(Signed.cR imm W').mono fun e w' h=>⟨h.1,by rw [h.2];exact zRf⟩
 generalize (m.pc+sgn imm+65536)%65536=vpc at *
 generalize sgn imm=sg at *
 clear hpc hs;clear h hg hI i0 i1
 go_enter func83,ntmps83
 go_wp2_with fail
 rw [<- hu];refine Calls.mono (cc.out _ HI.out) ?_;rintro e w1 ⟨rfl,hb1⟩;have H1:=zHd (HI.out.below hb1);have k2':=(hb1.cell (p:=⟨w.heap.size,2,none⟩) HLX.out.1).trans k2;have k0':=(hb1.cell (p:=⟨w.heap.size,0,none⟩) HLX.out.1).trans k0;clear hb1 HI cc hu k0 k2
 go_upto_region 9 with fail
 have r0:=x7 (H1.out.cell 9 _ rfl);have r1:=x7 k2';have c1:=CS.out w1;refine Qtail.aI 17 (by kernel_rfl) (by kernel_rfl) ?_;simp only [List.take_succ_cons,List.take_zero,List.drop_succ_cons,List.drop_zero]
 repeat (first|(go_big_quiet_step (first|with_reducible exact c1 _ _))|(refine aK (by rfl) 30 _ rfl ⟨g.X,0,none⟩ rfl _ (fun W hW=>by obtain ⟨⟨d,o⟩,rfl⟩:=hW;exact hld d o) ?_;simp only [Act.put,List.setIfInBounds_toArray,List.set_cons_succ,List.set_cons_zero]))
 refine wpQuiet_nil ?_;intro _ hw';obtain ⟨⟨dq,osq⟩,hw''⟩:=hw';subst hw'';have HJ:=zHd (H1.out.below (x8 w1 dq osq));have hbg:=x8 w1 dq osq;generalize Go.Sort.grow (redrawn w1 dq) osq=WJ at *
 clear H1 r0 r1 c1 CS;have q_pc:=HJ.out.cell 9 _ rfl;have f_pc:=HJ.out.fro 9;have HF:Hid (InS g (WJ.setCell ⟨g.X,9,none⟩ (.int .i64 vpc)) { m with pc:=vpc } full):=HJ.out.s_pc vpc;clear HJ;go_wp2;go_ret;exact ⟨rfl,HF.out⟩
theorem aUI (g:SG) (m:M) (full:Bool) (imm:Int) (i0:0<=imm) (i1:imm<=65535) (hc:Stpp.cond m 1=false) (w:World) (h:InS g w m full) (hg:Stpq.Good m) :
  Calls prog 83 #[.pointer (some ⟨g.X,0,none⟩),.agg #[.int .i64 40,.bool false,.int .i64 imm]] w fun e w'=>e=.returned (.bool false)/\InS g w' (⟨m,full⟩ : S).m (⟨m,full⟩ : S).full:=by
 obtain ⟨u,hu,hI,HI,k0,k2,HLX⟩:=stq (c:=40) (imm:=imm) h;have cc:Hid (∀ W,InS g W m full->Calls prog 120 #[.pointer (some ⟨g.X,0,none⟩),.int .i64 1] W fun e w'=>e=.returned (.bool false)/\Below W.heap.size W w'):=fun W hi=>by have h:=dG g m full 1 W hi hg (by omega) (by omega);rw [hc] at h;exact h
 clear h hg hI i0 i1
 go_enter func83,ntmps83
 go_wp2_with fail
 rw [<- hu];refine Calls.mono (cc.out _ HI.out) ?_;rintro e w1 ⟨rfl,hb1⟩;have H1:=zHd (HI.out.below hb1);have k2':=(hb1.cell (p:=⟨w.heap.size,2,none⟩) HLX.out.1).trans k2;have k0':=(hb1.cell (p:=⟨w.heap.size,0,none⟩) HLX.out.1).trans k0;clear hb1 HI cc hu k0 k2;go_wp2;go_ret;exact ⟨rfl,H1.out⟩
theorem aUJ (g:SG) (m:M) (full:Bool) (imm:Int) (i0:0<=imm) (i1:imm<=65535) (hc:Stpp.cond m 2=true) (w:World) (h:InS g w m full) (hg:Stpq.Good m) :
  Calls prog 83 #[.pointer (some ⟨g.X,0,none⟩),.agg #[.int .i64 48,.bool false,.int .i64 imm]] w fun e w'=>e=.returned (.bool true)/\InS g w' (⟨{ m with pc:=(m.pc+sgn imm+65536)%65536 },full⟩ : S).m (⟨{ m with pc:=(m.pc+sgn imm+65536)%65536 },full⟩ : S).full:=by
 obtain ⟨u,hu,hI,HI,k0,k2,HLX⟩:=stq (c:=48) (imm:=imm) h;have cc:Hid (∀ W,InS g W m full->Calls prog 120 #[.pointer (some ⟨g.X,0,none⟩),.int .i64 2] W fun e w'=>e=.returned (.bool true)/\Below W.heap.size W w'):=fun W hi=>by have h:=dG g m full 2 W hi hg (by omega) (by omega);rw [hc] at h;exact h
 have hpc:=hg.pc;have hs:=ReckM.dI imm;have d1:IntKind.i64.wrap (m.pc+sgn imm)=m.pc+sgn imm:=by rw [x6];omega
 have d2:IntKind.i64.wrap (m.pc+sgn imm+65536)=m.pc+sgn imm+65536:=by rw [x6];omega
 have d3:(m.pc+sgn imm+65536).tmod 65536=(m.pc+sgn imm+65536)%65536:=x4 (by omega);have CS:Hid (∀ W:World,Rg 106 #[.int .i64 imm] W (.int .i64 (sgn imm))):=fun W=>rg fun W' hb=>(Signed.cR imm W').mono fun e w' h=>⟨h.1,by rw [h.2];exact zRf⟩
 generalize (m.pc+sgn imm+65536)%65536=vpc at *
 generalize sgn imm=sg at *
 clear hpc hs;clear h hg hI i0 i1
 go_enter func83,ntmps83
 go_wp2_with fail
 rw [<- hu];refine Calls.mono (cc.out _ HI.out) ?_;rintro e w1 ⟨rfl,hb1⟩;have H1:=zHd (HI.out.below hb1);have k2':=(hb1.cell (p:=⟨w.heap.size,2,none⟩) HLX.out.1).trans k2;have k0':=(hb1.cell (p:=⟨w.heap.size,0,none⟩) HLX.out.1).trans k0;clear hb1 HI cc hu k0 k2
 go_upto_region 9 with fail
 have r0:=x7 (H1.out.cell 9 _ rfl);have r1:=x7 k2';have c1:=CS.out w1;refine Qtail.aI 17 (by kernel_rfl) (by kernel_rfl) ?_;simp only [List.take_succ_cons,List.take_zero,List.drop_succ_cons,List.drop_zero]
 repeat (first|(go_big_quiet_step (first|with_reducible exact c1 _ _))|(refine aK (by rfl) 30 _ rfl ⟨g.X,0,none⟩ rfl _ (fun W hW=>by obtain ⟨⟨d,o⟩,rfl⟩:=hW;exact hld d o) ?_;simp only [Act.put,List.setIfInBounds_toArray,List.set_cons_succ,List.set_cons_zero]))
 refine wpQuiet_nil ?_;intro _ hw';obtain ⟨⟨dq,osq⟩,hw''⟩:=hw';subst hw'';have HJ:=zHd (H1.out.below (x8 w1 dq osq));have hbg:=x8 w1 dq osq;generalize Go.Sort.grow (redrawn w1 dq) osq=WJ at *
 clear H1 r0 r1 c1 CS;have q_pc:=HJ.out.cell 9 _ rfl;have f_pc:=HJ.out.fro 9;have HF:Hid (InS g (WJ.setCell ⟨g.X,9,none⟩ (.int .i64 vpc)) { m with pc:=vpc } full):=HJ.out.s_pc vpc;clear HJ;go_wp2;go_ret;exact ⟨rfl,HF.out⟩
theorem aUK (g:SG) (m:M) (full:Bool) (imm:Int) (i0:0<=imm) (i1:imm<=65535) (hc:Stpp.cond m 2=false) (w:World) (h:InS g w m full) (hg:Stpq.Good m) :
  Calls prog 83 #[.pointer (some ⟨g.X,0,none⟩),.agg #[.int .i64 48,.bool false,.int .i64 imm]] w fun e w'=>e=.returned (.bool false)/\InS g w' (⟨m,full⟩ : S).m (⟨m,full⟩ : S).full:=by
 obtain ⟨u,hu,hI,HI,k0,k2,HLX⟩:=stq (c:=48) (imm:=imm) h;have cc:Hid (∀ W,InS g W m full->Calls prog 120 #[.pointer (some ⟨g.X,0,none⟩),.int .i64 2] W fun e w'=>e=.returned (.bool false)/\Below W.heap.size W w'):=fun W hi=>by have h:=dG g m full 2 W hi hg (by omega) (by omega);rw [hc] at h;exact h
 clear h hg hI i0 i1
 go_enter func83,ntmps83
 go_wp2_with fail
 rw [<- hu];refine Calls.mono (cc.out _ HI.out) ?_;rintro e w1 ⟨rfl,hb1⟩;have H1:=zHd (HI.out.below hb1);have k2':=(hb1.cell (p:=⟨w.heap.size,2,none⟩) HLX.out.1).trans k2;have k0':=(hb1.cell (p:=⟨w.heap.size,0,none⟩) HLX.out.1).trans k0;clear hb1 HI cc hu k0 k2;go_wp2;go_ret;exact ⟨rfl,H1.out⟩
theorem aUL (g:SG) (m:M) (full:Bool) (imm:Int) (i0:0<=imm) (i1:imm<=65535) (hc:Stpp.cond m 3=true) (w:World) (h:InS g w m full) (hg:Stpq.Good m) :
  Calls prog 83 #[.pointer (some ⟨g.X,0,none⟩),.agg #[.int .i64 56,.bool false,.int .i64 imm]] w fun e w'=>e=.returned (.bool true)/\InS g w' (⟨{ m with pc:=(m.pc+sgn imm+65536)%65536 },full⟩ : S).m (⟨{ m with pc:=(m.pc+sgn imm+65536)%65536 },full⟩ : S).full:=by
 obtain ⟨u,hu,hI,HI,k0,k2,HLX⟩:=stq (c:=56) (imm:=imm) h;have cc:Hid (∀ W,InS g W m full->Calls prog 120 #[.pointer (some ⟨g.X,0,none⟩),.int .i64 3] W fun e w'=>e=.returned (.bool true)/\Below W.heap.size W w'):=fun W hi=>by have h:=dG g m full 3 W hi hg (by omega) (by omega);rw [hc] at h;exact h
 have hpc:=hg.pc;have hs:=ReckM.dI imm;have d1:IntKind.i64.wrap (m.pc+sgn imm)=m.pc+sgn imm:=by rw [x6];omega
 have d2:IntKind.i64.wrap (m.pc+sgn imm+65536)=m.pc+sgn imm+65536:=by rw [x6];omega
 have d3:(m.pc+sgn imm+65536).tmod 65536=(m.pc+sgn imm+65536)%65536:=x4 (by omega);have CS:Hid (∀ W:World,Rg 106 #[.int .i64 imm] W (.int .i64 (sgn imm))):=fun W=>rg fun W' hb=>(Signed.cR imm W').mono fun e w' h=>⟨h.1,by rw [h.2];exact zRf⟩
 generalize (m.pc+sgn imm+65536)%65536=vpc at *
 generalize sgn imm=sg at *
 clear hpc hs;clear h hg hI i0 i1
 go_enter func83,ntmps83
 go_wp2_with fail
 rw [<- hu];refine Calls.mono (cc.out _ HI.out) ?_;rintro e w1 ⟨rfl,hb1⟩;have H1:=zHd (HI.out.below hb1);have k2':=(hb1.cell (p:=⟨w.heap.size,2,none⟩) HLX.out.1).trans k2;have k0':=(hb1.cell (p:=⟨w.heap.size,0,none⟩) HLX.out.1).trans k0;clear hb1 HI cc hu k0 k2
 go_upto_region 9 with fail
 have r0:=x7 (H1.out.cell 9 _ rfl);have r1:=x7 k2';have c1:=CS.out w1;refine Qtail.aI 17 (by kernel_rfl) (by kernel_rfl) ?_;simp only [List.take_succ_cons,List.take_zero,List.drop_succ_cons,List.drop_zero]
 repeat (first|(go_big_quiet_step (first|with_reducible exact c1 _ _))|(refine aK (by rfl) 30 _ rfl ⟨g.X,0,none⟩ rfl _ (fun W hW=>by obtain ⟨⟨d,o⟩,rfl⟩:=hW;exact hld d o) ?_;simp only [Act.put,List.setIfInBounds_toArray,List.set_cons_succ,List.set_cons_zero]))
 refine wpQuiet_nil ?_;intro _ hw';obtain ⟨⟨dq,osq⟩,hw''⟩:=hw';subst hw'';have HJ:=zHd (H1.out.below (x8 w1 dq osq));have hbg:=x8 w1 dq osq;generalize Go.Sort.grow (redrawn w1 dq) osq=WJ at *
 clear H1 r0 r1 c1 CS;have q_pc:=HJ.out.cell 9 _ rfl;have f_pc:=HJ.out.fro 9;have HF:Hid (InS g (WJ.setCell ⟨g.X,9,none⟩ (.int .i64 vpc)) { m with pc:=vpc } full):=HJ.out.s_pc vpc;clear HJ;go_wp2;go_ret;exact ⟨rfl,HF.out⟩
theorem aUM (g:SG) (m:M) (full:Bool) (imm:Int) (i0:0<=imm) (i1:imm<=65535) (hc:Stpp.cond m 3=false) (w:World) (h:InS g w m full) (hg:Stpq.Good m) :
  Calls prog 83 #[.pointer (some ⟨g.X,0,none⟩),.agg #[.int .i64 56,.bool false,.int .i64 imm]] w fun e w'=>e=.returned (.bool false)/\InS g w' (⟨m,full⟩ : S).m (⟨m,full⟩ : S).full:=by
 obtain ⟨u,hu,hI,HI,k0,k2,HLX⟩:=stq (c:=56) (imm:=imm) h;have cc:Hid (∀ W,InS g W m full->Calls prog 120 #[.pointer (some ⟨g.X,0,none⟩),.int .i64 3] W fun e w'=>e=.returned (.bool false)/\Below W.heap.size W w'):=fun W hi=>by have h:=dG g m full 3 W hi hg (by omega) (by omega);rw [hc] at h;exact h
 clear h hg hI i0 i1
 go_enter func83,ntmps83
 go_wp2_with fail
 rw [<- hu];refine Calls.mono (cc.out _ HI.out) ?_;rintro e w1 ⟨rfl,hb1⟩;have H1:=zHd (HI.out.below hb1);have k2':=(hb1.cell (p:=⟨w.heap.size,2,none⟩) HLX.out.1).trans k2;have k0':=(hb1.cell (p:=⟨w.heap.size,0,none⟩) HLX.out.1).trans k0;clear hb1 HI cc hu k0 k2;go_wp2;go_ret;exact ⟨rfl,H1.out⟩
theorem aKG (g:SG) (m:M) (full:Bool) (imm:Int) (i0:0<=imm) (i1:imm<=65535) (w:World) (h:InS g w m full) (hg:Stpq.Good m) :
  Calls prog 83 #[.pointer (some ⟨g.X,0,none⟩),.agg #[.int .i64 1,.bool false,.int .i64 imm]] w fun e w'=>e=.returned (.bool false)/\InS g w' (⟨aN m 0 imm,full⟩ : S).m (⟨aN m 0 imm,full⟩ : S).full:=by
 obtain ⟨u,hu,hI,HI,k0,k2,HLX⟩:=stq (c:=1) (imm:=imm) h;have c1:Hid (∀ W,InS g W m full->Calls prog 121 #[.pointer (some ⟨g.X,0,none⟩),.int .i64 0,.int .i64 imm,.bool false] W fun e w'=>e=.returned (.tuple #[])/\InS g w' (⟨aN m 0 imm,full⟩ : S).m (⟨aN m 0 imm,full⟩ : S).full):=fun W hi=>dL g m full 0 _ W hi hg (by omega) (by omega) i0 i1
 generalize (⟨aN m 0 imm,full⟩ : S)=t at *
 clear h hg hI i0 i1
 go_enter func83,ntmps83
 go_wp2_with fail
 rw [<- hu];clear hu k0 k2;refine Calls.mono (c1.out _ HI.out) ?_;rintro e w2 ⟨rfl,hi1⟩;have H2:Hid (InS g w2 t.m t.full):=hi1;clear hi1 HI c1;go_wp2;go_ret;exact ⟨rfl,H2.out⟩
theorem bHP (g:SG) (m:M) (full:Bool) (imm:Int) (i0:0<=imm) (i1:imm<=65535) (w:World) (h:InS g w m full) (hg:Stpq.Good m) :
  Calls prog 83 #[.pointer (some ⟨g.X,0,none⟩),.agg #[.int .i64 9,.bool false,.int .i64 imm]] w fun e w'=>e=.returned (.bool false)/\InS g w' (⟨{ aN m 2 (awR (hl m) (pr m 0) m.rf).1 with rf:=(awR (hl m) (pr m 0) m.rf).2 },full⟩ : S).m (⟨{ aN m 2 (awR (hl m) (pr m 0) m.rf).1 with rf:=(awR (hl m) (pr m 0) m.rf).2 },full⟩ : S).full:=by
 obtain ⟨u,hu,hI,HI,k0,k2,HLX⟩:=stq (c:=9) (imm:=imm) h;have c1:Rg 123 #[.pointer (some ⟨g.X,0,none⟩)] u (.int .i64 (hl m)):=rg fun W hb=>hlS g m full W (hI.below hb) hg
 have c2:Rg 124 #[.pointer (some ⟨g.X,0,none⟩),.int .i64 0,.bool false] u (.int .i64 (pr m 0)):=rg fun W hb=>iF g m full 0 W (hI.below hb) hg (by omega) (by omega)
 have c3:Rg 122 #[.int .i64 (hl m),.int .i64 (pr m 0),.int .i64 m.rf] u (.tuple #[.int .i64 (awR (hl m) (pr m 0) m.rf).1,.int .i64 (awR (hl m) (pr m 0) m.rf).2]):=rg fun W hb=>(eO (hl m) (pr m 0) m.rf W).mono fun e w' h=>⟨by rw [<- tD (jZ hg) (eC hg 0) hg.f];exact h.1,by rw [h.2];exact zRf⟩
 have bd:=sY (hl m) (pr m 0) m.rf;generalize (awR (hl m) (pr m 0) m.rf).1=v1 at *
 generalize (awR (hl m) (pr m 0) m.rf).2=v2 at *
 have c4:Hid (∀ W,InS g W m full->Calls prog 121 #[.pointer (some ⟨g.X,0,none⟩),.int .i64 2,.int .i64 v1,.bool false] W fun e w'=>e=.returned (.tuple #[])/\InS g w' (⟨aN m 2 v1,full⟩ : S).m (⟨aN m 2 v1,full⟩ : S).full):=fun W hi=>dL g m full 2 _ W hi hg (by omega) (by omega) bd.1 bd.2.1
 generalize aN m 2 v1=t at *
 generalize hl m=x1 at *
 generalize pr m 0=x2 at *
 have r0:=x7 (hI.cell 1 _ rfl);clear bd;clear h hg hI i0 i1
 go_enter func83,ntmps83
 go_upto_region 14 with fail
 rw [<- hu];clear hu;refine wp_region_quiet_below (by kernel_rfl) (by kernel_rfl) ?_
 repeat (first|(go_big_quiet_step (first|with_reducible exact c1 _ _|with_reducible exact c2 _ _|with_reducible exact c3 _ _))|(refine aK (by rfl) 30 _ rfl ⟨g.X,0,none⟩ rfl _ (fun W hW=>by obtain ⟨⟨d,o⟩,rfl⟩:=hW;exact hld d o) ?_;simp only [Act.put,List.setIfInBounds_toArray,List.set_cons_succ,List.set_cons_zero]))
 refine wpQuiet_nil ?_;intro _ hw';obtain ⟨⟨dq,osq⟩,hw''⟩:=hw';subst hw'';have H2:=zHd (HI.out.below (x8 u dq osq));have hbg:=x8 u dq osq;generalize Go.Sort.grow (redrawn u dq) osq=W2 at *
 clear HI r0 c1 c2 c3
 go_wp2_with fail
 refine Calls.mono (c4.out _ H2.out) ?_;rintro e w3 ⟨rfl,hi1⟩;have H3:Hid (InS g w3 t full):=hi1;clear hi1 H2 c4;have q_rf:=H3.out.cell 1 _ rfl;have f_rf:=H3.out.fro 1;have HF:Hid (InS g (w3.setCell ⟨g.X,1,none⟩ (.int .i64 v2)) { t with rf:=v2 } full):=H3.out.s_rf v2;clear H3;go_wp2;go_ret;exact ⟨rfl,HF.out⟩
theorem bCK (g:SG) (m:M) (full:Bool) (imm:Int) (i0:0<=imm) (i1:imm<=65535) (w:World) (h:InS g w m full) (hg:Stpq.Good m) :
  Calls prog 83 #[.pointer (some ⟨g.X,0,none⟩),.agg #[.int .i64 17,.bool false,.int .i64 imm]] w fun e w'=>e=.returned (.bool false)/\InS g w' (⟨aN m 1 imm,full⟩ : S).m (⟨aN m 1 imm,full⟩ : S).full:=by
 obtain ⟨u,hu,hI,HI,k0,k2,HLX⟩:=stq (c:=17) (imm:=imm) h;have c1:Hid (∀ W,InS g W m full->Calls prog 121 #[.pointer (some ⟨g.X,0,none⟩),.int .i64 1,.int .i64 imm,.bool false] W fun e w'=>e=.returned (.tuple #[])/\InS g w' (⟨aN m 1 imm,full⟩ : S).m (⟨aN m 1 imm,full⟩ : S).full):=fun W hi=>dL g m full 1 _ W hi hg (by omega) (by omega) i0 i1
 generalize (⟨aN m 1 imm,full⟩ : S)=t at *
 clear h hg hI i0 i1
 go_enter func83,ntmps83
 go_wp2_with fail
 rw [<- hu];clear hu k0 k2;refine Calls.mono (c1.out _ HI.out) ?_;rintro e w2 ⟨rfl,hi1⟩;have H2:Hid (InS g w2 t.m t.full):=hi1;clear hi1 HI c1;go_wp2;go_ret;exact ⟨rfl,H2.out⟩
theorem bCL (g:SG) (m:M) (full:Bool) (imm:Int) (i0:0<=imm) (i1:imm<=65535) (w:World) (h:InS g w m full) (hg:Stpq.Good m) :
  Calls prog 83 #[.pointer (some ⟨g.X,0,none⟩),.agg #[.int .i64 25,.bool false,.int .i64 imm]] w fun e w'=>e=.returned (.bool false)/\InS g w' (⟨{ aN m 2 (awR (hl m) (pr m 1) m.rf).1 with rf:=(awR (hl m) (pr m 1) m.rf).2 },full⟩ : S).m (⟨{ aN m 2 (awR (hl m) (pr m 1) m.rf).1 with rf:=(awR (hl m) (pr m 1) m.rf).2 },full⟩ : S).full:=by
 obtain ⟨u,hu,hI,HI,k0,k2,HLX⟩:=stq (c:=25) (imm:=imm) h;have c1:Rg 123 #[.pointer (some ⟨g.X,0,none⟩)] u (.int .i64 (hl m)):=rg fun W hb=>hlS g m full W (hI.below hb) hg
 have c2:Rg 124 #[.pointer (some ⟨g.X,0,none⟩),.int .i64 1,.bool false] u (.int .i64 (pr m 1)):=rg fun W hb=>iF g m full 1 W (hI.below hb) hg (by omega) (by omega)
 have c3:Rg 122 #[.int .i64 (hl m),.int .i64 (pr m 1),.int .i64 m.rf] u (.tuple #[.int .i64 (awR (hl m) (pr m 1) m.rf).1,.int .i64 (awR (hl m) (pr m 1) m.rf).2]):=rg fun W hb=>(eO (hl m) (pr m 1) m.rf W).mono fun e w' h=>⟨by rw [<- tD (jZ hg) (eC hg 1) hg.f];exact h.1,by rw [h.2];exact zRf⟩
 have bd:=sY (hl m) (pr m 1) m.rf;generalize (awR (hl m) (pr m 1) m.rf).1=v1 at *
 generalize (awR (hl m) (pr m 1) m.rf).2=v2 at *
 have c4:Hid (∀ W,InS g W m full->Calls prog 121 #[.pointer (some ⟨g.X,0,none⟩),.int .i64 2,.int .i64 v1,.bool false] W fun e w'=>e=.returned (.tuple #[])/\InS g w' (⟨aN m 2 v1,full⟩ : S).m (⟨aN m 2 v1,full⟩ : S).full):=fun W hi=>dL g m full 2 _ W hi hg (by omega) (by omega) bd.1 bd.2.1
 generalize aN m 2 v1=t at *
 generalize hl m=x1 at *
 generalize pr m 1=x2 at *
 have r0:=x7 (hI.cell 1 _ rfl);clear bd;clear h hg hI i0 i1
 go_enter func83,ntmps83
 go_upto_region 14 with fail
 rw [<- hu];clear hu;refine wp_region_quiet_below (by kernel_rfl) (by kernel_rfl) ?_
 repeat (first|(go_big_quiet_step (first|with_reducible exact c1 _ _|with_reducible exact c2 _ _|with_reducible exact c3 _ _))|(refine aK (by rfl) 30 _ rfl ⟨g.X,0,none⟩ rfl _ (fun W hW=>by obtain ⟨⟨d,o⟩,rfl⟩:=hW;exact hld d o) ?_;simp only [Act.put,List.setIfInBounds_toArray,List.set_cons_succ,List.set_cons_zero]))
 refine wpQuiet_nil ?_;intro _ hw';obtain ⟨⟨dq,osq⟩,hw''⟩:=hw';subst hw'';have H2:=zHd (HI.out.below (x8 u dq osq));have hbg:=x8 u dq osq;generalize Go.Sort.grow (redrawn u dq) osq=W2 at *
 clear HI r0 c1 c2 c3
 go_wp2_with fail
 refine Calls.mono (c4.out _ H2.out) ?_;rintro e w3 ⟨rfl,hi1⟩;have H3:Hid (InS g w3 t full):=hi1;clear hi1 H2 c4;have q_rf:=H3.out.cell 1 _ rfl;have f_rf:=H3.out.fro 1;have HF:Hid (InS g (w3.setCell ⟨g.X,1,none⟩ (.int .i64 v2)) { t with rf:=v2 } full):=H3.out.s_rf v2;clear H3;go_wp2;go_ret;exact ⟨rfl,HF.out⟩
theorem bCM (g:SG) (m:M) (full:Bool) (imm:Int) (i0:0<=imm) (i1:imm<=65535) (w:World) (h:InS g w m full) (hg:Stpq.Good m) :
  Calls prog 83 #[.pointer (some ⟨g.X,0,none⟩),.agg #[.int .i64 33,.bool false,.int .i64 imm]] w fun e w'=>e=.returned (.bool false)/\InS g w' (⟨aN m 2 imm,full⟩ : S).m (⟨aN m 2 imm,full⟩ : S).full:=by
 obtain ⟨u,hu,hI,HI,k0,k2,HLX⟩:=stq (c:=33) (imm:=imm) h;have c1:Hid (∀ W,InS g W m full->Calls prog 121 #[.pointer (some ⟨g.X,0,none⟩),.int .i64 2,.int .i64 imm,.bool false] W fun e w'=>e=.returned (.tuple #[])/\InS g w' (⟨aN m 2 imm,full⟩ : S).m (⟨aN m 2 imm,full⟩ : S).full):=fun W hi=>dL g m full 2 _ W hi hg (by omega) (by omega) i0 i1
 generalize (⟨aN m 2 imm,full⟩ : S)=t at *
 clear h hg hI i0 i1
 go_enter func83,ntmps83
 go_wp2_with fail
 rw [<- hu];clear hu k0 k2;refine Calls.mono (c1.out _ HI.out) ?_;rintro e w2 ⟨rfl,hi1⟩;have H2:Hid (InS g w2 t.m t.full):=hi1;clear hi1 HI c1;go_wp2;go_ret;exact ⟨rfl,H2.out⟩
theorem bCN (g:SG) (m:M) (full:Bool) (imm:Int) (i0:0<=imm) (i1:imm<=65535) (w:World) (h:InS g w m full) (hg:Stpq.Good m) :
  Calls prog 83 #[.pointer (some ⟨g.X,0,none⟩),.agg #[.int .i64 41,.bool false,.int .i64 imm]] w fun e w'=>e=.returned (.bool false)/\InS g w' (⟨{ aN m 2 (awR (hl m) (pr m 2) m.rf).1 with rf:=(awR (hl m) (pr m 2) m.rf).2 },full⟩ : S).m (⟨{ aN m 2 (awR (hl m) (pr m 2) m.rf).1 with rf:=(awR (hl m) (pr m 2) m.rf).2 },full⟩ : S).full:=by
 obtain ⟨u,hu,hI,HI,k0,k2,HLX⟩:=stq (c:=41) (imm:=imm) h;have c1:Rg 123 #[.pointer (some ⟨g.X,0,none⟩)] u (.int .i64 (hl m)):=rg fun W hb=>hlS g m full W (hI.below hb) hg
 have c2:Rg 124 #[.pointer (some ⟨g.X,0,none⟩),.int .i64 2,.bool false] u (.int .i64 (pr m 2)):=rg fun W hb=>iF g m full 2 W (hI.below hb) hg (by omega) (by omega)
 have c3:Rg 122 #[.int .i64 (hl m),.int .i64 (pr m 2),.int .i64 m.rf] u (.tuple #[.int .i64 (awR (hl m) (pr m 2) m.rf).1,.int .i64 (awR (hl m) (pr m 2) m.rf).2]):=rg fun W hb=>(eO (hl m) (pr m 2) m.rf W).mono fun e w' h=>⟨by rw [<- tD (jZ hg) (eC hg 2) hg.f];exact h.1,by rw [h.2];exact zRf⟩
 have bd:=sY (hl m) (pr m 2) m.rf;generalize (awR (hl m) (pr m 2) m.rf).1=v1 at *
 generalize (awR (hl m) (pr m 2) m.rf).2=v2 at *
 have c4:Hid (∀ W,InS g W m full->Calls prog 121 #[.pointer (some ⟨g.X,0,none⟩),.int .i64 2,.int .i64 v1,.bool false] W fun e w'=>e=.returned (.tuple #[])/\InS g w' (⟨aN m 2 v1,full⟩ : S).m (⟨aN m 2 v1,full⟩ : S).full):=fun W hi=>dL g m full 2 _ W hi hg (by omega) (by omega) bd.1 bd.2.1
 generalize aN m 2 v1=t at *
 generalize hl m=x1 at *
 generalize pr m 2=x2 at *
 have r0:=x7 (hI.cell 1 _ rfl);clear bd;clear h hg hI i0 i1
 go_enter func83,ntmps83
 go_upto_region 14 with fail
 rw [<- hu];clear hu;refine wp_region_quiet_below (by kernel_rfl) (by kernel_rfl) ?_
 repeat (first|(go_big_quiet_step (first|with_reducible exact c1 _ _|with_reducible exact c2 _ _|with_reducible exact c3 _ _))|(refine aK (by rfl) 30 _ rfl ⟨g.X,0,none⟩ rfl _ (fun W hW=>by obtain ⟨⟨d,o⟩,rfl⟩:=hW;exact hld d o) ?_;simp only [Act.put,List.setIfInBounds_toArray,List.set_cons_succ,List.set_cons_zero]))
 refine wpQuiet_nil ?_;intro _ hw';obtain ⟨⟨dq,osq⟩,hw''⟩:=hw';subst hw'';have H2:=zHd (HI.out.below (x8 u dq osq));have hbg:=x8 u dq osq;generalize Go.Sort.grow (redrawn u dq) osq=W2 at *
 clear HI r0 c1 c2 c3
 go_wp2_with fail
 refine Calls.mono (c4.out _ H2.out) ?_;rintro e w3 ⟨rfl,hi1⟩;have H3:Hid (InS g w3 t full):=hi1;clear hi1 H2 c4;have q_rf:=H3.out.cell 1 _ rfl;have f_rf:=H3.out.fro 1;have HF:Hid (InS g (w3.setCell ⟨g.X,1,none⟩ (.int .i64 v2)) { t with rf:=v2 } full):=H3.out.s_rf v2;clear H3;go_wp2;go_ret;exact ⟨rfl,HF.out⟩
theorem bCO (g:SG) (m:M) (full:Bool) (imm:Int) (i0:0<=imm) (i1:imm<=65535) (w:World) (h:InS g w m full) (hg:Stpq.Good m) :
  Calls prog 83 #[.pointer (some ⟨g.X,0,none⟩),.agg #[.int .i64 49,.bool false,.int .i64 imm]] w fun e w'=>e=.returned (.bool false)/\InS g w' (⟨aN m 3 imm,full⟩ : S).m (⟨aN m 3 imm,full⟩ : S).full:=by
 obtain ⟨u,hu,hI,HI,k0,k2,HLX⟩:=stq (c:=49) (imm:=imm) h;have c1:Hid (∀ W,InS g W m full->Calls prog 121 #[.pointer (some ⟨g.X,0,none⟩),.int .i64 3,.int .i64 imm,.bool false] W fun e w'=>e=.returned (.tuple #[])/\InS g w' (⟨aN m 3 imm,full⟩ : S).m (⟨aN m 3 imm,full⟩ : S).full):=fun W hi=>dL g m full 3 _ W hi hg (by omega) (by omega) i0 i1
 generalize (⟨aN m 3 imm,full⟩ : S)=t at *
 clear h hg hI i0 i1
 go_enter func83,ntmps83
 go_wp2_with fail
 rw [<- hu];clear hu k0 k2;refine Calls.mono (c1.out _ HI.out) ?_;rintro e w2 ⟨rfl,hi1⟩;have H2:Hid (InS g w2 t.m t.full):=hi1;clear hi1 HI c1;go_wp2;go_ret;exact ⟨rfl,H2.out⟩
theorem bCP (g:SG) (m:M) (full:Bool) (imm:Int) (i0:0<=imm) (i1:imm<=65535) (w:World) (h:InS g w m full) (hg:Stpq.Good m) :
  Calls prog 83 #[.pointer (some ⟨g.X,0,none⟩),.agg #[.int .i64 57,.bool false,.int .i64 imm]] w fun e w'=>e=.returned (.bool false)/\InS g w' (⟨{ aN m 2 (awR (hl m) (pr m 3) m.rf).1 with rf:=(awR (hl m) (pr m 3) m.rf).2 },full⟩ : S).m (⟨{ aN m 2 (awR (hl m) (pr m 3) m.rf).1 with rf:=(awR (hl m) (pr m 3) m.rf).2 },full⟩ : S).full:=by
 obtain ⟨u,hu,hI,HI,k0,k2,HLX⟩:=stq (c:=57) (imm:=imm) h;have c1:Rg 123 #[.pointer (some ⟨g.X,0,none⟩)] u (.int .i64 (hl m)):=rg fun W hb=>hlS g m full W (hI.below hb) hg
 have c2:Rg 124 #[.pointer (some ⟨g.X,0,none⟩),.int .i64 3,.bool false] u (.int .i64 (pr m 3)):=rg fun W hb=>iF g m full 3 W (hI.below hb) hg (by omega) (by omega)
 have c3:Rg 122 #[.int .i64 (hl m),.int .i64 (pr m 3),.int .i64 m.rf] u (.tuple #[.int .i64 (awR (hl m) (pr m 3) m.rf).1,.int .i64 (awR (hl m) (pr m 3) m.rf).2]):=rg fun W hb=>(eO (hl m) (pr m 3) m.rf W).mono fun e w' h=>⟨by rw [<- tD (jZ hg) (eC hg 3) hg.f];exact h.1,by rw [h.2];exact zRf⟩
 have bd:=sY (hl m) (pr m 3) m.rf;generalize (awR (hl m) (pr m 3) m.rf).1=v1 at *
 generalize (awR (hl m) (pr m 3) m.rf).2=v2 at *
 have c4:Hid (∀ W,InS g W m full->Calls prog 121 #[.pointer (some ⟨g.X,0,none⟩),.int .i64 2,.int .i64 v1,.bool false] W fun e w'=>e=.returned (.tuple #[])/\InS g w' (⟨aN m 2 v1,full⟩ : S).m (⟨aN m 2 v1,full⟩ : S).full):=fun W hi=>dL g m full 2 _ W hi hg (by omega) (by omega) bd.1 bd.2.1
 generalize aN m 2 v1=t at *
 generalize hl m=x1 at *
 generalize pr m 3=x2 at *
 have r0:=x7 (hI.cell 1 _ rfl);clear bd;clear h hg hI i0 i1
 go_enter func83,ntmps83
 go_upto_region 14 with fail
 rw [<- hu];clear hu;refine wp_region_quiet_below (by kernel_rfl) (by kernel_rfl) ?_
 repeat (first|(go_big_quiet_step (first|with_reducible exact c1 _ _|with_reducible exact c2 _ _|with_reducible exact c3 _ _))|(refine aK (by rfl) 30 _ rfl ⟨g.X,0,none⟩ rfl _ (fun W hW=>by obtain ⟨⟨d,o⟩,rfl⟩:=hW;exact hld d o) ?_;simp only [Act.put,List.setIfInBounds_toArray,List.set_cons_succ,List.set_cons_zero]))
 refine wpQuiet_nil ?_;intro _ hw';obtain ⟨⟨dq,osq⟩,hw''⟩:=hw';subst hw'';have H2:=zHd (HI.out.below (x8 u dq osq));have hbg:=x8 u dq osq;generalize Go.Sort.grow (redrawn u dq) osq=W2 at *
 clear HI r0 c1 c2 c3
 go_wp2_with fail
 refine Calls.mono (c4.out _ H2.out) ?_;rintro e w3 ⟨rfl,hi1⟩;have H3:Hid (InS g w3 t full):=hi1;clear hi1 H2 c4;have q_rf:=H3.out.cell 1 _ rfl;have f_rf:=H3.out.fro 1;have HF:Hid (InS g (w3.setCell ⟨g.X,1,none⟩ (.int .i64 v2)) { t with rf:=v2 } full):=H3.out.s_rf v2;clear H3;go_wp2;go_ret;exact ⟨rfl,HF.out⟩
end Stcl
end Go.Proofs.YteglcgnhhoenbaaGreatDoor
