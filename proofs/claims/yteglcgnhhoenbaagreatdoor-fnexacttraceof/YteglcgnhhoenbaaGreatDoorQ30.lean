import Derived.Test.YteglcgnhhoenbaaGreatDoorQ24
set_option linter.all false
set_option maxRecDepth 20000
set_option maxHeartbeats 8000000
open Go.ChangeShapes Go.WideShapes Go.ChangeAt Go.RowKit
open Go.Proofs.Tryz
namespace Go.Proofs.YteglcgnhhoenbaaGreatDoor
namespace Stcs
open Go.Deep
open Signed (inB sgn aG aB)
open Reck ReckS ReckM ReckD TurnS
open Busw Busx Busy Stpp Stpq Stps Sta Stb Stck Stcz
theorem aNU (g:SG) (m:M) (full:Bool) (imm:Int) (i0:0<=imm) (i1:imm<=65535) (hc:Stpp.cond m 1=true) (w:World) (h:InS g w m full) (hg:Stpq.Good m) :
  Calls prog 87 #[.pointer (some ⟨g.X,0,none⟩),.agg #[.int .i64 200,.bool false,.int .i64 imm]] w fun e w'=>e=.returned (.bool true)/\InS g w' (⟨{ aU m with pc:=bA m,ime:=(aU m).ime || false },full⟩ : S).m (⟨{ aU m with pc:=bA m,ime:=(aU m).ime || false },full⟩ : S).full:=by
 obtain ⟨u,hu,hI,HI,k0,k2,HLX⟩:=stq (c:=200) (imm:=imm) h;have cc:Hid (∀ W,InS g W m full->Calls prog 120 #[.pointer (some ⟨g.X,0,none⟩),.int .i64 1] W fun e w'=>e=.returned (.bool true)/\Below W.heap.size W w'):=fun W hi=>by have h:=dG g m full 1 W hi hg (by omega) (by omega);rw [hc] at h;exact h
 have c1:Hid (∀ W,InS g W m full->Calls prog 127 #[.pointer (some ⟨g.X,0,none⟩)] W fun e w'=>e=.returned (.int .i64 (bA m))/\InS g w' (⟨aU m,full⟩ : S).m (⟨aU m,full⟩ : S).full/\W.grownBy w' (some g.X)):=fun W hi=>both hi (fun g' hX hi'=>by rw [<- hX];exact sF g' m full W hi' hg)
 generalize bA m=pv at *
 generalize aU m=m1 at *
 clear h hg hI i0 i1 hc
 go_enter func87,ntmps87
 go_wp2_with fail
 rw [<- hu];refine Calls.mono (cc.out _ HI.out) ?_;rintro e w1 ⟨rfl,hb1⟩;have H1:=zHd (HI.out.below hb1);have k2':=(hb1.cell (p:=⟨w.heap.size,2,none⟩) HLX.out.1).trans k2;have k0':=(hb1.cell (p:=⟨w.heap.size,0,none⟩) HLX.out.1).trans k0;have HLW:Hid (w.heap.size<w1.heap.size):=Nat.lt_of_lt_of_le HLX.out.1 hb1.size;clear hb1 HI cc hu k2
 go_wp2_with fail
 refine Calls.mono (c1.out _ H1.out) ?_;rintro e w2 ⟨rfl,hi1,hgr⟩;have kk:w2.cell? ⟨w.heap.size,0,none⟩=some (.int .i64 200):=fT hgr HLW.out HLX.out.2 k0';have q9:=hi1.cell 9 _ rfl;have f9:=hi1.fro 9;have q10:=hi1.cell 10 _ rfl;have f10:=hi1.fro 10;have lX:=hi1.lt;have HF:Hid (InS g ((w2.setCell ⟨g.X,9,none⟩ (.int .i64 pv)).setCell ⟨g.X,10,none⟩ (.bool (m1.ime || false))) { m1 with pc:=pv,ime:=m1.ime || false } full):=(hi1.s_pc pv).s_ime _;have nX:=HLX.out.2;clear hi1 hgr H1 c1
 cases him:m1.ime
 all_goals
  rw [him] at HF
  simp only [List.getElem_toArray,List.getElem_cons_succ,List.getElem_cons_zero,him] at q10
  go_wp2;go_ret;exact ⟨rfl,by rw [him];exact HF.out⟩
theorem aNV (g:SG) (m:M) (full:Bool) (imm:Int) (i0:0<=imm) (i1:imm<=65535) (hc:Stpp.cond m 1=false) (w:World) (h:InS g w m full) (hg:Stpq.Good m) :
  Calls prog 87 #[.pointer (some ⟨g.X,0,none⟩),.agg #[.int .i64 200,.bool false,.int .i64 imm]] w fun e w'=>e=.returned (.bool false)/\InS g w' (⟨m,full⟩ : S).m (⟨m,full⟩ : S).full:=by
 obtain ⟨u,hu,hI,HI,k0,k2,HLX⟩:=stq (c:=200) (imm:=imm) h;have cc:Hid (∀ W,InS g W m full->Calls prog 120 #[.pointer (some ⟨g.X,0,none⟩),.int .i64 1] W fun e w'=>e=.returned (.bool false)/\Below W.heap.size W w'):=fun W hi=>by have h:=dG g m full 1 W hi hg (by omega) (by omega);rw [hc] at h;exact h
 clear h hg hI i0 i1 hc
 go_enter func87,ntmps87
 go_wp2_with fail
 rw [<- hu];refine Calls.mono (cc.out _ HI.out) ?_;rintro e w1 ⟨rfl,hb1⟩;have H1:=zHd (HI.out.below hb1);have k2':=(hb1.cell (p:=⟨w.heap.size,2,none⟩) HLX.out.1).trans k2;have k0':=(hb1.cell (p:=⟨w.heap.size,0,none⟩) HLX.out.1).trans k0;clear hb1 HI cc hu k0 k2;go_wp2;go_ret;exact ⟨rfl,H1.out⟩
theorem aNW (g:SG) (m:M) (full:Bool) (imm:Int) (i0:0<=imm) (i1:imm<=65535) (hc:Stpp.cond m 1=false) (w:World) (h:InS g w m full) (hg:Stpq.Good m) :
  Calls prog 87 #[.pointer (some ⟨g.X,0,none⟩),.agg #[.int .i64 202,.bool false,.int .i64 imm]] w fun e w'=>e=.returned (.bool false)/\InS g w' (⟨m,full⟩ : S).m (⟨m,full⟩ : S).full:=by
 obtain ⟨u,hu,hI,HI,k0,k2,HLX⟩:=stq (c:=202) (imm:=imm) h;have cc:Hid (∀ W,InS g W m full->Calls prog 120 #[.pointer (some ⟨g.X,0,none⟩),.int .i64 1] W fun e w'=>e=.returned (.bool false)/\Below W.heap.size W w'):=fun W hi=>by have h:=dG g m full 1 W hi hg (by omega) (by omega);rw [hc] at h;exact h
 clear h hg hI i0 i1 hc
 go_enter func87,ntmps87
 go_wp2_with fail
 rw [<- hu];refine Calls.mono (cc.out _ HI.out) ?_;rintro e w1 ⟨rfl,hb1⟩;have H1:=zHd (HI.out.below hb1);have k2':=(hb1.cell (p:=⟨w.heap.size,2,none⟩) HLX.out.1).trans k2;have k0':=(hb1.cell (p:=⟨w.heap.size,0,none⟩) HLX.out.1).trans k0;clear hb1 HI cc hu k0 k2;go_wp2;go_ret;exact ⟨rfl,H1.out⟩
theorem aNX (g:SG) (m:M) (full:Bool) (imm:Int) (i0:0<=imm) (i1:imm<=65535) (hc:Stpp.cond m 1=false) (w:World) (h:InS g w m full) (hg:Stpq.Good m) :
  Calls prog 87 #[.pointer (some ⟨g.X,0,none⟩),.agg #[.int .i64 204,.bool false,.int .i64 imm]] w fun e w'=>e=.returned (.bool false)/\InS g w' (⟨m,full⟩ : S).m (⟨m,full⟩ : S).full:=by
 obtain ⟨u,hu,hI,HI,k0,k2,HLX⟩:=stq (c:=204) (imm:=imm) h;have cc:Hid (∀ W,InS g W m full->Calls prog 120 #[.pointer (some ⟨g.X,0,none⟩),.int .i64 1] W fun e w'=>e=.returned (.bool false)/\Below W.heap.size W w'):=fun W hi=>by have h:=dG g m full 1 W hi hg (by omega) (by omega);rw [hc] at h;exact h
 clear h hg hI i0 i1 hc
 go_enter func87,ntmps87
 go_wp2_with fail
 rw [<- hu];refine Calls.mono (cc.out _ HI.out) ?_;rintro e w1 ⟨rfl,hb1⟩;have H1:=zHd (HI.out.below hb1);have k2':=(hb1.cell (p:=⟨w.heap.size,2,none⟩) HLX.out.1).trans k2;have k0':=(hb1.cell (p:=⟨w.heap.size,0,none⟩) HLX.out.1).trans k0;clear hb1 HI cc hu k0 k2;go_wp2;go_ret;exact ⟨rfl,H1.out⟩
theorem aVR (g:SG) (m:M) (full:Bool) (imm:Int) (i0:0<=imm) (i1:imm<=65535) (w:World) (h:InS g w m full) (hg:Stpq.Good m) :
  Calls prog 87 #[.pointer (some ⟨g.X,0,none⟩),.agg #[.int .i64 226,.bool false,.int .i64 imm]] w fun e w'=>e=.returned (.bool false)/\InS g w' (wr ⟨m,full⟩ (65280+m.rC) m.ra).m (wr ⟨m,full⟩ (65280+m.rC) m.ra).full:=by
 obtain ⟨u,hu,hI,HI,k0,k2,HLX⟩:=stq (c:=226) (imm:=imm) h;have hcc:=hg.c;have d1:IntKind.i64.wrap (65280+m.rC)=65280+m.rC:=by rw [x6];omega
 have c1:Hid (∀ W,InS g W m full->Calls prog 119 #[.pointer (some ⟨g.X,0,none⟩),.int .i64 (65280+m.rC),.int .i64 m.ra] W fun e w'=>e=.returned (.tuple #[])/\InS g w' (wr ⟨m,full⟩ (65280+m.rC) m.ra).m (wr ⟨m,full⟩ (65280+m.rC) m.ra).full):=fun W hi=>gE g m full _ _ W hi hg.rt (by omega) hg.a.1 hg.a.2
 generalize wr ⟨m,full⟩ (65280+m.rC) m.ra=t at *
 have r0:=x7 (hI.cell 0 _ rfl);have r1:=x7 (hI.cell 3 _ rfl);clear hcc;clear h hg hI i0 i1
 go_enter func87,ntmps87
 go_upto_region 13 with fail
 rw [<- hu];clear hu;refine Qtail.aI 15 (by kernel_rfl) (by kernel_rfl) ?_;simp only [List.take_succ_cons,List.take_zero,List.drop_succ_cons,List.drop_zero]
 repeat (first|(go_big_quiet_step (first|fail))|(refine aK (by rfl) 30 _ rfl ⟨g.X,0,none⟩ rfl _ (fun W hW=>by obtain ⟨⟨d,o⟩,rfl⟩:=hW;exact hld d o) ?_;simp only [Act.put,List.setIfInBounds_toArray,List.set_cons_succ,List.set_cons_zero]))
 refine wpQuiet_nil ?_;intro _ hw';obtain ⟨⟨dq,osq⟩,hw''⟩:=hw';subst hw'';have H2:=zHd (HI.out.below (x8 u dq osq));have hbg:=x8 u dq osq;generalize Go.Sort.grow (redrawn u dq) osq=W2 at *
 clear HI r0 r1
 go_wp2_with fail
 refine Calls.mono (c1.out _ H2.out) ?_;rintro e w3 ⟨rfl,hi1⟩;have H3:Hid (InS g w3 t.m t.full):=hi1;clear hi1 H2 c1;go_wp2;go_ret;exact ⟨rfl,H3.out⟩
theorem aVS (g:SG) (m:M) (full:Bool) (imm:Int) (i0:0<=imm) (i1:imm<=65535) (w:World) (h:InS g w m full) (hg:Stpq.Good m) :
  Calls prog 87 #[.pointer (some ⟨g.X,0,none⟩),.agg #[.int .i64 250,.bool false,.int .i64 imm]] w fun e w'=>e=.returned (.bool false)/\InS g w' (⟨{ m with ra:=rd m (imm) },full⟩ : S).m (⟨{ m with ra:=rd m (imm) },full⟩ : S).full:=by
 obtain ⟨u,hu,hI,HI,k0,k2,HLX⟩:=stq (c:=250) (imm:=imm) h;obtain ⟨po,cap,hA⟩:=hI;have c1:Rg 100 #[.agg (aA m po cap),.int .i64 (imm)] u (.int .i64 (rd m (imm))):=rg fun W hb=>eN m po cap _ W hg.rt (by omega)
 have hld:∀ d os,(loadVar 30 ⟨g.X,0,none⟩).run prog (Go.Sort.grow (redrawn u d) os)=.ok (.agg (aA m po cap)) (Go.Sort.grow (redrawn u d) os):=fun d os=>hA.load ((x8 u d os).block _ hA.lt)
 have r1:=x7 k2;generalize rd m (imm)=rv at *
 generalize aA m po cap=cM at *
 clear hA;have hI:=HI.out;clear h hg hI i0 i1
 go_enter func87,ntmps87
 go_upto_region 21 with fail
 rw [<- hu];clear hu;refine Qtail.aI 12 (by kernel_rfl) (by kernel_rfl) ?_;simp only [List.take_succ_cons,List.take_zero,List.drop_succ_cons,List.drop_zero]
 repeat (first|(go_big_quiet_step (first|with_reducible exact c1 _ _))|(refine aK (by rfl) 30 _ rfl ⟨g.X,0,none⟩ rfl _ (fun W hW=>by obtain ⟨⟨d,o⟩,rfl⟩:=hW;exact hld d o) ?_;simp only [Act.put,List.setIfInBounds_toArray,List.set_cons_succ,List.set_cons_zero]))
 refine wpQuiet_nil ?_;intro _ hw';obtain ⟨⟨dq,osq⟩,hw''⟩:=hw';subst hw'';have H2:=zHd (HI.out.below (x8 u dq osq));have hbg:=x8 u dq osq;generalize Go.Sort.grow (redrawn u dq) osq=W2 at *
 clear HI r1 c1 hld;have q_ra:=H2.out.cell 0 _ rfl;have f_ra:=H2.out.fro 0;have HF:Hid (InS g (W2.setCell ⟨g.X,0,none⟩ (.int .i64 rv)) { m with ra:=rv } full):=H2.out.s_ra rv;clear H2;go_wp2;go_ret;exact ⟨rfl,HF.out⟩
theorem aVT (g:SG) (m:M) (full:Bool) (imm:Int) (i0:0<=imm) (i1:imm<=65535) (w:World) (h:InS g w m full) (hg:Stpq.Good m) :
  Calls prog 87 #[.pointer (some ⟨g.X,0,none⟩),.agg #[.int .i64 233,.bool false,.int .i64 imm]] w fun e w'=>e=.returned (.bool false)/\InS g w' (⟨{ m with pc:=hl m },full⟩ : S).m (⟨{ m with pc:=hl m },full⟩ : S).full:=by
 obtain ⟨u,hu,hI,HI,k0,k2,HLX⟩:=stq (c:=233) (imm:=imm) h;have c1:Hid (∀ W,InS g W m full->Calls prog 123 #[.pointer (some ⟨g.X,0,none⟩)] W fun e w'=>e=.returned (.int .i64 (hl m))/\Below W.heap.size W w'):=fun W hi=>hlS g m full W hi hg
 generalize hl m=vh at *
 clear h hg hI i0 i1
 go_enter func87,ntmps87
 go_wp2_with fail
 rw [<- hu];clear hu k0 k2;refine Calls.mono (c1.out _ HI.out) ?_;rintro e w1 ⟨rfl,hb1⟩;have H1:=zHd (HI.out.below hb1);clear hb1 HI c1;have q_pc:=H1.out.cell 9 _ rfl;have f_pc:=H1.out.fro 9;have HF:Hid (InS g (w1.setCell ⟨g.X,9,none⟩ (.int .i64 vh)) { m with pc:=vh } full):=H1.out.s_pc vh;clear H1;go_wp2;go_ret;exact ⟨rfl,HF.out⟩
theorem aVU (g:SG) (m:M) (full:Bool) (imm:Int) (i0:0<=imm) (i1:imm<=65535) (w:World) (h:InS g w m full) (hg:Stpq.Good m) :
  Calls prog 87 #[.pointer (some ⟨g.X,0,none⟩),.agg #[.int .i64 213,.bool false,.int .i64 imm]] w fun e w'=>e=.returned (.bool false)/\InS g w' (push ⟨m,full⟩ (prQ m 1)).m (push ⟨m,full⟩ (prQ m 1)).full:=by
 obtain ⟨u,hu,hI,HI,k0,k2,HLX⟩:=stq (c:=213) (imm:=imm) h;have pb:=mC hg 1;have c1:Hid (∀ W,InS g W m full->Calls prog 124 #[.pointer (some ⟨g.X,0,none⟩),.int .i64 1,.bool true] W fun e w'=>e=.returned (.int .i64 (prQ m 1))/\Below W.heap.size W w'):=fun W hi=>aEY g m full 1 W hi hg (by omega) (by omega)
 have c2:Hid (∀ W,InS g W m full->Calls prog 129 #[.pointer (some ⟨g.X,0,none⟩),.int .i64 (prQ m 1)] W fun e w'=>e=.returned (.tuple #[])/\InS g w' (push ⟨m,full⟩ (prQ m 1)).m (push ⟨m,full⟩ (prQ m 1)).full):=fun W hi=>yC g m full _ pb.1 pb.2 W hi hg
 generalize push ⟨m,full⟩ (prQ m 1)=t at *
 generalize prQ m 1=pv at *
 clear pb;clear h hg hI i0 i1
 go_enter func87,ntmps87
 go_wp2_with fail
 rw [<- hu];clear hu k0 k2;refine Calls.mono (c1.out _ HI.out) ?_;rintro e w1 ⟨rfl,hb1⟩;have H1:=zHd (HI.out.below hb1);clear hb1 HI c1
 go_wp2_with fail
 refine Calls.mono (c2.out _ H1.out) ?_;rintro e w2 ⟨rfl,hi1⟩;have H2:Hid (InS g w2 t.m t.full):=hi1;clear hi1 H1 c2;go_wp2;go_ret;exact ⟨rfl,H2.out⟩
theorem aVV (g:SG) (m:M) (full:Bool) (imm:Int) (i0:0<=imm) (i1:imm<=65535) (w:World) (h:InS g w m full) (hg:Stpq.Good m) :
  Calls prog 87 #[.pointer (some ⟨g.X,0,none⟩),.agg #[.int .i64 245,.bool false,.int .i64 imm]] w fun e w'=>e=.returned (.bool false)/\InS g w' (push ⟨m,full⟩ (prQ m 3)).m (push ⟨m,full⟩ (prQ m 3)).full:=by
 obtain ⟨u,hu,hI,HI,k0,k2,HLX⟩:=stq (c:=245) (imm:=imm) h;have pb:=mC hg 3;have c1:Hid (∀ W,InS g W m full->Calls prog 124 #[.pointer (some ⟨g.X,0,none⟩),.int .i64 3,.bool true] W fun e w'=>e=.returned (.int .i64 (prQ m 3))/\Below W.heap.size W w'):=fun W hi=>aEY g m full 3 W hi hg (by omega) (by omega)
 have c2:Hid (∀ W,InS g W m full->Calls prog 129 #[.pointer (some ⟨g.X,0,none⟩),.int .i64 (prQ m 3)] W fun e w'=>e=.returned (.tuple #[])/\InS g w' (push ⟨m,full⟩ (prQ m 3)).m (push ⟨m,full⟩ (prQ m 3)).full):=fun W hi=>yC g m full _ pb.1 pb.2 W hi hg
 generalize push ⟨m,full⟩ (prQ m 3)=t at *
 generalize prQ m 3=pv at *
 clear pb;clear h hg hI i0 i1
 go_enter func87,ntmps87
 go_wp2_with fail
 rw [<- hu];clear hu k0 k2;refine Calls.mono (c1.out _ HI.out) ?_;rintro e w1 ⟨rfl,hb1⟩;have H1:=zHd (HI.out.below hb1);clear hb1 HI c1
 go_wp2_with fail
 refine Calls.mono (c2.out _ H1.out) ?_;rintro e w2 ⟨rfl,hi1⟩;have H2:Hid (InS g w2 t.m t.full):=hi1;clear hi1 H1 c2;go_wp2;go_ret;exact ⟨rfl,H2.out⟩
theorem aNY (g:SG) (m:M) (full:Bool) (imm:Int) (i0:0<=imm) (i1:imm<=65535) (hc:Stpp.cond m 2=true) (w:World) (h:InS g w m full) (hg:Stpq.Good m) :
  Calls prog 87 #[.pointer (some ⟨g.X,0,none⟩),.agg #[.int .i64 210,.bool false,.int .i64 imm]] w fun e w'=>e=.returned (.bool true)/\InS g w' (⟨{ m with pc:=imm },full⟩ : S).m (⟨{ m with pc:=imm },full⟩ : S).full:=by
 obtain ⟨u,hu,hI,HI,k0,k2,HLX⟩:=stq (c:=210) (imm:=imm) h;have cc:Hid (∀ W,InS g W m full->Calls prog 120 #[.pointer (some ⟨g.X,0,none⟩),.int .i64 2] W fun e w'=>e=.returned (.bool true)/\Below W.heap.size W w'):=fun W hi=>by have h:=dG g m full 2 W hi hg (by omega) (by omega);rw [hc] at h;exact h
 clear h hg hI i0 i1 hc
 go_enter func87,ntmps87
 go_wp2_with fail
 rw [<- hu];refine Calls.mono (cc.out _ HI.out) ?_;rintro e w1 ⟨rfl,hb1⟩;have H1:=zHd (HI.out.below hb1);have k2':=(hb1.cell (p:=⟨w.heap.size,2,none⟩) HLX.out.1).trans k2;have k0':=(hb1.cell (p:=⟨w.heap.size,0,none⟩) HLX.out.1).trans k0;clear hb1 HI cc hu k0 k2;have q_pc:=H1.out.cell 9 _ rfl;have f_pc:=H1.out.fro 9;have HF:Hid (InS g (w1.setCell ⟨g.X,9,none⟩ (.int .i64 imm)) { m with pc:=imm } full):=H1.out.s_pc imm;clear H1;go_wp2;go_ret;exact ⟨rfl,HF.out⟩
theorem aVW (g:SG) (m:M) (full:Bool) (imm:Int) (i0:0<=imm) (i1:imm<=65535) (w:World) (h:InS g w m full) (hg:Stpq.Good m) :
  Calls prog 87 #[.pointer (some ⟨g.X,0,none⟩),.agg #[.int .i64 205,.bool false,.int .i64 imm]] w fun e w'=>e=.returned (.bool true)/\InS g w' (aR imm ⟨m,full⟩).m (aR imm ⟨m,full⟩).full:=by
 obtain ⟨u,hu,hI,HI,k0,k2,HLX⟩:=stq (c:=205) (imm:=imm) h;have c2:Hid (∀ W,InS g W m full->Calls prog 130 #[.pointer (some ⟨g.X,0,none⟩),.int .i64 imm] W fun e w'=>e=.returned (.tuple #[])/\InS g w' (aR imm ⟨m,full⟩).m (aR imm ⟨m,full⟩).full):=fun W hi=>iX g m full _ W hi hg
 generalize aR imm ⟨m,full⟩=t at *
 clear h hg hI i0 i1
 go_enter func87,ntmps87
 go_wp2_with fail
 rw [<- hu];clear hu k0 k2;refine Calls.mono (c2.out _ HI.out) ?_;rintro e w2 ⟨rfl,hi1⟩;have H2:Hid (InS g w2 t.m t.full):=hi1;clear hi1 HI c2;go_wp2;go_ret;exact ⟨rfl,H2.out⟩
theorem aNZ (g:SG) (m:M) (full:Bool) (imm:Int) (i0:0<=imm) (i1:imm<=65535) (hc:Stpp.cond m 3=true) (w:World) (h:InS g w m full) (hg:Stpq.Good m) :
  Calls prog 87 #[.pointer (some ⟨g.X,0,none⟩),.agg #[.int .i64 220,.bool false,.int .i64 imm]] w fun e w'=>e=.returned (.bool true)/\InS g w' (aR imm ⟨m,full⟩).m (aR imm ⟨m,full⟩).full:=by
 obtain ⟨u,hu,hI,HI,k0,k2,HLX⟩:=stq (c:=220) (imm:=imm) h;have cc:Hid (∀ W,InS g W m full->Calls prog 120 #[.pointer (some ⟨g.X,0,none⟩),.int .i64 3] W fun e w'=>e=.returned (.bool true)/\Below W.heap.size W w'):=fun W hi=>by have h:=dG g m full 3 W hi hg (by omega) (by omega);rw [hc] at h;exact h
 have c2:Hid (∀ W,InS g W m full->Calls prog 130 #[.pointer (some ⟨g.X,0,none⟩),.int .i64 imm] W fun e w'=>e=.returned (.tuple #[])/\InS g w' (aR imm ⟨m,full⟩).m (aR imm ⟨m,full⟩).full):=fun W hi=>iX g m full _ W hi hg
 generalize aR imm ⟨m,full⟩=t at *
 clear h hg hI i0 i1 hc
 go_enter func87,ntmps87
 go_wp2_with fail
 rw [<- hu];refine Calls.mono (cc.out _ HI.out) ?_;rintro e w1 ⟨rfl,hb1⟩;have H1:=zHd (HI.out.below hb1);have k2':=(hb1.cell (p:=⟨w.heap.size,2,none⟩) HLX.out.1).trans k2;have k0':=(hb1.cell (p:=⟨w.heap.size,0,none⟩) HLX.out.1).trans k0;clear hb1 HI cc hu k0 k2
 go_wp2_with fail
 refine Calls.mono (c2.out _ H1.out) ?_;rintro e w2 ⟨rfl,hi1⟩;have H2:Hid (InS g w2 t.m t.full):=hi1;clear hi1 H1 c2;go_wp2;go_ret;exact ⟨rfl,H2.out⟩
theorem aVX (g:SG) (m:M) (full:Bool) (imm:Int) (i0:0<=imm) (i1:imm<=65535) (w:World) (h:InS g w m full) (hg:Stpq.Good m) :
  Calls prog 87 #[.pointer (some ⟨g.X,0,none⟩),.agg #[.int .i64 207,.bool false,.int .i64 imm]] w fun e w'=>e=.returned (.bool false)/\InS g w' (aR 8 ⟨m,full⟩).m (aR 8 ⟨m,full⟩).full:=by
 obtain ⟨u,hu,hI,HI,k0,k2,HLX⟩:=stq (c:=207) (imm:=imm) h;have c2:Hid (∀ W,InS g W m full->Calls prog 130 #[.pointer (some ⟨g.X,0,none⟩),.int .i64 8] W fun e w'=>e=.returned (.tuple #[])/\InS g w' (aR 8 ⟨m,full⟩).m (aR 8 ⟨m,full⟩).full):=fun W hi=>iX g m full _ W hi hg
 generalize aR 8 ⟨m,full⟩=t at *
 clear h hg hI i0 i1
 go_enter func87,ntmps87
 go_wp2_with fail
 rw [<- hu];clear hu k0 k2;refine Calls.mono (c2.out _ HI.out) ?_;rintro e w2 ⟨rfl,hi1⟩;have H2:Hid (InS g w2 t.m t.full):=hi1;clear hi1 HI c2;go_wp2;go_ret;exact ⟨rfl,H2.out⟩
theorem aVY (g:SG) (m:M) (full:Bool) (imm:Int) (i0:0<=imm) (i1:imm<=65535) (w:World) (h:InS g w m full) (hg:Stpq.Good m) :
  Calls prog 87 #[.pointer (some ⟨g.X,0,none⟩),.agg #[.int .i64 223,.bool false,.int .i64 imm]] w fun e w'=>e=.returned (.bool false)/\InS g w' (aR 24 ⟨m,full⟩).m (aR 24 ⟨m,full⟩).full:=by
 obtain ⟨u,hu,hI,HI,k0,k2,HLX⟩:=stq (c:=223) (imm:=imm) h;have c2:Hid (∀ W,InS g W m full->Calls prog 130 #[.pointer (some ⟨g.X,0,none⟩),.int .i64 24] W fun e w'=>e=.returned (.tuple #[])/\InS g w' (aR 24 ⟨m,full⟩).m (aR 24 ⟨m,full⟩).full):=fun W hi=>iX g m full _ W hi hg
 generalize aR 24 ⟨m,full⟩=t at *
 clear h hg hI i0 i1
 go_enter func87,ntmps87
 go_wp2_with fail
 rw [<- hu];clear hu k0 k2;refine Calls.mono (c2.out _ HI.out) ?_;rintro e w2 ⟨rfl,hi1⟩;have H2:Hid (InS g w2 t.m t.full):=hi1;clear hi1 HI c2;go_wp2;go_ret;exact ⟨rfl,H2.out⟩
theorem aVZ (g:SG) (m:M) (full:Bool) (imm:Int) (i0:0<=imm) (i1:imm<=65535) (w:World) (h:InS g w m full) (hg:Stpq.Good m) :
  Calls prog 87 #[.pointer (some ⟨g.X,0,none⟩),.agg #[.int .i64 239,.bool false,.int .i64 imm]] w fun e w'=>e=.returned (.bool false)/\InS g w' (aR 40 ⟨m,full⟩).m (aR 40 ⟨m,full⟩).full:=by
 obtain ⟨u,hu,hI,HI,k0,k2,HLX⟩:=stq (c:=239) (imm:=imm) h;have c2:Hid (∀ W,InS g W m full->Calls prog 130 #[.pointer (some ⟨g.X,0,none⟩),.int .i64 40] W fun e w'=>e=.returned (.tuple #[])/\InS g w' (aR 40 ⟨m,full⟩).m (aR 40 ⟨m,full⟩).full):=fun W hi=>iX g m full _ W hi hg
 generalize aR 40 ⟨m,full⟩=t at *
 clear h hg hI i0 i1
 go_enter func87,ntmps87
 go_wp2_with fail
 rw [<- hu];clear hu k0 k2;refine Calls.mono (c2.out _ HI.out) ?_;rintro e w2 ⟨rfl,hi1⟩;have H2:Hid (InS g w2 t.m t.full):=hi1;clear hi1 HI c2;go_wp2;go_ret;exact ⟨rfl,H2.out⟩
theorem aWA (g:SG) (m:M) (full:Bool) (imm:Int) (i0:0<=imm) (i1:imm<=65535) (w:World) (h:InS g w m full) (hg:Stpq.Good m) :
  Calls prog 87 #[.pointer (some ⟨g.X,0,none⟩),.agg #[.int .i64 255,.bool false,.int .i64 imm]] w fun e w'=>e=.returned (.bool false)/\InS g w' (aR 56 ⟨m,full⟩).m (aR 56 ⟨m,full⟩).full:=by
 obtain ⟨u,hu,hI,HI,k0,k2,HLX⟩:=stq (c:=255) (imm:=imm) h;have c2:Hid (∀ W,InS g W m full->Calls prog 130 #[.pointer (some ⟨g.X,0,none⟩),.int .i64 56] W fun e w'=>e=.returned (.tuple #[])/\InS g w' (aR 56 ⟨m,full⟩).m (aR 56 ⟨m,full⟩).full):=fun W hi=>iX g m full _ W hi hg
 generalize aR 56 ⟨m,full⟩=t at *
 clear h hg hI i0 i1
 go_enter func87,ntmps87
 go_wp2_with fail
 rw [<- hu];clear hu k0 k2;refine Calls.mono (c2.out _ HI.out) ?_;rintro e w2 ⟨rfl,hi1⟩;have H2:Hid (InS g w2 t.m t.full):=hi1;clear hi1 HI c2;go_wp2;go_ret;exact ⟨rfl,H2.out⟩
end Stcs
end Go.Proofs.YteglcgnhhoenbaaGreatDoor
