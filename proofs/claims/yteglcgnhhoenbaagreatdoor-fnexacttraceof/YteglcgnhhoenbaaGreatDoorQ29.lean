import Derived.Test.YteglcgnhhoenbaaGreatDoorQ24
set_option linter.all false
set_option maxRecDepth 20000
set_option maxHeartbeats 8000000
open Go.ChangeShapes Go.WideShapes Go.ChangeAt Go.RowKit
open Go.Proofs.Tryz
namespace Go.Proofs.YteglcgnhhoenbaaGreatDoor
namespace Stco
open Go.Deep
open Signed (inB sgn aG aB)
open Reck ReckS ReckM ReckD TurnS
open Busw Busx Busy Stpp Stpq Stps Sta Stb Stck Stcz
theorem aNO (g:SG) (m:M) (full:Bool) (imm:Int) (i0:0<=imm) (i1:imm<=65535) (hc:Stpp.cond m 0=true) (w:World) (h:InS g w m full) (hg:Stpq.Good m) :
  Calls prog 87 #[.pointer (some ⟨g.X,0,none⟩),.agg #[.int .i64 192,.bool false,.int .i64 imm]] w fun e w'=>e=.returned (.bool true)/\InS g w' (⟨{ aU m with pc:=bA m,ime:=(aU m).ime || false },full⟩ : S).m (⟨{ aU m with pc:=bA m,ime:=(aU m).ime || false },full⟩ : S).full:=by
 obtain ⟨u,hu,hI,HI,k0,k2,HLX⟩:=stq (c:=192) (imm:=imm) h;have cc:Hid (∀ W,InS g W m full->Calls prog 120 #[.pointer (some ⟨g.X,0,none⟩),.int .i64 0] W fun e w'=>e=.returned (.bool true)/\Below W.heap.size W w'):=fun W hi=>by have h:=dG g m full 0 W hi hg (by omega) (by omega);rw [hc] at h;exact h
 have c1:Hid (∀ W,InS g W m full->Calls prog 127 #[.pointer (some ⟨g.X,0,none⟩)] W fun e w'=>e=.returned (.int .i64 (bA m))/\InS g w' (⟨aU m,full⟩ : S).m (⟨aU m,full⟩ : S).full/\W.grownBy w' (some g.X)):=fun W hi=>both hi (fun g' hX hi'=>by rw [<- hX];exact sF g' m full W hi' hg)
 generalize bA m=pv at *
 generalize aU m=m1 at *
 clear h hg hI i0 i1 hc
 go_enter func87,ntmps87
 go_wp2_with fail
 rw [<- hu];refine Calls.mono (cc.out _ HI.out) ?_;rintro e w1 ⟨rfl,hb1⟩;have H1:=zHd (HI.out.below hb1);have k2':=(hb1.cell (p:=⟨w.heap.size,2,none⟩) HLX.out.1).trans k2;have k0':=(hb1.cell (p:=⟨w.heap.size,0,none⟩) HLX.out.1).trans k0;have HLW:Hid (w.heap.size<w1.heap.size):=Nat.lt_of_lt_of_le HLX.out.1 hb1.size;clear hb1 HI cc hu k2
 go_wp2_with fail
 refine Calls.mono (c1.out _ H1.out) ?_;rintro e w2 ⟨rfl,hi1,hgr⟩;have kk:w2.cell? ⟨w.heap.size,0,none⟩=some (.int .i64 192):=fT hgr HLW.out HLX.out.2 k0';have q9:=hi1.cell 9 _ rfl;have f9:=hi1.fro 9;have q10:=hi1.cell 10 _ rfl;have f10:=hi1.fro 10;have lX:=hi1.lt;have HF:Hid (InS g ((w2.setCell ⟨g.X,9,none⟩ (.int .i64 pv)).setCell ⟨g.X,10,none⟩ (.bool (m1.ime || false))) { m1 with pc:=pv,ime:=m1.ime || false } full):=(hi1.s_pc pv).s_ime _;have nX:=HLX.out.2;clear hi1 hgr H1 c1
 cases him:m1.ime
 all_goals
  rw [him] at HF
  simp only [List.getElem_toArray,List.getElem_cons_succ,List.getElem_cons_zero,him] at q10
  go_wp2;go_ret;exact ⟨rfl,by rw [him];exact HF.out⟩
theorem aNP (g:SG) (m:M) (full:Bool) (imm:Int) (i0:0<=imm) (i1:imm<=65535) (hc:Stpp.cond m 0=false) (w:World) (h:InS g w m full) (hg:Stpq.Good m) :
  Calls prog 87 #[.pointer (some ⟨g.X,0,none⟩),.agg #[.int .i64 192,.bool false,.int .i64 imm]] w fun e w'=>e=.returned (.bool false)/\InS g w' (⟨m,full⟩ : S).m (⟨m,full⟩ : S).full:=by
 obtain ⟨u,hu,hI,HI,k0,k2,HLX⟩:=stq (c:=192) (imm:=imm) h;have cc:Hid (∀ W,InS g W m full->Calls prog 120 #[.pointer (some ⟨g.X,0,none⟩),.int .i64 0] W fun e w'=>e=.returned (.bool false)/\Below W.heap.size W w'):=fun W hi=>by have h:=dG g m full 0 W hi hg (by omega) (by omega);rw [hc] at h;exact h
 clear h hg hI i0 i1 hc
 go_enter func87,ntmps87
 go_wp2_with fail
 rw [<- hu];refine Calls.mono (cc.out _ HI.out) ?_;rintro e w1 ⟨rfl,hb1⟩;have H1:=zHd (HI.out.below hb1);have k2':=(hb1.cell (p:=⟨w.heap.size,2,none⟩) HLX.out.1).trans k2;have k0':=(hb1.cell (p:=⟨w.heap.size,0,none⟩) HLX.out.1).trans k0;clear hb1 HI cc hu k0 k2;go_wp2;go_ret;exact ⟨rfl,H1.out⟩
theorem aNQ (g:SG) (m:M) (full:Bool) (imm:Int) (i0:0<=imm) (i1:imm<=65535) (hc:Stpp.cond m 0=false) (w:World) (h:InS g w m full) (hg:Stpq.Good m) :
  Calls prog 87 #[.pointer (some ⟨g.X,0,none⟩),.agg #[.int .i64 194,.bool false,.int .i64 imm]] w fun e w'=>e=.returned (.bool false)/\InS g w' (⟨m,full⟩ : S).m (⟨m,full⟩ : S).full:=by
 obtain ⟨u,hu,hI,HI,k0,k2,HLX⟩:=stq (c:=194) (imm:=imm) h;have cc:Hid (∀ W,InS g W m full->Calls prog 120 #[.pointer (some ⟨g.X,0,none⟩),.int .i64 0] W fun e w'=>e=.returned (.bool false)/\Below W.heap.size W w'):=fun W hi=>by have h:=dG g m full 0 W hi hg (by omega) (by omega);rw [hc] at h;exact h
 clear h hg hI i0 i1 hc
 go_enter func87,ntmps87
 go_wp2_with fail
 rw [<- hu];refine Calls.mono (cc.out _ HI.out) ?_;rintro e w1 ⟨rfl,hb1⟩;have H1:=zHd (HI.out.below hb1);have k2':=(hb1.cell (p:=⟨w.heap.size,2,none⟩) HLX.out.1).trans k2;have k0':=(hb1.cell (p:=⟨w.heap.size,0,none⟩) HLX.out.1).trans k0;clear hb1 HI cc hu k0 k2;go_wp2;go_ret;exact ⟨rfl,H1.out⟩
theorem aNR (g:SG) (m:M) (full:Bool) (imm:Int) (i0:0<=imm) (i1:imm<=65535) (hc:Stpp.cond m 0=false) (w:World) (h:InS g w m full) (hg:Stpq.Good m) :
  Calls prog 87 #[.pointer (some ⟨g.X,0,none⟩),.agg #[.int .i64 196,.bool false,.int .i64 imm]] w fun e w'=>e=.returned (.bool false)/\InS g w' (⟨m,full⟩ : S).m (⟨m,full⟩ : S).full:=by
 obtain ⟨u,hu,hI,HI,k0,k2,HLX⟩:=stq (c:=196) (imm:=imm) h;have cc:Hid (∀ W,InS g W m full->Calls prog 120 #[.pointer (some ⟨g.X,0,none⟩),.int .i64 0] W fun e w'=>e=.returned (.bool false)/\Below W.heap.size W w'):=fun W hi=>by have h:=dG g m full 0 W hi hg (by omega) (by omega);rw [hc] at h;exact h
 clear h hg hI i0 i1 hc
 go_enter func87,ntmps87
 go_wp2_with fail
 rw [<- hu];refine Calls.mono (cc.out _ HI.out) ?_;rintro e w1 ⟨rfl,hb1⟩;have H1:=zHd (HI.out.below hb1);have k2':=(hb1.cell (p:=⟨w.heap.size,2,none⟩) HLX.out.1).trans k2;have k0':=(hb1.cell (p:=⟨w.heap.size,0,none⟩) HLX.out.1).trans k0;clear hb1 HI cc hu k0 k2;go_wp2;go_ret;exact ⟨rfl,H1.out⟩
theorem aVH (g:SG) (m:M) (full:Bool) (imm:Int) (i0:0<=imm) (i1:imm<=65535) (w:World) (h:InS g w m full) (hg:Stpq.Good m) :
  Calls prog 87 #[.pointer (some ⟨g.X,0,none⟩),.agg #[.int .i64 224,.bool false,.int .i64 imm]] w fun e w'=>e=.returned (.bool false)/\InS g w' (wr ⟨m,full⟩ (65280+imm) m.ra).m (wr ⟨m,full⟩ (65280+imm) m.ra).full:=by
 obtain ⟨u,hu,hI,HI,k0,k2,HLX⟩:=stq (c:=224) (imm:=imm) h;have d1:IntKind.i64.wrap (65280+imm)=65280+imm:=by rw [x6];omega
 have c1:Hid (∀ W,InS g W m full->Calls prog 119 #[.pointer (some ⟨g.X,0,none⟩),.int .i64 (65280+imm),.int .i64 m.ra] W fun e w'=>e=.returned (.tuple #[])/\InS g w' (wr ⟨m,full⟩ (65280+imm) m.ra).m (wr ⟨m,full⟩ (65280+imm) m.ra).full):=fun W hi=>gE g m full _ _ W hi hg.rt (by omega) hg.a.1 hg.a.2
 generalize wr ⟨m,full⟩ (65280+imm) m.ra=t at *
 have r0:=x7 (hI.cell 0 _ rfl);have r1:=x7 k2;clear h hg hI i0 i1
 go_enter func87,ntmps87
 go_upto_region 11 with fail
 rw [<- hu];clear hu;refine Qtail.aI 11 (by kernel_rfl) (by kernel_rfl) ?_;simp only [List.take_succ_cons,List.take_zero,List.drop_succ_cons,List.drop_zero]
 repeat (first|(go_big_quiet_step (first|fail))|(refine aK (by rfl) 30 _ rfl ⟨g.X,0,none⟩ rfl _ (fun W hW=>by obtain ⟨⟨d,o⟩,rfl⟩:=hW;exact hld d o) ?_;simp only [Act.put,List.setIfInBounds_toArray,List.set_cons_succ,List.set_cons_zero]))
 refine wpQuiet_nil ?_;intro _ hw';obtain ⟨⟨dq,osq⟩,hw''⟩:=hw';subst hw'';have H2:=zHd (HI.out.below (x8 u dq osq));have hbg:=x8 u dq osq;generalize Go.Sort.grow (redrawn u dq) osq=W2 at *
 clear HI r0 r1
 go_wp2_with fail
 refine Calls.mono (c1.out _ H2.out) ?_;rintro e w3 ⟨rfl,hi1⟩;have H3:Hid (InS g w3 t.m t.full):=hi1;clear hi1 H2 c1;go_wp2;go_ret;exact ⟨rfl,H3.out⟩
theorem aVI (g:SG) (m:M) (full:Bool) (imm:Int) (i0:0<=imm) (i1:imm<=65535) (w:World) (h:InS g w m full) (hg:Stpq.Good m) :
  Calls prog 87 #[.pointer (some ⟨g.X,0,none⟩),.agg #[.int .i64 242,.bool false,.int .i64 imm]] w fun e w'=>e=.returned (.bool false)/\InS g w' (⟨{ m with ra:=rd m (65280+m.rC) },full⟩ : S).m (⟨{ m with ra:=rd m (65280+m.rC) },full⟩ : S).full:=by
 obtain ⟨u,hu,hI,HI,k0,k2,HLX⟩:=stq (c:=242) (imm:=imm) h;have hcc:=hg.c;have d1:IntKind.i64.wrap (65280+m.rC)=65280+m.rC:=by rw [x6];omega
 obtain ⟨po,cap,hA⟩:=hI;have c1:Rg 100 #[.agg (aA m po cap),.int .i64 (65280+m.rC)] u (.int .i64 (rd m (65280+m.rC))):=rg fun W hb=>eN m po cap _ W hg.rt (by omega)
 have hld:∀ d os,(loadVar 30 ⟨g.X,0,none⟩).run prog (Go.Sort.grow (redrawn u d) os)=.ok (.agg (aA m po cap)) (Go.Sort.grow (redrawn u d) os):=fun d os=>hA.load ((x8 u d os).block _ hA.lt)
 have r1:=x7 (HI.out.cell 3 _ rfl);generalize rd m (65280+m.rC)=rv at *
 generalize aA m po cap=cM at *
 clear hA hcc;have hI:=HI.out;clear h hg hI i0 i1
 go_enter func87,ntmps87
 go_upto_region 17 with fail
 rw [<- hu];clear hu;refine Qtail.aI 18 (by kernel_rfl) (by kernel_rfl) ?_;simp only [List.take_succ_cons,List.take_zero,List.drop_succ_cons,List.drop_zero]
 repeat (first|(go_big_quiet_step (first|with_reducible exact c1 _ _))|(refine aK (by rfl) 30 _ rfl ⟨g.X,0,none⟩ rfl _ (fun W hW=>by obtain ⟨⟨d,o⟩,rfl⟩:=hW;exact hld d o) ?_;simp only [Act.put,List.setIfInBounds_toArray,List.set_cons_succ,List.set_cons_zero]))
 refine wpQuiet_nil ?_;intro _ hw';obtain ⟨⟨dq,osq⟩,hw''⟩:=hw';subst hw'';have H2:=zHd (HI.out.below (x8 u dq osq));have hbg:=x8 u dq osq;generalize Go.Sort.grow (redrawn u dq) osq=W2 at *
 clear HI r1 c1 hld;have q_ra:=H2.out.cell 0 _ rfl;have f_ra:=H2.out.fro 0;have HF:Hid (InS g (W2.setCell ⟨g.X,0,none⟩ (.int .i64 rv)) { m with ra:=rv } full):=H2.out.s_ra rv;clear H2;go_wp2;go_ret;exact ⟨rfl,HF.out⟩
theorem aVJ (g:SG) (m:M) (full:Bool) (imm:Int) (i0:0<=imm) (i1:imm<=65535) (w:World) (h:InS g w m full) (hg:Stpq.Good m) :
  Calls prog 87 #[.pointer (some ⟨g.X,0,none⟩),.agg #[.int .i64 249,.bool false,.int .i64 imm]] w fun e w'=>e=.returned (.bool false)/\InS g w' (⟨{ m with sp:=hl m },full⟩ : S).m (⟨{ m with sp:=hl m },full⟩ : S).full:=by
 obtain ⟨u,hu,hI,HI,k0,k2,HLX⟩:=stq (c:=249) (imm:=imm) h;have c1:Hid (∀ W,InS g W m full->Calls prog 123 #[.pointer (some ⟨g.X,0,none⟩)] W fun e w'=>e=.returned (.int .i64 (hl m))/\Below W.heap.size W w'):=fun W hi=>hlS g m full W hi hg
 generalize hl m=vh at *
 clear h hg hI i0 i1
 go_enter func87,ntmps87
 go_wp2_with fail
 rw [<- hu];clear hu k0 k2;refine Calls.mono (c1.out _ HI.out) ?_;rintro e w1 ⟨rfl,hb1⟩;have H1:=zHd (HI.out.below hb1);clear hb1 HI c1;have q_sp:=H1.out.cell 8 _ rfl;have f_sp:=H1.out.fro 8;have HF:Hid (InS g (w1.setCell ⟨g.X,8,none⟩ (.int .i64 vh)) { m with sp:=vh } full):=H1.out.s_sp vh;clear H1;go_wp2;go_ret;exact ⟨rfl,HF.out⟩
theorem aVK (g:SG) (m:M) (full:Bool) (imm:Int) (i0:0<=imm) (i1:imm<=65535) (w:World) (h:InS g w m full) (hg:Stpq.Good m) :
  Calls prog 87 #[.pointer (some ⟨g.X,0,none⟩),.agg #[.int .i64 209,.bool false,.int .i64 imm]] w fun e w'=>e=.returned (.bool false)/\InS g w' (⟨eW (aU m) 1 (bA m),full⟩ : S).m (⟨eW (aU m) 1 (bA m),full⟩ : S).full:=by
 obtain ⟨u,hu,hI,HI,k0,k2,HLX⟩:=stq (c:=209) (imm:=imm) h;have vb:=lJ m;have g1:=fD hg;have c2:Hid (∀ W,InS g W (aU m) full->Calls prog 121 #[.pointer (some ⟨g.X,0,none⟩),.int .i64 1,.int .i64 (bA m),.bool true] W fun e w'=>e=.returned (.tuple #[])/\InS g w' (⟨eW (aU m) 1 (bA m),full⟩ : S).m (⟨eW (aU m) 1 (bA m),full⟩ : S).full):=fun W hi=>nK g (aU m) full 1 _ W hi g1 (by omega) (by omega) vb.1 vb.2
 generalize (⟨eW (aU m) 1 (bA m),full⟩ : S)=t at *
 have c1:Hid (∀ W,InS g W m full->Calls prog 127 #[.pointer (some ⟨g.X,0,none⟩)] W fun e w'=>e=.returned (.int .i64 (bA m))/\InS g w' (⟨aU m,full⟩ : S).m (⟨aU m,full⟩ : S).full/\W.grownBy w' (some g.X)):=fun W hi=>both hi (fun g' hX hi'=>by rw [<- hX];exact sF g' m full W hi' hg)
 generalize bA m=pv at *
 generalize aU m=m1 at *
 clear vb g1;clear h hg hI i0 i1
 go_enter func87,ntmps87
 go_wp2_with fail
 rw [<- hu];clear hu k0 k2;refine Calls.mono (c1.out _ HI.out) ?_;rintro e w2 ⟨rfl,hi1,hgr⟩;have H2:Hid (InS g w2 m1 full):=hi1;clear hi1 hgr HI c1
 go_wp2_with fail
 refine Calls.mono (c2.out _ H2.out) ?_;rintro e w3 ⟨rfl,hi1⟩;have H3:Hid (InS g w3 t.m t.full):=hi1;clear hi1 H2 c2;go_wp2;go_ret;exact ⟨rfl,H3.out⟩
theorem aVL (g:SG) (m:M) (full:Bool) (imm:Int) (i0:0<=imm) (i1:imm<=65535) (w:World) (h:InS g w m full) (hg:Stpq.Good m) :
  Calls prog 87 #[.pointer (some ⟨g.X,0,none⟩),.agg #[.int .i64 241,.bool false,.int .i64 imm]] w fun e w'=>e=.returned (.bool false)/\InS g w' (⟨eW (aU m) 3 (bA m),full⟩ : S).m (⟨eW (aU m) 3 (bA m),full⟩ : S).full:=by
 obtain ⟨u,hu,hI,HI,k0,k2,HLX⟩:=stq (c:=241) (imm:=imm) h;have vb:=lJ m;have g1:=fD hg;have c2:Hid (∀ W,InS g W (aU m) full->Calls prog 121 #[.pointer (some ⟨g.X,0,none⟩),.int .i64 3,.int .i64 (bA m),.bool true] W fun e w'=>e=.returned (.tuple #[])/\InS g w' (⟨eW (aU m) 3 (bA m),full⟩ : S).m (⟨eW (aU m) 3 (bA m),full⟩ : S).full):=fun W hi=>nK g (aU m) full 3 _ W hi g1 (by omega) (by omega) vb.1 vb.2
 generalize (⟨eW (aU m) 3 (bA m),full⟩ : S)=t at *
 have c1:Hid (∀ W,InS g W m full->Calls prog 127 #[.pointer (some ⟨g.X,0,none⟩)] W fun e w'=>e=.returned (.int .i64 (bA m))/\InS g w' (⟨aU m,full⟩ : S).m (⟨aU m,full⟩ : S).full/\W.grownBy w' (some g.X)):=fun W hi=>both hi (fun g' hX hi'=>by rw [<- hX];exact sF g' m full W hi' hg)
 generalize bA m=pv at *
 generalize aU m=m1 at *
 clear vb g1;clear h hg hI i0 i1
 go_enter func87,ntmps87
 go_wp2_with fail
 rw [<- hu];clear hu k0 k2;refine Calls.mono (c1.out _ HI.out) ?_;rintro e w2 ⟨rfl,hi1,hgr⟩;have H2:Hid (InS g w2 m1 full):=hi1;clear hi1 hgr HI c1
 go_wp2_with fail
 refine Calls.mono (c2.out _ H2.out) ?_;rintro e w3 ⟨rfl,hi1⟩;have H3:Hid (InS g w3 t.m t.full):=hi1;clear hi1 H2 c2;go_wp2;go_ret;exact ⟨rfl,H3.out⟩
theorem aNS (g:SG) (m:M) (full:Bool) (imm:Int) (i0:0<=imm) (i1:imm<=65535) (hc:Stpp.cond m 1=true) (w:World) (h:InS g w m full) (hg:Stpq.Good m) :
  Calls prog 87 #[.pointer (some ⟨g.X,0,none⟩),.agg #[.int .i64 202,.bool false,.int .i64 imm]] w fun e w'=>e=.returned (.bool true)/\InS g w' (⟨{ m with pc:=imm },full⟩ : S).m (⟨{ m with pc:=imm },full⟩ : S).full:=by
 obtain ⟨u,hu,hI,HI,k0,k2,HLX⟩:=stq (c:=202) (imm:=imm) h;have cc:Hid (∀ W,InS g W m full->Calls prog 120 #[.pointer (some ⟨g.X,0,none⟩),.int .i64 1] W fun e w'=>e=.returned (.bool true)/\Below W.heap.size W w'):=fun W hi=>by have h:=dG g m full 1 W hi hg (by omega) (by omega);rw [hc] at h;exact h
 clear h hg hI i0 i1 hc
 go_enter func87,ntmps87
 go_wp2_with fail
 rw [<- hu];refine Calls.mono (cc.out _ HI.out) ?_;rintro e w1 ⟨rfl,hb1⟩;have H1:=zHd (HI.out.below hb1);have k2':=(hb1.cell (p:=⟨w.heap.size,2,none⟩) HLX.out.1).trans k2;have k0':=(hb1.cell (p:=⟨w.heap.size,0,none⟩) HLX.out.1).trans k0;clear hb1 HI cc hu k0 k2;have q_pc:=H1.out.cell 9 _ rfl;have f_pc:=H1.out.fro 9;have HF:Hid (InS g (w1.setCell ⟨g.X,9,none⟩ (.int .i64 imm)) { m with pc:=imm } full):=H1.out.s_pc imm;clear H1;go_wp2;go_ret;exact ⟨rfl,HF.out⟩
theorem aVM (g:SG) (m:M) (full:Bool) (imm:Int) (i0:0<=imm) (i1:imm<=65535) (w:World) (h:InS g w m full) (hg:Stpq.Good m) :
  Calls prog 87 #[.pointer (some ⟨g.X,0,none⟩),.agg #[.int .i64 251,.bool false,.int .i64 imm]] w fun e w'=>e=.returned (.bool false)/\InS g w' (⟨{ m with ime:=true },full⟩ : S).m (⟨{ m with ime:=true },full⟩ : S).full:=by
 obtain ⟨u,hu,hI,HI,k0,k2,HLX⟩:=stq (c:=251) (imm:=imm) h;have q9:=h.cell 10 _ rfl;have f9:=h.fro 10;have HF:Hid (∀ o,InS g ((w.setCell ⟨g.X,10,none⟩ (.bool true)).alloc o) { m with ime:=true } full):=fun o=>(h.s_ime true).below (zRf.alloc (Nat.le_refl _) o)
 have lX:=h.lt;clear hu k0 k2 HI;clear h hg hI i0 i1
 go_enter func87,ntmps87
 go_wp2;go_ret;exact ⟨rfl,HF.out _⟩
theorem aNT (g:SG) (m:M) (full:Bool) (imm:Int) (i0:0<=imm) (i1:imm<=65535) (hc:Stpp.cond m 2=true) (w:World) (h:InS g w m full) (hg:Stpq.Good m) :
  Calls prog 87 #[.pointer (some ⟨g.X,0,none⟩),.agg #[.int .i64 212,.bool false,.int .i64 imm]] w fun e w'=>e=.returned (.bool true)/\InS g w' (aR imm ⟨m,full⟩).m (aR imm ⟨m,full⟩).full:=by
 obtain ⟨u,hu,hI,HI,k0,k2,HLX⟩:=stq (c:=212) (imm:=imm) h;have cc:Hid (∀ W,InS g W m full->Calls prog 120 #[.pointer (some ⟨g.X,0,none⟩),.int .i64 2] W fun e w'=>e=.returned (.bool true)/\Below W.heap.size W w'):=fun W hi=>by have h:=dG g m full 2 W hi hg (by omega) (by omega);rw [hc] at h;exact h
 have c2:Hid (∀ W,InS g W m full->Calls prog 130 #[.pointer (some ⟨g.X,0,none⟩),.int .i64 imm] W fun e w'=>e=.returned (.tuple #[])/\InS g w' (aR imm ⟨m,full⟩).m (aR imm ⟨m,full⟩).full):=fun W hi=>iX g m full _ W hi hg
 generalize aR imm ⟨m,full⟩=t at *
 clear h hg hI i0 i1 hc
 go_enter func87,ntmps87
 go_wp2_with fail
 rw [<- hu];refine Calls.mono (cc.out _ HI.out) ?_;rintro e w1 ⟨rfl,hb1⟩;have H1:=zHd (HI.out.below hb1);have k2':=(hb1.cell (p:=⟨w.heap.size,2,none⟩) HLX.out.1).trans k2;have k0':=(hb1.cell (p:=⟨w.heap.size,0,none⟩) HLX.out.1).trans k0;clear hb1 HI cc hu k0 k2
 go_wp2_with fail
 refine Calls.mono (c2.out _ H1.out) ?_;rintro e w2 ⟨rfl,hi1⟩;have H2:Hid (InS g w2 t.m t.full):=hi1;clear hi1 H1 c2;go_wp2;go_ret;exact ⟨rfl,H2.out⟩
theorem aVN (g:SG) (m:M) (full:Bool) (imm:Int) (i0:0<=imm) (i1:imm<=65535) (ib:imm<=255) (w:World) (h:InS g w m full) (hg:Stpq.Good m) :
  Calls prog 87 #[.pointer (some ⟨g.X,0,none⟩),.agg #[.int .i64 206,.bool false,.int .i64 imm]] w fun e w'=>e=.returned (.bool false)/\InS g w' (⟨{ m with ra:=(aS 1 m.ra imm m.rf).1,rf:=(aS 1 m.ra imm m.rf).2 },full⟩ : S).m (⟨{ m with ra:=(aS 1 m.ra imm m.rf).1,rf:=(aS 1 m.ra imm m.rf).2 },full⟩ : S).full:=by
 obtain ⟨u,hu,hI,HI,k0,k2,HLX⟩:=stq (c:=206) (imm:=imm) h;have c1:Rg 86 #[.int .i64 1,.int .i64 m.ra,.int .i64 imm,.int .i64 m.rf] u (.tuple #[.int .i64 (aS 1 m.ra imm m.rf).1,.int .i64 (aS 1 m.ra imm m.rf).2]):=rg fun W hb=>(eE 1 m.ra imm m.rf W (by omega) (by omega) hg.a.1 hg.a.2 i0 ib hg.f.1 hg.f.2).mono fun e w' h=>⟨h.1,by rw [h.2];exact zRf⟩
 generalize (aS 1 m.ra imm m.rf).1=v1 at *
 generalize (aS 1 m.ra imm m.rf).2=v2 at *
 have r0:=x7 (hI.cell 0 _ rfl);have r1:=x7 k2;have r2:=x7 (hI.cell 1 _ rfl);clear h hg hI i0 i1 ib
 go_enter func87,ntmps87
 go_upto_region 49 with fail
 rw [<- hu];clear hu;refine wp_region_quiet_below (by kernel_rfl) (by kernel_rfl) ?_
 repeat (first|(go_big_quiet_step (first|with_reducible exact c1 _ _))|(refine aK (by rfl) 30 _ rfl ⟨g.X,0,none⟩ rfl _ (fun W hW=>by obtain ⟨⟨d,o⟩,rfl⟩:=hW;exact hld d o) ?_;simp only [Act.put,List.setIfInBounds_toArray,List.set_cons_succ,List.set_cons_zero]))
 refine wpQuiet_nil ?_;intro _ hw';obtain ⟨⟨dq,osq⟩,hw''⟩:=hw';subst hw'';have H2:=zHd (HI.out.below (x8 u dq osq));have hbg:=x8 u dq osq;generalize Go.Sort.grow (redrawn u dq) osq=W2 at *
 clear HI r0 r1 r2 c1;have q8:=H2.out.cell 0 _ rfl;have q1:=H2.out.cell 1 _ rfl;have f8:=H2.out.fro 0;have f1:=H2.out.fro 1;have lX:=H2.out.lt;have HF:Hid (InS g ((W2.setCell ⟨g.X,0,none⟩ (.int .i64 v1)).setCell ⟨g.X,1,none⟩ (.int .i64 v2)) { m with ra:=v1,rf:=v2 } full):=(H2.out.s_ra v1).s_rf v2;clear H2;go_wp2;go_ret;exact ⟨rfl,HF.out⟩
theorem aVO (g:SG) (m:M) (full:Bool) (imm:Int) (i0:0<=imm) (i1:imm<=65535) (ib:imm<=255) (w:World) (h:InS g w m full) (hg:Stpq.Good m) :
  Calls prog 87 #[.pointer (some ⟨g.X,0,none⟩),.agg #[.int .i64 222,.bool false,.int .i64 imm]] w fun e w'=>e=.returned (.bool false)/\InS g w' (⟨{ m with ra:=(aS 3 m.ra imm m.rf).1,rf:=(aS 3 m.ra imm m.rf).2 },full⟩ : S).m (⟨{ m with ra:=(aS 3 m.ra imm m.rf).1,rf:=(aS 3 m.ra imm m.rf).2 },full⟩ : S).full:=by
 obtain ⟨u,hu,hI,HI,k0,k2,HLX⟩:=stq (c:=222) (imm:=imm) h;have c1:Rg 86 #[.int .i64 3,.int .i64 m.ra,.int .i64 imm,.int .i64 m.rf] u (.tuple #[.int .i64 (aS 3 m.ra imm m.rf).1,.int .i64 (aS 3 m.ra imm m.rf).2]):=rg fun W hb=>(eE 3 m.ra imm m.rf W (by omega) (by omega) hg.a.1 hg.a.2 i0 ib hg.f.1 hg.f.2).mono fun e w' h=>⟨h.1,by rw [h.2];exact zRf⟩
 generalize (aS 3 m.ra imm m.rf).1=v1 at *
 generalize (aS 3 m.ra imm m.rf).2=v2 at *
 have r0:=x7 (hI.cell 0 _ rfl);have r1:=x7 k2;have r2:=x7 (hI.cell 1 _ rfl);clear h hg hI i0 i1 ib
 go_enter func87,ntmps87
 go_upto_region 49 with fail
 rw [<- hu];clear hu;refine wp_region_quiet_below (by kernel_rfl) (by kernel_rfl) ?_
 repeat (first|(go_big_quiet_step (first|with_reducible exact c1 _ _))|(refine aK (by rfl) 30 _ rfl ⟨g.X,0,none⟩ rfl _ (fun W hW=>by obtain ⟨⟨d,o⟩,rfl⟩:=hW;exact hld d o) ?_;simp only [Act.put,List.setIfInBounds_toArray,List.set_cons_succ,List.set_cons_zero]))
 refine wpQuiet_nil ?_;intro _ hw';obtain ⟨⟨dq,osq⟩,hw''⟩:=hw';subst hw'';have H2:=zHd (HI.out.below (x8 u dq osq));have hbg:=x8 u dq osq;generalize Go.Sort.grow (redrawn u dq) osq=W2 at *
 clear HI r0 r1 r2 c1;have q8:=H2.out.cell 0 _ rfl;have q1:=H2.out.cell 1 _ rfl;have f8:=H2.out.fro 0;have f1:=H2.out.fro 1;have lX:=H2.out.lt;have HF:Hid (InS g ((W2.setCell ⟨g.X,0,none⟩ (.int .i64 v1)).setCell ⟨g.X,1,none⟩ (.int .i64 v2)) { m with ra:=v1,rf:=v2 } full):=(H2.out.s_ra v1).s_rf v2;clear H2;go_wp2;go_ret;exact ⟨rfl,HF.out⟩
theorem aVP (g:SG) (m:M) (full:Bool) (imm:Int) (i0:0<=imm) (i1:imm<=65535) (ib:imm<=255) (w:World) (h:InS g w m full) (hg:Stpq.Good m) :
  Calls prog 87 #[.pointer (some ⟨g.X,0,none⟩),.agg #[.int .i64 238,.bool false,.int .i64 imm]] w fun e w'=>e=.returned (.bool false)/\InS g w' (⟨{ m with ra:=(aS 5 m.ra imm m.rf).1,rf:=(aS 5 m.ra imm m.rf).2 },full⟩ : S).m (⟨{ m with ra:=(aS 5 m.ra imm m.rf).1,rf:=(aS 5 m.ra imm m.rf).2 },full⟩ : S).full:=by
 obtain ⟨u,hu,hI,HI,k0,k2,HLX⟩:=stq (c:=238) (imm:=imm) h;have c1:Rg 86 #[.int .i64 5,.int .i64 m.ra,.int .i64 imm,.int .i64 m.rf] u (.tuple #[.int .i64 (aS 5 m.ra imm m.rf).1,.int .i64 (aS 5 m.ra imm m.rf).2]):=rg fun W hb=>(eE 5 m.ra imm m.rf W (by omega) (by omega) hg.a.1 hg.a.2 i0 ib hg.f.1 hg.f.2).mono fun e w' h=>⟨h.1,by rw [h.2];exact zRf⟩
 generalize (aS 5 m.ra imm m.rf).1=v1 at *
 generalize (aS 5 m.ra imm m.rf).2=v2 at *
 have r0:=x7 (hI.cell 0 _ rfl);have r1:=x7 k2;have r2:=x7 (hI.cell 1 _ rfl);clear h hg hI i0 i1 ib
 go_enter func87,ntmps87
 go_upto_region 49 with fail
 rw [<- hu];clear hu;refine wp_region_quiet_below (by kernel_rfl) (by kernel_rfl) ?_
 repeat (first|(go_big_quiet_step (first|with_reducible exact c1 _ _))|(refine aK (by rfl) 30 _ rfl ⟨g.X,0,none⟩ rfl _ (fun W hW=>by obtain ⟨⟨d,o⟩,rfl⟩:=hW;exact hld d o) ?_;simp only [Act.put,List.setIfInBounds_toArray,List.set_cons_succ,List.set_cons_zero]))
 refine wpQuiet_nil ?_;intro _ hw';obtain ⟨⟨dq,osq⟩,hw''⟩:=hw';subst hw'';have H2:=zHd (HI.out.below (x8 u dq osq));have hbg:=x8 u dq osq;generalize Go.Sort.grow (redrawn u dq) osq=W2 at *
 clear HI r0 r1 r2 c1;have q8:=H2.out.cell 0 _ rfl;have q1:=H2.out.cell 1 _ rfl;have f8:=H2.out.fro 0;have f1:=H2.out.fro 1;have lX:=H2.out.lt;have HF:Hid (InS g ((W2.setCell ⟨g.X,0,none⟩ (.int .i64 v1)).setCell ⟨g.X,1,none⟩ (.int .i64 v2)) { m with ra:=v1,rf:=v2 } full):=(H2.out.s_ra v1).s_rf v2;clear H2;go_wp2;go_ret;exact ⟨rfl,HF.out⟩
theorem aVQ (g:SG) (m:M) (full:Bool) (imm:Int) (i0:0<=imm) (i1:imm<=65535) (ib:imm<=255) (w:World) (h:InS g w m full) (hg:Stpq.Good m) :
  Calls prog 87 #[.pointer (some ⟨g.X,0,none⟩),.agg #[.int .i64 254,.bool false,.int .i64 imm]] w fun e w'=>e=.returned (.bool false)/\InS g w' (⟨{ m with ra:=(aS 7 m.ra imm m.rf).1,rf:=(aS 7 m.ra imm m.rf).2 },full⟩ : S).m (⟨{ m with ra:=(aS 7 m.ra imm m.rf).1,rf:=(aS 7 m.ra imm m.rf).2 },full⟩ : S).full:=by
 obtain ⟨u,hu,hI,HI,k0,k2,HLX⟩:=stq (c:=254) (imm:=imm) h;have c1:Rg 86 #[.int .i64 7,.int .i64 m.ra,.int .i64 imm,.int .i64 m.rf] u (.tuple #[.int .i64 (aS 7 m.ra imm m.rf).1,.int .i64 (aS 7 m.ra imm m.rf).2]):=rg fun W hb=>(eE 7 m.ra imm m.rf W (by omega) (by omega) hg.a.1 hg.a.2 i0 ib hg.f.1 hg.f.2).mono fun e w' h=>⟨h.1,by rw [h.2];exact zRf⟩
 generalize (aS 7 m.ra imm m.rf).1=v1 at *
 generalize (aS 7 m.ra imm m.rf).2=v2 at *
 have r0:=x7 (hI.cell 0 _ rfl);have r1:=x7 k2;have r2:=x7 (hI.cell 1 _ rfl);clear h hg hI i0 i1 ib
 go_enter func87,ntmps87
 go_upto_region 49 with fail
 rw [<- hu];clear hu;refine wp_region_quiet_below (by kernel_rfl) (by kernel_rfl) ?_
 repeat (first|(go_big_quiet_step (first|with_reducible exact c1 _ _))|(refine aK (by rfl) 30 _ rfl ⟨g.X,0,none⟩ rfl _ (fun W hW=>by obtain ⟨⟨d,o⟩,rfl⟩:=hW;exact hld d o) ?_;simp only [Act.put,List.setIfInBounds_toArray,List.set_cons_succ,List.set_cons_zero]))
 refine wpQuiet_nil ?_;intro _ hw';obtain ⟨⟨dq,osq⟩,hw''⟩:=hw';subst hw'';have H2:=zHd (HI.out.below (x8 u dq osq));have hbg:=x8 u dq osq;generalize Go.Sort.grow (redrawn u dq) osq=W2 at *
 clear HI r0 r1 r2 c1;have q8:=H2.out.cell 0 _ rfl;have q1:=H2.out.cell 1 _ rfl;have f8:=H2.out.fro 0;have f1:=H2.out.fro 1;have lX:=H2.out.lt;have HF:Hid (InS g ((W2.setCell ⟨g.X,0,none⟩ (.int .i64 v1)).setCell ⟨g.X,1,none⟩ (.int .i64 v2)) { m with ra:=v1,rf:=v2 } full):=(H2.out.s_ra v1).s_rf v2;clear H2;go_wp2;go_ret;exact ⟨rfl,HF.out⟩
end Stco
end Go.Proofs.YteglcgnhhoenbaaGreatDoor
