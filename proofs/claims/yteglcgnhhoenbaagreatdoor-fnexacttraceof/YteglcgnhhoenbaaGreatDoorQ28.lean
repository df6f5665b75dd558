import Derived.Test.YteglcgnhhoenbaaGreatDoorQ24
set_option linter.all false
set_option maxRecDepth 20000
set_option maxHeartbeats 8000000
open Go.ChangeShapes Go.WideShapes Go.ChangeAt Go.RowKit
open Go.Proofs.Tryz
namespace Go.Proofs.YteglcgnhhoenbaaGreatDoor
namespace Stcn
open Go.Deep
open Signed (inB sgn aG aB)
open Reck ReckS ReckM ReckD TurnS
open Busw Busx Busy Stpp Stpq Stps Sta Stb Stck Stcz
theorem aUX (g:SG) (m:M) (full:Bool) (imm:Int) (i0:0<=imm) (i1:imm<=65535) (w:World) (h:InS g w m full) (hg:Stpq.Good m) :
  Calls prog 87 #[.pointer (some ⟨g.X,0,none⟩),.agg #[.int .i64 217,.bool false,.int .i64 imm]] w fun e w'=>e=.returned (.bool true)/\InS g w' (⟨{ aU m with pc:=bA m,ime:=(aU m).ime || true },full⟩ : S).m (⟨{ aU m with pc:=bA m,ime:=(aU m).ime || true },full⟩ : S).full:=by
 obtain ⟨u,hu,hI,HI,k0,k2,HLX⟩:=stq (c:=217) (imm:=imm) h;have c1:Hid (∀ W,InS g W m full->Calls prog 127 #[.pointer (some ⟨g.X,0,none⟩)] W fun e w'=>e=.returned (.int .i64 (bA m))/\InS g w' (⟨aU m,full⟩ : S).m (⟨aU m,full⟩ : S).full/\W.grownBy w' (some g.X)):=fun W hi=>both hi (fun g' hX hi'=>by rw [<- hX];exact sF g' m full W hi' hg)
 generalize bA m=pv at *
 generalize aU m=m1 at *
 clear h hg hI i0 i1
 go_enter func87,ntmps87
 go_wp2_with fail
 rw [<- hu];clear hu;refine Calls.mono (c1.out _ HI.out) ?_;rintro e w2 ⟨rfl,hi1,hgr⟩;have kk:w2.cell? ⟨w.heap.size,0,none⟩=some (.int .i64 217):=fT hgr HLX.out.1 HLX.out.2 k0;have q9:=hi1.cell 9 _ rfl;have f9:=hi1.fro 9;have q10:=hi1.cell 10 _ rfl;have f10:=hi1.fro 10;have lX:=hi1.lt;have HF:Hid (InS g ((w2.setCell ⟨g.X,9,none⟩ (.int .i64 pv)).setCell ⟨g.X,10,none⟩ (.bool (m1.ime || true))) { m1 with pc:=pv,ime:=m1.ime || true } full):=(hi1.s_pc pv).s_ime _;have nX:=HLX.out.2;clear hi1 hgr HI c1
 cases him:m1.ime
 all_goals
  rw [him] at HF
  simp only [List.getElem_toArray,List.getElem_cons_succ,List.getElem_cons_zero,him] at q10
  go_wp2;go_ret;exact ⟨rfl,by rw [him];exact HF.out⟩
theorem aNI (g:SG) (m:M) (full:Bool) (imm:Int) (i0:0<=imm) (i1:imm<=65535) (hc:Stpp.cond m 3=true) (w:World) (h:InS g w m full) (hg:Stpq.Good m) :
  Calls prog 87 #[.pointer (some ⟨g.X,0,none⟩),.agg #[.int .i64 216,.bool false,.int .i64 imm]] w fun e w'=>e=.returned (.bool true)/\InS g w' (⟨{ aU m with pc:=bA m,ime:=(aU m).ime || false },full⟩ : S).m (⟨{ aU m with pc:=bA m,ime:=(aU m).ime || false },full⟩ : S).full:=by
 obtain ⟨u,hu,hI,HI,k0,k2,HLX⟩:=stq (c:=216) (imm:=imm) h;have cc:Hid (∀ W,InS g W m full->Calls prog 120 #[.pointer (some ⟨g.X,0,none⟩),.int .i64 3] W fun e w'=>e=.returned (.bool true)/\Below W.heap.size W w'):=fun W hi=>by have h:=dG g m full 3 W hi hg (by omega) (by omega);rw [hc] at h;exact h
 have c1:Hid (∀ W,InS g W m full->Calls prog 127 #[.pointer (some ⟨g.X,0,none⟩)] W fun e w'=>e=.returned (.int .i64 (bA m))/\InS g w' (⟨aU m,full⟩ : S).m (⟨aU m,full⟩ : S).full/\W.grownBy w' (some g.X)):=fun W hi=>both hi (fun g' hX hi'=>by rw [<- hX];exact sF g' m full W hi' hg)
 generalize bA m=pv at *
 generalize aU m=m1 at *
 clear h hg hI i0 i1 hc
 go_enter func87,ntmps87
 go_wp2_with fail
 rw [<- hu];refine Calls.mono (cc.out _ HI.out) ?_;rintro e w1 ⟨rfl,hb1⟩;have H1:=zHd (HI.out.below hb1);have k2':=(hb1.cell (p:=⟨w.heap.size,2,none⟩) HLX.out.1).trans k2;have k0':=(hb1.cell (p:=⟨w.heap.size,0,none⟩) HLX.out.1).trans k0;have HLW:Hid (w.heap.size<w1.heap.size):=Nat.lt_of_lt_of_le HLX.out.1 hb1.size;clear hb1 HI cc hu k2
 go_wp2_with fail
 refine Calls.mono (c1.out _ H1.out) ?_;rintro e w2 ⟨rfl,hi1,hgr⟩;have kk:w2.cell? ⟨w.heap.size,0,none⟩=some (.int .i64 216):=fT hgr HLW.out HLX.out.2 k0';have q9:=hi1.cell 9 _ rfl;have f9:=hi1.fro 9;have q10:=hi1.cell 10 _ rfl;have f10:=hi1.fro 10;have lX:=hi1.lt;have HF:Hid (InS g ((w2.setCell ⟨g.X,9,none⟩ (.int .i64 pv)).setCell ⟨g.X,10,none⟩ (.bool (m1.ime || false))) { m1 with pc:=pv,ime:=m1.ime || false } full):=(hi1.s_pc pv).s_ime _;have nX:=HLX.out.2;clear hi1 hgr H1 c1
 cases him:m1.ime
 all_goals
  rw [him] at HF
  simp only [List.getElem_toArray,List.getElem_cons_succ,List.getElem_cons_zero,him] at q10
  go_wp2;go_ret;exact ⟨rfl,by rw [him];exact HF.out⟩
theorem aNJ (g:SG) (m:M) (full:Bool) (imm:Int) (i0:0<=imm) (i1:imm<=65535) (hc:Stpp.cond m 3=false) (w:World) (h:InS g w m full) (hg:Stpq.Good m) :
  Calls prog 87 #[.pointer (some ⟨g.X,0,none⟩),.agg #[.int .i64 216,.bool false,.int .i64 imm]] w fun e w'=>e=.returned (.bool false)/\InS g w' (⟨m,full⟩ : S).m (⟨m,full⟩ : S).full:=by
 obtain ⟨u,hu,hI,HI,k0,k2,HLX⟩:=stq (c:=216) (imm:=imm) h;have cc:Hid (∀ W,InS g W m full->Calls prog 120 #[.pointer (some ⟨g.X,0,none⟩),.int .i64 3] W fun e w'=>e=.returned (.bool false)/\Below W.heap.size W w'):=fun W hi=>by have h:=dG g m full 3 W hi hg (by omega) (by omega);rw [hc] at h;exact h
 clear h hg hI i0 i1 hc
 go_enter func87,ntmps87
 go_wp2_with fail
 rw [<- hu];refine Calls.mono (cc.out _ HI.out) ?_;rintro e w1 ⟨rfl,hb1⟩;have H1:=zHd (HI.out.below hb1);have k2':=(hb1.cell (p:=⟨w.heap.size,2,none⟩) HLX.out.1).trans k2;have k0':=(hb1.cell (p:=⟨w.heap.size,0,none⟩) HLX.out.1).trans k0;clear hb1 HI cc hu k0 k2;go_wp2;go_ret;exact ⟨rfl,H1.out⟩
theorem aNK (g:SG) (m:M) (full:Bool) (imm:Int) (i0:0<=imm) (i1:imm<=65535) (hc:Stpp.cond m 3=false) (w:World) (h:InS g w m full) (hg:Stpq.Good m) :
  Calls prog 87 #[.pointer (some ⟨g.X,0,none⟩),.agg #[.int .i64 218,.bool false,.int .i64 imm]] w fun e w'=>e=.returned (.bool false)/\InS g w' (⟨m,full⟩ : S).m (⟨m,full⟩ : S).full:=by
 obtain ⟨u,hu,hI,HI,k0,k2,HLX⟩:=stq (c:=218) (imm:=imm) h;have cc:Hid (∀ W,InS g W m full->Calls prog 120 #[.pointer (some ⟨g.X,0,none⟩),.int .i64 3] W fun e w'=>e=.returned (.bool false)/\Below W.heap.size W w'):=fun W hi=>by have h:=dG g m full 3 W hi hg (by omega) (by omega);rw [hc] at h;exact h
 clear h hg hI i0 i1 hc
 go_enter func87,ntmps87
 go_wp2_with fail
 rw [<- hu];refine Calls.mono (cc.out _ HI.out) ?_;rintro e w1 ⟨rfl,hb1⟩;have H1:=zHd (HI.out.below hb1);have k2':=(hb1.cell (p:=⟨w.heap.size,2,none⟩) HLX.out.1).trans k2;have k0':=(hb1.cell (p:=⟨w.heap.size,0,none⟩) HLX.out.1).trans k0;clear hb1 HI cc hu k0 k2;go_wp2;go_ret;exact ⟨rfl,H1.out⟩
theorem aNL (g:SG) (m:M) (full:Bool) (imm:Int) (i0:0<=imm) (i1:imm<=65535) (hc:Stpp.cond m 3=false) (w:World) (h:InS g w m full) (hg:Stpq.Good m) :
  Calls prog 87 #[.pointer (some ⟨g.X,0,none⟩),.agg #[.int .i64 220,.bool false,.int .i64 imm]] w fun e w'=>e=.returned (.bool false)/\InS g w' (⟨m,full⟩ : S).m (⟨m,full⟩ : S).full:=by
 obtain ⟨u,hu,hI,HI,k0,k2,HLX⟩:=stq (c:=220) (imm:=imm) h;have cc:Hid (∀ W,InS g W m full->Calls prog 120 #[.pointer (some ⟨g.X,0,none⟩),.int .i64 3] W fun e w'=>e=.returned (.bool false)/\Below W.heap.size W w'):=fun W hi=>by have h:=dG g m full 3 W hi hg (by omega) (by omega);rw [hc] at h;exact h
 clear h hg hI i0 i1 hc
 go_enter func87,ntmps87
 go_wp2_with fail
 rw [<- hu];refine Calls.mono (cc.out _ HI.out) ?_;rintro e w1 ⟨rfl,hb1⟩;have H1:=zHd (HI.out.below hb1);have k2':=(hb1.cell (p:=⟨w.heap.size,2,none⟩) HLX.out.1).trans k2;have k0':=(hb1.cell (p:=⟨w.heap.size,0,none⟩) HLX.out.1).trans k0;clear hb1 HI cc hu k0 k2;go_wp2;go_ret;exact ⟨rfl,H1.out⟩
theorem aUY (g:SG) (m:M) (full:Bool) (imm:Int) (i0:0<=imm) (i1:imm<=65535) (w:World) (h:InS g w m full) (hg:Stpq.Good m) :
  Calls prog 87 #[.pointer (some ⟨g.X,0,none⟩),.agg #[.int .i64 240,.bool false,.int .i64 imm]] w fun e w'=>e=.returned (.bool false)/\InS g w' (⟨{ m with ra:=rd m (65280+imm) },full⟩ : S).m (⟨{ m with ra:=rd m (65280+imm) },full⟩ : S).full:=by
 obtain ⟨u,hu,hI,HI,k0,k2,HLX⟩:=stq (c:=240) (imm:=imm) h;have d1:IntKind.i64.wrap (65280+imm)=65280+imm:=by rw [x6];omega
 obtain ⟨po,cap,hA⟩:=hI;have c1:Rg 100 #[.agg (aA m po cap),.int .i64 (65280+imm)] u (.int .i64 (rd m (65280+imm))):=rg fun W hb=>eN m po cap _ W hg.rt (by omega)
 have hld:∀ d os,(loadVar 30 ⟨g.X,0,none⟩).run prog (Go.Sort.grow (redrawn u d) os)=.ok (.agg (aA m po cap)) (Go.Sort.grow (redrawn u d) os):=fun d os=>hA.load ((x8 u d os).block _ hA.lt)
 have r1:=x7 k2;generalize rd m (65280+imm)=rv at *
 generalize aA m po cap=cM at *
 clear hA;have hI:=HI.out;clear h hg hI i0 i1
 go_enter func87,ntmps87
 go_upto_region 15 with fail
 rw [<- hu];clear hu;refine Qtail.aI 14 (by kernel_rfl) (by kernel_rfl) ?_;simp only [List.take_succ_cons,List.take_zero,List.drop_succ_cons,List.drop_zero]
 repeat (first|(go_big_quiet_step (first|with_reducible exact c1 _ _))|(refine aK (by rfl) 30 _ rfl ⟨g.X,0,none⟩ rfl _ (fun W hW=>by obtain ⟨⟨d,o⟩,rfl⟩:=hW;exact hld d o) ?_;simp only [Act.put,List.setIfInBounds_toArray,List.set_cons_succ,List.set_cons_zero]))
 refine wpQuiet_nil ?_;intro _ hw';obtain ⟨⟨dq,osq⟩,hw''⟩:=hw';subst hw'';have H2:=zHd (HI.out.below (x8 u dq osq));have hbg:=x8 u dq osq;generalize Go.Sort.grow (redrawn u dq) osq=W2 at *
 clear HI r1 c1 hld;have q_ra:=H2.out.cell 0 _ rfl;have f_ra:=H2.out.fro 0;have HF:Hid (InS g (W2.setCell ⟨g.X,0,none⟩ (.int .i64 rv)) { m with ra:=rv } full):=H2.out.s_ra rv;clear H2;go_wp2;go_ret;exact ⟨rfl,HF.out⟩
theorem aUZ (g:SG) (m:M) (full:Bool) (imm:Int) (i0:0<=imm) (i1:imm<=65535) (ib:imm<=255) (w:World) (h:InS g w m full) (hg:Stpq.Good m) :
  Calls prog 87 #[.pointer (some ⟨g.X,0,none⟩),.agg #[.int .i64 248,.bool false,.int .i64 imm]] w fun e w'=>e=.returned (.bool false)/\InS g w' (⟨{ aN m 2 (asR m.sp imm).1 with rf:=(asR m.sp imm).2 },full⟩ : S).m (⟨{ aN m 2 (asR m.sp imm).1 with rf:=(asR m.sp imm).2 },full⟩ : S).full:=by
 obtain ⟨u,hu,hI,HI,k0,k2,HLX⟩:=stq (c:=248) (imm:=imm) h;have c1:Rg 128 #[.int .i64 m.sp,.int .i64 imm] u (.tuple #[.int .i64 (asR m.sp imm).1,.int .i64 (asR m.sp imm).2]):=rg fun W hb=>(iA m.sp imm W).mono fun e w' h=>⟨by rw [<- rK hg.sp ⟨i0,ib⟩];exact h.1,by rw [h.2];exact zRf⟩
 have bd:=aEU m.sp imm;generalize (asR m.sp imm).1=v1 at *
 generalize (asR m.sp imm).2=v2 at *
 have c4:Hid (∀ W,InS g W m full->Calls prog 121 #[.pointer (some ⟨g.X,0,none⟩),.int .i64 2,.int .i64 v1,.bool false] W fun e w'=>e=.returned (.tuple #[])/\InS g w' (⟨aN m 2 v1,full⟩ : S).m (⟨aN m 2 v1,full⟩ : S).full):=fun W hi=>dL g m full 2 _ W hi hg (by omega) (by omega) bd.1 bd.2.1
 generalize aN m 2 v1=t at *
 have r0:=x7 (hI.cell 8 _ rfl);have r1:=x7 k2;clear bd;clear h hg hI i0 i1 ib
 go_enter func87,ntmps87
 go_upto_region 27 with fail
 rw [<- hu];clear hu;refine wp_region_quiet_below (by kernel_rfl) (by kernel_rfl) ?_
 repeat (first|(go_big_quiet_step (first|with_reducible exact c1 _ _))|(refine aK (by rfl) 30 _ rfl ⟨g.X,0,none⟩ rfl _ (fun W hW=>by obtain ⟨⟨d,o⟩,rfl⟩:=hW;exact hld d o) ?_;simp only [Act.put,List.setIfInBounds_toArray,List.set_cons_succ,List.set_cons_zero]))
 refine wpQuiet_nil ?_;intro _ hw';obtain ⟨⟨dq,osq⟩,hw''⟩:=hw';subst hw'';have H2:=zHd (HI.out.below (x8 u dq osq));have hbg:=x8 u dq osq;generalize Go.Sort.grow (redrawn u dq) osq=W2 at *
 clear HI r0 r1 c1
 go_wp2_with fail
 refine Calls.mono (c4.out _ H2.out) ?_;rintro e w3 ⟨rfl,hi1⟩;have H3:Hid (InS g w3 t full):=hi1;clear hi1 H2 c4;have q_rf:=H3.out.cell 1 _ rfl;have f_rf:=H3.out.fro 1;have HF:Hid (InS g (w3.setCell ⟨g.X,1,none⟩ (.int .i64 v2)) { t with rf:=v2 } full):=H3.out.s_rf v2;clear H3;go_wp2;go_ret;exact ⟨rfl,HF.out⟩
theorem aVA (g:SG) (m:M) (full:Bool) (imm:Int) (i0:0<=imm) (i1:imm<=65535) (w:World) (h:InS g w m full) (hg:Stpq.Good m) :
  Calls prog 87 #[.pointer (some ⟨g.X,0,none⟩),.agg #[.int .i64 197,.bool false,.int .i64 imm]] w fun e w'=>e=.returned (.bool false)/\InS g w' (push ⟨m,full⟩ (prQ m 0)).m (push ⟨m,full⟩ (prQ m 0)).full:=by
 obtain ⟨u,hu,hI,HI,k0,k2,HLX⟩:=stq (c:=197) (imm:=imm) h;have pb:=mC hg 0;have c1:Hid (∀ W,InS g W m full->Calls prog 124 #[.pointer (some ⟨g.X,0,none⟩),.int .i64 0,.bool true] W fun e w'=>e=.returned (.int .i64 (prQ m 0))/\Below W.heap.size W w'):=fun W hi=>aEY g m full 0 W hi hg (by omega) (by omega)
 have c2:Hid (∀ W,InS g W m full->Calls prog 129 #[.pointer (some ⟨g.X,0,none⟩),.int .i64 (prQ m 0)] W fun e w'=>e=.returned (.tuple #[])/\InS g w' (push ⟨m,full⟩ (prQ m 0)).m (push ⟨m,full⟩ (prQ m 0)).full):=fun W hi=>yC g m full _ pb.1 pb.2 W hi hg
 generalize push ⟨m,full⟩ (prQ m 0)=t at *
 generalize prQ m 0=pv at *
 clear pb;clear h hg hI i0 i1
 go_enter func87,ntmps87
 go_wp2_with fail
 rw [<- hu];clear hu k0 k2;refine Calls.mono (c1.out _ HI.out) ?_;rintro e w1 ⟨rfl,hb1⟩;have H1:=zHd (HI.out.below hb1);clear hb1 HI c1
 go_wp2_with fail
 refine Calls.mono (c2.out _ H1.out) ?_;rintro e w2 ⟨rfl,hi1⟩;have H2:Hid (InS g w2 t.m t.full):=hi1;clear hi1 H1 c2;go_wp2;go_ret;exact ⟨rfl,H2.out⟩
theorem aVB (g:SG) (m:M) (full:Bool) (imm:Int) (i0:0<=imm) (i1:imm<=65535) (w:World) (h:InS g w m full) (hg:Stpq.Good m) :
  Calls prog 87 #[.pointer (some ⟨g.X,0,none⟩),.agg #[.int .i64 229,.bool false,.int .i64 imm]] w fun e w'=>e=.returned (.bool false)/\InS g w' (push ⟨m,full⟩ (prQ m 2)).m (push ⟨m,full⟩ (prQ m 2)).full:=by
 obtain ⟨u,hu,hI,HI,k0,k2,HLX⟩:=stq (c:=229) (imm:=imm) h;have pb:=mC hg 2;have c1:Hid (∀ W,InS g W m full->Calls prog 124 #[.pointer (some ⟨g.X,0,none⟩),.int .i64 2,.bool true] W fun e w'=>e=.returned (.int .i64 (prQ m 2))/\Below W.heap.size W w'):=fun W hi=>aEY g m full 2 W hi hg (by omega) (by omega)
 have c2:Hid (∀ W,InS g W m full->Calls prog 129 #[.pointer (some ⟨g.X,0,none⟩),.int .i64 (prQ m 2)] W fun e w'=>e=.returned (.tuple #[])/\InS g w' (push ⟨m,full⟩ (prQ m 2)).m (push ⟨m,full⟩ (prQ m 2)).full):=fun W hi=>yC g m full _ pb.1 pb.2 W hi hg
 generalize push ⟨m,full⟩ (prQ m 2)=t at *
 generalize prQ m 2=pv at *
 clear pb;clear h hg hI i0 i1
 go_enter func87,ntmps87
 go_wp2_with fail
 rw [<- hu];clear hu k0 k2;refine Calls.mono (c1.out _ HI.out) ?_;rintro e w1 ⟨rfl,hb1⟩;have H1:=zHd (HI.out.below hb1);clear hb1 HI c1
 go_wp2_with fail
 refine Calls.mono (c2.out _ H1.out) ?_;rintro e w2 ⟨rfl,hi1⟩;have H2:Hid (InS g w2 t.m t.full):=hi1;clear hi1 H1 c2;go_wp2;go_ret;exact ⟨rfl,H2.out⟩
theorem aNM (g:SG) (m:M) (full:Bool) (imm:Int) (i0:0<=imm) (i1:imm<=65535) (hc:Stpp.cond m 0=true) (w:World) (h:InS g w m full) (hg:Stpq.Good m) :
  Calls prog 87 #[.pointer (some ⟨g.X,0,none⟩),.agg #[.int .i64 194,.bool false,.int .i64 imm]] w fun e w'=>e=.returned (.bool true)/\InS g w' (⟨{ m with pc:=imm },full⟩ : S).m (⟨{ m with pc:=imm },full⟩ : S).full:=by
 obtain ⟨u,hu,hI,HI,k0,k2,HLX⟩:=stq (c:=194) (imm:=imm) h;have cc:Hid (∀ W,InS g W m full->Calls prog 120 #[.pointer (some ⟨g.X,0,none⟩),.int .i64 0] W fun e w'=>e=.returned (.bool true)/\Below W.heap.size W w'):=fun W hi=>by have h:=dG g m full 0 W hi hg (by omega) (by omega);rw [hc] at h;exact h
 clear h hg hI i0 i1 hc
 go_enter func87,ntmps87
 go_wp2_with fail
 rw [<- hu];refine Calls.mono (cc.out _ HI.out) ?_;rintro e w1 ⟨rfl,hb1⟩;have H1:=zHd (HI.out.below hb1);have k2':=(hb1.cell (p:=⟨w.heap.size,2,none⟩) HLX.out.1).trans k2;have k0':=(hb1.cell (p:=⟨w.heap.size,0,none⟩) HLX.out.1).trans k0;clear hb1 HI cc hu k0 k2;have q_pc:=H1.out.cell 9 _ rfl;have f_pc:=H1.out.fro 9;have HF:Hid (InS g (w1.setCell ⟨g.X,9,none⟩ (.int .i64 imm)) { m with pc:=imm } full):=H1.out.s_pc imm;clear H1;go_wp2;go_ret;exact ⟨rfl,HF.out⟩
theorem aVC (g:SG) (m:M) (full:Bool) (imm:Int) (i0:0<=imm) (i1:imm<=65535) (w:World) (h:InS g w m full) (hg:Stpq.Good m) :
  Calls prog 87 #[.pointer (some ⟨g.X,0,none⟩),.agg #[.int .i64 243,.bool false,.int .i64 imm]] w fun e w'=>e=.returned (.bool false)/\InS g w' (⟨{ m with ime:=false },full⟩ : S).m (⟨{ m with ime:=false },full⟩ : S).full:=by
 obtain ⟨u,hu,hI,HI,k0,k2,HLX⟩:=stq (c:=243) (imm:=imm) h;have q9:=h.cell 10 _ rfl;have f9:=h.fro 10;have HF:Hid (∀ o,InS g ((w.setCell ⟨g.X,10,none⟩ (.bool false)).alloc o) { m with ime:=false } full):=fun o=>(h.s_ime false).below (zRf.alloc (Nat.le_refl _) o)
 have lX:=h.lt;clear hu k0 k2 HI;clear h hg hI i0 i1
 go_enter func87,ntmps87
 go_wp2;go_ret;exact ⟨rfl,HF.out _⟩
theorem aNN (g:SG) (m:M) (full:Bool) (imm:Int) (i0:0<=imm) (i1:imm<=65535) (hc:Stpp.cond m 1=true) (w:World) (h:InS g w m full) (hg:Stpq.Good m) :
  Calls prog 87 #[.pointer (some ⟨g.X,0,none⟩),.agg #[.int .i64 204,.bool false,.int .i64 imm]] w fun e w'=>e=.returned (.bool true)/\InS g w' (aR imm ⟨m,full⟩).m (aR imm ⟨m,full⟩).full:=by
 obtain ⟨u,hu,hI,HI,k0,k2,HLX⟩:=stq (c:=204) (imm:=imm) h;have cc:Hid (∀ W,InS g W m full->Calls prog 120 #[.pointer (some ⟨g.X,0,none⟩),.int .i64 1] W fun e w'=>e=.returned (.bool true)/\Below W.heap.size W w'):=fun W hi=>by have h:=dG g m full 1 W hi hg (by omega) (by omega);rw [hc] at h;exact h
 have c2:Hid (∀ W,InS g W m full->Calls prog 130 #[.pointer (some ⟨g.X,0,none⟩),.int .i64 imm] W fun e w'=>e=.returned (.tuple #[])/\InS g w' (aR imm ⟨m,full⟩).m (aR imm ⟨m,full⟩).full):=fun W hi=>iX g m full _ W hi hg
 generalize aR imm ⟨m,full⟩=t at *
 clear h hg hI i0 i1 hc
 go_enter func87,ntmps87
 go_wp2_with fail
 rw [<- hu];refine Calls.mono (cc.out _ HI.out) ?_;rintro e w1 ⟨rfl,hb1⟩;have H1:=zHd (HI.out.below hb1);have k2':=(hb1.cell (p:=⟨w.heap.size,2,none⟩) HLX.out.1).trans k2;have k0':=(hb1.cell (p:=⟨w.heap.size,0,none⟩) HLX.out.1).trans k0;clear hb1 HI cc hu k0 k2
 go_wp2_with fail
 refine Calls.mono (c2.out _ H1.out) ?_;rintro e w2 ⟨rfl,hi1⟩;have H2:Hid (InS g w2 t.m t.full):=hi1;clear hi1 H1 c2;go_wp2;go_ret;exact ⟨rfl,H2.out⟩
theorem aVD (g:SG) (m:M) (full:Bool) (imm:Int) (i0:0<=imm) (i1:imm<=65535) (w:World) (h:InS g w m full) (hg:Stpq.Good m) :
  Calls prog 87 #[.pointer (some ⟨g.X,0,none⟩),.agg #[.int .i64 199,.bool false,.int .i64 imm]] w fun e w'=>e=.returned (.bool false)/\InS g w' (aR 0 ⟨m,full⟩).m (aR 0 ⟨m,full⟩).full:=by
 obtain ⟨u,hu,hI,HI,k0,k2,HLX⟩:=stq (c:=199) (imm:=imm) h;have c2:Hid (∀ W,InS g W m full->Calls prog 130 #[.pointer (some ⟨g.X,0,none⟩),.int .i64 0] W fun e w'=>e=.returned (.tuple #[])/\InS g w' (aR 0 ⟨m,full⟩).m (aR 0 ⟨m,full⟩).full):=fun W hi=>iX g m full _ W hi hg
 generalize aR 0 ⟨m,full⟩=t at *
 clear h hg hI i0 i1
 go_enter func87,ntmps87
 go_wp2_with fail
 rw [<- hu];clear hu k0 k2;refine Calls.mono (c2.out _ HI.out) ?_;rintro e w2 ⟨rfl,hi1⟩;have H2:Hid (InS g w2 t.m t.full):=hi1;clear hi1 HI c2;go_wp2;go_ret;exact ⟨rfl,H2.out⟩
theorem aVE (g:SG) (m:M) (full:Bool) (imm:Int) (i0:0<=imm) (i1:imm<=65535) (w:World) (h:InS g w m full) (hg:Stpq.Good m) :
  Calls prog 87 #[.pointer (some ⟨g.X,0,none⟩),.agg #[.int .i64 215,.bool false,.int .i64 imm]] w fun e w'=>e=.returned (.bool false)/\InS g w' (aR 16 ⟨m,full⟩).m (aR 16 ⟨m,full⟩).full:=by
 obtain ⟨u,hu,hI,HI,k0,k2,HLX⟩:=stq (c:=215) (imm:=imm) h;have c2:Hid (∀ W,InS g W m full->Calls prog 130 #[.pointer (some ⟨g.X,0,none⟩),.int .i64 16] W fun e w'=>e=.returned (.tuple #[])/\InS g w' (aR 16 ⟨m,full⟩).m (aR 16 ⟨m,full⟩).full):=fun W hi=>iX g m full _ W hi hg
 generalize aR 16 ⟨m,full⟩=t at *
 clear h hg hI i0 i1
 go_enter func87,ntmps87
 go_wp2_with fail
 rw [<- hu];clear hu k0 k2;refine Calls.mono (c2.out _ HI.out) ?_;rintro e w2 ⟨rfl,hi1⟩;have H2:Hid (InS g w2 t.m t.full):=hi1;clear hi1 HI c2;go_wp2;go_ret;exact ⟨rfl,H2.out⟩
theorem aVF (g:SG) (m:M) (full:Bool) (imm:Int) (i0:0<=imm) (i1:imm<=65535) (w:World) (h:InS g w m full) (hg:Stpq.Good m) :
  Calls prog 87 #[.pointer (some ⟨g.X,0,none⟩),.agg #[.int .i64 231,.bool false,.int .i64 imm]] w fun e w'=>e=.returned (.bool false)/\InS g w' (aR 32 ⟨m,full⟩).m (aR 32 ⟨m,full⟩).full:=by
 obtain ⟨u,hu,hI,HI,k0,k2,HLX⟩:=stq (c:=231) (imm:=imm) h;have c2:Hid (∀ W,InS g W m full->Calls prog 130 #[.pointer (some ⟨g.X,0,none⟩),.int .i64 32] W fun e w'=>e=.returned (.tuple #[])/\InS g w' (aR 32 ⟨m,full⟩).m (aR 32 ⟨m,full⟩).full):=fun W hi=>iX g m full _ W hi hg
 generalize aR 32 ⟨m,full⟩=t at *
 clear h hg hI i0 i1
 go_enter func87,ntmps87
 go_wp2_with fail
 rw [<- hu];clear hu k0 k2;refine Calls.mono (c2.out _ HI.out) ?_;rintro e w2 ⟨rfl,hi1⟩;have H2:Hid (InS g w2 t.m t.full):=hi1;clear hi1 HI c2;go_wp2;go_ret;exact ⟨rfl,H2.out⟩
theorem aVG (g:SG) (m:M) (full:Bool) (imm:Int) (i0:0<=imm) (i1:imm<=65535) (w:World) (h:InS g w m full) (hg:Stpq.Good m) :
  Calls prog 87 #[.pointer (some ⟨g.X,0,none⟩),.agg #[.int .i64 247,.bool false,.int .i64 imm]] w fun e w'=>e=.returned (.bool false)/\InS g w' (aR 48 ⟨m,full⟩).m (aR 48 ⟨m,full⟩).full:=by
 obtain ⟨u,hu,hI,HI,k0,k2,HLX⟩:=stq (c:=247) (imm:=imm) h;have c2:Hid (∀ W,InS g W m full->Calls prog 130 #[.pointer (some ⟨g.X,0,none⟩),.int .i64 48] W fun e w'=>e=.returned (.tuple #[])/\InS g w' (aR 48 ⟨m,full⟩).m (aR 48 ⟨m,full⟩).full):=fun W hi=>iX g m full _ W hi hg
 generalize aR 48 ⟨m,full⟩=t at *
 clear h hg hI i0 i1
 go_enter func87,ntmps87
 go_wp2_with fail
 rw [<- hu];clear hu k0 k2;refine Calls.mono (c2.out _ HI.out) ?_;rintro e w2 ⟨rfl,hi1⟩;have H2:Hid (InS g w2 t.m t.full):=hi1;clear hi1 HI c2;go_wp2;go_ret;exact ⟨rfl,H2.out⟩
end Stcn
end Go.Proofs.YteglcgnhhoenbaaGreatDoor
