import Derived.Test.YteglcgnhhoenbaaGreatDoorQ23
import Derived.Test.YteglcgnhhoenbaaGreatDoorQ22
set_option linter.all false
set_option maxRecDepth 20000
set_option maxHeartbeats 8000000
open Go.ChangeShapes Go.WideShapes Go.ChangeAt Go.RowKit
open Go.Proofs.Tryz
namespace Go.Proofs.YteglcgnhhoenbaaGreatDoor
namespace Stcz
open Go.Deep
open Signed (inB sgn aG aB)
open Reck ReckS ReckM ReckD TurnS
open Busw Busx Busy Stpp Stpq Stps Sta Stb Stck
theorem inT {n lo hi:Int} (h:lo<=n/\n<=hi):inB n lo hi=true:=x9 h
theorem vK {v f:Int} {d:Bool} (h1:0<=v/\v<=255) (h3:0<=f/\f<=255):st8 v f d=cP v f d:=by unfold st8;rw [inT h1,inT h3];rfl
theorem tD {a b f:Int} (h1:0<=a/\a<=65535) (h2:0<=b/\b<=65535) (h3:0<=f/\f<=255):aw a b f=awR a b f:=by unfold aw;rw [inT h1,inT h2,inT h3];rfl
theorem rK {a b:Int} (h1:0<=a/\a<=65535) (h2:0<=b/\b<=255):asg a b=asR a b:=by unfold asg;rw [inT h1,inT h2];rfl
theorem bBW {g:SG} {W:World} {m:M} {full:Bool} (h:InS g W m full):InS ⟨W,g.X⟩ W m full:=by
 obtain ⟨po,cap,h⟩:=h;exact ⟨po,cap,h.box,h.sl,h.ne,⟨rfl,rfl,rfl,Nat.le_refl _,fun _ _ _=>rfl⟩⟩
theorem back {g:SG} {W W':World} {m m':M} {full full':Bool} (h:InS g W m full) (h2:InS ⟨W,g.X⟩ W' m' full'):InS g W' m' full'/\W.grownBy W' (some g.X):=by
 obtain ⟨po,cap,h⟩:=h;obtain ⟨po',cap',h2⟩:=h2;exact ⟨⟨po',cap',h2.box,h2.sl,h2.ne,gA h.grown h2.grown⟩,h2.grown⟩
theorem both {g:SG} {f:FuncId} {args:Array Value} {W:World} {m m':M} {full full':Bool} {v:Value} (h:InS g W m full) (hc:∀ g':SG,g'.X=g.X->InS g' W m full->Calls prog f args W fun e w'=>e=.returned v/\InS g' w' m' full'):Calls prog f args W fun e w'=>e=.returned v/\InS g w' m' full'/\W.grownBy w' (some g.X) :=
 (hc ⟨W,g.X⟩ rfl (bBW h)).mono fun e w' h'=>⟨h'.1,(back h h'.2).1,(back h h'.2).2⟩
theorem fT {w w':World} {X b i:Nat} {v:Value} (h:w.grownBy w' (some X)) (hb:b<w.heap.size) (hx:¬ b=X) (hv:w.cell? ⟨b,i,none⟩=some v):w'.cell? ⟨b,i,none⟩=some v :=
 (World.cell?_of_block (a:=⟨b,i,none⟩) (h.block b hb (fun e=>hx (Option.some.inj e)))).trans hv
end Stcz
namespace Stcp
open Go.Deep
open Signed (inB sgn aG aB)
open Reck ReckS ReckM ReckD TurnS
open Busw Busx Busy Stpp Stpq Stps Sta Stb Stck Stcz
theorem aKH (g:SG) (m:M) (full:Bool) (imm:Int) (i0:0<=imm) (i1:imm<=65535) (w:World) (h:InS g w m full) (hg:Stpq.Good m) :
  Calls prog 83 #[.pointer (some ⟨g.X,0,none⟩),.agg #[.int .i64 2,.bool false,.int .i64 imm]] w fun e w'=>e=.returned (.bool false)/\InS g w' (wr ⟨m,full⟩ (pr m 0) m.ra).m (wr ⟨m,full⟩ (pr m 0) m.ra).full:=by
 obtain ⟨u,hu,hI,HI,k0,k2,HLX⟩:=stq (c:=2) (imm:=imm) h;have bd:=eC hg 0;have c1:Hid (∀ W,InS g W m full->Calls prog 124 #[.pointer (some ⟨g.X,0,none⟩),.int .i64 0,.bool false] W fun e w'=>e=.returned (.int .i64 (pr m 0))/\Below W.heap.size W w'):=fun W hi=>iF g m full 0 W hi hg (by omega) (by omega)
 have c2:Hid (∀ W,InS g W m full->Calls prog 119 #[.pointer (some ⟨g.X,0,none⟩),.int .i64 (pr m 0),.int .i64 m.ra] W fun e w'=>e=.returned (.tuple #[])/\InS g w' (wr ⟨m,full⟩ (pr m 0) m.ra).m (wr ⟨m,full⟩ (pr m 0) m.ra).full):=fun W hi=>gE g m full _ _ W hi hg.rt bd.1 hg.a.1 hg.a.2
 have g1:=dT (s:=⟨m,full⟩) hg (pr m 0) m.ra hg.a.1 hg.a.2;generalize wr ⟨m,full⟩ (pr m 0) m.ra=t at *
 generalize pr m 0=x1 at *
 clear bd g1;clear h hg hI i0 i1
 go_enter func83,ntmps83
 go_wp2_with fail
 rw [<- hu];clear hu k0 k2;refine Calls.mono (c1.out _ HI.out) ?_;rintro e w1 ⟨rfl,hb1⟩;have H1:=zHd (HI.out.below hb1);clear hb1 HI c1;have q0:=H1.out.cell 0 _ rfl
 go_wp2_with fail
 refine Calls.mono (c2.out _ H1.out) ?_;rintro e w2 ⟨rfl,hi1⟩;have H2:Hid (InS g w2 t.m t.full):=hi1;clear hi1 H1 c2;clear q0;go_wp2;go_ret;exact ⟨rfl,H2.out⟩
theorem bBX (g:SG) (m:M) (full:Bool) (imm:Int) (i0:0<=imm) (i1:imm<=65535) (w:World) (h:InS g w m full) (hg:Stpq.Good m) :
  Calls prog 83 #[.pointer (some ⟨g.X,0,none⟩),.agg #[.int .i64 10,.bool false,.int .i64 imm]] w fun e w'=>e=.returned (.bool false)/\InS g w' (⟨{ m with ra:=rd m (pr m 0) },full⟩ : S).m (⟨{ m with ra:=rd m (pr m 0) },full⟩ : S).full:=by
 obtain ⟨u,hu,hI,HI,k0,k2,HLX⟩:=stq (c:=10) (imm:=imm) h;have bd:=eC hg 0;have c1:Hid (∀ W,InS g W m full->Calls prog 124 #[.pointer (some ⟨g.X,0,none⟩),.int .i64 0,.bool false] W fun e w'=>e=.returned (.int .i64 (pr m 0))/\Below W.heap.size W w'):=fun W hi=>iF g m full 0 W hi hg (by omega) (by omega)
 have CR:Hid (∀ po cap W,Calls prog 100 #[.agg (aA m po cap),.int .i64 (pr m 0)] W fun e w'=>e=.returned (.int .i64 (rd m (pr m 0)))/\Below W.heap.size W w'):=fun po cap W=>eN m po cap _ W hg.rt bd.1
 have rb:=fN m (pr m 0);generalize rd m (pr m 0)=rv at *
 generalize pr m 0=x1 at *
 clear bd rb;clear h hg hI i0 i1
 go_enter func83,ntmps83
 go_wp2_with fail
 rw [<- hu];clear hu k0 k2;refine Calls.mono (c1.out _ HI.out) ?_;rintro e w1 ⟨rfl,hb1⟩;have H1:=zHd (HI.out.below hb1);clear hb1 HI c1;obtain ⟨po,cap,hA⟩:=H1.out;have hl:=hA.load (W':=w1) rfl;have CR2:=fun W=>CR.out po cap W
 generalize aA m po cap=cM at *
 clear hA CR
 go_upto_region 21 with fail
 refine wp_region_list ?_;refine wpList_plain rfl (fun K hK=>?_);go_simp;refine hK _ _ ?_;clear hK;refine wpList_plain rfl (fun K hK=>?_);go_simp;refine hK _ _ ?_;clear hK;refine wpList_plain rfl (fun K hK=>?_);go_simp;refine hK _ _ ?_;clear hK;refine wpList_plain rfl (fun K hK=>?_);go_simp;refine hK _ _ ?_;clear hK;refine dO rfl 30 _ rfl ⟨g.X,0,none⟩ rfl _ hl ?_
 go_wp2_with fail
 refine Calls.mono (CR2 _) ?_;rintro e w2 ⟨rfl,hb2⟩;have H2:=zHd (H1.out.below hb2);clear hb2 H1 CR2 hl;have q_ra:=H2.out.cell 0 _ rfl;have f_ra:=H2.out.fro 0;have HF:Hid (InS g (w2.setCell ⟨g.X,0,none⟩ (.int .i64 rv)) { m with ra:=rv } full):=H2.out.s_ra rv;clear H2;go_wp2;go_ret;exact ⟨rfl,HF.out⟩
theorem bBY (g:SG) (m:M) (full:Bool) (imm:Int) (i0:0<=imm) (i1:imm<=65535) (w:World) (h:InS g w m full) (hg:Stpq.Good m) :
  Calls prog 83 #[.pointer (some ⟨g.X,0,none⟩),.agg #[.int .i64 18,.bool false,.int .i64 imm]] w fun e w'=>e=.returned (.bool false)/\InS g w' (wr ⟨m,full⟩ (pr m 1) m.ra).m (wr ⟨m,full⟩ (pr m 1) m.ra).full:=by
 obtain ⟨u,hu,hI,HI,k0,k2,HLX⟩:=stq (c:=18) (imm:=imm) h;have bd:=eC hg 1;have c1:Hid (∀ W,InS g W m full->Calls prog 124 #[.pointer (some ⟨g.X,0,none⟩),.int .i64 1,.bool false] W fun e w'=>e=.returned (.int .i64 (pr m 1))/\Below W.heap.size W w'):=fun W hi=>iF g m full 1 W hi hg (by omega) (by omega)
 have c2:Hid (∀ W,InS g W m full->Calls prog 119 #[.pointer (some ⟨g.X,0,none⟩),.int .i64 (pr m 1),.int .i64 m.ra] W fun e w'=>e=.returned (.tuple #[])/\InS g w' (wr ⟨m,full⟩ (pr m 1) m.ra).m (wr ⟨m,full⟩ (pr m 1) m.ra).full):=fun W hi=>gE g m full _ _ W hi hg.rt bd.1 hg.a.1 hg.a.2
 have g1:=dT (s:=⟨m,full⟩) hg (pr m 1) m.ra hg.a.1 hg.a.2;generalize wr ⟨m,full⟩ (pr m 1) m.ra=t at *
 generalize pr m 1=x1 at *
 clear bd g1;clear h hg hI i0 i1
 go_enter func83,ntmps83
 go_wp2_with fail
 rw [<- hu];clear hu k0 k2;refine Calls.mono (c1.out _ HI.out) ?_;rintro e w1 ⟨rfl,hb1⟩;have H1:=zHd (HI.out.below hb1);clear hb1 HI c1;have q0:=H1.out.cell 0 _ rfl
 go_wp2_with fail
 refine Calls.mono (c2.out _ H1.out) ?_;rintro e w2 ⟨rfl,hi1⟩;have H2:Hid (InS g w2 t.m t.full):=hi1;clear hi1 H1 c2;clear q0;go_wp2;go_ret;exact ⟨rfl,H2.out⟩
theorem bBZ (g:SG) (m:M) (full:Bool) (imm:Int) (i0:0<=imm) (i1:imm<=65535) (w:World) (h:InS g w m full) (hg:Stpq.Good m) :
  Calls prog 83 #[.pointer (some ⟨g.X,0,none⟩),.agg #[.int .i64 26,.bool false,.int .i64 imm]] w fun e w'=>e=.returned (.bool false)/\InS g w' (⟨{ m with ra:=rd m (pr m 1) },full⟩ : S).m (⟨{ m with ra:=rd m (pr m 1) },full⟩ : S).full:=by
 obtain ⟨u,hu,hI,HI,k0,k2,HLX⟩:=stq (c:=26) (imm:=imm) h;have bd:=eC hg 1;have c1:Hid (∀ W,InS g W m full->Calls prog 124 #[.pointer (some ⟨g.X,0,none⟩),.int .i64 1,.bool false] W fun e w'=>e=.returned (.int .i64 (pr m 1))/\Below W.heap.size W w'):=fun W hi=>iF g m full 1 W hi hg (by omega) (by omega)
 have CR:Hid (∀ po cap W,Calls prog 100 #[.agg (aA m po cap),.int .i64 (pr m 1)] W fun e w'=>e=.returned (.int .i64 (rd m (pr m 1)))/\Below W.heap.size W w'):=fun po cap W=>eN m po cap _ W hg.rt bd.1
 have rb:=fN m (pr m 1);generalize rd m (pr m 1)=rv at *
 generalize pr m 1=x1 at *
 clear bd rb;clear h hg hI i0 i1
 go_enter func83,ntmps83
 go_wp2_with fail
 rw [<- hu];clear hu k0 k2;refine Calls.mono (c1.out _ HI.out) ?_;rintro e w1 ⟨rfl,hb1⟩;have H1:=zHd (HI.out.below hb1);clear hb1 HI c1;obtain ⟨po,cap,hA⟩:=H1.out;have hl:=hA.load (W':=w1) rfl;have CR2:=fun W=>CR.out po cap W
 generalize aA m po cap=cM at *
 clear hA CR
 go_upto_region 21 with fail
 refine wp_region_list ?_;refine wpList_plain rfl (fun K hK=>?_);go_simp;refine hK _ _ ?_;clear hK;refine wpList_plain rfl (fun K hK=>?_);go_simp;refine hK _ _ ?_;clear hK;refine wpList_plain rfl (fun K hK=>?_);go_simp;refine hK _ _ ?_;clear hK;refine wpList_plain rfl (fun K hK=>?_);go_simp;refine hK _ _ ?_;clear hK;refine dO rfl 30 _ rfl ⟨g.X,0,none⟩ rfl _ hl ?_
 go_wp2_with fail
 refine Calls.mono (CR2 _) ?_;rintro e w2 ⟨rfl,hb2⟩;have H2:=zHd (H1.out.below hb2);clear hb2 H1 CR2 hl;have q_ra:=H2.out.cell 0 _ rfl;have f_ra:=H2.out.fro 0;have HF:Hid (InS g (w2.setCell ⟨g.X,0,none⟩ (.int .i64 rv)) { m with ra:=rv } full):=H2.out.s_ra rv;clear H2;go_wp2;go_ret;exact ⟨rfl,HF.out⟩
theorem bCA (g:SG) (m:M) (full:Bool) (imm:Int) (i0:0<=imm) (i1:imm<=65535) (w:World) (h:InS g w m full) (hg:Stpq.Good m) :
  Calls prog 83 #[.pointer (some ⟨g.X,0,none⟩),.agg #[.int .i64 34,.bool false,.int .i64 imm]] w fun e w'=>e=.returned (.bool false)/\InS g w' (⟨aN (wr ⟨m,full⟩ (pr m 2) m.ra).m 2 ((pr m 2+1)%65536),(wr ⟨m,full⟩ (pr m 2) m.ra).full⟩ : S).m (⟨aN (wr ⟨m,full⟩ (pr m 2) m.ra).m 2 ((pr m 2+1)%65536),(wr ⟨m,full⟩ (pr m 2) m.ra).full⟩ : S).full:=by
 obtain ⟨u,hu,hI,HI,k0,k2,HLX⟩:=stq (c:=34) (imm:=imm) h;have bd:=eC hg 2;have d1:IntKind.i64.wrap (pr m 2+1)=pr m 2+1:=by rw [x6];omega
 have d2:(pr m 2+1).tmod 65536=(pr m 2+1)%65536:=x4 (by omega);have c1:Hid (∀ W,InS g W m full->Calls prog 124 #[.pointer (some ⟨g.X,0,none⟩),.int .i64 2,.bool false] W fun e w'=>e=.returned (.int .i64 (pr m 2))/\Below W.heap.size W w'):=fun W hi=>iF g m full 2 W hi hg (by omega) (by omega)
 have c2:Hid (∀ W,InS g W m full->Calls prog 119 #[.pointer (some ⟨g.X,0,none⟩),.int .i64 (pr m 2),.int .i64 m.ra] W fun e w'=>e=.returned (.tuple #[])/\InS g w' (wr ⟨m,full⟩ (pr m 2) m.ra).m (wr ⟨m,full⟩ (pr m 2) m.ra).full):=fun W hi=>gE g m full _ _ W hi hg.rt bd.1 hg.a.1 hg.a.2
 have g1:=dT (s:=⟨m,full⟩) hg (pr m 2) m.ra hg.a.1 hg.a.2;generalize wr ⟨m,full⟩ (pr m 2) m.ra=t at *
 have c3:Hid (∀ W,InS g W t.m t.full->Calls prog 121 #[.pointer (some ⟨g.X,0,none⟩),.int .i64 2,.int .i64 ((pr m 2+1)%65536),.bool false] W fun e w'=>e=.returned (.tuple #[])/\InS g w' (⟨aN t.m 2 ((pr m 2+1)%65536),t.full⟩ : S).m (⟨aN t.m 2 ((pr m 2+1)%65536),t.full⟩ : S).full):=fun W hi=>dL g t.m t.full 2 _ W hi g1 (by omega) (by omega) (by omega) (by omega)
 generalize (⟨aN t.m 2 ((pr m 2+1)%65536),t.full⟩ : S)=t2 at *
 generalize (pr m 2+1)%65536=vv at *
 generalize pr m 2=x1 at *
 clear bd g1;clear h hg hI i0 i1
 go_enter func83,ntmps83
 go_wp2_with fail
 rw [<- hu];clear hu k0 k2;refine Calls.mono (c1.out _ HI.out) ?_;rintro e w1 ⟨rfl,hb1⟩;have H1:=zHd (HI.out.below hb1);clear hb1 HI c1;have q0:=H1.out.cell 0 _ rfl
 go_wp2_with fail
 refine Calls.mono (c2.out _ H1.out) ?_;rintro e w2 ⟨rfl,hi1⟩;have H2:Hid (InS g w2 t.m t.full):=hi1;clear hi1 H1 c2;clear q0
 go_wp2_with fail
 refine Calls.mono (c3.out _ (H2.out.below (by repeat (with_reducible first|exact zRf|refine zGr ?_ _|refine below_drewN ?_ _|refine Below.drew ?_)))) ?_;rintro e w3 ⟨rfl,hi1⟩;have H3:Hid (InS g w3 t2.m t2.full):=hi1;clear hi1 H2 c3;go_wp2;go_ret;exact ⟨rfl,H3.out⟩
theorem bCB (g:SG) (m:M) (full:Bool) (imm:Int) (i0:0<=imm) (i1:imm<=65535) (w:World) (h:InS g w m full) (hg:Stpq.Good m) :
  Calls prog 83 #[.pointer (some ⟨g.X,0,none⟩),.agg #[.int .i64 42,.bool false,.int .i64 imm]] w fun e w'=>e=.returned (.bool false)/\InS g w' (⟨aN { m with ra:=rd m (pr m 2) } 2 ((pr m 2+1)%65536),full⟩ : S).m (⟨aN { m with ra:=rd m (pr m 2) } 2 ((pr m 2+1)%65536),full⟩ : S).full:=by
 obtain ⟨u,hu,hI,HI,k0,k2,HLX⟩:=stq (c:=42) (imm:=imm) h;have bd:=eC hg 2;have d1:IntKind.i64.wrap (pr m 2+1)=pr m 2+1:=by rw [x6];omega
 have d2:(pr m 2+1).tmod 65536=(pr m 2+1)%65536:=x4 (by omega);have c1:Hid (∀ W,InS g W m full->Calls prog 124 #[.pointer (some ⟨g.X,0,none⟩),.int .i64 2,.bool false] W fun e w'=>e=.returned (.int .i64 (pr m 2))/\Below W.heap.size W w'):=fun W hi=>iF g m full 2 W hi hg (by omega) (by omega)
 have CR:Hid (∀ po cap W,Calls prog 100 #[.agg (aA m po cap),.int .i64 (pr m 2)] W fun e w'=>e=.returned (.int .i64 (rd m (pr m 2)))/\Below W.heap.size W w'):=fun po cap W=>eN m po cap _ W hg.rt bd.1
 have rb:=fN m (pr m 2);generalize rd m (pr m 2)=rv at *
 have g1:=kQ hg rv rb.1 rb.2;have c3:Hid (∀ W,InS g W { m with ra:=rv } full->Calls prog 121 #[.pointer (some ⟨g.X,0,none⟩),.int .i64 2,.int .i64 ((pr m 2+1)%65536),.bool false] W fun e w'=>e=.returned (.tuple #[])/\InS g w' (⟨aN { m with ra:=rv } 2 ((pr m 2+1)%65536),full⟩ : S).m (⟨aN { m with ra:=rv } 2 ((pr m 2+1)%65536),full⟩ : S).full):=fun W hi=>dL g { m with ra:=rv } full 2 _ W hi g1 (by omega) (by omega) (by omega) (by omega)
 generalize (⟨aN { m with ra:=rv } 2 ((pr m 2+1)%65536),full⟩ : S)=t2 at *
 generalize (pr m 2+1)%65536=vv at *
 clear g1;generalize pr m 2=x1 at *
 clear bd rb;clear h hg hI i0 i1
 go_enter func83,ntmps83
 go_wp2_with fail
 rw [<- hu];clear hu k0 k2;refine Calls.mono (c1.out _ HI.out) ?_;rintro e w1 ⟨rfl,hb1⟩;have H1:=zHd (HI.out.below hb1);clear hb1 HI c1;obtain ⟨po,cap,hA⟩:=H1.out;have hl:=hA.load (W':=w1) rfl;have CR2:=fun W=>CR.out po cap W
 generalize aA m po cap=cM at *
 clear hA CR
 go_upto_region 21 with fail
 refine wp_region_list ?_;refine wpList_plain rfl (fun K hK=>?_);go_simp;refine hK _ _ ?_;clear hK;refine wpList_plain rfl (fun K hK=>?_);go_simp;refine hK _ _ ?_;clear hK;refine wpList_plain rfl (fun K hK=>?_);go_simp;refine hK _ _ ?_;clear hK;refine wpList_plain rfl (fun K hK=>?_);go_simp;refine hK _ _ ?_;clear hK;refine dO rfl 30 _ rfl ⟨g.X,0,none⟩ rfl _ hl ?_
 go_wp2_with fail
 refine Calls.mono (CR2 _) ?_;rintro e w2 ⟨rfl,hb2⟩;have H2:=zHd (H1.out.below hb2);clear hb2 H1 CR2 hl;have q_ra:=H2.out.cell 0 _ rfl;have f_ra:=H2.out.fro 0;have HF:Hid (InS g (w2.setCell ⟨g.X,0,none⟩ (.int .i64 rv)) { m with ra:=rv } full):=H2.out.s_ra rv;clear H2
 go_wp2_with fail
 refine Calls.mono (c3.out _ (HF.out.below (by repeat (with_reducible first|exact zRf|refine zGr ?_ _|refine below_drewN ?_ _|refine Below.drew ?_)))) ?_;rintro e w3 ⟨rfl,hi1⟩;have H3:Hid (InS g w3 t2.m t2.full):=hi1;clear hi1 HF c3;go_wp2;go_ret;exact ⟨rfl,H3.out⟩
theorem bCC (g:SG) (m:M) (full:Bool) (imm:Int) (i0:0<=imm) (i1:imm<=65535) (w:World) (h:InS g w m full) (hg:Stpq.Good m) :
  Calls prog 83 #[.pointer (some ⟨g.X,0,none⟩),.agg #[.int .i64 50,.bool false,.int .i64 imm]] w fun e w'=>e=.returned (.bool false)/\InS g w' (⟨aN (wr ⟨m,full⟩ (pr m 2) m.ra).m 2 ((pr m 2+65535)%65536),(wr ⟨m,full⟩ (pr m 2) m.ra).full⟩ : S).m (⟨aN (wr ⟨m,full⟩ (pr m 2) m.ra).m 2 ((pr m 2+65535)%65536),(wr ⟨m,full⟩ (pr m 2) m.ra).full⟩ : S).full:=by
 obtain ⟨u,hu,hI,HI,k0,k2,HLX⟩:=stq (c:=50) (imm:=imm) h;have bd:=eC hg 2;have d1:IntKind.i64.wrap (pr m 2+65535)=pr m 2+65535:=by rw [x6];omega
 have d2:(pr m 2+65535).tmod 65536=(pr m 2+65535)%65536:=x4 (by omega);have c1:Hid (∀ W,InS g W m full->Calls prog 124 #[.pointer (some ⟨g.X,0,none⟩),.int .i64 2,.bool false] W fun e w'=>e=.returned (.int .i64 (pr m 2))/\Below W.heap.size W w'):=fun W hi=>iF g m full 2 W hi hg (by omega) (by omega)
 have c2:Hid (∀ W,InS g W m full->Calls prog 119 #[.pointer (some ⟨g.X,0,none⟩),.int .i64 (pr m 2),.int .i64 m.ra] W fun e w'=>e=.returned (.tuple #[])/\InS g w' (wr ⟨m,full⟩ (pr m 2) m.ra).m (wr ⟨m,full⟩ (pr m 2) m.ra).full):=fun W hi=>gE g m full _ _ W hi hg.rt bd.1 hg.a.1 hg.a.2
 have g1:=dT (s:=⟨m,full⟩) hg (pr m 2) m.ra hg.a.1 hg.a.2;generalize wr ⟨m,full⟩ (pr m 2) m.ra=t at *
 have c3:Hid (∀ W,InS g W t.m t.full->Calls prog 121 #[.pointer (some ⟨g.X,0,none⟩),.int .i64 2,.int .i64 ((pr m 2+65535)%65536),.bool false] W fun e w'=>e=.returned (.tuple #[])/\InS g w' (⟨aN t.m 2 ((pr m 2+65535)%65536),t.full⟩ : S).m (⟨aN t.m 2 ((pr m 2+65535)%65536),t.full⟩ : S).full):=fun W hi=>dL g t.m t.full 2 _ W hi g1 (by omega) (by omega) (by omega) (by omega)
 generalize (⟨aN t.m 2 ((pr m 2+65535)%65536),t.full⟩ : S)=t2 at *
 generalize (pr m 2+65535)%65536=vv at *
 generalize pr m 2=x1 at *
 clear bd g1;clear h hg hI i0 i1
 go_enter func83,ntmps83
 go_wp2_with fail
 rw [<- hu];clear hu k0 k2;refine Calls.mono (c1.out _ HI.out) ?_;rintro e w1 ⟨rfl,hb1⟩;have H1:=zHd (HI.out.below hb1);clear hb1 HI c1;have q0:=H1.out.cell 0 _ rfl
 go_wp2_with fail
 refine Calls.mono (c2.out _ H1.out) ?_;rintro e w2 ⟨rfl,hi1⟩;have H2:Hid (InS g w2 t.m t.full):=hi1;clear hi1 H1 c2;clear q0
 go_wp2_with fail
 refine Calls.mono (c3.out _ (H2.out.below (by repeat (with_reducible first|exact zRf|refine zGr ?_ _|refine below_drewN ?_ _|refine Below.drew ?_)))) ?_;rintro e w3 ⟨rfl,hi1⟩;have H3:Hid (InS g w3 t2.m t2.full):=hi1;clear hi1 H2 c3;go_wp2;go_ret;exact ⟨rfl,H3.out⟩
theorem bCD (g:SG) (m:M) (full:Bool) (imm:Int) (i0:0<=imm) (i1:imm<=65535) (w:World) (h:InS g w m full) (hg:Stpq.Good m) :
  Calls prog 83 #[.pointer (some ⟨g.X,0,none⟩),.agg #[.int .i64 58,.bool false,.int .i64 imm]] w fun e w'=>e=.returned (.bool false)/\InS g w' (⟨aN { m with ra:=rd m (pr m 2) } 2 ((pr m 2+65535)%65536),full⟩ : S).m (⟨aN { m with ra:=rd m (pr m 2) } 2 ((pr m 2+65535)%65536),full⟩ : S).full:=by
 obtain ⟨u,hu,hI,HI,k0,k2,HLX⟩:=stq (c:=58) (imm:=imm) h;have bd:=eC hg 2;have d1:IntKind.i64.wrap (pr m 2+65535)=pr m 2+65535:=by rw [x6];omega
 have d2:(pr m 2+65535).tmod 65536=(pr m 2+65535)%65536:=x4 (by omega);have c1:Hid (∀ W,InS g W m full->Calls prog 124 #[.pointer (some ⟨g.X,0,none⟩),.int .i64 2,.bool false] W fun e w'=>e=.returned (.int .i64 (pr m 2))/\Below W.heap.size W w'):=fun W hi=>iF g m full 2 W hi hg (by omega) (by omega)
 have CR:Hid (∀ po cap W,Calls prog 100 #[.agg (aA m po cap),.int .i64 (pr m 2)] W fun e w'=>e=.returned (.int .i64 (rd m (pr m 2)))/\Below W.heap.size W w'):=fun po cap W=>eN m po cap _ W hg.rt bd.1
 have rb:=fN m (pr m 2);generalize rd m (pr m 2)=rv at *
 have g1:=kQ hg rv rb.1 rb.2;have c3:Hid (∀ W,InS g W { m with ra:=rv } full->Calls prog 121 #[.pointer (some ⟨g.X,0,none⟩),.int .i64 2,.int .i64 ((pr m 2+65535)%65536),.bool false] W fun e w'=>e=.returned (.tuple #[])/\InS g w' (⟨aN { m with ra:=rv } 2 ((pr m 2+65535)%65536),full⟩ : S).m (⟨aN { m with ra:=rv } 2 ((pr m 2+65535)%65536),full⟩ : S).full):=fun W hi=>dL g { m with ra:=rv } full 2 _ W hi g1 (by omega) (by omega) (by omega) (by omega)
 generalize (⟨aN { m with ra:=rv } 2 ((pr m 2+65535)%65536),full⟩ : S)=t2 at *
 generalize (pr m 2+65535)%65536=vv at *
 clear g1;generalize pr m 2=x1 at *
 clear bd rb;clear h hg hI i0 i1
 go_enter func83,ntmps83
 go_wp2_with fail
 rw [<- hu];clear hu k0 k2;refine Calls.mono (c1.out _ HI.out) ?_;rintro e w1 ⟨rfl,hb1⟩;have H1:=zHd (HI.out.below hb1);clear hb1 HI c1;obtain ⟨po,cap,hA⟩:=H1.out;have hl:=hA.load (W':=w1) rfl;have CR2:=fun W=>CR.out po cap W
 generalize aA m po cap=cM at *
 clear hA CR
 go_upto_region 21 with fail
 refine wp_region_list ?_;refine wpList_plain rfl (fun K hK=>?_);go_simp;refine hK _ _ ?_;clear hK;refine wpList_plain rfl (fun K hK=>?_);go_simp;refine hK _ _ ?_;clear hK;refine wpList_plain rfl (fun K hK=>?_);go_simp;refine hK _ _ ?_;clear hK;refine wpList_plain rfl (fun K hK=>?_);go_simp;refine hK _ _ ?_;clear hK;refine dO rfl 30 _ rfl ⟨g.X,0,none⟩ rfl _ hl ?_
 go_wp2_with fail
 refine Calls.mono (CR2 _) ?_;rintro e w2 ⟨rfl,hb2⟩;have H2:=zHd (H1.out.below hb2);clear hb2 H1 CR2 hl;have q_ra:=H2.out.cell 0 _ rfl;have f_ra:=H2.out.fro 0;have HF:Hid (InS g (w2.setCell ⟨g.X,0,none⟩ (.int .i64 rv)) { m with ra:=rv } full):=H2.out.s_ra rv;clear H2
 go_wp2_with fail
 refine Calls.mono (c3.out _ (HF.out.below (by repeat (with_reducible first|exact zRf|refine zGr ?_ _|refine below_drewN ?_ _|refine Below.drew ?_)))) ?_;rintro e w3 ⟨rfl,hi1⟩;have H3:Hid (InS g w3 t2.m t2.full):=hi1;clear hi1 HF c3;go_wp2;go_ret;exact ⟨rfl,H3.out⟩
end Stcp
namespace Stcr
open Go.Deep
open Signed (inB sgn aG aB)
open Reck ReckS ReckM ReckD TurnS
open Busw Busx Busy Stpp Stpq Stps Sta Stb Stck Stcz
theorem bCE (g:SG) (m:M) (full:Bool) (imm:Int) (c y:Int) (c0:0<=c) (hy:c / 8=y) (y0:0<=y) (y1:y<=7) (hz:c%8=4) (i0:0<=imm) (i1:imm<=65535) (w:World) (h:InS g w m full) (hg:Stpq.Good m) :
  Calls prog 83 #[.pointer (some ⟨g.X,0,none⟩),.agg #[.int .i64 c,.bool false,.int .i64 imm]] w fun e w'=>e=.returned (.bool false)/\InS g w' (F (put ⟨m,full⟩ y (cP (Stpp.get m y) m.rf false).1) (cP (Stpp.get m y) m.rf false).2).m (F (put ⟨m,full⟩ y (cP (Stpp.get m y) m.rf false).1) (cP (Stpp.get m y) m.rf false).2).full:=by
 obtain ⟨u,hu,hI,HI,k0,k2,HLX⟩:=stq (c:=c) (imm:=imm) h;have t1:c.tdiv 8=y:=by rw [x5 c0];exact hy
 have t2:c.tmod 8=4:=by rw [x4 c0];exact hz
 have t3:IntKind.i64.wrap y=y:=by rw [x6];omega
 have t4:y.tdiv 2=y / 2:=x5 y0;have t5:IntKind.i64.wrap (y / 2)=y / 2:=by rw [x6];omega
 have c1:Rg 85 #[.pointer (some ⟨g.X,0,none⟩),.int .i64 y] u (.int .i64 (Stpp.get m y)):=rg fun W hb=>yA g m full y W (hI.below hb) hg y0 y1
 have c2:Rg 125 #[.int .i64 (Stpp.get m y),.int .i64 m.rf,.bool false] u (.tuple #[.int .i64 (cP (Stpp.get m y) m.rf false).1,.int .i64 (cP (Stpp.get m y) m.rf false).2]):=rg fun W hb=>(iS (Stpp.get m y) m.rf false W).mono fun e w' h=>⟨by rw [<- vK (dN hg y) hg.f];exact h.1,by rw [h.2];exact zRf⟩
 have bd:=qZ (v:=Stpp.get m y) (f:=m.rf) false;generalize (cP (Stpp.get m y) m.rf false).1=v1 at *
 generalize (cP (Stpp.get m y) m.rf false).2=v2 at *
 have c3:Hid (∀ W,InS g W m full->Calls prog 84 #[.pointer (some ⟨g.X,0,none⟩),.int .i64 y,.int .i64 v1] W fun e w'=>e=.returned (.tuple #[])/\InS g w' (put ⟨m,full⟩ y v1).m (put ⟨m,full⟩ y v1).full):=fun W hi=>aCC g m full _ _ W hi hg y0 y1 bd.1 bd.2.1
 generalize put ⟨m,full⟩ y v1=t at *
 generalize Stpp.get m y=x1 at *
 have r0:=x7 (hI.cell 1 _ rfl);clear bd;clear h hg hI i0 i1 hy hz y0 y1 c0
 go_enter func83,ntmps83
 go_upto_region 27 with fail
 rw [<- hu];clear hu;refine wp_region_quiet_below (by kernel_rfl) (by kernel_rfl) ?_
 repeat (first|(go_big_quiet_step (first|with_reducible exact c1 _ _|with_reducible exact c2 _ _))|(refine aK (by rfl) 30 _ rfl ⟨g.X,0,none⟩ rfl _ (fun W hW=>by obtain ⟨⟨d,o⟩,rfl⟩:=hW;exact hld d o) ?_;simp only [Act.put,List.setIfInBounds_toArray,List.set_cons_succ,List.set_cons_zero]))
 refine wpQuiet_nil ?_;intro _ hw';obtain ⟨⟨dq,osq⟩,hw''⟩:=hw';subst hw'';have H2:=zHd (HI.out.below (x8 u dq osq));have hbg:=x8 u dq osq;generalize Go.Sort.grow (redrawn u dq) osq=W2 at *
 clear HI r0 c1 c2
 go_wp2_with fail
 refine Calls.mono (c3.out _ H2.out) ?_;rintro e w3 ⟨rfl,hi1⟩;have H3:Hid (InS g w3 t.m t.full):=hi1;clear hi1 H2 c3;have q_rf:=H3.out.cell 1 _ rfl;have f_rf:=H3.out.fro 1;have HF:Hid (InS g (w3.setCell ⟨g.X,1,none⟩ (.int .i64 v2)) { t.m with rf:=v2 } t.full):=H3.out.s_rf v2;clear H3;go_wp2;go_ret;exact ⟨rfl,HF.out⟩
theorem bCF (g:SG) (m:M) (full:Bool) (imm:Int) (c y:Int) (c0:0<=c) (hy:c / 8=y) (y0:0<=y) (y1:y<=7) (hz:c%8=5) (i0:0<=imm) (i1:imm<=65535) (w:World) (h:InS g w m full) (hg:Stpq.Good m) :
  Calls prog 83 #[.pointer (some ⟨g.X,0,none⟩),.agg #[.int .i64 c,.bool false,.int .i64 imm]] w fun e w'=>e=.returned (.bool false)/\InS g w' (F (put ⟨m,full⟩ y (cP (Stpp.get m y) m.rf true).1) (cP (Stpp.get m y) m.rf true).2).m (F (put ⟨m,full⟩ y (cP (Stpp.get m y) m.rf true).1) (cP (Stpp.get m y) m.rf true).2).full:=by
 obtain ⟨u,hu,hI,HI,k0,k2,HLX⟩:=stq (c:=c) (imm:=imm) h;have t1:c.tdiv 8=y:=by rw [x5 c0];exact hy
 have t2:c.tmod 8=5:=by rw [x4 c0];exact hz
 have t3:IntKind.i64.wrap y=y:=by rw [x6];omega
 have t4:y.tdiv 2=y / 2:=x5 y0;have t5:IntKind.i64.wrap (y / 2)=y / 2:=by rw [x6];omega
 have c1:Rg 85 #[.pointer (some ⟨g.X,0,none⟩),.int .i64 y] u (.int .i64 (Stpp.get m y)):=rg fun W hb=>yA g m full y W (hI.below hb) hg y0 y1
 have c2:Rg 125 #[.int .i64 (Stpp.get m y),.int .i64 m.rf,.bool true] u (.tuple #[.int .i64 (cP (Stpp.get m y) m.rf true).1,.int .i64 (cP (Stpp.get m y) m.rf true).2]):=rg fun W hb=>(iS (Stpp.get m y) m.rf true W).mono fun e w' h=>⟨by rw [<- vK (dN hg y) hg.f];exact h.1,by rw [h.2];exact zRf⟩
 have bd:=qZ (v:=Stpp.get m y) (f:=m.rf) true;generalize (cP (Stpp.get m y) m.rf true).1=v1 at *
 generalize (cP (Stpp.get m y) m.rf true).2=v2 at *
 have c3:Hid (∀ W,InS g W m full->Calls prog 84 #[.pointer (some ⟨g.X,0,none⟩),.int .i64 y,.int .i64 v1] W fun e w'=>e=.returned (.tuple #[])/\InS g w' (put ⟨m,full⟩ y v1).m (put ⟨m,full⟩ y v1).full):=fun W hi=>aCC g m full _ _ W hi hg y0 y1 bd.1 bd.2.1
 generalize put ⟨m,full⟩ y v1=t at *
 generalize Stpp.get m y=x1 at *
 have r0:=x7 (hI.cell 1 _ rfl);clear bd;clear h hg hI i0 i1 hy hz y0 y1 c0
 go_enter func83,ntmps83
 go_upto_region 27 with fail
 rw [<- hu];clear hu;refine wp_region_quiet_below (by kernel_rfl) (by kernel_rfl) ?_
 repeat (first|(go_big_quiet_step (first|with_reducible exact c1 _ _|with_reducible exact c2 _ _))|(refine aK (by rfl) 30 _ rfl ⟨g.X,0,none⟩ rfl _ (fun W hW=>by obtain ⟨⟨d,o⟩,rfl⟩:=hW;exact hld d o) ?_;simp only [Act.put,List.setIfInBounds_toArray,List.set_cons_succ,List.set_cons_zero]))
 refine wpQuiet_nil ?_;intro _ hw';obtain ⟨⟨dq,osq⟩,hw''⟩:=hw';subst hw'';have H2:=zHd (HI.out.below (x8 u dq osq));have hbg:=x8 u dq osq;generalize Go.Sort.grow (redrawn u dq) osq=W2 at *
 clear HI r0 c1 c2
 go_wp2_with fail
 refine Calls.mono (c3.out _ H2.out) ?_;rintro e w3 ⟨rfl,hi1⟩;have H3:Hid (InS g w3 t.m t.full):=hi1;clear hi1 H2 c3;have q_rf:=H3.out.cell 1 _ rfl;have f_rf:=H3.out.fro 1;have HF:Hid (InS g (w3.setCell ⟨g.X,1,none⟩ (.int .i64 v2)) { t.m with rf:=v2 } t.full):=H3.out.s_rf v2;clear H3;go_wp2;go_ret;exact ⟨rfl,HF.out⟩
theorem bCG (g:SG) (m:M) (full:Bool) (imm:Int) (c y:Int) (c0:0<=c) (hy:c / 8=y) (y0:0<=y) (y1:y<=7) (hz:c%8=6) (ib:imm<=255) (i0:0<=imm) (i1:imm<=65535) (w:World) (h:InS g w m full) (hg:Stpq.Good m) :
  Calls prog 83 #[.pointer (some ⟨g.X,0,none⟩),.agg #[.int .i64 c,.bool false,.int .i64 imm]] w fun e w'=>e=.returned (.bool false)/\InS g w' (put ⟨m,full⟩ y imm).m (put ⟨m,full⟩ y imm).full:=by
 obtain ⟨u,hu,hI,HI,k0,k2,HLX⟩:=stq (c:=c) (imm:=imm) h;have t1:c.tdiv 8=y:=by rw [x5 c0];exact hy
 have t2:c.tmod 8=6:=by rw [x4 c0];exact hz
 have t3:IntKind.i64.wrap y=y:=by rw [x6];omega
 have t4:y.tdiv 2=y / 2:=x5 y0;have t5:IntKind.i64.wrap (y / 2)=y / 2:=by rw [x6];omega
 have c3:Hid (∀ W,InS g W m full->Calls prog 84 #[.pointer (some ⟨g.X,0,none⟩),.int .i64 y,.int .i64 imm] W fun e w'=>e=.returned (.tuple #[])/\InS g w' (put ⟨m,full⟩ y imm).m (put ⟨m,full⟩ y imm).full):=fun W hi=>aCC g m full _ _ W hi hg y0 y1 i0 ib
 generalize put ⟨m,full⟩ y imm=t at *
 clear h hg hI i0 i1 hy hz y0 y1 c0
 go_enter func83,ntmps83
 go_wp2_with fail
 rw [<- hu];clear hu k0 k2;refine Calls.mono (c3.out _ HI.out) ?_;rintro e w3 ⟨rfl,hi1⟩;have H3:Hid (InS g w3 t.m t.full):=hi1;clear hi1 HI c3;go_wp2;go_ret;exact ⟨rfl,H3.out⟩
theorem bCH (g:SG) (m:M) (full:Bool) (imm:Int) (c y:Int) (c0:0<=c) (hy:c / 8=y) (y0:0<=y) (y1:y<=7) (hz:c%8=7) (i0:0<=imm) (i1:imm<=65535) (w:World) (h:InS g w m full) (hg:Stpq.Good m) :
  Calls prog 83 #[.pointer (some ⟨g.X,0,none⟩),.agg #[.int .i64 c,.bool false,.int .i64 imm]] w fun e w'=>e=.returned (.bool false)/\InS g w' (gY y ⟨m,full⟩).m (gY y ⟨m,full⟩).full:=by
 obtain ⟨u,hu,hI,HI,k0,k2,HLX⟩:=stq (c:=c) (imm:=imm) h;have t1:c.tdiv 8=y:=by rw [x5 c0];exact hy
 have t2:c.tmod 8=7:=by rw [x4 c0];exact hz
 have t3:IntKind.i64.wrap y=y:=by rw [x6];omega
 have t4:y.tdiv 2=y / 2:=x5 y0;have t5:IntKind.i64.wrap (y / 2)=y / 2:=by rw [x6];omega
 have c3:Hid (∀ W,InS g W m full->Calls prog 126 #[.pointer (some ⟨g.X,0,none⟩),.int .i64 y] W fun e w'=>e=.returned (.tuple #[])/\InS g w' (gY y ⟨m,full⟩).m (gY y ⟨m,full⟩).full):=fun W hi=>bLK g m full _ W hi hg y0 y1
 generalize gY y ⟨m,full⟩=t at *
 clear h hg hI i0 i1 hy hz y0 y1 c0
 go_enter func83,ntmps83
 go_wp2_with fail
 rw [<- hu];clear hu k0 k2;refine Calls.mono (c3.out _ HI.out) ?_;rintro e w3 ⟨rfl,hi1⟩;have H3:Hid (InS g w3 t.m t.full):=hi1;clear hi1 HI c3;go_wp2;go_ret;exact ⟨rfl,H3.out⟩
end Stcr
namespace Stpk
open Go.Deep
open Signed (inB sgn aG aB)
open Busw Busx Stpp Stpi Stpj Stpr
theorem kR (p q:Addr) (a b:Int) (w:World) (c1:w.cell? p=some (.int .i64 a)) (c2:w.cell? q=some (.int .i64 b)) (a0:0<=a) (a1:a<=255) (b0:0<=b) (b1:b<=255) :
  Calls prog 178 #[.agg #[.pointer (some p),.pointer (some q)]] w fun e w'=>e=.returned (.int .i64 (256*a+b))/\Below w.heap.size w w':=by
 have l1:=World.block_lt_of_cell? w p c1;have l2:=World.block_lt_of_cell? w q c2
 go_enter func178,ntmps178
 go_wp2_with fail
 go_quiet (fail)
 go_wp2;go_ret;exact ⟨aG (by omega),by repeat (with_reducible first|exact zRf|refine zGr ?_ _|refine below_drewN ?_ _|refine Below.drew ?_)⟩
theorem aNB (q:Addr) (b:Int) (w:World) (c2:w.cell? q=some (.int .i64 b)) :
  Calls prog 178 #[.agg #[.pointer none,.pointer (some q)]] w fun e w'=>e=.returned (.int .i64 b)/\Below w.heap.size w w':=by
 have l2:=World.block_lt_of_cell? w q c2
 go_enter func178,ntmps178
 go_wp2;go_ret;exact ⟨rfl,by repeat (with_reducible first|exact zRf|refine zGr ?_ _|refine below_drewN ?_ _|refine Below.drew ?_)⟩
theorem aTZ (g:G) (m:M) (full:Bool) (v:Int) (w:World) (h:In g w m full) :
  Calls prog 175 #[.agg #[.pointer (some ⟨g.B,2,none⟩),.pointer (some ⟨g.B,3,none⟩)],.int .i64 v] w fun e w'=>e=.returned (.tuple #[])/\In g w' { m with rB:=v%65536 / 256,rC:=v%65536%256 } full:=by
 have c1:=fun w=>cX v w
 obtain ⟨q,hq⟩ : ∃ q,q=v%65536:=⟨_,rfl⟩
 have hq2:=jR v;rw [<- hq] at c1 hq2 |-
 obtain ⟨q0,q1⟩:=hq2;have e1:=h.cell 2 _ rfl;have e2:=h.cell 3 _ rfl;have f1:=h.fro 2;have f2:=h.fro 3;have l1:=h.ltB;have t1:q.tdiv 256=q / 256:=x5 q0;have t2:q.tmod 256=q%256:=x4 q0;have t3:IntKind.i64.wrap (q / 256)=q / 256:=by rw [x6];omega
 have HE:Hid (∀ o,In g ((((w.setCell ⟨g.B,2,none⟩ (.int .i64 (q / 256))).setCell ⟨g.B,3,none⟩ (.int .i64 (q%256))).alloc o).drew) { m with rB:=q / 256,rC:=q%256 } full):=fun o=>(((h.s_rB _).s_rC _).below (zRf.alloc (Nat.le_refl _) o).drew)
 clear h hq
 go_enter func175,ntmps175
 go_wp2_with (go_at_call 93;refine (c1 _).mono ?_;rintro e w' ⟨rfl,hw'⟩;have hw':=hw'.symm;subst hw')
 go_region_with (fail)
 all_goals go_wp2
 all_goals go_end0
 all_goals exact ⟨rfl,HE.out _⟩
theorem aUA (g:G) (m:M) (full:Bool) (v:Int) (w:World) (h:In g w m full) :
  Calls prog 175 #[.agg #[.pointer (some ⟨g.B,4,none⟩),.pointer (some ⟨g.B,5,none⟩)],.int .i64 v] w fun e w'=>e=.returned (.tuple #[])/\In g w' { m with rD:=v%65536 / 256,rE:=v%65536%256 } full:=by
 have c1:=fun w=>cX v w
 obtain ⟨q,hq⟩ : ∃ q,q=v%65536:=⟨_,rfl⟩
 have hq2:=jR v;rw [<- hq] at c1 hq2 |-
 obtain ⟨q0,q1⟩:=hq2;have e1:=h.cell 4 _ rfl;have e2:=h.cell 5 _ rfl;have f1:=h.fro 4;have f2:=h.fro 5;have l1:=h.ltB;have t1:q.tdiv 256=q / 256:=x5 q0;have t2:q.tmod 256=q%256:=x4 q0;have t3:IntKind.i64.wrap (q / 256)=q / 256:=by rw [x6];omega
 have HE:Hid (∀ o,In g ((((w.setCell ⟨g.B,4,none⟩ (.int .i64 (q / 256))).setCell ⟨g.B,5,none⟩ (.int .i64 (q%256))).alloc o).drew) { m with rD:=q / 256,rE:=q%256 } full):=fun o=>(((h.s_rD _).s_rE _).below (zRf.alloc (Nat.le_refl _) o).drew)
 clear h hq
 go_enter func175,ntmps175
 go_wp2_with (go_at_call 93;refine (c1 _).mono ?_;rintro e w' ⟨rfl,hw'⟩;have hw':=hw'.symm;subst hw')
 go_region_with (fail)
 all_goals go_wp2
 all_goals go_end0
 all_goals exact ⟨rfl,HE.out _⟩
theorem aUB (g:G) (m:M) (full:Bool) (v:Int) (w:World) (h:In g w m full) :
  Calls prog 175 #[.agg #[.pointer (some ⟨g.B,6,none⟩),.pointer (some ⟨g.B,7,none⟩)],.int .i64 v] w fun e w'=>e=.returned (.tuple #[])/\In g w' { m with rH:=v%65536 / 256,rL:=v%65536%256 } full:=by
 have c1:=fun w=>cX v w
 obtain ⟨q,hq⟩ : ∃ q,q=v%65536:=⟨_,rfl⟩
 have hq2:=jR v;rw [<- hq] at c1 hq2 |-
 obtain ⟨q0,q1⟩:=hq2;have e1:=h.cell 6 _ rfl;have e2:=h.cell 7 _ rfl;have f1:=h.fro 6;have f2:=h.fro 7;have l1:=h.ltB;have t1:q.tdiv 256=q / 256:=x5 q0;have t2:q.tmod 256=q%256:=x4 q0;have t3:IntKind.i64.wrap (q / 256)=q / 256:=by rw [x6];omega
 have HE:Hid (∀ o,In g ((((w.setCell ⟨g.B,6,none⟩ (.int .i64 (q / 256))).setCell ⟨g.B,7,none⟩ (.int .i64 (q%256))).alloc o).drew) { m with rH:=q / 256,rL:=q%256 } full):=fun o=>(((h.s_rH _).s_rL _).below (zRf.alloc (Nat.le_refl _) o).drew)
 clear h hq
 go_enter func175,ntmps175
 go_wp2_with (go_at_call 93;refine (c1 _).mono ?_;rintro e w' ⟨rfl,hw'⟩;have hw':=hw'.symm;subst hw')
 go_region_with (fail)
 all_goals go_wp2
 all_goals go_end0
 all_goals exact ⟨rfl,HE.out _⟩
theorem aUC (g:G) (m:M) (full:Bool) (v:Int) (w:World) (h:In g w m full) :
  Calls prog 175 #[.agg #[.pointer (some ⟨g.B,0,none⟩),.pointer (some ⟨g.B,1,none⟩)],.int .i64 v] w fun e w'=>e=.returned (.tuple #[])/\In g w' { m with ra:=v%65536 / 256,rf:=v%65536%256 } full:=by
 have c1:=fun w=>cX v w
 obtain ⟨q,hq⟩ : ∃ q,q=v%65536:=⟨_,rfl⟩
 have hq2:=jR v;rw [<- hq] at c1 hq2 |-
 obtain ⟨q0,q1⟩:=hq2;have e1:=h.cell 0 _ rfl;have e2:=h.cell 1 _ rfl;have f1:=h.fro 0;have f2:=h.fro 1;have l1:=h.ltB;have t1:q.tdiv 256=q / 256:=x5 q0;have t2:q.tmod 256=q%256:=x4 q0;have t3:IntKind.i64.wrap (q / 256)=q / 256:=by rw [x6];omega
 have HE:Hid (∀ o,In g ((((w.setCell ⟨g.B,0,none⟩ (.int .i64 (q / 256))).setCell ⟨g.B,1,none⟩ (.int .i64 (q%256))).alloc o).drew) { m with ra:=q / 256,rf:=q%256 } full):=fun o=>(((h.s_ra _).s_rf _).below (zRf.alloc (Nat.le_refl _) o).drew)
 clear h hq
 go_enter func175,ntmps175
 go_wp2_with (go_at_call 93;refine (c1 _).mono ?_;rintro e w' ⟨rfl,hw'⟩;have hw':=hw'.symm;subst hw')
 go_region_with (fail)
 all_goals go_wp2
 all_goals go_end0
 all_goals exact ⟨rfl,HE.out _⟩
theorem aUD (g:G) (m:M) (full:Bool) (v:Int) (w:World) (h:In g w m full) :
  Calls prog 175 #[.agg #[.pointer none,.pointer (some ⟨g.B,8,none⟩)],.int .i64 v] w fun e w'=>e=.returned (.tuple #[])/\In g w' { m with sp:=v%65536 } full:=by
 have c1:=fun w=>cX v w
 obtain ⟨q,hq⟩ : ∃ q,q=v%65536:=⟨_,rfl⟩
 rw [<- hq] at c1 |-
 have e1:=h.cell 8 _ rfl;have f1:=h.fro 8;have l1:=h.ltB;have HE:Hid (∀ o,In g ((w.setCell ⟨g.B,8,none⟩ (.int .i64 q)).alloc o) { m with sp:=q } full):=fun o=>(h.s_sp _).below (zRf.alloc (Nat.le_refl _) o)
 clear h hq
 go_enter func175,ntmps175
 go_wp2_with (go_at_call 93;refine (c1 _).mono ?_;rintro e w' ⟨rfl,hw'⟩;have hw':=hw'.symm;subst hw')
 refine bodyPost_ret (results_none rfl _ _ _) rfl ?_;exact ⟨rfl,HE.out _⟩
theorem gU (g:G) (w:World) (k1:w.cell? ⟨g.K,1,none⟩=some (.pointer (some ⟨g.B,0,none⟩))) :
  Calls prog 177 #[.pointer (some ⟨g.K,0,none⟩)] w fun e w'=>e=.returned (.agg #[.pointer (some ⟨g.B,6,none⟩),.pointer (some ⟨g.B,7,none⟩)])/\Below w.heap.size w w':=by
 have l1:=World.block_lt_of_cell? w _ k1
 go_enter func177,ntmps177
 go_wp2_with fail
 go_region_with (fail)
 all_goals go_wp2
 all_goals refine bodyPost_ret (v:=.agg #[.pointer (some ⟨g.B,6,none⟩),.pointer (some ⟨g.B,7,none⟩)]) (by simp [results,results177,go_sem]) rfl ⟨rfl,by repeat (with_reducible first|exact zRf|refine zGr ?_ _|refine below_drewN ?_ _|refine Below.drew ?_)⟩
end Stpk
namespace Stpm
open Go.Deep
open Signed (inB sgn aG aB)
open Busw Busx Stpp Stpq Stpi Stpj Stpr Stpk
abbrev Rg (f:FuncId) (args:Array Value) (W:World) (v:Value):Prop:=∀ d os,Calls prog f args (Go.Sort.grow (redrawn W d) os) fun e w''=>e=.returned v/\∃ p:Regrown,w''=Go.Sort.grow (redrawn W p.d) p.os
theorem rg {f:FuncId} {args:Array Value} {W:World} {v:Value} (h:∀ W',Below W.heap.size W W'->Calls prog f args W' fun e w'=>e=.returned v/\Below W'.heap.size W' w'):Rg f args W v:=fun d os=>Calls.regrown_of (h _ (x8 W d os))
theorem yD {g:G} {w:World} {m:M} {full:Bool} (h:In g w m full) (n:Int):w.cell? ⟨g.B,oQ n,none⟩=some (.int .i64 (reg m n)):=by
 unfold oQ reg
 repeat' split
 all_goals first|exact h.cell 2 _ rfl|exact h.cell 3 _ rfl|exact h.cell 4 _ rfl|exact h.cell 5 _ rfl|exact h.cell 6 _ rfl|exact h.cell 7 _ rfl|exact h.cell 0 _ rfl
theorem aUE {g:G} {w:World} {m:M} {full:Bool} (h:In g w m full) (n v:Int):In g (w.setCell ⟨g.B,oQ n,none⟩ (.int .i64 v)) (vF m n v) full:=by
 unfold oQ vF
 repeat' split
 all_goals first|exact h.s_rB v|exact h.s_rC v|exact h.s_rD v|exact h.s_rE v|exact h.s_rH v|exact h.s_rL v|exact h.s_ra v
theorem yE (g:G) (m:M) (full:Bool) (w:World) (h:In g w m full) (hg:Stpq.Good m):Calls prog 178 #[.agg #[.pointer (some ⟨g.B,6,none⟩),.pointer (some ⟨g.B,7,none⟩)]] w fun e w'=>e=.returned (.int .i64 (hl m))/\Below w.heap.size w w' :=
 kR ⟨g.B,6,none⟩ ⟨g.B,7,none⟩ m.rH m.rL w (h.cell 6 _ rfl) (h.cell 7 _ rfl) hg.h.1 hg.h.2 hg.l.1 hg.l.2
theorem jT (g:G) (m:M) (full:Bool) (n:Int) (w:World) (h:In g w m full) (hg:Stpq.Good m) (n0:0<=n) (n1:n<=7) :
  Calls prog 171 #[.pointer (some ⟨g.K,0,none⟩),.int .i64 n] w fun e w'=>e=.returned (.int .i64 (Stpp.get m n))/\Below w.heap.size w w':=by
 have c1:=nJ g m full n w h n0 n1
 by_cases hn:n=6
 ·subst hn
  have HI:Hid (∀ W,Below w.heap.size w W->In g W m full):=fun W hb=>h.below hb
  have c2:=fun W (hb:Below w.heap.size w W)=>gU g W ((h.below hb).kcell 1 _ rfl)
  have c3:=fun W (hb:Below w.heap.size w W)=>yE g m full W (h.below hb) hg
  have c4:=fun W (hb:Below w.heap.size w W)=>gT g m full (hl m) W (h.below hb) hg.rt
  have e1:Stpp.get m 6=rd m (hl m%65536):=by
   have:=jZ hg
   show rd m (hl m)=_;rw [show hl m%65536=hl m by omega]
  have e2:aCD g 6=.pointer none:=rfl;rw [e1];rw [e2] at c1
  clear h hg e1 e2;generalize rd m (hl m%65536)=r at *
  generalize hl m=a at *
  go_enter func171,ntmps171
  go_wp2_with first|(go_at_call 240;refine c1.mono ?_;rintro e w1 ⟨rfl,hb1⟩)|(go_at_call 177;refine (c2 _ ‹_›).mono ?_;rintro e w2 ⟨rfl,hb2⟩;have hb2:=CartL.after ‹Below w.heap.size w w1› hb2)|(go_at_call 178;refine (c3 _ ‹Below w.heap.size w w2›).mono ?_;rintro e w3 ⟨rfl,hb3⟩;have hb3:=CartL.after ‹Below w.heap.size w w2› hb3)|(go_at_call 242;refine (c4 _ ‹Below w.heap.size w w3›).mono ?_;rintro e w4 ⟨rfl,hb4⟩;have hb4:=CartL.after ‹Below w.heap.size w w3› hb4)
  go_ret;exact ⟨rfl,by assumption⟩
 ·have e1:Stpp.get m n=reg m n:=by unfold Stpp.get;rw [if_neg hn]
  have e2:aCD g n=.pointer (some ⟨g.B,oQ n,none⟩):=by unfold aCD;rw [if_neg hn]
  have HI:Hid (∀ W,Below w.heap.size w W->W.cell? ⟨g.B,oQ n,none⟩=some (.int .i64 (reg m n))):=fun W hb=>yD (h.below hb) n
  rw [e1];rw [e2] at c1
  clear h hg e1 e2;generalize reg m n=r at *
  generalize oQ n=i at *
  go_enter func171,ntmps171
  go_wp2_with (go_at_call 240;refine c1.mono ?_;rintro e w1 ⟨rfl,hb1⟩;have k:=HI.out w1 hb1)
  go_ret;exact ⟨rfl,by assumption⟩
theorem lM (g:G) (m:M) (full:Bool) (n v:Int) (w:World) (h:In g w m full) (hg:Stpq.Good m) (n0:0<=n) (n1:n<=7) (v0:0<=v) (v1:v<=255) :
  Calls prog 170 #[.pointer (some ⟨g.K,0,none⟩),.int .i64 n,.int .i64 v] w fun e w'=>e=.returned (.tuple #[])/\In g w' (put ⟨m,full⟩ n v).m (put ⟨m,full⟩ n v).full:=by
 have c1:=nJ g m full n w h n0 n1
 by_cases hn:n=6
 ·subst hn
  have c2:=fun W (hb:Below w.heap.size w W)=>gU g W ((h.below hb).kcell 1 _ rfl)
  have c3:=fun W (hb:Below w.heap.size w W)=>yE g m full W (h.below hb) hg
  have c4:=fun W (hb:Below w.heap.size w W)=>dV g m full (hl m) v W (h.below hb) hg.rt v0 v1
  have e2:aCD g 6=.pointer none:=rfl;rw [show put ⟨m,full⟩ 6 v=wr ⟨m,full⟩ (hl m) v from rfl];rw [e2] at c1
  clear h hg e2 v0 v1;generalize wr ⟨m,full⟩ (hl m) v=s at *
  generalize hl m=a at *
  go_enter func170,ntmps170
  go_wp2_with first|(go_at_call 240;refine c1.mono ?_;rintro e w1 ⟨rfl,hb1⟩)|(go_at_call 177;refine (c2 _ ‹_›).mono ?_;rintro e w2 ⟨rfl,hb2⟩;have hb2:=CartL.after ‹Below w.heap.size w w1› hb2)|(go_at_call 178;refine (c3 _ ‹Below w.heap.size w w2›).mono ?_;rintro e w3 ⟨rfl,hb3⟩;have hb3:=CartL.after ‹Below w.heap.size w w2› hb3)|(go_at_call 241;refine (c4 _ ‹Below w.heap.size w w3›).mono ?_;rintro e w4 ⟨rfl,hi4⟩;have HI4:Hid (In g w4 s.m s.full):=hi4;clear hi4)
  go_end0
  exact ⟨rfl,HI4.out⟩
 ·have e2:aCD g n=.pointer (some ⟨g.B,oQ n,none⟩):=by unfold aCD;rw [if_neg hn]
  have HC:Hid (∀ W,Below w.heap.size w W->W.cell? ⟨g.B,oQ n,none⟩=some (.int .i64 (reg m n))/\W.frozen? ⟨g.B,oQ n,none⟩=false/\In g (W.setCell ⟨g.B,oQ n,none⟩ (.int .i64 v)) (put ⟨m,full⟩ n v).m (put ⟨m,full⟩ n v).full):=fun W hb=>⟨yD (h.below hb) n,(h.below hb).fro _,by
   unfold put;rw [if_neg hn];exact aUE (h.below hb) n v⟩
  rw [e2] at c1
  clear h hg e2 v0 v1;generalize put ⟨m,full⟩ n v=s at *
  generalize reg m n=r at *
  generalize oQ n=i at *
  go_enter func170,ntmps170
  go_wp2_with (go_at_call 240;refine c1.mono ?_;rintro e w1 ⟨rfl,hb1⟩;obtain ⟨k,f,hi⟩:=HC.out w1 hb1;have HI4:Hid (In g (w1.setCell ⟨g.B,i,none⟩ (.int .i64 v)) s.m s.full):=hi;clear hi)
  refine bodyPost_ret (results_none rfl _ _ _) rfl ?_;exact ⟨rfl,HI4.out⟩
def pv (g:G) (n:Int):Value:=if n=0 then .agg #[.pointer (some ⟨g.B,2,none⟩),.pointer (some ⟨g.B,3,none⟩)] else if n=1 then .agg #[.pointer (some ⟨g.B,4,none⟩),.pointer (some ⟨g.B,5,none⟩)] else if n=2 then .agg #[.pointer (some ⟨g.B,6,none⟩),.pointer (some ⟨g.B,7,none⟩)] else .agg #[.pointer none,.pointer (some ⟨g.B,8,none⟩)]
theorem bHK (B:Nat) (w:World):(Instr.index 210 (.agg #[.pointer (some ⟨B,2,none⟩),.pointer (some ⟨B,3,none⟩),.pointer (some ⟨B,4,none⟩),.pointer (some ⟨B,5,none⟩),.pointer (some ⟨B,6,none⟩),.pointer (some ⟨B,7,none⟩),.pointer none,.pointer (some ⟨B,8,none⟩)]) (.int .i64 0)).run prog w=.ok (.agg #[.pointer (some ⟨B,2,none⟩),.pointer (some ⟨B,3,none⟩)]) w:=by kernel_rfl
theorem nL (g:G) (w:World) (k1:w.cell? ⟨g.K,1,none⟩=some (.pointer (some ⟨g.B,0,none⟩))) :
  Calls prog 174 #[.pointer (some ⟨g.K,0,none⟩),.int .i64 0] w fun e w'=>e=.returned (.agg #[.pointer (some ⟨g.B,2,none⟩),.pointer (some ⟨g.B,3,none⟩)])/\Below w.heap.size w w':=by
 have hi:=bHK g.B;have l1:=World.block_lt_of_cell? w _ k1;have q1:(w.alloc (.cells #[.pointer none,.pointer none] 184)).cell? ⟨g.K,1,none⟩=some (.pointer (some ⟨g.B,0,none⟩)):=by rw [((Below.refl _ w).alloc (Nat.le_refl _) _).cell (p:=⟨g.K,1,none⟩) l1];exact k1
 have c1:Rg 177 #[.pointer (some ⟨g.K,0,none⟩)] (w.alloc (.cells #[.pointer none,.pointer none] 184)) _:=rg fun W hb=>gU g W ((hb.cell (p:=⟨g.K,1,none⟩) (World.block_lt_of_cell? _ _ q1)).trans q1)
 have r1:=x7 q1;have HB:Hid (∀ d os,Below w.heap.size w (Go.Sort.grow (redrawn (w.alloc (.cells #[.pointer none,.pointer none] 184)) d) os)/\(Go.Sort.grow (redrawn (w.alloc (.cells #[.pointer none,.pointer none] 184)) d) os).heap[w.heap.size]? = some (.cells #[.pointer none,.pointer none] 184)):=fun d os=>⟨CartL.after ((Below.refl _ w).alloc (Nat.le_refl _) _) (x8 _ d os),((x8 _ d os).block w.heap.size (by simp)).trans (heap_alloc_new w _)⟩
 clear k1 q1
 go_enter func174,ntmps174
 go_wp2_with fail
 refine Qtail.aI 38 (by kernel_rfl) (by kernel_rfl) ?_;simp only [List.take_succ_cons,List.take_zero,List.drop_succ_cons,List.drop_zero]
 repeat (go_big_quiet_step (first|exact c1 _ _))
 refine wpQuiet_nil ?_;intro _ hw';obtain ⟨⟨dq,osq⟩,hw''⟩:=hw';subst hw'';obtain ⟨hb2,hx2⟩:=HB.out dq osq;generalize Go.Sort.grow (redrawn (w.alloc (.cells #[.pointer none,.pointer none] 184)) dq) osq=W2 at *
 refine wpList_store_row rfl 184 _ _ rfl w.heap.size #[.pointer (some ⟨g.B,2,none⟩),.pointer (some ⟨g.B,3,none⟩)] rfl rfl _ _ hx2 (by kernel_rfl) rfl (by simp [Value.oneCell']) ?_;refine wpList_nil ?_;have hx3:(W2.setRow w.heap.size #[.pointer (some ⟨g.B,2,none⟩),.pointer (some ⟨g.B,3,none⟩)]).heap[w.heap.size]? = some (.cells #[.pointer (some ⟨g.B,2,none⟩),.pointer (some ⟨g.B,3,none⟩)] 184):=MachT.bG hx2;have hb3:Below w.heap.size w (W2.setRow w.heap.size #[.pointer (some ⟨g.B,2,none⟩),.pointer (some ⟨g.B,3,none⟩)]):=MachT.bJ hb2 (Nat.le_refl _);generalize W2.setRow w.heap.size #[.pointer (some ⟨g.B,2,none⟩),.pointer (some ⟨g.B,3,none⟩)]=W3 at *
 go_wp2;refine bodyPost_ret (v:=.agg #[.pointer (some ⟨g.B,2,none⟩),.pointer (some ⟨g.B,3,none⟩)]) (results_cell_row results174 _ _ w.heap.size _ _ (0,0) _ rfl hx3 underlying184 rfl (by kernel_rfl)) rfl ⟨rfl,hb3⟩
theorem bHL (B:Nat) (w:World):(Instr.index 210 (.agg #[.pointer (some ⟨B,2,none⟩),.pointer (some ⟨B,3,none⟩),.pointer (some ⟨B,4,none⟩),.pointer (some ⟨B,5,none⟩),.pointer (some ⟨B,6,none⟩),.pointer (some ⟨B,7,none⟩),.pointer none,.pointer (some ⟨B,8,none⟩)]) (.int .i64 1)).run prog w=.ok (.agg #[.pointer (some ⟨B,4,none⟩),.pointer (some ⟨B,5,none⟩)]) w:=by kernel_rfl
theorem nM (g:G) (w:World) (k1:w.cell? ⟨g.K,1,none⟩=some (.pointer (some ⟨g.B,0,none⟩))) :
  Calls prog 174 #[.pointer (some ⟨g.K,0,none⟩),.int .i64 1] w fun e w'=>e=.returned (.agg #[.pointer (some ⟨g.B,4,none⟩),.pointer (some ⟨g.B,5,none⟩)])/\Below w.heap.size w w':=by
 have hi:=bHL g.B;have l1:=World.block_lt_of_cell? w _ k1;have q1:(w.alloc (.cells #[.pointer none,.pointer none] 184)).cell? ⟨g.K,1,none⟩=some (.pointer (some ⟨g.B,0,none⟩)):=by rw [((Below.refl _ w).alloc (Nat.le_refl _) _).cell (p:=⟨g.K,1,none⟩) l1];exact k1
 have c1:Rg 177 #[.pointer (some ⟨g.K,0,none⟩)] (w.alloc (.cells #[.pointer none,.pointer none] 184)) _:=rg fun W hb=>gU g W ((hb.cell (p:=⟨g.K,1,none⟩) (World.block_lt_of_cell? _ _ q1)).trans q1)
 have r1:=x7 q1;have HB:Hid (∀ d os,Below w.heap.size w (Go.Sort.grow (redrawn (w.alloc (.cells #[.pointer none,.pointer none] 184)) d) os)/\(Go.Sort.grow (redrawn (w.alloc (.cells #[.pointer none,.pointer none] 184)) d) os).heap[w.heap.size]? = some (.cells #[.pointer none,.pointer none] 184)):=fun d os=>⟨CartL.after ((Below.refl _ w).alloc (Nat.le_refl _) _) (x8 _ d os),((x8 _ d os).block w.heap.size (by simp)).trans (heap_alloc_new w _)⟩
 clear k1 q1
 go_enter func174,ntmps174
 go_wp2_with fail
 refine Qtail.aI 38 (by kernel_rfl) (by kernel_rfl) ?_;simp only [List.take_succ_cons,List.take_zero,List.drop_succ_cons,List.drop_zero]
 repeat (go_big_quiet_step (first|exact c1 _ _))
 refine wpQuiet_nil ?_;intro _ hw';obtain ⟨⟨dq,osq⟩,hw''⟩:=hw';subst hw'';obtain ⟨hb2,hx2⟩:=HB.out dq osq;generalize Go.Sort.grow (redrawn (w.alloc (.cells #[.pointer none,.pointer none] 184)) dq) osq=W2 at *
 refine wpList_store_row rfl 184 _ _ rfl w.heap.size #[.pointer (some ⟨g.B,4,none⟩),.pointer (some ⟨g.B,5,none⟩)] rfl rfl _ _ hx2 (by kernel_rfl) rfl (by simp [Value.oneCell']) ?_;refine wpList_nil ?_;have hx3:(W2.setRow w.heap.size #[.pointer (some ⟨g.B,4,none⟩),.pointer (some ⟨g.B,5,none⟩)]).heap[w.heap.size]? = some (.cells #[.pointer (some ⟨g.B,4,none⟩),.pointer (some ⟨g.B,5,none⟩)] 184):=MachT.bG hx2;have hb3:Below w.heap.size w (W2.setRow w.heap.size #[.pointer (some ⟨g.B,4,none⟩),.pointer (some ⟨g.B,5,none⟩)]):=MachT.bJ hb2 (Nat.le_refl _);generalize W2.setRow w.heap.size #[.pointer (some ⟨g.B,4,none⟩),.pointer (some ⟨g.B,5,none⟩)]=W3 at *
 go_wp2;refine bodyPost_ret (v:=.agg #[.pointer (some ⟨g.B,4,none⟩),.pointer (some ⟨g.B,5,none⟩)]) (results_cell_row results174 _ _ w.heap.size _ _ (0,0) _ rfl hx3 underlying184 rfl (by kernel_rfl)) rfl ⟨rfl,hb3⟩
theorem bHM (B:Nat) (w:World):(Instr.index 210 (.agg #[.pointer (some ⟨B,2,none⟩),.pointer (some ⟨B,3,none⟩),.pointer (some ⟨B,4,none⟩),.pointer (some ⟨B,5,none⟩),.pointer (some ⟨B,6,none⟩),.pointer (some ⟨B,7,none⟩),.pointer none,.pointer (some ⟨B,8,none⟩)]) (.int .i64 2)).run prog w=.ok (.agg #[.pointer (some ⟨B,6,none⟩),.pointer (some ⟨B,7,none⟩)]) w:=by kernel_rfl
theorem kS (g:G) (w:World) (k1:w.cell? ⟨g.K,1,none⟩=some (.pointer (some ⟨g.B,0,none⟩))) :
  Calls prog 174 #[.pointer (some ⟨g.K,0,none⟩),.int .i64 2] w fun e w'=>e=.returned (.agg #[.pointer (some ⟨g.B,6,none⟩),.pointer (some ⟨g.B,7,none⟩)])/\Below w.heap.size w w':=by
 have hi:=bHM g.B;have l1:=World.block_lt_of_cell? w _ k1;have q1:(w.alloc (.cells #[.pointer none,.pointer none] 184)).cell? ⟨g.K,1,none⟩=some (.pointer (some ⟨g.B,0,none⟩)):=by rw [((Below.refl _ w).alloc (Nat.le_refl _) _).cell (p:=⟨g.K,1,none⟩) l1];exact k1
 have c1:Rg 177 #[.pointer (some ⟨g.K,0,none⟩)] (w.alloc (.cells #[.pointer none,.pointer none] 184)) _:=rg fun W hb=>gU g W ((hb.cell (p:=⟨g.K,1,none⟩) (World.block_lt_of_cell? _ _ q1)).trans q1)
 have r1:=x7 q1;have HB:Hid (∀ d os,Below w.heap.size w (Go.Sort.grow (redrawn (w.alloc (.cells #[.pointer none,.pointer none] 184)) d) os)/\(Go.Sort.grow (redrawn (w.alloc (.cells #[.pointer none,.pointer none] 184)) d) os).heap[w.heap.size]? = some (.cells #[.pointer none,.pointer none] 184)):=fun d os=>⟨CartL.after ((Below.refl _ w).alloc (Nat.le_refl _) _) (x8 _ d os),((x8 _ d os).block w.heap.size (by simp)).trans (heap_alloc_new w _)⟩
 clear k1 q1
 go_enter func174,ntmps174
 go_wp2_with fail
 refine Qtail.aI 38 (by kernel_rfl) (by kernel_rfl) ?_;simp only [List.take_succ_cons,List.take_zero,List.drop_succ_cons,List.drop_zero]
 repeat (go_big_quiet_step (first|exact c1 _ _))
 refine wpQuiet_nil ?_;intro _ hw';obtain ⟨⟨dq,osq⟩,hw''⟩:=hw';subst hw'';obtain ⟨hb2,hx2⟩:=HB.out dq osq;generalize Go.Sort.grow (redrawn (w.alloc (.cells #[.pointer none,.pointer none] 184)) dq) osq=W2 at *
 refine wpList_store_row rfl 184 _ _ rfl w.heap.size #[.pointer (some ⟨g.B,6,none⟩),.pointer (some ⟨g.B,7,none⟩)] rfl rfl _ _ hx2 (by kernel_rfl) rfl (by simp [Value.oneCell']) ?_;refine wpList_nil ?_;have hx3:(W2.setRow w.heap.size #[.pointer (some ⟨g.B,6,none⟩),.pointer (some ⟨g.B,7,none⟩)]).heap[w.heap.size]? = some (.cells #[.pointer (some ⟨g.B,6,none⟩),.pointer (some ⟨g.B,7,none⟩)] 184):=MachT.bG hx2;have hb3:Below w.heap.size w (W2.setRow w.heap.size #[.pointer (some ⟨g.B,6,none⟩),.pointer (some ⟨g.B,7,none⟩)]):=MachT.bJ hb2 (Nat.le_refl _);generalize W2.setRow w.heap.size #[.pointer (some ⟨g.B,6,none⟩),.pointer (some ⟨g.B,7,none⟩)]=W3 at *
 go_wp2;refine bodyPost_ret (v:=.agg #[.pointer (some ⟨g.B,6,none⟩),.pointer (some ⟨g.B,7,none⟩)]) (results_cell_row results174 _ _ w.heap.size _ _ (0,0) _ rfl hx3 underlying184 rfl (by kernel_rfl)) rfl ⟨rfl,hb3⟩
theorem bHN (B:Nat) (w:World):(Instr.index 210 (.agg #[.pointer (some ⟨B,2,none⟩),.pointer (some ⟨B,3,none⟩),.pointer (some ⟨B,4,none⟩),.pointer (some ⟨B,5,none⟩),.pointer (some ⟨B,6,none⟩),.pointer (some ⟨B,7,none⟩),.pointer none,.pointer (some ⟨B,8,none⟩)]) (.int .i64 3)).run prog w=.ok (.agg #[.pointer none,.pointer (some ⟨B,8,none⟩)]) w:=by kernel_rfl
theorem yF (g:G) (w:World) (k1:w.cell? ⟨g.K,1,none⟩=some (.pointer (some ⟨g.B,0,none⟩))) :
  Calls prog 174 #[.pointer (some ⟨g.K,0,none⟩),.int .i64 3] w fun e w'=>e=.returned (.agg #[.pointer none,.pointer (some ⟨g.B,8,none⟩)])/\Below w.heap.size w w':=by
 have hi:=bHN g.B;have l1:=World.block_lt_of_cell? w _ k1;have q1:(w.alloc (.cells #[.pointer none,.pointer none] 184)).cell? ⟨g.K,1,none⟩=some (.pointer (some ⟨g.B,0,none⟩)):=by rw [((Below.refl _ w).alloc (Nat.le_refl _) _).cell (p:=⟨g.K,1,none⟩) l1];exact k1
 have c1:Rg 177 #[.pointer (some ⟨g.K,0,none⟩)] (w.alloc (.cells #[.pointer none,.pointer none] 184)) _:=rg fun W hb=>gU g W ((hb.cell (p:=⟨g.K,1,none⟩) (World.block_lt_of_cell? _ _ q1)).trans q1)
 have r1:=x7 q1;have HB:Hid (∀ d os,Below w.heap.size w (Go.Sort.grow (redrawn (w.alloc (.cells #[.pointer none,.pointer none] 184)) d) os)/\(Go.Sort.grow (redrawn (w.alloc (.cells #[.pointer none,.pointer none] 184)) d) os).heap[w.heap.size]? = some (.cells #[.pointer none,.pointer none] 184)):=fun d os=>⟨CartL.after ((Below.refl _ w).alloc (Nat.le_refl _) _) (x8 _ d os),((x8 _ d os).block w.heap.size (by simp)).trans (heap_alloc_new w _)⟩
 clear k1 q1
 go_enter func174,ntmps174
 go_wp2_with fail
 refine Qtail.aI 38 (by kernel_rfl) (by kernel_rfl) ?_;simp only [List.take_succ_cons,List.take_zero,List.drop_succ_cons,List.drop_zero]
 repeat (go_big_quiet_step (first|exact c1 _ _))
 refine wpQuiet_nil ?_;intro _ hw';obtain ⟨⟨dq,osq⟩,hw''⟩:=hw';subst hw'';obtain ⟨hb2,hx2⟩:=HB.out dq osq;generalize Go.Sort.grow (redrawn (w.alloc (.cells #[.pointer none,.pointer none] 184)) dq) osq=W2 at *
 refine wpList_store_row rfl 184 _ _ rfl w.heap.size #[.pointer none,.pointer (some ⟨g.B,8,none⟩)] rfl rfl _ _ hx2 (by kernel_rfl) rfl (by simp [Value.oneCell']) ?_;refine wpList_nil ?_;have hx3:(W2.setRow w.heap.size #[.pointer none,.pointer (some ⟨g.B,8,none⟩)]).heap[w.heap.size]? = some (.cells #[.pointer none,.pointer (some ⟨g.B,8,none⟩)] 184):=MachT.bG hx2;have hb3:Below w.heap.size w (W2.setRow w.heap.size #[.pointer none,.pointer (some ⟨g.B,8,none⟩)]):=MachT.bJ hb2 (Nat.le_refl _);generalize W2.setRow w.heap.size #[.pointer none,.pointer (some ⟨g.B,8,none⟩)]=W3 at *
 go_wp2;refine bodyPost_ret (v:=.agg #[.pointer none,.pointer (some ⟨g.B,8,none⟩)]) (results_cell_row results174 _ _ w.heap.size _ _ (0,0) _ rfl hx3 underlying184 rfl (by kernel_rfl)) rfl ⟨rfl,hb3⟩
end Stpm
end Go.Proofs.YteglcgnhhoenbaaGreatDoor
