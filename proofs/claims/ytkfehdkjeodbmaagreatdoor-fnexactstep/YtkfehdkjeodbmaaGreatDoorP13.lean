/-
  Contracts and facts of ours, joined: Stcp, Stcq, Stcr.
-/
import Derived.Test.YtkfehdkjeodbmaaGreatDoorP11
import Derived.Test.YtkfehdkjeodbmaaGreatDoorP00
set_option linter.unusedVariables false
set_option linter.unusedSimpArgs false
set_option maxRecDepth 20000
set_option maxHeartbeats 8000000
open Go.ChangeShapes Go.WideShapes Go.ChangeAt Go.RowKit
open Go.Proofs.Tryz
namespace Go.Proofs.YtkfehdkjeodbmaaGreatDoor.Stcp
open Go.Deep
open Signed (inB sgn ret_int ret_bool)
open Reck ReckS ReckM ReckD TurnS
open Busw Busx Busy Stpp Stpq Stps Sta Stb Stck Stcz
theorem low_2 (g:SG) (m:M) (full:Bool) (imm:Int) (i0:0<=imm) (i1:imm<=65535) (w:World) (h:InS g w m full) (hg:Stpq.Good m) :
  Calls prog 49 #[.pointer (some ⟨g.X,0,none⟩),.agg #[.int .i64 2,.bool false,.int .i64 imm]] w fun e w'=>e=.returned (.bool false)/\InS g w' (wr ⟨m,full⟩ (pr m 0) m.ra).m (wr ⟨m,full⟩ (pr m 0) m.ra).full:=by
 obtain ⟨u,hu,hI,HI,k0,k2,HLX⟩:=stq (c:=2) (imm:=imm) h
 have bd:=pr_bd hg 0
 have c1:Hid (∀ W,InS g W m full->Calls prog 81 #[.pointer (some ⟨g.X,0,none⟩),.int .i64 0,.bool false] W fun e w'=>e=.returned (.int .i64 (pr m 0))/\Below W.heap.size W w'):=fun W hi=>pairS g m full 0 W hi hg (by omega) (by omega)
 have c2:Hid (∀ W,InS g W m full->Calls prog 75 #[.pointer (some ⟨g.X,0,none⟩),.int .i64 (pr m 0),.int .i64 m.ra] W fun e w'=>e=.returned (.tuple #[])/\InS g w' (wr ⟨m,full⟩ (pr m 0) m.ra).m (wr ⟨m,full⟩ (pr m 0) m.ra).full):=fun W hi=>writeS g m full _ _ W hi hg.rt bd.1 hg.a.1 hg.a.2
 have g1:=wr_good (s:=⟨m,full⟩) hg (pr m 0) m.ra hg.a.1 hg.a.2
 generalize wr ⟨m,full⟩ (pr m 0) m.ra=t at *
 generalize pr m 0=x1 at *
 clear bd g1
 clear h hg hI i0 i1
 go_enter func49,ntmps49
 go_wp2_with fail
 rw [<- hu]
 clear hu k0 k2
 refine Calls.mono (c1.out _ HI.out) ?_
 rintro e w1 ⟨rfl,hb1⟩
 have H1:=zHd (HI.out.below hb1)
 clear hb1 HI c1
 have q0:=H1.out.cell 0 _ rfl
 go_wp2_with fail
 refine Calls.mono (c2.out _ H1.out) ?_
 rintro e w2 ⟨rfl,hi1⟩
 have H2:Hid (InS g w2 t.m t.full):=hi1
 clear hi1 H1 c2
 clear q0
 go_wp2
 go_ret
 exact ⟨rfl,H2.out⟩
theorem low_10 (g:SG) (m:M) (full:Bool) (imm:Int) (i0:0<=imm) (i1:imm<=65535) (w:World) (h:InS g w m full) (hg:Stpq.Good m) :
  Calls prog 49 #[.pointer (some ⟨g.X,0,none⟩),.agg #[.int .i64 10,.bool false,.int .i64 imm]] w fun e w'=>e=.returned (.bool false)/\InS g w' (⟨{ m with ra:=rd m (pr m 0) },full⟩ : S).m (⟨{ m with ra:=rd m (pr m 0) },full⟩ : S).full:=by
 obtain ⟨u,hu,hI,HI,k0,k2,HLX⟩:=stq (c:=10) (imm:=imm) h
 have bd:=pr_bd hg 0
 have c1:Hid (∀ W,InS g W m full->Calls prog 81 #[.pointer (some ⟨g.X,0,none⟩),.int .i64 0,.bool false] W fun e w'=>e=.returned (.int .i64 (pr m 0))/\Below W.heap.size W w'):=fun W hi=>pairS g m full 0 W hi hg (by omega) (by omega)
 have CR:Hid (∀ po cap W,Calls prog 70 #[.agg (cellsM m po cap),.int .i64 (pr m 0)] W fun e w'=>e=.returned (.int .i64 (rd m (pr m 0)))/\Below W.heap.size W w'):=fun po cap W=>l6Read_M m po cap _ W hg.rt bd.1
 have rb:=rd_bd m (pr m 0)
 generalize rd m (pr m 0)=rv at *
 generalize pr m 0=x1 at *
 clear bd rb
 clear h hg hI i0 i1
 go_enter func49,ntmps49
 go_wp2_with fail
 rw [<- hu]
 clear hu k0 k2
 refine Calls.mono (c1.out _ HI.out) ?_
 rintro e w1 ⟨rfl,hb1⟩
 have H1:=zHd (HI.out.below hb1)
 clear hb1 HI c1
 obtain ⟨po,cap,hA⟩:=H1.out
 have hl:=hA.load (W':=w1) rfl
 have CR2:=fun W=>CR.out po cap W
 generalize cellsM m po cap=cM at *
 clear hA CR
 go_upto_region 21 with fail
 refine wp_region_list ?_
 refine wpList_plain rfl (fun K hK=>?_)
 go_simp
 refine hK _ _ ?_
 clear hK
 refine wpList_plain rfl (fun K hK=>?_)
 go_simp
 refine hK _ _ ?_
 clear hK
 refine wpList_plain rfl (fun K hK=>?_)
 go_simp
 refine hK _ _ ?_
 clear hK
 refine wpList_plain rfl (fun K hK=>?_)
 go_simp
 refine hK _ _ ?_
 clear hK
 refine wpList_load_any rfl 33 _ rfl ⟨g.X,0,none⟩ rfl _ hl ?_
 go_wp2_with fail
 refine Calls.mono (CR2 _) ?_
 rintro e w2 ⟨rfl,hb2⟩
 have H2:=zHd (H1.out.below hb2)
 clear hb2 H1 CR2 hl
 have q_ra:=H2.out.cell 0 _ rfl
 have f_ra:=H2.out.fro 0
 have HF:Hid (InS g (w2.setCell ⟨g.X,0,none⟩ (.int .i64 rv)) { m with ra:=rv } full):=H2.out.s_ra rv
 clear H2
 go_wp2
 go_ret
 exact ⟨rfl,HF.out⟩
theorem low_18 (g:SG) (m:M) (full:Bool) (imm:Int) (i0:0<=imm) (i1:imm<=65535) (w:World) (h:InS g w m full) (hg:Stpq.Good m) :
  Calls prog 49 #[.pointer (some ⟨g.X,0,none⟩),.agg #[.int .i64 18,.bool false,.int .i64 imm]] w fun e w'=>e=.returned (.bool false)/\InS g w' (wr ⟨m,full⟩ (pr m 1) m.ra).m (wr ⟨m,full⟩ (pr m 1) m.ra).full:=by
 obtain ⟨u,hu,hI,HI,k0,k2,HLX⟩:=stq (c:=18) (imm:=imm) h
 have bd:=pr_bd hg 1
 have c1:Hid (∀ W,InS g W m full->Calls prog 81 #[.pointer (some ⟨g.X,0,none⟩),.int .i64 1,.bool false] W fun e w'=>e=.returned (.int .i64 (pr m 1))/\Below W.heap.size W w'):=fun W hi=>pairS g m full 1 W hi hg (by omega) (by omega)
 have c2:Hid (∀ W,InS g W m full->Calls prog 75 #[.pointer (some ⟨g.X,0,none⟩),.int .i64 (pr m 1),.int .i64 m.ra] W fun e w'=>e=.returned (.tuple #[])/\InS g w' (wr ⟨m,full⟩ (pr m 1) m.ra).m (wr ⟨m,full⟩ (pr m 1) m.ra).full):=fun W hi=>writeS g m full _ _ W hi hg.rt bd.1 hg.a.1 hg.a.2
 have g1:=wr_good (s:=⟨m,full⟩) hg (pr m 1) m.ra hg.a.1 hg.a.2
 generalize wr ⟨m,full⟩ (pr m 1) m.ra=t at *
 generalize pr m 1=x1 at *
 clear bd g1
 clear h hg hI i0 i1
 go_enter func49,ntmps49
 go_wp2_with fail
 rw [<- hu]
 clear hu k0 k2
 refine Calls.mono (c1.out _ HI.out) ?_
 rintro e w1 ⟨rfl,hb1⟩
 have H1:=zHd (HI.out.below hb1)
 clear hb1 HI c1
 have q0:=H1.out.cell 0 _ rfl
 go_wp2_with fail
 refine Calls.mono (c2.out _ H1.out) ?_
 rintro e w2 ⟨rfl,hi1⟩
 have H2:Hid (InS g w2 t.m t.full):=hi1
 clear hi1 H1 c2
 clear q0
 go_wp2
 go_ret
 exact ⟨rfl,H2.out⟩
theorem low_26 (g:SG) (m:M) (full:Bool) (imm:Int) (i0:0<=imm) (i1:imm<=65535) (w:World) (h:InS g w m full) (hg:Stpq.Good m) :
  Calls prog 49 #[.pointer (some ⟨g.X,0,none⟩),.agg #[.int .i64 26,.bool false,.int .i64 imm]] w fun e w'=>e=.returned (.bool false)/\InS g w' (⟨{ m with ra:=rd m (pr m 1) },full⟩ : S).m (⟨{ m with ra:=rd m (pr m 1) },full⟩ : S).full:=by
 obtain ⟨u,hu,hI,HI,k0,k2,HLX⟩:=stq (c:=26) (imm:=imm) h
 have bd:=pr_bd hg 1
 have c1:Hid (∀ W,InS g W m full->Calls prog 81 #[.pointer (some ⟨g.X,0,none⟩),.int .i64 1,.bool false] W fun e w'=>e=.returned (.int .i64 (pr m 1))/\Below W.heap.size W w'):=fun W hi=>pairS g m full 1 W hi hg (by omega) (by omega)
 have CR:Hid (∀ po cap W,Calls prog 70 #[.agg (cellsM m po cap),.int .i64 (pr m 1)] W fun e w'=>e=.returned (.int .i64 (rd m (pr m 1)))/\Below W.heap.size W w'):=fun po cap W=>l6Read_M m po cap _ W hg.rt bd.1
 have rb:=rd_bd m (pr m 1)
 generalize rd m (pr m 1)=rv at *
 generalize pr m 1=x1 at *
 clear bd rb
 clear h hg hI i0 i1
 go_enter func49,ntmps49
 go_wp2_with fail
 rw [<- hu]
 clear hu k0 k2
 refine Calls.mono (c1.out _ HI.out) ?_
 rintro e w1 ⟨rfl,hb1⟩
 have H1:=zHd (HI.out.below hb1)
 clear hb1 HI c1
 obtain ⟨po,cap,hA⟩:=H1.out
 have hl:=hA.load (W':=w1) rfl
 have CR2:=fun W=>CR.out po cap W
 generalize cellsM m po cap=cM at *
 clear hA CR
 go_upto_region 21 with fail
 refine wp_region_list ?_
 refine wpList_plain rfl (fun K hK=>?_)
 go_simp
 refine hK _ _ ?_
 clear hK
 refine wpList_plain rfl (fun K hK=>?_)
 go_simp
 refine hK _ _ ?_
 clear hK
 refine wpList_plain rfl (fun K hK=>?_)
 go_simp
 refine hK _ _ ?_
 clear hK
 refine wpList_plain rfl (fun K hK=>?_)
 go_simp
 refine hK _ _ ?_
 clear hK
 refine wpList_load_any rfl 33 _ rfl ⟨g.X,0,none⟩ rfl _ hl ?_
 go_wp2_with fail
 refine Calls.mono (CR2 _) ?_
 rintro e w2 ⟨rfl,hb2⟩
 have H2:=zHd (H1.out.below hb2)
 clear hb2 H1 CR2 hl
 have q_ra:=H2.out.cell 0 _ rfl
 have f_ra:=H2.out.fro 0
 have HF:Hid (InS g (w2.setCell ⟨g.X,0,none⟩ (.int .i64 rv)) { m with ra:=rv } full):=H2.out.s_ra rv
 clear H2
 go_wp2
 go_ret
 exact ⟨rfl,HF.out⟩
theorem low_34 (g:SG) (m:M) (full:Bool) (imm:Int) (i0:0<=imm) (i1:imm<=65535) (w:World) (h:InS g w m full) (hg:Stpq.Good m) :
  Calls prog 49 #[.pointer (some ⟨g.X,0,none⟩),.agg #[.int .i64 34,.bool false,.int .i64 imm]] w fun e w'=>e=.returned (.bool false)/\InS g w' (⟨setP (wr ⟨m,full⟩ (pr m 2) m.ra).m 2 ((pr m 2+1)%65536),(wr ⟨m,full⟩ (pr m 2) m.ra).full⟩ : S).m (⟨setP (wr ⟨m,full⟩ (pr m 2) m.ra).m 2 ((pr m 2+1)%65536),(wr ⟨m,full⟩ (pr m 2) m.ra).full⟩ : S).full:=by
 obtain ⟨u,hu,hI,HI,k0,k2,HLX⟩:=stq (c:=34) (imm:=imm) h
 have bd:=pr_bd hg 2
 have d1:IntKind.i64.wrap (pr m 2+1)=pr m 2+1:=by rw [IntKind.wrap_i64];omega
 have d2:(pr m 2+1).tmod 65536=(pr m 2+1)%65536:=Int.tmod_eq_emod_of_nonneg (by omega)
 have c1:Hid (∀ W,InS g W m full->Calls prog 81 #[.pointer (some ⟨g.X,0,none⟩),.int .i64 2,.bool false] W fun e w'=>e=.returned (.int .i64 (pr m 2))/\Below W.heap.size W w'):=fun W hi=>pairS g m full 2 W hi hg (by omega) (by omega)
 have c2:Hid (∀ W,InS g W m full->Calls prog 75 #[.pointer (some ⟨g.X,0,none⟩),.int .i64 (pr m 2),.int .i64 m.ra] W fun e w'=>e=.returned (.tuple #[])/\InS g w' (wr ⟨m,full⟩ (pr m 2) m.ra).m (wr ⟨m,full⟩ (pr m 2) m.ra).full):=fun W hi=>writeS g m full _ _ W hi hg.rt bd.1 hg.a.1 hg.a.2
 have g1:=wr_good (s:=⟨m,full⟩) hg (pr m 2) m.ra hg.a.1 hg.a.2
 generalize wr ⟨m,full⟩ (pr m 2) m.ra=t at *
 have c3:Hid (∀ W,InS g W t.m t.full->Calls prog 78 #[.pointer (some ⟨g.X,0,none⟩),.int .i64 2,.int .i64 ((pr m 2+1)%65536),.bool false] W fun e w'=>e=.returned (.tuple #[])/\InS g w' (⟨setP t.m 2 ((pr m 2+1)%65536),t.full⟩ : S).m (⟨setP t.m 2 ((pr m 2+1)%65536),t.full⟩ : S).full):=fun W hi=>setPairS g t.m t.full 2 _ W hi g1 (by omega) (by omega) (by omega) (by omega)
 generalize (⟨setP t.m 2 ((pr m 2+1)%65536),t.full⟩ : S)=t2 at *
 generalize (pr m 2+1)%65536=vv at *
 generalize pr m 2=x1 at *
 clear bd g1
 clear h hg hI i0 i1
 go_enter func49,ntmps49
 go_wp2_with fail
 rw [<- hu]
 clear hu k0 k2
 refine Calls.mono (c1.out _ HI.out) ?_
 rintro e w1 ⟨rfl,hb1⟩
 have H1:=zHd (HI.out.below hb1)
 clear hb1 HI c1
 have q0:=H1.out.cell 0 _ rfl
 go_wp2_with fail
 refine Calls.mono (c2.out _ H1.out) ?_
 rintro e w2 ⟨rfl,hi1⟩
 have H2:Hid (InS g w2 t.m t.full):=hi1
 clear hi1 H1 c2
 clear q0
 go_wp2_with fail
 refine Calls.mono (c3.out _ (H2.out.below (by repeat (with_reducible first|exact zRf|refine zGr ?_ _|refine below_drewN ?_ _|refine Below.drew ?_)))) ?_
 rintro e w3 ⟨rfl,hi1⟩
 have H3:Hid (InS g w3 t2.m t2.full):=hi1
 clear hi1 H2 c3
 go_wp2
 go_ret
 exact ⟨rfl,H3.out⟩
theorem low_42 (g:SG) (m:M) (full:Bool) (imm:Int) (i0:0<=imm) (i1:imm<=65535) (w:World) (h:InS g w m full) (hg:Stpq.Good m) :
  Calls prog 49 #[.pointer (some ⟨g.X,0,none⟩),.agg #[.int .i64 42,.bool false,.int .i64 imm]] w fun e w'=>e=.returned (.bool false)/\InS g w' (⟨setP { m with ra:=rd m (pr m 2) } 2 ((pr m 2+1)%65536),full⟩ : S).m (⟨setP { m with ra:=rd m (pr m 2) } 2 ((pr m 2+1)%65536),full⟩ : S).full:=by
 obtain ⟨u,hu,hI,HI,k0,k2,HLX⟩:=stq (c:=42) (imm:=imm) h
 have bd:=pr_bd hg 2
 have d1:IntKind.i64.wrap (pr m 2+1)=pr m 2+1:=by rw [IntKind.wrap_i64];omega
 have d2:(pr m 2+1).tmod 65536=(pr m 2+1)%65536:=Int.tmod_eq_emod_of_nonneg (by omega)
 have c1:Hid (∀ W,InS g W m full->Calls prog 81 #[.pointer (some ⟨g.X,0,none⟩),.int .i64 2,.bool false] W fun e w'=>e=.returned (.int .i64 (pr m 2))/\Below W.heap.size W w'):=fun W hi=>pairS g m full 2 W hi hg (by omega) (by omega)
 have CR:Hid (∀ po cap W,Calls prog 70 #[.agg (cellsM m po cap),.int .i64 (pr m 2)] W fun e w'=>e=.returned (.int .i64 (rd m (pr m 2)))/\Below W.heap.size W w'):=fun po cap W=>l6Read_M m po cap _ W hg.rt bd.1
 have rb:=rd_bd m (pr m 2)
 generalize rd m (pr m 2)=rv at *
 have g1:=good_a hg rv rb.1 rb.2
 have c3:Hid (∀ W,InS g W { m with ra:=rv } full->Calls prog 78 #[.pointer (some ⟨g.X,0,none⟩),.int .i64 2,.int .i64 ((pr m 2+1)%65536),.bool false] W fun e w'=>e=.returned (.tuple #[])/\InS g w' (⟨setP { m with ra:=rv } 2 ((pr m 2+1)%65536),full⟩ : S).m (⟨setP { m with ra:=rv } 2 ((pr m 2+1)%65536),full⟩ : S).full):=fun W hi=>setPairS g { m with ra:=rv } full 2 _ W hi g1 (by omega) (by omega) (by omega) (by omega)
 generalize (⟨setP { m with ra:=rv } 2 ((pr m 2+1)%65536),full⟩ : S)=t2 at *
 generalize (pr m 2+1)%65536=vv at *
 clear g1
 generalize pr m 2=x1 at *
 clear bd rb
 clear h hg hI i0 i1
 go_enter func49,ntmps49
 go_wp2_with fail
 rw [<- hu]
 clear hu k0 k2
 refine Calls.mono (c1.out _ HI.out) ?_
 rintro e w1 ⟨rfl,hb1⟩
 have H1:=zHd (HI.out.below hb1)
 clear hb1 HI c1
 obtain ⟨po,cap,hA⟩:=H1.out
 have hl:=hA.load (W':=w1) rfl
 have CR2:=fun W=>CR.out po cap W
 generalize cellsM m po cap=cM at *
 clear hA CR
 go_upto_region 21 with fail
 refine wp_region_list ?_
 refine wpList_plain rfl (fun K hK=>?_)
 go_simp
 refine hK _ _ ?_
 clear hK
 refine wpList_plain rfl (fun K hK=>?_)
 go_simp
 refine hK _ _ ?_
 clear hK
 refine wpList_plain rfl (fun K hK=>?_)
 go_simp
 refine hK _ _ ?_
 clear hK
 refine wpList_plain rfl (fun K hK=>?_)
 go_simp
 refine hK _ _ ?_
 clear hK
 refine wpList_load_any rfl 33 _ rfl ⟨g.X,0,none⟩ rfl _ hl ?_
 go_wp2_with fail
 refine Calls.mono (CR2 _) ?_
 rintro e w2 ⟨rfl,hb2⟩
 have H2:=zHd (H1.out.below hb2)
 clear hb2 H1 CR2 hl
 have q_ra:=H2.out.cell 0 _ rfl
 have f_ra:=H2.out.fro 0
 have HF:Hid (InS g (w2.setCell ⟨g.X,0,none⟩ (.int .i64 rv)) { m with ra:=rv } full):=H2.out.s_ra rv
 clear H2
 go_wp2_with fail
 refine Calls.mono (c3.out _ (HF.out.below (by repeat (with_reducible first|exact zRf|refine zGr ?_ _|refine below_drewN ?_ _|refine Below.drew ?_)))) ?_
 rintro e w3 ⟨rfl,hi1⟩
 have H3:Hid (InS g w3 t2.m t2.full):=hi1
 clear hi1 HF c3
 go_wp2
 go_ret
 exact ⟨rfl,H3.out⟩
theorem low_50 (g:SG) (m:M) (full:Bool) (imm:Int) (i0:0<=imm) (i1:imm<=65535) (w:World) (h:InS g w m full) (hg:Stpq.Good m) :
  Calls prog 49 #[.pointer (some ⟨g.X,0,none⟩),.agg #[.int .i64 50,.bool false,.int .i64 imm]] w fun e w'=>e=.returned (.bool false)/\InS g w' (⟨setP (wr ⟨m,full⟩ (pr m 2) m.ra).m 2 ((pr m 2+65535)%65536),(wr ⟨m,full⟩ (pr m 2) m.ra).full⟩ : S).m (⟨setP (wr ⟨m,full⟩ (pr m 2) m.ra).m 2 ((pr m 2+65535)%65536),(wr ⟨m,full⟩ (pr m 2) m.ra).full⟩ : S).full:=by
 obtain ⟨u,hu,hI,HI,k0,k2,HLX⟩:=stq (c:=50) (imm:=imm) h
 have bd:=pr_bd hg 2
 have d1:IntKind.i64.wrap (pr m 2+65535)=pr m 2+65535:=by rw [IntKind.wrap_i64];omega
 have d2:(pr m 2+65535).tmod 65536=(pr m 2+65535)%65536:=Int.tmod_eq_emod_of_nonneg (by omega)
 have c1:Hid (∀ W,InS g W m full->Calls prog 81 #[.pointer (some ⟨g.X,0,none⟩),.int .i64 2,.bool false] W fun e w'=>e=.returned (.int .i64 (pr m 2))/\Below W.heap.size W w'):=fun W hi=>pairS g m full 2 W hi hg (by omega) (by omega)
 have c2:Hid (∀ W,InS g W m full->Calls prog 75 #[.pointer (some ⟨g.X,0,none⟩),.int .i64 (pr m 2),.int .i64 m.ra] W fun e w'=>e=.returned (.tuple #[])/\InS g w' (wr ⟨m,full⟩ (pr m 2) m.ra).m (wr ⟨m,full⟩ (pr m 2) m.ra).full):=fun W hi=>writeS g m full _ _ W hi hg.rt bd.1 hg.a.1 hg.a.2
 have g1:=wr_good (s:=⟨m,full⟩) hg (pr m 2) m.ra hg.a.1 hg.a.2
 generalize wr ⟨m,full⟩ (pr m 2) m.ra=t at *
 have c3:Hid (∀ W,InS g W t.m t.full->Calls prog 78 #[.pointer (some ⟨g.X,0,none⟩),.int .i64 2,.int .i64 ((pr m 2+65535)%65536),.bool false] W fun e w'=>e=.returned (.tuple #[])/\InS g w' (⟨setP t.m 2 ((pr m 2+65535)%65536),t.full⟩ : S).m (⟨setP t.m 2 ((pr m 2+65535)%65536),t.full⟩ : S).full):=fun W hi=>setPairS g t.m t.full 2 _ W hi g1 (by omega) (by omega) (by omega) (by omega)
 generalize (⟨setP t.m 2 ((pr m 2+65535)%65536),t.full⟩ : S)=t2 at *
 generalize (pr m 2+65535)%65536=vv at *
 generalize pr m 2=x1 at *
 clear bd g1
 clear h hg hI i0 i1
 go_enter func49,ntmps49
 go_wp2_with fail
 rw [<- hu]
 clear hu k0 k2
 refine Calls.mono (c1.out _ HI.out) ?_
 rintro e w1 ⟨rfl,hb1⟩
 have H1:=zHd (HI.out.below hb1)
 clear hb1 HI c1
 have q0:=H1.out.cell 0 _ rfl
 go_wp2_with fail
 refine Calls.mono (c2.out _ H1.out) ?_
 rintro e w2 ⟨rfl,hi1⟩
 have H2:Hid (InS g w2 t.m t.full):=hi1
 clear hi1 H1 c2
 clear q0
 go_wp2_with fail
 refine Calls.mono (c3.out _ (H2.out.below (by repeat (with_reducible first|exact zRf|refine zGr ?_ _|refine below_drewN ?_ _|refine Below.drew ?_)))) ?_
 rintro e w3 ⟨rfl,hi1⟩
 have H3:Hid (InS g w3 t2.m t2.full):=hi1
 clear hi1 H2 c3
 go_wp2
 go_ret
 exact ⟨rfl,H3.out⟩
theorem low_58 (g:SG) (m:M) (full:Bool) (imm:Int) (i0:0<=imm) (i1:imm<=65535) (w:World) (h:InS g w m full) (hg:Stpq.Good m) :
  Calls prog 49 #[.pointer (some ⟨g.X,0,none⟩),.agg #[.int .i64 58,.bool false,.int .i64 imm]] w fun e w'=>e=.returned (.bool false)/\InS g w' (⟨setP { m with ra:=rd m (pr m 2) } 2 ((pr m 2+65535)%65536),full⟩ : S).m (⟨setP { m with ra:=rd m (pr m 2) } 2 ((pr m 2+65535)%65536),full⟩ : S).full:=by
 obtain ⟨u,hu,hI,HI,k0,k2,HLX⟩:=stq (c:=58) (imm:=imm) h
 have bd:=pr_bd hg 2
 have d1:IntKind.i64.wrap (pr m 2+65535)=pr m 2+65535:=by rw [IntKind.wrap_i64];omega
 have d2:(pr m 2+65535).tmod 65536=(pr m 2+65535)%65536:=Int.tmod_eq_emod_of_nonneg (by omega)
 have c1:Hid (∀ W,InS g W m full->Calls prog 81 #[.pointer (some ⟨g.X,0,none⟩),.int .i64 2,.bool false] W fun e w'=>e=.returned (.int .i64 (pr m 2))/\Below W.heap.size W w'):=fun W hi=>pairS g m full 2 W hi hg (by omega) (by omega)
 have CR:Hid (∀ po cap W,Calls prog 70 #[.agg (cellsM m po cap),.int .i64 (pr m 2)] W fun e w'=>e=.returned (.int .i64 (rd m (pr m 2)))/\Below W.heap.size W w'):=fun po cap W=>l6Read_M m po cap _ W hg.rt bd.1
 have rb:=rd_bd m (pr m 2)
 generalize rd m (pr m 2)=rv at *
 have g1:=good_a hg rv rb.1 rb.2
 have c3:Hid (∀ W,InS g W { m with ra:=rv } full->Calls prog 78 #[.pointer (some ⟨g.X,0,none⟩),.int .i64 2,.int .i64 ((pr m 2+65535)%65536),.bool false] W fun e w'=>e=.returned (.tuple #[])/\InS g w' (⟨setP { m with ra:=rv } 2 ((pr m 2+65535)%65536),full⟩ : S).m (⟨setP { m with ra:=rv } 2 ((pr m 2+65535)%65536),full⟩ : S).full):=fun W hi=>setPairS g { m with ra:=rv } full 2 _ W hi g1 (by omega) (by omega) (by omega) (by omega)
 generalize (⟨setP { m with ra:=rv } 2 ((pr m 2+65535)%65536),full⟩ : S)=t2 at *
 generalize (pr m 2+65535)%65536=vv at *
 clear g1
 generalize pr m 2=x1 at *
 clear bd rb
 clear h hg hI i0 i1
 go_enter func49,ntmps49
 go_wp2_with fail
 rw [<- hu]
 clear hu k0 k2
 refine Calls.mono (c1.out _ HI.out) ?_
 rintro e w1 ⟨rfl,hb1⟩
 have H1:=zHd (HI.out.below hb1)
 clear hb1 HI c1
 obtain ⟨po,cap,hA⟩:=H1.out
 have hl:=hA.load (W':=w1) rfl
 have CR2:=fun W=>CR.out po cap W
 generalize cellsM m po cap=cM at *
 clear hA CR
 go_upto_region 21 with fail
 refine wp_region_list ?_
 refine wpList_plain rfl (fun K hK=>?_)
 go_simp
 refine hK _ _ ?_
 clear hK
 refine wpList_plain rfl (fun K hK=>?_)
 go_simp
 refine hK _ _ ?_
 clear hK
 refine wpList_plain rfl (fun K hK=>?_)
 go_simp
 refine hK _ _ ?_
 clear hK
 refine wpList_plain rfl (fun K hK=>?_)
 go_simp
 refine hK _ _ ?_
 clear hK
 refine wpList_load_any rfl 33 _ rfl ⟨g.X,0,none⟩ rfl _ hl ?_
 go_wp2_with fail
 refine Calls.mono (CR2 _) ?_
 rintro e w2 ⟨rfl,hb2⟩
 have H2:=zHd (H1.out.below hb2)
 clear hb2 H1 CR2 hl
 have q_ra:=H2.out.cell 0 _ rfl
 have f_ra:=H2.out.fro 0
 have HF:Hid (InS g (w2.setCell ⟨g.X,0,none⟩ (.int .i64 rv)) { m with ra:=rv } full):=H2.out.s_ra rv
 clear H2
 go_wp2_with fail
 refine Calls.mono (c3.out _ (HF.out.below (by repeat (with_reducible first|exact zRf|refine zGr ?_ _|refine below_drewN ?_ _|refine Below.drew ?_)))) ?_
 rintro e w3 ⟨rfl,hi1⟩
 have H3:Hid (InS g w3 t2.m t2.full):=hi1
 clear hi1 HF c3
 go_wp2
 go_ret
 exact ⟨rfl,H3.out⟩
end Go.Proofs.YtkfehdkjeodbmaaGreatDoor.Stcp
namespace Go.Proofs.YtkfehdkjeodbmaaGreatDoor.Stcq
open Go.Deep
open Signed (inB sgn ret_int ret_bool)
open Reck ReckS ReckM ReckD TurnS
open Busw Busx Busy Stpp Stpq Stps Sta Stb Stck Stcz
theorem low_p0 (g:SG) (m:M) (full:Bool) (imm:Int) (c y p:Int) (c0:0<=c) (hy:c / 8=y) (hp:y / 2=p) (hq:y%2=0) (y0:0<=y) (p0:0<=p) (p1:p<=3) (hz:c%8=3) (i0:0<=imm) (i1:imm<=65535) (w:World) (h:InS g w m full) (hg:Stpq.Good m) :
  Calls prog 49 #[.pointer (some ⟨g.X,0,none⟩),.agg #[.int .i64 c,.bool false,.int .i64 imm]] w fun e w'=>e=.returned (.bool false)/\InS g w' (⟨setP m p ((pr m p+1)%65536),full⟩ : S).m (⟨setP m p ((pr m p+1)%65536),full⟩ : S).full:=by
 obtain ⟨u,hu,hI,HI,k0,k2,HLX⟩:=stq (c:=c) (imm:=imm) h
 have t1:c.tdiv 8=y:=by rw [Int.tdiv_eq_ediv_of_nonneg c0];exact hy
 have t2:c.tmod 8=3:=by rw [Int.tmod_eq_emod_of_nonneg c0];exact hz
 have t3:IntKind.i64.wrap y=y:=by rw [IntKind.wrap_i64];omega
 have t4:y.tdiv 2=p:=by rw [Int.tdiv_eq_ediv_of_nonneg y0];exact hp
 have t5:IntKind.i64.wrap p=p:=by rw [IntKind.wrap_i64];omega
 have t6:y.tmod 2=0:=by rw [Int.tmod_eq_emod_of_nonneg y0];exact hq
 have bd:=pr_bd hg p
 have d1:IntKind.i64.wrap (pr m p+1)=pr m p+1:=by rw [IntKind.wrap_i64];omega
 have d2:(pr m p+1).tmod 65536=(pr m p+1)%65536:=Int.tmod_eq_emod_of_nonneg (by omega)
 have c1:Hid (∀ W,InS g W m full->Calls prog 81 #[.pointer (some ⟨g.X,0,none⟩),.int .i64 p,.bool false] W fun e w'=>e=.returned (.int .i64 (pr m p))/\Below W.heap.size W w'):=fun W hi=>pairS g m full p W hi hg p0 p1
 have c2:Hid (∀ W,InS g W m full->Calls prog 78 #[.pointer (some ⟨g.X,0,none⟩),.int .i64 p,.int .i64 ((pr m p+1)%65536),.bool false] W fun e w'=>e=.returned (.tuple #[])/\InS g w' (⟨setP m p ((pr m p+1)%65536),full⟩ : S).m (⟨setP m p ((pr m p+1)%65536),full⟩ : S).full):=fun W hi=>setPairS g m full p _ W hi hg (by omega) (by omega) (by omega) (by omega)
 generalize (⟨setP m p ((pr m p+1)%65536),full⟩ : S)=t at *
 generalize (pr m p+1)%65536=vv at *
 generalize pr m p=x2 at *
 clear bd hy hp hq hz y0 p0 p1 c0
 clear h hg hI i0 i1
 go_enter func49,ntmps49
 go_upto_region 25 with fail
 rw [<- hu]
 clear hu
 go_region_with (first|(go_at_call 81;refine Calls.mono (c1.out _ (HI.out.below (by repeat (with_reducible first|exact zRf|refine zGr ?_ _|refine below_drewN ?_ _|refine Below.drew ?_)))) ?_;rintro e w1 ⟨rfl,hb1⟩;have hbu:Below u.heap.size u w1:=HolI.after (by repeat (with_reducible first|exact zRf|refine zGr ?_ _|refine below_drewN ?_ _|refine Below.drew ?_)) hb1;(first|(have hbx:Below (u.alloc (.cells #[.int .i64 1,.int .i64 65535] 2)).heap.size (u.alloc (.cells #[.int .i64 1,.int .i64 65535] 2)) w1:=⟨hb1.os,hb1.tape,hb1.output,hb1.size,hb1.block⟩;have z0:=HolI.box hbx 0 _ rfl;clear hbx)|skip);have HBU:Hid (Below u.heap.size u w1):=hbu;clear hb1 hbu)|(go_at_call 78;refine Calls.mono (c2.out _ (HI.out.below (by repeat (with_reducible first|exact HBU.out|exact zRf|refine zGr ?_ _|refine below_drewN ?_ _|refine Below.drew ?_)))) ?_;rintro e w2 ⟨rfl,hi2⟩;have H2:Hid (InS g w2 t.m t.full):=hi2;clear hi2))
 all_goals go_wp2
 all_goals go_ret
 all_goals exact ⟨rfl,(by assumption:Hid (InS g _ t.m t.full)).out⟩
theorem low_p1 (g:SG) (m:M) (full:Bool) (imm:Int) (c y p:Int) (c0:0<=c) (hy:c / 8=y) (hp:y / 2=p) (hq:y%2=1) (y0:0<=y) (p0:0<=p) (p1:p<=3) (hz:c%8=3) (i0:0<=imm) (i1:imm<=65535) (w:World) (h:InS g w m full) (hg:Stpq.Good m) :
  Calls prog 49 #[.pointer (some ⟨g.X,0,none⟩),.agg #[.int .i64 c,.bool false,.int .i64 imm]] w fun e w'=>e=.returned (.bool false)/\InS g w' (⟨setP m p ((pr m p+65535)%65536),full⟩ : S).m (⟨setP m p ((pr m p+65535)%65536),full⟩ : S).full:=by
 obtain ⟨u,hu,hI,HI,k0,k2,HLX⟩:=stq (c:=c) (imm:=imm) h
 have t1:c.tdiv 8=y:=by rw [Int.tdiv_eq_ediv_of_nonneg c0];exact hy
 have t2:c.tmod 8=3:=by rw [Int.tmod_eq_emod_of_nonneg c0];exact hz
 have t3:IntKind.i64.wrap y=y:=by rw [IntKind.wrap_i64];omega
 have t4:y.tdiv 2=p:=by rw [Int.tdiv_eq_ediv_of_nonneg y0];exact hp
 have t5:IntKind.i64.wrap p=p:=by rw [IntKind.wrap_i64];omega
 have t6:y.tmod 2=1:=by rw [Int.tmod_eq_emod_of_nonneg y0];exact hq
 have bd:=pr_bd hg p
 have d1:IntKind.i64.wrap (pr m p+65535)=pr m p+65535:=by rw [IntKind.wrap_i64];omega
 have d2:(pr m p+65535).tmod 65536=(pr m p+65535)%65536:=Int.tmod_eq_emod_of_nonneg (by omega)
 have c1:Hid (∀ W,InS g W m full->Calls prog 81 #[.pointer (some ⟨g.X,0,none⟩),.int .i64 p,.bool false] W fun e w'=>e=.returned (.int .i64 (pr m p))/\Below W.heap.size W w'):=fun W hi=>pairS g m full p W hi hg p0 p1
 have c2:Hid (∀ W,InS g W m full->Calls prog 78 #[.pointer (some ⟨g.X,0,none⟩),.int .i64 p,.int .i64 ((pr m p+65535)%65536),.bool false] W fun e w'=>e=.returned (.tuple #[])/\InS g w' (⟨setP m p ((pr m p+65535)%65536),full⟩ : S).m (⟨setP m p ((pr m p+65535)%65536),full⟩ : S).full):=fun W hi=>setPairS g m full p _ W hi hg (by omega) (by omega) (by omega) (by omega)
 generalize (⟨setP m p ((pr m p+65535)%65536),full⟩ : S)=t at *
 generalize (pr m p+65535)%65536=vv at *
 generalize pr m p=x2 at *
 clear bd hy hp hq hz y0 p0 p1 c0
 clear h hg hI i0 i1
 go_enter func49,ntmps49
 go_upto_region 25 with fail
 rw [<- hu]
 clear hu
 go_region_with (first|(go_at_call 81;refine Calls.mono (c1.out _ (HI.out.below (by repeat (with_reducible first|exact zRf|refine zGr ?_ _|refine below_drewN ?_ _|refine Below.drew ?_)))) ?_;rintro e w1 ⟨rfl,hb1⟩;have hbu:Below u.heap.size u w1:=HolI.after (by repeat (with_reducible first|exact zRf|refine zGr ?_ _|refine below_drewN ?_ _|refine Below.drew ?_)) hb1;(first|(have hbx:Below (u.alloc (.cells #[.int .i64 1,.int .i64 65535] 2)).heap.size (u.alloc (.cells #[.int .i64 1,.int .i64 65535] 2)) w1:=⟨hb1.os,hb1.tape,hb1.output,hb1.size,hb1.block⟩;have z0:=HolI.box hbx 1 _ rfl;clear hbx)|skip);have HBU:Hid (Below u.heap.size u w1):=hbu;clear hb1 hbu)|(go_at_call 78;refine Calls.mono (c2.out _ (HI.out.below (by repeat (with_reducible first|exact HBU.out|exact zRf|refine zGr ?_ _|refine below_drewN ?_ _|refine Below.drew ?_)))) ?_;rintro e w2 ⟨rfl,hi2⟩;have H2:Hid (InS g w2 t.m t.full):=hi2;clear hi2))
 all_goals go_wp2
 all_goals go_ret
 all_goals exact ⟨rfl,(by assumption:Hid (InS g _ t.m t.full)).out⟩
end Go.Proofs.YtkfehdkjeodbmaaGreatDoor.Stcq
namespace Go.Proofs.YtkfehdkjeodbmaaGreatDoor.Stcr
open Go.Deep
open Signed (inB sgn ret_int ret_bool)
open Reck ReckS ReckM ReckD TurnS
open Busw Busx Busy Stpp Stpq Stps Sta Stb Stck Stcz
theorem low_z4 (g:SG) (m:M) (full:Bool) (imm:Int) (c y:Int) (c0:0<=c) (hy:c / 8=y) (y0:0<=y) (y1:y<=7) (hz:c%8=4) (i0:0<=imm) (i1:imm<=65535) (w:World) (h:InS g w m full) (hg:Stpq.Good m) :
  Calls prog 49 #[.pointer (some ⟨g.X,0,none⟩),.agg #[.int .i64 c,.bool false,.int .i64 imm]] w fun e w'=>e=.returned (.bool false)/\InS g w' (F (put ⟨m,full⟩ y (st8R (Stpp.get m y) m.rf false).1) (st8R (Stpp.get m y) m.rf false).2).m (F (put ⟨m,full⟩ y (st8R (Stpp.get m y) m.rf false).1) (st8R (Stpp.get m y) m.rf false).2).full:=by
 obtain ⟨u,hu,hI,HI,k0,k2,HLX⟩:=stq (c:=c) (imm:=imm) h
 have t1:c.tdiv 8=y:=by rw [Int.tdiv_eq_ediv_of_nonneg c0];exact hy
 have t2:c.tmod 8=4:=by rw [Int.tmod_eq_emod_of_nonneg c0];exact hz
 have t3:IntKind.i64.wrap y=y:=by rw [IntKind.wrap_i64];omega
 have t4:y.tdiv 2=y / 2:=Int.tdiv_eq_ediv_of_nonneg y0
 have t5:IntKind.i64.wrap (y / 2)=y / 2:=by rw [IntKind.wrap_i64];omega
 have c1:Rg 51 #[.pointer (some ⟨g.X,0,none⟩),.int .i64 y] u (.int .i64 (Stpp.get m y)):=rg fun W hb=>regS g m full y W (hI.below hb) hg y0 y1
 have c2:Rg 82 #[.int .i64 (Stpp.get m y),.int .i64 m.rf,.bool false] u (.tuple #[.int .i64 (st8R (Stpp.get m y) m.rf false).1,.int .i64 (st8R (Stpp.get m y) m.rf false).2]):=rg fun W hb=>(specStepped8_any (Stpp.get m y) m.rf false W).mono fun e w' h=>⟨by rw [<- st8_in (get_bd hg y) hg.f];exact h.1,by rw [h.2];exact zRf⟩
 have bd:=st8_bd (v:=Stpp.get m y) (f:=m.rf) false
 generalize (st8R (Stpp.get m y) m.rf false).1=v1 at *
 generalize (st8R (Stpp.get m y) m.rf false).2=v2 at *
 have c3:Hid (∀ W,InS g W m full->Calls prog 50 #[.pointer (some ⟨g.X,0,none⟩),.int .i64 y,.int .i64 v1] W fun e w'=>e=.returned (.tuple #[])/\InS g w' (put ⟨m,full⟩ y v1).m (put ⟨m,full⟩ y v1).full):=fun W hi=>setS g m full _ _ W hi hg y0 y1 bd.1 bd.2.1
 generalize put ⟨m,full⟩ y v1=t at *
 generalize Stpp.get m y=x1 at *
 have r0:=cell_regrown (hI.cell 1 _ rfl)
 clear bd
 clear h hg hI i0 i1 hy hz y0 y1 c0
 go_enter func49,ntmps49
 go_upto_region 27 with fail
 rw [<- hu]
 clear hu
 refine wp_region_quiet_below (by kernel_rfl) (by kernel_rfl) ?_
 repeat (first|(go_big_quiet_step (first|with_reducible exact c1 _ _|with_reducible exact c2 _ _))|(refine wpQuiet_load (by rfl) 33 _ rfl ⟨g.X,0,none⟩ rfl _ (fun W hW=>by obtain ⟨⟨d,o⟩,rfl⟩:=hW;exact hld d o) ?_;simp only [Act.put,List.setIfInBounds_toArray,List.set_cons_succ,List.set_cons_zero]))
 refine wpQuiet_nil ?_
 intro _ hw'
 obtain ⟨⟨dq,osq⟩,hw''⟩:=hw'
 subst hw''
 have H2:=zHd (HI.out.below (below_regrown u dq osq))
 have hbg:=below_regrown u dq osq
 generalize Go.Sort.grow (redrawn u dq) osq=W2 at *
 clear HI r0 c1 c2
 go_wp2_with fail
 refine Calls.mono (c3.out _ H2.out) ?_
 rintro e w3 ⟨rfl,hi1⟩
 have H3:Hid (InS g w3 t.m t.full):=hi1
 clear hi1 H2 c3
 have q_rf:=H3.out.cell 1 _ rfl
 have f_rf:=H3.out.fro 1
 have HF:Hid (InS g (w3.setCell ⟨g.X,1,none⟩ (.int .i64 v2)) { t.m with rf:=v2 } t.full):=H3.out.s_rf v2
 clear H3
 go_wp2
 go_ret
 exact ⟨rfl,HF.out⟩
theorem low_z5 (g:SG) (m:M) (full:Bool) (imm:Int) (c y:Int) (c0:0<=c) (hy:c / 8=y) (y0:0<=y) (y1:y<=7) (hz:c%8=5) (i0:0<=imm) (i1:imm<=65535) (w:World) (h:InS g w m full) (hg:Stpq.Good m) :
  Calls prog 49 #[.pointer (some ⟨g.X,0,none⟩),.agg #[.int .i64 c,.bool false,.int .i64 imm]] w fun e w'=>e=.returned (.bool false)/\InS g w' (F (put ⟨m,full⟩ y (st8R (Stpp.get m y) m.rf true).1) (st8R (Stpp.get m y) m.rf true).2).m (F (put ⟨m,full⟩ y (st8R (Stpp.get m y) m.rf true).1) (st8R (Stpp.get m y) m.rf true).2).full:=by
 obtain ⟨u,hu,hI,HI,k0,k2,HLX⟩:=stq (c:=c) (imm:=imm) h
 have t1:c.tdiv 8=y:=by rw [Int.tdiv_eq_ediv_of_nonneg c0];exact hy
 have t2:c.tmod 8=5:=by rw [Int.tmod_eq_emod_of_nonneg c0];exact hz
 have t3:IntKind.i64.wrap y=y:=by rw [IntKind.wrap_i64];omega
 have t4:y.tdiv 2=y / 2:=Int.tdiv_eq_ediv_of_nonneg y0
 have t5:IntKind.i64.wrap (y / 2)=y / 2:=by rw [IntKind.wrap_i64];omega
 have c1:Rg 51 #[.pointer (some ⟨g.X,0,none⟩),.int .i64 y] u (.int .i64 (Stpp.get m y)):=rg fun W hb=>regS g m full y W (hI.below hb) hg y0 y1
 have c2:Rg 82 #[.int .i64 (Stpp.get m y),.int .i64 m.rf,.bool true] u (.tuple #[.int .i64 (st8R (Stpp.get m y) m.rf true).1,.int .i64 (st8R (Stpp.get m y) m.rf true).2]):=rg fun W hb=>(specStepped8_any (Stpp.get m y) m.rf true W).mono fun e w' h=>⟨by rw [<- st8_in (get_bd hg y) hg.f];exact h.1,by rw [h.2];exact zRf⟩
 have bd:=st8_bd (v:=Stpp.get m y) (f:=m.rf) true
 generalize (st8R (Stpp.get m y) m.rf true).1=v1 at *
 generalize (st8R (Stpp.get m y) m.rf true).2=v2 at *
 have c3:Hid (∀ W,InS g W m full->Calls prog 50 #[.pointer (some ⟨g.X,0,none⟩),.int .i64 y,.int .i64 v1] W fun e w'=>e=.returned (.tuple #[])/\InS g w' (put ⟨m,full⟩ y v1).m (put ⟨m,full⟩ y v1).full):=fun W hi=>setS g m full _ _ W hi hg y0 y1 bd.1 bd.2.1
 generalize put ⟨m,full⟩ y v1=t at *
 generalize Stpp.get m y=x1 at *
 have r0:=cell_regrown (hI.cell 1 _ rfl)
 clear bd
 clear h hg hI i0 i1 hy hz y0 y1 c0
 go_enter func49,ntmps49
 go_upto_region 27 with fail
 rw [<- hu]
 clear hu
 refine wp_region_quiet_below (by kernel_rfl) (by kernel_rfl) ?_
 repeat (first|(go_big_quiet_step (first|with_reducible exact c1 _ _|with_reducible exact c2 _ _))|(refine wpQuiet_load (by rfl) 33 _ rfl ⟨g.X,0,none⟩ rfl _ (fun W hW=>by obtain ⟨⟨d,o⟩,rfl⟩:=hW;exact hld d o) ?_;simp only [Act.put,List.setIfInBounds_toArray,List.set_cons_succ,List.set_cons_zero]))
 refine wpQuiet_nil ?_
 intro _ hw'
 obtain ⟨⟨dq,osq⟩,hw''⟩:=hw'
 subst hw''
 have H2:=zHd (HI.out.below (below_regrown u dq osq))
 have hbg:=below_regrown u dq osq
 generalize Go.Sort.grow (redrawn u dq) osq=W2 at *
 clear HI r0 c1 c2
 go_wp2_with fail
 refine Calls.mono (c3.out _ H2.out) ?_
 rintro e w3 ⟨rfl,hi1⟩
 have H3:Hid (InS g w3 t.m t.full):=hi1
 clear hi1 H2 c3
 have q_rf:=H3.out.cell 1 _ rfl
 have f_rf:=H3.out.fro 1
 have HF:Hid (InS g (w3.setCell ⟨g.X,1,none⟩ (.int .i64 v2)) { t.m with rf:=v2 } t.full):=H3.out.s_rf v2
 clear H3
 go_wp2
 go_ret
 exact ⟨rfl,HF.out⟩
theorem low_z6 (g:SG) (m:M) (full:Bool) (imm:Int) (c y:Int) (c0:0<=c) (hy:c / 8=y) (y0:0<=y) (y1:y<=7) (hz:c%8=6) (ib:imm<=255) (i0:0<=imm) (i1:imm<=65535) (w:World) (h:InS g w m full) (hg:Stpq.Good m) :
  Calls prog 49 #[.pointer (some ⟨g.X,0,none⟩),.agg #[.int .i64 c,.bool false,.int .i64 imm]] w fun e w'=>e=.returned (.bool false)/\InS g w' (put ⟨m,full⟩ y imm).m (put ⟨m,full⟩ y imm).full:=by
 obtain ⟨u,hu,hI,HI,k0,k2,HLX⟩:=stq (c:=c) (imm:=imm) h
 have t1:c.tdiv 8=y:=by rw [Int.tdiv_eq_ediv_of_nonneg c0];exact hy
 have t2:c.tmod 8=6:=by rw [Int.tmod_eq_emod_of_nonneg c0];exact hz
 have t3:IntKind.i64.wrap y=y:=by rw [IntKind.wrap_i64];omega
 have t4:y.tdiv 2=y / 2:=Int.tdiv_eq_ediv_of_nonneg y0
 have t5:IntKind.i64.wrap (y / 2)=y / 2:=by rw [IntKind.wrap_i64];omega
 have c3:Hid (∀ W,InS g W m full->Calls prog 50 #[.pointer (some ⟨g.X,0,none⟩),.int .i64 y,.int .i64 imm] W fun e w'=>e=.returned (.tuple #[])/\InS g w' (put ⟨m,full⟩ y imm).m (put ⟨m,full⟩ y imm).full):=fun W hi=>setS g m full _ _ W hi hg y0 y1 i0 ib
 generalize put ⟨m,full⟩ y imm=t at *
 clear h hg hI i0 i1 hy hz y0 y1 c0
 go_enter func49,ntmps49
 go_wp2_with fail
 rw [<- hu]
 clear hu k0 k2
 refine Calls.mono (c3.out _ HI.out) ?_
 rintro e w3 ⟨rfl,hi1⟩
 have H3:Hid (InS g w3 t.m t.full):=hi1
 clear hi1 HI c3
 go_wp2
 go_ret
 exact ⟨rfl,H3.out⟩
theorem low_z7 (g:SG) (m:M) (full:Bool) (imm:Int) (c y:Int) (c0:0<=c) (hy:c / 8=y) (y0:0<=y) (y1:y<=7) (hz:c%8=7) (i0:0<=imm) (i1:imm<=65535) (w:World) (h:InS g w m full) (hg:Stpq.Good m) :
  Calls prog 49 #[.pointer (some ⟨g.X,0,none⟩),.agg #[.int .i64 c,.bool false,.int .i64 imm]] w fun e w'=>e=.returned (.bool false)/\InS g w' (oddE y ⟨m,full⟩).m (oddE y ⟨m,full⟩).full:=by
 obtain ⟨u,hu,hI,HI,k0,k2,HLX⟩:=stq (c:=c) (imm:=imm) h
 have t1:c.tdiv 8=y:=by rw [Int.tdiv_eq_ediv_of_nonneg c0];exact hy
 have t2:c.tmod 8=7:=by rw [Int.tmod_eq_emod_of_nonneg c0];exact hz
 have t3:IntKind.i64.wrap y=y:=by rw [IntKind.wrap_i64];omega
 have t4:y.tdiv 2=y / 2:=Int.tdiv_eq_ediv_of_nonneg y0
 have t5:IntKind.i64.wrap (y / 2)=y / 2:=by rw [IntKind.wrap_i64];omega
 have c3:Hid (∀ W,InS g W m full->Calls prog 83 #[.pointer (some ⟨g.X,0,none⟩),.int .i64 y] W fun e w'=>e=.returned (.tuple #[])/\InS g w' (oddE y ⟨m,full⟩).m (oddE y ⟨m,full⟩).full):=fun W hi=>oddS g m full _ W hi hg y0 y1
 generalize oddE y ⟨m,full⟩=t at *
 clear h hg hI i0 i1 hy hz y0 y1 c0
 go_enter func49,ntmps49
 go_wp2_with fail
 rw [<- hu]
 clear hu k0 k2
 refine Calls.mono (c3.out _ HI.out) ?_
 rintro e w3 ⟨rfl,hi1⟩
 have H3:Hid (InS g w3 t.m t.full):=hi1
 clear hi1 HI c3
 go_wp2
 go_ret
 exact ⟨rfl,H3.out⟩
end Go.Proofs.YtkfehdkjeodbmaaGreatDoor.Stcr
