import Derived.Test.YtfpecdgcapfgfaaGreatP18
import Derived.Test.YtfpecdgcapfgfaaGreatP19
import Derived.Test.YtfpecdgcapfgfaaGreatP20
import Derived.Test.YtfpecdgcapfgfaaGreatP21
import Derived.Test.YtfpecdgcapfgfaaGreatP22
import Derived.Test.YtfpecdgcapfgfaaGreatP23
set_option linter.all false
set_option maxRecDepth 20000
set_option maxHeartbeats 8000000
open Go.ChangeShapes Go.WideShapes Go.ChangeAt Go.RowKit
open Go.Proofs.Tryz
namespace Go.Proofs.YtfpecdgcapfgfaaGreat
namespace Stcr
open Go.Deep
open Signed (inB sgn ret_int ret_bool)
open Reck ReckS ReckM ReckD TurnS
open Busw Busx Busy Stpp Stpq Stps Sta Stb Stck Stcz
theorem low_z4 (g:SG) (m:M) (full:Bool) (imm:Int) (c y:Int) (c0:0<=c) (hy:c / 8=y) (y0:0<=y) (y1:y<=7) (hz:c%8=4) (i0:0<=imm) (i1:imm<=65535) (w:World) (h:InS g w m full) (hg:Stpq.Good m) :
  Calls prog 68 #[.pointer (some ⟨g.X,0,none⟩),.agg #[.int .i64 c,.bool false,.int .i64 imm]] w fun e w'=>e=.returned (.bool false)/\InS g w' (F (put ⟨m,full⟩ y (st8R (Stpp.get m y) m.rf false).1) (st8R (Stpp.get m y) m.rf false).2).m (F (put ⟨m,full⟩ y (st8R (Stpp.get m y) m.rf false).1) (st8R (Stpp.get m y) m.rf false).2).full:=by
 obtain ⟨u,hu,hI,HI,k0,k2,HLX⟩:=stq (c:=c) (imm:=imm) h
 have t1:c.tdiv 8=y:=by rw [Int.tdiv_eq_ediv_of_nonneg c0];exact hy
 have t2:c.tmod 8=4:=by rw [Int.tmod_eq_emod_of_nonneg c0];exact hz
 have t3:IntKind.i64.wrap y=y:=by rw [IntKind.wrap_i64];omega
 have t4:y.tdiv 2=y / 2:=Int.tdiv_eq_ediv_of_nonneg y0
 have t5:IntKind.i64.wrap (y / 2)=y / 2:=by rw [IntKind.wrap_i64];omega
 have c1:Rg 70 #[.pointer (some ⟨g.X,0,none⟩),.int .i64 y] u (.int .i64 (Stpp.get m y)):=rg fun W hb=>regS g m full y W (hI.below hb) hg y0 y1
 have c2:Rg 92 #[.int .i64 (Stpp.get m y),.int .i64 m.rf,.bool false] u (.tuple #[.int .i64 (st8R (Stpp.get m y) m.rf false).1,.int .i64 (st8R (Stpp.get m y) m.rf false).2]):=rg fun W hb=>(specStepped8_any (Stpp.get m y) m.rf false W).mono fun e w' h=>⟨by rw [<- st8_in (get_bd hg y) hg.f];exact h.1,by rw [h.2];exact zRf⟩
 have bd:=st8_bd (v:=Stpp.get m y) (f:=m.rf) false
 generalize (st8R (Stpp.get m y) m.rf false).1=v1 at *
 generalize (st8R (Stpp.get m y) m.rf false).2=v2 at *
 have c3:Hid (∀ W,InS g W m full->Calls prog 69 #[.pointer (some ⟨g.X,0,none⟩),.int .i64 y,.int .i64 v1] W fun e w'=>e=.returned (.tuple #[])/\InS g w' (put ⟨m,full⟩ y v1).m (put ⟨m,full⟩ y v1).full):=fun W hi=>setS g m full _ _ W hi hg y0 y1 bd.1 bd.2.1
 generalize put ⟨m,full⟩ y v1=t at *
 generalize Stpp.get m y=x1 at *
 have r0:=cell_regrown (hI.cell 1 _ rfl)
 clear bd
 clear h hg hI i0 i1 hy hz y0 y1 c0
 go_enter func68,ntmps68
 go_upto_region 27 with fail
 rw [<- hu]
 clear hu
 refine wp_region_quiet_below (by kernel_rfl) (by kernel_rfl) ?_
 repeat (first|(go_big_quiet_step (first|with_reducible exact c1 _ _|with_reducible exact c2 _ _))|(refine wpQuiet_load (by rfl) 30 _ rfl ⟨g.X,0,none⟩ rfl _ (fun W hW=>by obtain ⟨⟨d,o⟩,rfl⟩:=hW;exact hld d o) ?_;simp only [Act.put,List.setIfInBounds_toArray,List.set_cons_succ,List.set_cons_zero]))
 refine wpQuiet_nil ?_
 intro _ hw'
 obtain ⟨⟨dq,osq⟩,hw''⟩:=hw'
 subst hw''
 have H2:=zHd (HI.out.below (below_regrown u dq osq))
 have hbg:=below_regrown u dq osq
 generalize Go.Sort.grow (redrawn u dq) osq=W2 at *
 clear HI r0 c1 c2
 go_wp2_with fail
 refine Calls.mono (c3.out _ H2.out) ?_
 rintro e w3 ⟨rfl,hi1⟩
 have H3:Hid (InS g w3 t.m t.full):=hi1
 clear hi1 H2 c3
 have q_rf:=H3.out.cell 1 _ rfl
 have f_rf:=H3.out.fro 1
 have HF:Hid (InS g (w3.setCell ⟨g.X,1,none⟩ (.int .i64 v2)) { t.m with rf:=v2 } t.full):=H3.out.s_rf v2
 clear H3
 go_wp2
 go_ret
 exact ⟨rfl,HF.out⟩
theorem low_z5 (g:SG) (m:M) (full:Bool) (imm:Int) (c y:Int) (c0:0<=c) (hy:c / 8=y) (y0:0<=y) (y1:y<=7) (hz:c%8=5) (i0:0<=imm) (i1:imm<=65535) (w:World) (h:InS g w m full) (hg:Stpq.Good m) :
  Calls prog 68 #[.pointer (some ⟨g.X,0,none⟩),.agg #[.int .i64 c,.bool false,.int .i64 imm]] w fun e w'=>e=.returned (.bool false)/\InS g w' (F (put ⟨m,full⟩ y (st8R (Stpp.get m y) m.rf true).1) (st8R (Stpp.get m y) m.rf true).2).m (F (put ⟨m,full⟩ y (st8R (Stpp.get m y) m.rf true).1) (st8R (Stpp.get m y) m.rf true).2).full:=by
 obtain ⟨u,hu,hI,HI,k0,k2,HLX⟩:=stq (c:=c) (imm:=imm) h
 have t1:c.tdiv 8=y:=by rw [Int.tdiv_eq_ediv_of_nonneg c0];exact hy
 have t2:c.tmod 8=5:=by rw [Int.tmod_eq_emod_of_nonneg c0];exact hz
 have t3:IntKind.i64.wrap y=y:=by rw [IntKind.wrap_i64];omega
 have t4:y.tdiv 2=y / 2:=Int.tdiv_eq_ediv_of_nonneg y0
 have t5:IntKind.i64.wrap (y / 2)=y / 2:=by rw [IntKind.wrap_i64];omega
 have c1:Rg 70 #[.pointer (some ⟨g.X,0,none⟩),.int .i64 y] u (.int .i64 (Stpp.get m y)):=rg fun W hb=>regS g m full y W (hI.below hb) hg y0 y1
 have c2:Rg 92 #[.int .i64 (Stpp.get m y),.int .i64 m.rf,.bool true] u (.tuple #[.int .i64 (st8R (Stpp.get m y) m.rf true).1,.int .i64 (st8R (Stpp.get m y) m.rf true).2]):=rg fun W hb=>(specStepped8_any (Stpp.get m y) m.rf true W).mono fun e w' h=>⟨by rw [<- st8_in (get_bd hg y) hg.f];exact h.1,by rw [h.2];exact zRf⟩
 have bd:=st8_bd (v:=Stpp.get m y) (f:=m.rf) true
 generalize (st8R (Stpp.get m y) m.rf true).1=v1 at *
 generalize (st8R (Stpp.get m y) m.rf true).2=v2 at *
 have c3:Hid (∀ W,InS g W m full->Calls prog 69 #[.pointer (some ⟨g.X,0,none⟩),.int .i64 y,.int .i64 v1] W fun e w'=>e=.returned (.tuple #[])/\InS g w' (put ⟨m,full⟩ y v1).m (put ⟨m,full⟩ y v1).full):=fun W hi=>setS g m full _ _ W hi hg y0 y1 bd.1 bd.2.1
 generalize put ⟨m,full⟩ y v1=t at *
 generalize Stpp.get m y=x1 at *
 have r0:=cell_regrown (hI.cell 1 _ rfl)
 clear bd
 clear h hg hI i0 i1 hy hz y0 y1 c0
 go_enter func68,ntmps68
 go_upto_region 27 with fail
 rw [<- hu]
 clear hu
 refine wp_region_quiet_below (by kernel_rfl) (by kernel_rfl) ?_
 repeat (first|(go_big_quiet_step (first|with_reducible exact c1 _ _|with_reducible exact c2 _ _))|(refine wpQuiet_load (by rfl) 30 _ rfl ⟨g.X,0,none⟩ rfl _ (fun W hW=>by obtain ⟨⟨d,o⟩,rfl⟩:=hW;exact hld d o) ?_;simp only [Act.put,List.setIfInBounds_toArray,List.set_cons_succ,List.set_cons_zero]))
 refine wpQuiet_nil ?_
 intro _ hw'
 obtain ⟨⟨dq,osq⟩,hw''⟩:=hw'
 subst hw''
 have H2:=zHd (HI.out.below (below_regrown u dq osq))
 have hbg:=below_regrown u dq osq
 generalize Go.Sort.grow (redrawn u dq) osq=W2 at *
 clear HI r0 c1 c2
 go_wp2_with fail
 refine Calls.mono (c3.out _ H2.out) ?_
 rintro e w3 ⟨rfl,hi1⟩
 have H3:Hid (InS g w3 t.m t.full):=hi1
 clear hi1 H2 c3
 have q_rf:=H3.out.cell 1 _ rfl
 have f_rf:=H3.out.fro 1
 have HF:Hid (InS g (w3.setCell ⟨g.X,1,none⟩ (.int .i64 v2)) { t.m with rf:=v2 } t.full):=H3.out.s_rf v2
 clear H3
 go_wp2
 go_ret
 exact ⟨rfl,HF.out⟩
theorem low_z6 (g:SG) (m:M) (full:Bool) (imm:Int) (c y:Int) (c0:0<=c) (hy:c / 8=y) (y0:0<=y) (y1:y<=7) (hz:c%8=6) (ib:imm<=255) (i0:0<=imm) (i1:imm<=65535) (w:World) (h:InS g w m full) (hg:Stpq.Good m) :
  Calls prog 68 #[.pointer (some ⟨g.X,0,none⟩),.agg #[.int .i64 c,.bool false,.int .i64 imm]] w fun e w'=>e=.returned (.bool false)/\InS g w' (put ⟨m,full⟩ y imm).m (put ⟨m,full⟩ y imm).full:=by
 obtain ⟨u,hu,hI,HI,k0,k2,HLX⟩:=stq (c:=c) (imm:=imm) h
 have t1:c.tdiv 8=y:=by rw [Int.tdiv_eq_ediv_of_nonneg c0];exact hy
 have t2:c.tmod 8=6:=by rw [Int.tmod_eq_emod_of_nonneg c0];exact hz
 have t3:IntKind.i64.wrap y=y:=by rw [IntKind.wrap_i64];omega
 have t4:y.tdiv 2=y / 2:=Int.tdiv_eq_ediv_of_nonneg y0
 have t5:IntKind.i64.wrap (y / 2)=y / 2:=by rw [IntKind.wrap_i64];omega
 have c3:Hid (∀ W,InS g W m full->Calls prog 69 #[.pointer (some ⟨g.X,0,none⟩),.int .i64 y,.int .i64 imm] W fun e w'=>e=.returned (.tuple #[])/\InS g w' (put ⟨m,full⟩ y imm).m (put ⟨m,full⟩ y imm).full):=fun W hi=>setS g m full _ _ W hi hg y0 y1 i0 ib
 generalize put ⟨m,full⟩ y imm=t at *
 clear h hg hI i0 i1 hy hz y0 y1 c0
 go_enter func68,ntmps68
 go_wp2_with fail
 rw [<- hu]
 clear hu k0 k2
 refine Calls.mono (c3.out _ HI.out) ?_
 rintro e w3 ⟨rfl,hi1⟩
 have H3:Hid (InS g w3 t.m t.full):=hi1
 clear hi1 HI c3
 go_wp2
 go_ret
 exact ⟨rfl,H3.out⟩
theorem low_z7 (g:SG) (m:M) (full:Bool) (imm:Int) (c y:Int) (c0:0<=c) (hy:c / 8=y) (y0:0<=y) (y1:y<=7) (hz:c%8=7) (i0:0<=imm) (i1:imm<=65535) (w:World) (h:InS g w m full) (hg:Stpq.Good m) :
  Calls prog 68 #[.pointer (some ⟨g.X,0,none⟩),.agg #[.int .i64 c,.bool false,.int .i64 imm]] w fun e w'=>e=.returned (.bool false)/\InS g w' (oddE y ⟨m,full⟩).m (oddE y ⟨m,full⟩).full:=by
 obtain ⟨u,hu,hI,HI,k0,k2,HLX⟩:=stq (c:=c) (imm:=imm) h
 have t1:c.tdiv 8=y:=by rw [Int.tdiv_eq_ediv_of_nonneg c0];exact hy
 have t2:c.tmod 8=7:=by rw [Int.tmod_eq_emod_of_nonneg c0];exact hz
 have t3:IntKind.i64.wrap y=y:=by rw [IntKind.wrap_i64];omega
 have t4:y.tdiv 2=y / 2:=Int.tdiv_eq_ediv_of_nonneg y0
 have t5:IntKind.i64.wrap (y / 2)=y / 2:=by rw [IntKind.wrap_i64];omega
 have c3:Hid (∀ W,InS g W m full->Calls prog 93 #[.pointer (some ⟨g.X,0,none⟩),.int .i64 y] W fun e w'=>e=.returned (.tuple #[])/\InS g w' (oddE y ⟨m,full⟩).m (oddE y ⟨m,full⟩).full):=fun W hi=>oddS g m full _ W hi hg y0 y1
 generalize oddE y ⟨m,full⟩=t at *
 clear h hg hI i0 i1 hy hz y0 y1 c0
 go_enter func68,ntmps68
 go_wp2_with fail
 rw [<- hu]
 clear hu k0 k2
 refine Calls.mono (c3.out _ HI.out) ?_
 rintro e w3 ⟨rfl,hi1⟩
 have H3:Hid (InS g w3 t.m t.full):=hi1
 clear hi1 HI c3
 go_wp2
 go_ret
 exact ⟨rfl,H3.out⟩
end Stcr
namespace Stde
open Go.Deep
open Signed (inB sgn ret_int ret_bool)
open Reck ReckS ReckM ReckD TurnS
open Busw Busx Busy Stpp Stpq Stps Stcl Stcp Stcq Stcr Stcm Stcn Stco Stcs
def Post (g:SG) (r:S × Bool) (e:Ending) (w':World):Prop:=e=.returned (.bool r.2)/\InS g w' r.1.m r.1.full
theorem of_eq {g:SG} {r:S × Bool} {f:FuncId} {args:Array Value} {w:World} {t:S} {b:Bool} (h:Calls prog f args w fun e w'=>e=.returned (.bool b)/\InS g w' t.m t.full) (e1:r.1=t) (e2:r.2=b):Calls prog f args w (Post g r) :=
 h.mono fun e w' h=>⟨by rw [e2];exact h.1,by rw [e1];exact h.2⟩
theorem hl_wr (s:S) (a v:Int):hl (wr s a v).m=hl s.m:=by rw [<- wr_same s a v];rfl
theorem l_0 (g:SG) (m:M) (full:Bool) (imm:Int) (i0:0<=imm) (i1:imm<=65535) (w:World) (h:InS g w m full) (hg:Stpq.Good m):Calls prog 68 #[.pointer (some ⟨g.X,0,none⟩),.agg #[.int .i64 0,.bool false,.int .i64 imm]] w (Post g (lowE 0 imm ⟨m,full⟩)):=of_eq (low_0 g m full imm i0 i1 w h hg) rfl rfl
theorem l_1 (g:SG) (m:M) (full:Bool) (imm:Int) (i0:0<=imm) (i1:imm<=65535) (w:World) (h:InS g w m full) (hg:Stpq.Good m):Calls prog 68 #[.pointer (some ⟨g.X,0,none⟩),.agg #[.int .i64 1,.bool false,.int .i64 imm]] w (Post g (lowE 1 imm ⟨m,full⟩)):=of_eq (low_1 g m full imm i0 i1 w h hg) rfl rfl
theorem l_2 (g:SG) (m:M) (full:Bool) (imm:Int) (i0:0<=imm) (i1:imm<=65535) (w:World) (h:InS g w m full) (hg:Stpq.Good m):Calls prog 68 #[.pointer (some ⟨g.X,0,none⟩),.agg #[.int .i64 2,.bool false,.int .i64 imm]] w (Post g (lowE 2 imm ⟨m,full⟩)):=of_eq (low_2 g m full imm i0 i1 w h hg) rfl rfl
theorem l_8 (g:SG) (m:M) (full:Bool) (imm:Int) (i0:0<=imm) (i1:imm<=65535) (w:World) (h:InS g w m full) (hg:Stpq.Good m):Calls prog 68 #[.pointer (some ⟨g.X,0,none⟩),.agg #[.int .i64 8,.bool false,.int .i64 imm]] w (Post g (lowE 8 imm ⟨m,full⟩)):=of_eq (low_8 g m full imm i0 i1 w h hg) rfl rfl
theorem l_9 (g:SG) (m:M) (full:Bool) (imm:Int) (i0:0<=imm) (i1:imm<=65535) (w:World) (h:InS g w m full) (hg:Stpq.Good m):Calls prog 68 #[.pointer (some ⟨g.X,0,none⟩),.agg #[.int .i64 9,.bool false,.int .i64 imm]] w (Post g (lowE 9 imm ⟨m,full⟩)):=of_eq (low_9 g m full imm i0 i1 w h hg) rfl rfl
theorem l_10 (g:SG) (m:M) (full:Bool) (imm:Int) (i0:0<=imm) (i1:imm<=65535) (w:World) (h:InS g w m full) (hg:Stpq.Good m):Calls prog 68 #[.pointer (some ⟨g.X,0,none⟩),.agg #[.int .i64 10,.bool false,.int .i64 imm]] w (Post g (lowE 10 imm ⟨m,full⟩)):=of_eq (low_10 g m full imm i0 i1 w h hg) rfl rfl
theorem l_16 (g:SG) (m:M) (full:Bool) (imm:Int) (i0:0<=imm) (i1:imm<=65535) (w:World) (h:InS g w m full) (hg:Stpq.Good m):Calls prog 68 #[.pointer (some ⟨g.X,0,none⟩),.agg #[.int .i64 16,.bool false,.int .i64 imm]] w (Post g (lowE 16 imm ⟨m,full⟩)):=of_eq (low_16 g m full imm i0 i1 w h hg) rfl rfl
theorem l_17 (g:SG) (m:M) (full:Bool) (imm:Int) (i0:0<=imm) (i1:imm<=65535) (w:World) (h:InS g w m full) (hg:Stpq.Good m):Calls prog 68 #[.pointer (some ⟨g.X,0,none⟩),.agg #[.int .i64 17,.bool false,.int .i64 imm]] w (Post g (lowE 17 imm ⟨m,full⟩)):=of_eq (low_17 g m full imm i0 i1 w h hg) rfl rfl
theorem l_18 (g:SG) (m:M) (full:Bool) (imm:Int) (i0:0<=imm) (i1:imm<=65535) (w:World) (h:InS g w m full) (hg:Stpq.Good m):Calls prog 68 #[.pointer (some ⟨g.X,0,none⟩),.agg #[.int .i64 18,.bool false,.int .i64 imm]] w (Post g (lowE 18 imm ⟨m,full⟩)):=of_eq (low_18 g m full imm i0 i1 w h hg) rfl rfl
theorem l_24 (g:SG) (m:M) (full:Bool) (imm:Int) (i0:0<=imm) (i1:imm<=65535) (w:World) (h:InS g w m full) (hg:Stpq.Good m):Calls prog 68 #[.pointer (some ⟨g.X,0,none⟩),.agg #[.int .i64 24,.bool false,.int .i64 imm]] w (Post g (lowE 24 imm ⟨m,full⟩)):=of_eq (low_24 g m full imm i0 i1 w h hg) rfl rfl
theorem l_25 (g:SG) (m:M) (full:Bool) (imm:Int) (i0:0<=imm) (i1:imm<=65535) (w:World) (h:InS g w m full) (hg:Stpq.Good m):Calls prog 68 #[.pointer (some ⟨g.X,0,none⟩),.agg #[.int .i64 25,.bool false,.int .i64 imm]] w (Post g (lowE 25 imm ⟨m,full⟩)):=of_eq (low_25 g m full imm i0 i1 w h hg) rfl rfl
theorem l_26 (g:SG) (m:M) (full:Bool) (imm:Int) (i0:0<=imm) (i1:imm<=65535) (w:World) (h:InS g w m full) (hg:Stpq.Good m):Calls prog 68 #[.pointer (some ⟨g.X,0,none⟩),.agg #[.int .i64 26,.bool false,.int .i64 imm]] w (Post g (lowE 26 imm ⟨m,full⟩)):=of_eq (low_26 g m full imm i0 i1 w h hg) rfl rfl
theorem l_32 (g:SG) (m:M) (full:Bool) (imm:Int) (i0:0<=imm) (i1:imm<=65535) (w:World) (h:InS g w m full) (hg:Stpq.Good m):Calls prog 68 #[.pointer (some ⟨g.X,0,none⟩),.agg #[.int .i64 32,.bool false,.int .i64 imm]] w (Post g (lowE 32 imm ⟨m,full⟩)):=by
 cases hc:Stpp.cond m 0 with
 | true =>
  have e:lowE 32 imm ⟨m,full⟩=(jrE imm ⟨m,full⟩,true):=by
   unfold lowE
   rw [if_pos (by decide),if_neg (by decide),if_pos (.inr ⟨by decide,hc⟩)]
  exact of_eq (low_32y g m full imm i0 i1 hc w h hg) (by rw [e];try rfl) (by rw [e])
 | false =>
  have e:lowE 32 imm ⟨m,full⟩=(⟨m,full⟩,false):=by
   unfold lowE
   rw [if_pos (by decide),if_neg (by decide),if_neg (by rintro (h|⟨_,h⟩);exact absurd h (by decide);exact absurd (h.symm.trans hc) (by decide))]
  exact of_eq (low_32n g m full imm i0 i1 hc w h hg) (by rw [e]) (by rw [e])
theorem l_33 (g:SG) (m:M) (full:Bool) (imm:Int) (i0:0<=imm) (i1:imm<=65535) (w:World) (h:InS g w m full) (hg:Stpq.Good m):Calls prog 68 #[.pointer (some ⟨g.X,0,none⟩),.agg #[.int .i64 33,.bool false,.int .i64 imm]] w (Post g (lowE 33 imm ⟨m,full⟩)):=of_eq (low_33 g m full imm i0 i1 w h hg) rfl rfl
theorem l_34 (g:SG) (m:M) (full:Bool) (imm:Int) (i0:0<=imm) (i1:imm<=65535) (w:World) (h:InS g w m full) (hg:Stpq.Good m):Calls prog 68 #[.pointer (some ⟨g.X,0,none⟩),.agg #[.int .i64 34,.bool false,.int .i64 imm]] w (Post g (lowE 34 imm ⟨m,full⟩)):=of_eq (low_34 g m full imm i0 i1 w h hg) (by show (⟨setP (wr ⟨m,full⟩ (pr m 2) m.ra).m 2 ((hl (wr ⟨m,full⟩ (pr m 2) m.ra).m+1)%65536),_⟩ : S)=_;rw [hl_wr];rfl) rfl
theorem l_40 (g:SG) (m:M) (full:Bool) (imm:Int) (i0:0<=imm) (i1:imm<=65535) (w:World) (h:InS g w m full) (hg:Stpq.Good m):Calls prog 68 #[.pointer (some ⟨g.X,0,none⟩),.agg #[.int .i64 40,.bool false,.int .i64 imm]] w (Post g (lowE 40 imm ⟨m,full⟩)):=by
 cases hc:Stpp.cond m 1 with
 | true =>
  have e:lowE 40 imm ⟨m,full⟩=(jrE imm ⟨m,full⟩,true):=by
   unfold lowE
   rw [if_pos (by decide),if_neg (by decide),if_pos (.inr ⟨by decide,hc⟩)]
  exact of_eq (low_40y g m full imm i0 i1 hc w h hg) (by rw [e];try rfl) (by rw [e])
 | false =>
  have e:lowE 40 imm ⟨m,full⟩=(⟨m,full⟩,false):=by
   unfold lowE
   rw [if_pos (by decide),if_neg (by decide),if_neg (by rintro (h|⟨_,h⟩);exact absurd h (by decide);exact absurd (h.symm.trans hc) (by decide))]
  exact of_eq (low_40n g m full imm i0 i1 hc w h hg) (by rw [e]) (by rw [e])
theorem l_41 (g:SG) (m:M) (full:Bool) (imm:Int) (i0:0<=imm) (i1:imm<=65535) (w:World) (h:InS g w m full) (hg:Stpq.Good m):Calls prog 68 #[.pointer (some ⟨g.X,0,none⟩),.agg #[.int .i64 41,.bool false,.int .i64 imm]] w (Post g (lowE 41 imm ⟨m,full⟩)):=of_eq (low_41 g m full imm i0 i1 w h hg) rfl rfl
theorem l_42 (g:SG) (m:M) (full:Bool) (imm:Int) (i0:0<=imm) (i1:imm<=65535) (w:World) (h:InS g w m full) (hg:Stpq.Good m):Calls prog 68 #[.pointer (some ⟨g.X,0,none⟩),.agg #[.int .i64 42,.bool false,.int .i64 imm]] w (Post g (lowE 42 imm ⟨m,full⟩)):=of_eq (low_42 g m full imm i0 i1 w h hg) (rfl) rfl
theorem l_48 (g:SG) (m:M) (full:Bool) (imm:Int) (i0:0<=imm) (i1:imm<=65535) (w:World) (h:InS g w m full) (hg:Stpq.Good m):Calls prog 68 #[.pointer (some ⟨g.X,0,none⟩),.agg #[.int .i64 48,.bool false,.int .i64 imm]] w (Post g (lowE 48 imm ⟨m,full⟩)):=by
 cases hc:Stpp.cond m 2 with
 | true =>
  have e:lowE 48 imm ⟨m,full⟩=(jrE imm ⟨m,full⟩,true):=by
   unfold lowE
   rw [if_pos (by decide),if_neg (by decide),if_pos (.inr ⟨by decide,hc⟩)]
  exact of_eq (low_48y g m full imm i0 i1 hc w h hg) (by rw [e];try rfl) (by rw [e])
 | false =>
  have e:lowE 48 imm ⟨m,full⟩=(⟨m,full⟩,false):=by
   unfold lowE
   rw [if_pos (by decide),if_neg (by decide),if_neg (by rintro (h|⟨_,h⟩);exact absurd h (by decide);exact absurd (h.symm.trans hc) (by decide))]
  exact of_eq (low_48n g m full imm i0 i1 hc w h hg) (by rw [e]) (by rw [e])
theorem l_49 (g:SG) (m:M) (full:Bool) (imm:Int) (i0:0<=imm) (i1:imm<=65535) (w:World) (h:InS g w m full) (hg:Stpq.Good m):Calls prog 68 #[.pointer (some ⟨g.X,0,none⟩),.agg #[.int .i64 49,.bool false,.int .i64 imm]] w (Post g (lowE 49 imm ⟨m,full⟩)):=of_eq (low_49 g m full imm i0 i1 w h hg) rfl rfl
theorem l_50 (g:SG) (m:M) (full:Bool) (imm:Int) (i0:0<=imm) (i1:imm<=65535) (w:World) (h:InS g w m full) (hg:Stpq.Good m):Calls prog 68 #[.pointer (some ⟨g.X,0,none⟩),.agg #[.int .i64 50,.bool false,.int .i64 imm]] w (Post g (lowE 50 imm ⟨m,full⟩)):=of_eq (low_50 g m full imm i0 i1 w h hg) (by show (⟨setP (wr ⟨m,full⟩ (pr m 2) m.ra).m 2 ((hl (wr ⟨m,full⟩ (pr m 2) m.ra).m+65535)%65536),_⟩ : S)=_;rw [hl_wr];rfl) rfl
theorem l_56 (g:SG) (m:M) (full:Bool) (imm:Int) (i0:0<=imm) (i1:imm<=65535) (w:World) (h:InS g w m full) (hg:Stpq.Good m):Calls prog 68 #[.pointer (some ⟨g.X,0,none⟩),.agg #[.int .i64 56,.bool false,.int .i64 imm]] w (Post g (lowE 56 imm ⟨m,full⟩)):=by
 cases hc:Stpp.cond m 3 with
 | true =>
  have e:lowE 56 imm ⟨m,full⟩=(jrE imm ⟨m,full⟩,true):=by
   unfold lowE
   rw [if_pos (by decide),if_neg (by decide),if_pos (.inr ⟨by decide,hc⟩)]
  exact of_eq (low_56y g m full imm i0 i1 hc w h hg) (by rw [e];try rfl) (by rw [e])
 | false =>
  have e:lowE 56 imm ⟨m,full⟩=(⟨m,full⟩,false):=by
   unfold lowE
   rw [if_pos (by decide),if_neg (by decide),if_neg (by rintro (h|⟨_,h⟩);exact absurd h (by decide);exact absurd (h.symm.trans hc) (by decide))]
  exact of_eq (low_56n g m full imm i0 i1 hc w h hg) (by rw [e]) (by rw [e])
theorem l_57 (g:SG) (m:M) (full:Bool) (imm:Int) (i0:0<=imm) (i1:imm<=65535) (w:World) (h:InS g w m full) (hg:Stpq.Good m):Calls prog 68 #[.pointer (some ⟨g.X,0,none⟩),.agg #[.int .i64 57,.bool false,.int .i64 imm]] w (Post g (lowE 57 imm ⟨m,full⟩)):=of_eq (low_57 g m full imm i0 i1 w h hg) rfl rfl
theorem l_58 (g:SG) (m:M) (full:Bool) (imm:Int) (i0:0<=imm) (i1:imm<=65535) (w:World) (h:InS g w m full) (hg:Stpq.Good m):Calls prog 68 #[.pointer (some ⟨g.X,0,none⟩),.agg #[.int .i64 58,.bool false,.int .i64 imm]] w (Post g (lowE 58 imm ⟨m,full⟩)):=of_eq (low_58 g m full imm i0 i1 w h hg) (rfl) rfl
theorem lowS (g:SG) (m:M) (full:Bool) (c imm:Int) (c0:0<=c) (c1:c<64) (hi:ImmOk c false imm) (w:World) (h:InS g w m full) (hg:Stpq.Good m):Calls prog 68 #[.pointer (some ⟨g.X,0,none⟩),.agg #[.int .i64 c,.bool false,.int .i64 imm]] w (Post g (lowE c imm ⟨m,full⟩)):=by
 rcases hi with hi|⟨i0,i1,i2,i3⟩
 ·cases hi
 have hz:c%8=0 \/ c%8=1 \/ c%8=2 \/ c%8=3 \/ c%8=4 \/ c%8=5 \/ c%8=6 \/ c%8=7:=by omega
 rcases hz with hz|hz|hz|hz|hz|hz|hz|hz
 ·have hc:c=0 \/ c=8 \/ c=16 \/ c=24 \/ c=32 \/ c=40 \/ c=48 \/ c=56:=by omega
  rcases hc with rfl|rfl|rfl|rfl|rfl|rfl|rfl|rfl
  ·exact l_0 g m full imm i0 i1 w h hg
  ·exact l_8 g m full imm i0 i1 w h hg
  ·exact l_16 g m full imm i0 i1 w h hg
  ·exact l_24 g m full imm i0 i1 w h hg
  ·exact l_32 g m full imm i0 i1 w h hg
  ·exact l_40 g m full imm i0 i1 w h hg
  ·exact l_48 g m full imm i0 i1 w h hg
  ·exact l_56 g m full imm i0 i1 w h hg
 ·have hc:c=1 \/ c=9 \/ c=17 \/ c=25 \/ c=33 \/ c=41 \/ c=49 \/ c=57:=by omega
  rcases hc with rfl|rfl|rfl|rfl|rfl|rfl|rfl|rfl
  ·exact l_1 g m full imm i0 i1 w h hg
  ·exact l_9 g m full imm i0 i1 w h hg
  ·exact l_17 g m full imm i0 i1 w h hg
  ·exact l_25 g m full imm i0 i1 w h hg
  ·exact l_33 g m full imm i0 i1 w h hg
  ·exact l_41 g m full imm i0 i1 w h hg
  ·exact l_49 g m full imm i0 i1 w h hg
  ·exact l_57 g m full imm i0 i1 w h hg
 ·have hc:c=2 \/ c=10 \/ c=18 \/ c=26 \/ c=34 \/ c=42 \/ c=50 \/ c=58:=by omega
  rcases hc with rfl|rfl|rfl|rfl|rfl|rfl|rfl|rfl
  ·exact l_2 g m full imm i0 i1 w h hg
  ·exact l_10 g m full imm i0 i1 w h hg
  ·exact l_18 g m full imm i0 i1 w h hg
  ·exact l_26 g m full imm i0 i1 w h hg
  ·exact l_34 g m full imm i0 i1 w h hg
  ·exact l_42 g m full imm i0 i1 w h hg
  ·exact l_50 g m full imm i0 i1 w h hg
  ·exact l_58 g m full imm i0 i1 w h hg
 ·have hq:c / 8%2=0 \/ c / 8%2=1:=by omega
  rcases hq with hq|hq
  ·refine of_eq (low_p0 g m full imm c (c / 8) (c / 8 / 2) c0 rfl rfl hq (by omega) (by omega) (by omega) hz i0 i1 w h hg) ?_ ?_
   all_goals
    unfold lowE
    rw [if_neg (by omega),if_neg (by omega),if_neg (by omega),if_pos hz]
    try rw [if_pos hq]
  ·refine of_eq (low_p1 g m full imm c (c / 8) (c / 8 / 2) c0 rfl rfl hq (by omega) (by omega) (by omega) hz i0 i1 w h hg) ?_ ?_
   all_goals
    unfold lowE
    rw [if_neg (by omega),if_neg (by omega),if_neg (by omega),if_pos hz]
    try rw [if_neg (by omega)]
 ·refine of_eq (low_z4 g m full imm c (c / 8) c0 rfl (by omega) (by omega) hz i0 i1 w h hg) ?_ ?_
  all_goals
   unfold lowE
   rw [if_neg (by omega),if_neg (by omega),if_neg (by omega),if_neg (by omega),if_pos hz]
 ·refine of_eq (low_z5 g m full imm c (c / 8) c0 rfl (by omega) (by omega) hz i0 i1 w h hg) ?_ ?_
  all_goals
   unfold lowE
   rw [if_neg (by omega),if_neg (by omega),if_neg (by omega),if_neg (by omega),if_neg (by omega),if_pos hz]
 ·refine of_eq (low_z6 g m full imm c (c / 8) c0 rfl (by omega) (by omega) hz (i2 c1 (by omega) (by omega)) i0 i1 w h hg) ?_ ?_
  all_goals
   unfold lowE
   rw [if_neg (by omega),if_neg (by omega),if_neg (by omega),if_neg (by omega),if_neg (by omega),if_neg (by omega),if_pos hz]
 ·refine of_eq (low_z7 g m full imm c (c / 8) c0 rfl (by omega) (by omega) hz i0 i1 w h hg) ?_ ?_
  all_goals
   unfold lowE
   rw [if_neg (by omega),if_neg (by omega),if_neg (by omega),if_neg (by omega),if_neg (by omega),if_neg (by omega),if_neg (by omega)]
theorem t_192 (g:SG) (m:M) (full:Bool) (imm:Int) (i0:0<=imm) (i1:imm<=65535) (w:World) (h:InS g w m full) (hg:Stpq.Good m):Calls prog 72 #[.pointer (some ⟨g.X,0,none⟩),.agg #[.int .i64 192,.bool false,.int .i64 imm]] w (Post g (topE 192 imm ⟨m,full⟩)):=by
 cases hc:Stpp.cond m 0 with
 | true =>
  have e:topE 192 imm ⟨m,full⟩=(retE (decide ((192:Int)=217)) ⟨m,full⟩,true):=by
   unfold topE
   rw [if_pos (.inl ⟨by decide,by decide,hc⟩)]
  exact of_eq (top_192y g m full imm i0 i1 hc w h hg) (by rw [e];try rfl) (by rw [e])
 | false =>
  have e:topE 192 imm ⟨m,full⟩=(⟨m,full⟩,false):=by
   unfold topE
   rw [if_neg (by rintro (⟨_,_,h⟩|h|h);exact absurd (h.symm.trans hc) (by decide);exact absurd h (by decide);exact absurd h (by decide)),if_neg (by decide),if_neg (by decide),if_neg (by decide),if_neg (by decide),if_neg (by decide),if_neg (by decide),if_neg (by decide),if_neg (by decide),if_neg (by decide),if_neg (by decide),if_neg (by decide),if_neg (by decide),if_neg (by rintro (⟨h,_,_⟩|h) <;> exact absurd h (by decide)),if_neg (by decide),if_neg (by rintro (⟨h,_⟩|h) <;> exact absurd h (by decide)),if_neg (by decide),if_neg (by decide)]
  exact of_eq (top_192n g m full imm i0 i1 hc w h hg) (by rw [e]) (by rw [e])
theorem t_193 (g:SG) (m:M) (full:Bool) (imm:Int) (i0:0<=imm) (i1:imm<=65535) (w:World) (h:InS g w m full) (hg:Stpq.Good m):Calls prog 72 #[.pointer (some ⟨g.X,0,none⟩),.agg #[.int .i64 193,.bool false,.int .i64 imm]] w (Post g (topE 193 imm ⟨m,full⟩)):=of_eq (top_193 g m full imm i0 i1 w h hg) rfl rfl
theorem t_194 (g:SG) (m:M) (full:Bool) (imm:Int) (i0:0<=imm) (i1:imm<=65535) (w:World) (h:InS g w m full) (hg:Stpq.Good m):Calls prog 72 #[.pointer (some ⟨g.X,0,none⟩),.agg #[.int .i64 194,.bool false,.int .i64 imm]] w (Post g (topE 194 imm ⟨m,full⟩)):=by
 cases hc:Stpp.cond m 0 with
 | true =>
  have e:topE 194 imm ⟨m,full⟩=(⟨{ m with pc:=imm },full⟩,true):=by
   unfold topE
   rw [if_neg (by rintro (⟨h,_,_⟩|h|h) <;> exact absurd h (by decide)),if_neg (by decide),if_neg (by decide),if_neg (by decide),if_neg (by decide),if_neg (by decide),if_neg (by decide),if_neg (by decide),if_neg (by decide),if_neg (by decide),if_neg (by decide),if_neg (by decide),if_neg (by decide),if_pos (.inl ⟨by decide,by decide,hc⟩)]
  exact of_eq (top_194y g m full imm i0 i1 hc w h hg) (by rw [e];try rfl) (by rw [e])
 | false =>
  have e:topE 194 imm ⟨m,full⟩=(⟨m,full⟩,false):=by
   unfold topE
   rw [if_neg (by rintro (⟨h,_,_⟩|h|h) <;> exact absurd h (by decide)),if_neg (by decide),if_neg (by decide),if_neg (by decide),if_neg (by decide),if_neg (by decide),if_neg (by decide),if_neg (by decide),if_neg (by decide),if_neg (by decide),if_neg (by decide),if_neg (by decide),if_neg (by decide),if_neg (by rintro (⟨_,_,h⟩|h);exact absurd (h.symm.trans hc) (by decide);exact absurd h (by decide)),if_neg (by decide),if_neg (by rintro (⟨h,_⟩|h) <;> exact absurd h (by decide)),if_neg (by decide),if_neg (by decide)]
  exact of_eq (top_194n g m full imm i0 i1 hc w h hg) (by rw [e]) (by rw [e])
theorem t_195 (g:SG) (m:M) (full:Bool) (imm:Int) (i0:0<=imm) (i1:imm<=65535) (w:World) (h:InS g w m full) (hg:Stpq.Good m):Calls prog 72 #[.pointer (some ⟨g.X,0,none⟩),.agg #[.int .i64 195,.bool false,.int .i64 imm]] w (Post g (topE 195 imm ⟨m,full⟩)):=of_eq (top_195 g m full imm i0 i1 w h hg) rfl rfl
theorem t_196 (g:SG) (m:M) (full:Bool) (imm:Int) (i0:0<=imm) (i1:imm<=65535) (w:World) (h:InS g w m full) (hg:Stpq.Good m):Calls prog 72 #[.pointer (some ⟨g.X,0,none⟩),.agg #[.int .i64 196,.bool false,.int .i64 imm]] w (Post g (topE 196 imm ⟨m,full⟩)):=by
 cases hc:Stpp.cond m 0 with
 | true =>
  have e:topE 196 imm ⟨m,full⟩=(callE imm ⟨m,full⟩,true):=by
   unfold topE
   rw [if_neg (by rintro (⟨h,_,_⟩|h|h) <;> exact absurd h (by decide)),if_neg (by decide),if_neg (by decide),if_neg (by decide),if_neg (by decide),if_neg (by decide),if_neg (by decide),if_neg (by decide),if_neg (by decide),if_neg (by decide),if_neg (by decide),if_neg (by decide),if_neg (by decide),if_neg (by rintro (⟨h,_,_⟩|h) <;> exact absurd h (by decide)),if_neg (by decide),if_pos (.inl ⟨by decide,hc⟩)]
  exact of_eq (top_196y g m full imm i0 i1 hc w h hg) (by rw [e];try rfl) (by rw [e])
 | false =>
  have e:topE 196 imm ⟨m,full⟩=(⟨m,full⟩,false):=by
   unfold topE
   rw [if_neg (by rintro (⟨h,_,_⟩|h|h) <;> exact absurd h (by decide)),if_neg (by decide),if_neg (by decide),if_neg (by decide),if_neg (by decide),if_neg (by decide),if_neg (by decide),if_neg (by decide),if_neg (by decide),if_neg (by decide),if_neg (by decide),if_neg (by decide),if_neg (by decide),if_neg (by rintro (⟨h,_,_⟩|h) <;> exact absurd h (by decide)),if_neg (by decide),if_neg (by rintro (⟨_,h⟩|h);exact absurd (h.symm.trans hc) (by decide);exact absurd h (by decide)),if_neg (by decide),if_neg (by decide)]
  exact of_eq (top_196n g m full imm i0 i1 hc w h hg) (by rw [e]) (by rw [e])
theorem t_197 (g:SG) (m:M) (full:Bool) (imm:Int) (i0:0<=imm) (i1:imm<=65535) (w:World) (h:InS g w m full) (hg:Stpq.Good m):Calls prog 72 #[.pointer (some ⟨g.X,0,none⟩),.agg #[.int .i64 197,.bool false,.int .i64 imm]] w (Post g (topE 197 imm ⟨m,full⟩)):=of_eq (top_197 g m full imm i0 i1 w h hg) rfl rfl
theorem t_198 (g:SG) (m:M) (full:Bool) (imm:Int) (i0:0<=imm) (i1:imm<=65535) (ib:imm<=255) (w:World) (h:InS g w m full) (hg:Stpq.Good m):Calls prog 72 #[.pointer (some ⟨g.X,0,none⟩),.agg #[.int .i64 198,.bool false,.int .i64 imm]] w (Post g (topE 198 imm ⟨m,full⟩)):=of_eq (top_198 g m full imm i0 i1 ib w h hg) rfl rfl
theorem t_199 (g:SG) (m:M) (full:Bool) (imm:Int) (i0:0<=imm) (i1:imm<=65535) (w:World) (h:InS g w m full) (hg:Stpq.Good m):Calls prog 72 #[.pointer (some ⟨g.X,0,none⟩),.agg #[.int .i64 199,.bool false,.int .i64 imm]] w (Post g (topE 199 imm ⟨m,full⟩)):=of_eq (top_199 g m full imm i0 i1 w h hg) rfl rfl
theorem t_200 (g:SG) (m:M) (full:Bool) (imm:Int) (i0:0<=imm) (i1:imm<=65535) (w:World) (h:InS g w m full) (hg:Stpq.Good m):Calls prog 72 #[.pointer (some ⟨g.X,0,none⟩),.agg #[.int .i64 200,.bool false,.int .i64 imm]] w (Post g (topE 200 imm ⟨m,full⟩)):=by
 cases hc:Stpp.cond m 1 with
 | true =>
  have e:topE 200 imm ⟨m,full⟩=(retE (decide ((200:Int)=217)) ⟨m,full⟩,true):=by
   unfold topE
   rw [if_pos (.inl ⟨by decide,by decide,hc⟩)]
  exact of_eq (top_200y g m full imm i0 i1 hc w h hg) (by rw [e];try rfl) (by rw [e])
 | false =>
  have e:topE 200 imm ⟨m,full⟩=(⟨m,full⟩,false):=by
   unfold topE
   rw [if_neg (by rintro (⟨_,_,h⟩|h|h);exact absurd (h.symm.trans hc) (by decide);exact absurd h (by decide);exact absurd h (by decide)),if_neg (by decide),if_neg (by decide),if_neg (by decide),if_neg (by decide),if_neg (by decide),if_neg (by decide),if_neg (by decide),if_neg (by decide),if_neg (by decide),if_neg (by decide),if_neg (by decide),if_neg (by decide),if_neg (by rintro (⟨h,_,_⟩|h) <;> exact absurd h (by decide)),if_neg (by decide),if_neg (by rintro (⟨h,_⟩|h) <;> exact absurd h (by decide)),if_neg (by decide),if_neg (by decide)]
  exact of_eq (top_200n g m full imm i0 i1 hc w h hg) (by rw [e]) (by rw [e])
theorem t_201 (g:SG) (m:M) (full:Bool) (imm:Int) (i0:0<=imm) (i1:imm<=65535) (w:World) (h:InS g w m full) (hg:Stpq.Good m):Calls prog 72 #[.pointer (some ⟨g.X,0,none⟩),.agg #[.int .i64 201,.bool false,.int .i64 imm]] w (Post g (topE 201 imm ⟨m,full⟩)):=of_eq (top_201 g m full imm i0 i1 w h hg) rfl rfl
theorem t_202 (g:SG) (m:M) (full:Bool) (imm:Int) (i0:0<=imm) (i1:imm<=65535) (w:World) (h:InS g w m full) (hg:Stpq.Good m):Calls prog 72 #[.pointer (some ⟨g.X,0,none⟩),.agg #[.int .i64 202,.bool false,.int .i64 imm]] w (Post g (topE 202 imm ⟨m,full⟩)):=by
 cases hc:Stpp.cond m 1 with
 | true =>
  have e:topE 202 imm ⟨m,full⟩=(⟨{ m with pc:=imm },full⟩,true):=by
   unfold topE
   rw [if_neg (by rintro (⟨h,_,_⟩|h|h) <;> exact absurd h (by decide)),if_neg (by decide),if_neg (by decide),if_neg (by decide),if_neg (by decide),if_neg (by decide),if_neg (by decide),if_neg (by decide),if_neg (by decide),if_neg (by decide),if_neg (by decide),if_neg (by decide),if_neg (by decide),if_pos (.inl ⟨by decide,by decide,hc⟩)]
  exact of_eq (top_202y g m full imm i0 i1 hc w h hg) (by rw [e];try rfl) (by rw [e])
 | false =>
  have e:topE 202 imm ⟨m,full⟩=(⟨m,full⟩,false):=by
   unfold topE
   rw [if_neg (by rintro (⟨h,_,_⟩|h|h) <;> exact absurd h (by decide)),if_neg (by decide),if_neg (by decide),if_neg (by decide),if_neg (by decide),if_neg (by decide),if_neg (by decide),if_neg (by decide),if_neg (by decide),if_neg (by decide),if_neg (by decide),if_neg (by decide),if_neg (by decide),if_neg (by rintro (⟨_,_,h⟩|h);exact absurd (h.symm.trans hc) (by decide);exact absurd h (by decide)),if_neg (by decide),if_neg (by rintro (⟨h,_⟩|h) <;> exact absurd h (by decide)),if_neg (by decide),if_neg (by decide)]
  exact of_eq (top_202n g m full imm i0 i1 hc w h hg) (by rw [e]) (by rw [e])
theorem t_204 (g:SG) (m:M) (full:Bool) (imm:Int) (i0:0<=imm) (i1:imm<=65535) (w:World) (h:InS g w m full) (hg:Stpq.Good m):Calls prog 72 #[.pointer (some ⟨g.X,0,none⟩),.agg #[.int .i64 204,.bool false,.int .i64 imm]] w (Post g (topE 204 imm ⟨m,full⟩)):=by
 cases hc:Stpp.cond m 1 with
 | true =>
  have e:topE 204 imm ⟨m,full⟩=(callE imm ⟨m,full⟩,true):=by
   unfold topE
   rw [if_neg (by rintro (⟨h,_,_⟩|h|h) <;> exact absurd h (by decide)),if_neg (by decide),if_neg (by decide),if_neg (by decide),if_neg (by decide),if_neg (by decide),if_neg (by decide),if_neg (by decide),if_neg (by decide),if_neg (by decide),if_neg (by decide),if_neg (by decide),if_neg (by decide),if_neg (by rintro (⟨h,_,_⟩|h) <;> exact absurd h (by decide)),if_neg (by decide),if_pos (.inl ⟨by decide,hc⟩)]
  exact of_eq (top_204y g m full imm i0 i1 hc w h hg) (by rw [e];try rfl) (by rw [e])
 | false =>
  have e:topE 204 imm ⟨m,full⟩=(⟨m,full⟩,false):=by
   unfold topE
   rw [if_neg (by rintro (⟨h,_,_⟩|h|h) <;> exact absurd h (by decide)),if_neg (by decide),if_neg (by decide),if_neg (by decide),if_neg (by decide),if_neg (by decide),if_neg (by decide),if_neg (by decide),if_neg (by decide),if_neg (by decide),if_neg (by decide),if_neg (by decide),if_neg (by decide),if_neg (by rintro (⟨h,_,_⟩|h) <;> exact absurd h (by decide)),if_neg (by decide),if_neg (by rintro (⟨_,h⟩|h);exact absurd (h.symm.trans hc) (by decide);exact absurd h (by decide)),if_neg (by decide),if_neg (by decide)]
  exact of_eq (top_204n g m full imm i0 i1 hc w h hg) (by rw [e]) (by rw [e])
theorem t_205 (g:SG) (m:M) (full:Bool) (imm:Int) (i0:0<=imm) (i1:imm<=65535) (w:World) (h:InS g w m full) (hg:Stpq.Good m):Calls prog 72 #[.pointer (some ⟨g.X,0,none⟩),.agg #[.int .i64 205,.bool false,.int .i64 imm]] w (Post g (topE 205 imm ⟨m,full⟩)):=of_eq (top_205 g m full imm i0 i1 w h hg) rfl rfl
theorem t_206 (g:SG) (m:M) (full:Bool) (imm:Int) (i0:0<=imm) (i1:imm<=65535) (ib:imm<=255) (w:World) (h:InS g w m full) (hg:Stpq.Good m):Calls prog 72 #[.pointer (some ⟨g.X,0,none⟩),.agg #[.int .i64 206,.bool false,.int .i64 imm]] w (Post g (topE 206 imm ⟨m,full⟩)):=of_eq (top_206 g m full imm i0 i1 ib w h hg) rfl rfl
theorem t_207 (g:SG) (m:M) (full:Bool) (imm:Int) (i0:0<=imm) (i1:imm<=65535) (w:World) (h:InS g w m full) (hg:Stpq.Good m):Calls prog 72 #[.pointer (some ⟨g.X,0,none⟩),.agg #[.int .i64 207,.bool false,.int .i64 imm]] w (Post g (topE 207 imm ⟨m,full⟩)):=of_eq (top_207 g m full imm i0 i1 w h hg) rfl rfl
theorem t_208 (g:SG) (m:M) (full:Bool) (imm:Int) (i0:0<=imm) (i1:imm<=65535) (w:World) (h:InS g w m full) (hg:Stpq.Good m):Calls prog 72 #[.pointer (some ⟨g.X,0,none⟩),.agg #[.int .i64 208,.bool false,.int .i64 imm]] w (Post g (topE 208 imm ⟨m,full⟩)):=by
 cases hc:Stpp.cond m 2 with
 | true =>
  have e:topE 208 imm ⟨m,full⟩=(retE (decide ((208:Int)=217)) ⟨m,full⟩,true):=by
   unfold topE
   rw [if_pos (.inl ⟨by decide,by decide,hc⟩)]
  exact of_eq (top_208y g m full imm i0 i1 hc w h hg) (by rw [e];try rfl) (by rw [e])
 | false =>
  have e:topE 208 imm ⟨m,full⟩=(⟨m,full⟩,false):=by
   unfold topE
   rw [if_neg (by rintro (⟨_,_,h⟩|h|h);exact absurd (h.symm.trans hc) (by decide);exact absurd h (by decide);exact absurd h (by decide)),if_neg (by decide),if_neg (by decide),if_neg (by decide),if_neg (by decide),if_neg (by decide),if_neg (by decide),if_neg (by decide),if_neg (by decide),if_neg (by decide),if_neg (by decide),if_neg (by decide),if_neg (by decide),if_neg (by rintro (⟨h,_,_⟩|h) <;> exact absurd h (by decide)),if_neg (by decide),if_neg (by rintro (⟨h,_⟩|h) <;> exact absurd h (by decide)),if_neg (by decide),if_neg (by decide)]
  exact of_eq (top_208n g m full imm i0 i1 hc w h hg) (by rw [e]) (by rw [e])
theorem t_209 (g:SG) (m:M) (full:Bool) (imm:Int) (i0:0<=imm) (i1:imm<=65535) (w:World) (h:InS g w m full) (hg:Stpq.Good m):Calls prog 72 #[.pointer (some ⟨g.X,0,none⟩),.agg #[.int .i64 209,.bool false,.int .i64 imm]] w (Post g (topE 209 imm ⟨m,full⟩)):=of_eq (top_209 g m full imm i0 i1 w h hg) rfl rfl
theorem t_210 (g:SG) (m:M) (full:Bool) (imm:Int) (i0:0<=imm) (i1:imm<=65535) (w:World) (h:InS g w m full) (hg:Stpq.Good m):Calls prog 72 #[.pointer (some ⟨g.X,0,none⟩),.agg #[.int .i64 210,.bool false,.int .i64 imm]] w (Post g (topE 210 imm ⟨m,full⟩)):=by
 cases hc:Stpp.cond m 2 with
 | true =>
  have e:topE 210 imm ⟨m,full⟩=(⟨{ m with pc:=imm },full⟩,true):=by
   unfold topE
   rw [if_neg (by rintro (⟨h,_,_⟩|h|h) <;> exact absurd h (by decide)),if_neg (by decide),if_neg (by decide),if_neg (by decide),if_neg (by decide),if_neg (by decide),if_neg (by decide),if_neg (by decide),if_neg (by decide),if_neg (by decide),if_neg (by decide),if_neg (by decide),if_neg (by decide),if_pos (.inl ⟨by decide,by decide,hc⟩)]
  exact of_eq (top_210y g m full imm i0 i1 hc w h hg) (by rw [e];try rfl) (by rw [e])
 | false =>
  have e:topE 210 imm ⟨m,full⟩=(⟨m,full⟩,false):=by
   unfold topE
   rw [if_neg (by rintro (⟨h,_,_⟩|h|h) <;> exact absurd h (by decide)),if_neg (by decide),if_neg (by decide),if_neg (by decide),if_neg (by decide),if_neg (by decide),if_neg (by decide),if_neg (by decide),if_neg (by decide),if_neg (by decide),if_neg (by decide),if_neg (by decide),if_neg (by decide),if_neg (by rintro (⟨_,_,h⟩|h);exact absurd (h.symm.trans hc) (by decide);exact absurd h (by decide)),if_neg (by decide),if_neg (by rintro (⟨h,_⟩|h) <;> exact absurd h (by decide)),if_neg (by decide),if_neg (by decide)]
  exact of_eq (top_210n g m full imm i0 i1 hc w h hg) (by rw [e]) (by rw [e])
theorem t_212 (g:SG) (m:M) (full:Bool) (imm:Int) (i0:0<=imm) (i1:imm<=65535) (w:World) (h:InS g w m full) (hg:Stpq.Good m):Calls prog 72 #[.pointer (some ⟨g.X,0,none⟩),.agg #[.int .i64 212,.bool false,.int .i64 imm]] w (Post g (topE 212 imm ⟨m,full⟩)):=by
 cases hc:Stpp.cond m 2 with
 | true =>
  have e:topE 212 imm ⟨m,full⟩=(callE imm ⟨m,full⟩,true):=by
   unfold topE
   rw [if_neg (by rintro (⟨h,_,_⟩|h|h) <;> exact absurd h (by decide)),if_neg (by decide),if_neg (by decide),if_neg (by decide),if_neg (by decide),if_neg (by decide),if_neg (by decide),if_neg (by decide),if_neg (by decide),if_neg (by decide),if_neg (by decide),if_neg (by decide),if_neg (by decide),if_neg (by rintro (⟨h,_,_⟩|h) <;> exact absurd h (by decide)),if_neg (by decide),if_pos (.inl ⟨by decide,hc⟩)]
  exact of_eq (top_212y g m full imm i0 i1 hc w h hg) (by rw [e];try rfl) (by rw [e])
 | false =>
  have e:topE 212 imm ⟨m,full⟩=(⟨m,full⟩,false):=by
   unfold topE
   rw [if_neg (by rintro (⟨h,_,_⟩|h|h) <;> exact absurd h (by decide)),if_neg (by decide),if_neg (by decide),if_neg (by decide),if_neg (by decide),if_neg (by decide),if_neg (by decide),if_neg (by decide),if_neg (by decide),if_neg (by decide),if_neg (by decide),if_neg (by decide),if_neg (by decide),if_neg (by rintro (⟨h,_,_⟩|h) <;> exact absurd h (by decide)),if_neg (by decide),if_neg (by rintro (⟨_,h⟩|h);exact absurd (h.symm.trans hc) (by decide);exact absurd h (by decide)),if_neg (by decide),if_neg (by decide)]
  exact of_eq (top_212n g m full imm i0 i1 hc w h hg) (by rw [e]) (by rw [e])
theorem t_213 (g:SG) (m:M) (full:Bool) (imm:Int) (i0:0<=imm) (i1:imm<=65535) (w:World) (h:InS g w m full) (hg:Stpq.Good m):Calls prog 72 #[.pointer (some ⟨g.X,0,none⟩),.agg #[.int .i64 213,.bool false,.int .i64 imm]] w (Post g (topE 213 imm ⟨m,full⟩)):=of_eq (top_213 g m full imm i0 i1 w h hg) rfl rfl
theorem t_214 (g:SG) (m:M) (full:Bool) (imm:Int) (i0:0<=imm) (i1:imm<=65535) (ib:imm<=255) (w:World) (h:InS g w m full) (hg:Stpq.Good m):Calls prog 72 #[.pointer (some ⟨g.X,0,none⟩),.agg #[.int .i64 214,.bool false,.int .i64 imm]] w (Post g (topE 214 imm ⟨m,full⟩)):=of_eq (top_214 g m full imm i0 i1 ib w h hg) rfl rfl
theorem t_215 (g:SG) (m:M) (full:Bool) (imm:Int) (i0:0<=imm) (i1:imm<=65535) (w:World) (h:InS g w m full) (hg:Stpq.Good m):Calls prog 72 #[.pointer (some ⟨g.X,0,none⟩),.agg #[.int .i64 215,.bool false,.int .i64 imm]] w (Post g (topE 215 imm ⟨m,full⟩)):=of_eq (top_215 g m full imm i0 i1 w h hg) rfl rfl
theorem t_216 (g:SG) (m:M) (full:Bool) (imm:Int) (i0:0<=imm) (i1:imm<=65535) (w:World) (h:InS g w m full) (hg:Stpq.Good m):Calls prog 72 #[.pointer (some ⟨g.X,0,none⟩),.agg #[.int .i64 216,.bool false,.int .i64 imm]] w (Post g (topE 216 imm ⟨m,full⟩)):=by
 cases hc:Stpp.cond m 3 with
 | true =>
  have e:topE 216 imm ⟨m,full⟩=(retE (decide ((216:Int)=217)) ⟨m,full⟩,true):=by
   unfold topE
   rw [if_pos (.inl ⟨by decide,by decide,hc⟩)]
  exact of_eq (top_216y g m full imm i0 i1 hc w h hg) (by rw [e];try rfl) (by rw [e])
 | false =>
  have e:topE 216 imm ⟨m,full⟩=(⟨m,full⟩,false):=by
   unfold topE
   rw [if_neg (by rintro (⟨_,_,h⟩|h|h);exact absurd (h.symm.trans hc) (by decide);exact absurd h (by decide);exact absurd h (by decide)),if_neg (by decide),if_neg (by decide),if_neg (by decide),if_neg (by decide),if_neg (by decide),if_neg (by decide),if_neg (by decide),if_neg (by decide),if_neg (by decide),if_neg (by decide),if_neg (by decide),if_neg (by decide),if_neg (by rintro (⟨h,_,_⟩|h) <;> exact absurd h (by decide)),if_neg (by decide),if_neg (by rintro (⟨h,_⟩|h) <;> exact absurd h (by decide)),if_neg (by decide),if_neg (by decide)]
  exact of_eq (top_216n g m full imm i0 i1 hc w h hg) (by rw [e]) (by rw [e])
theorem t_217 (g:SG) (m:M) (full:Bool) (imm:Int) (i0:0<=imm) (i1:imm<=65535) (w:World) (h:InS g w m full) (hg:Stpq.Good m):Calls prog 72 #[.pointer (some ⟨g.X,0,none⟩),.agg #[.int .i64 217,.bool false,.int .i64 imm]] w (Post g (topE 217 imm ⟨m,full⟩)):=of_eq (top_217 g m full imm i0 i1 w h hg) rfl rfl
theorem t_218 (g:SG) (m:M) (full:Bool) (imm:Int) (i0:0<=imm) (i1:imm<=65535) (w:World) (h:InS g w m full) (hg:Stpq.Good m):Calls prog 72 #[.pointer (some ⟨g.X,0,none⟩),.agg #[.int .i64 218,.bool false,.int .i64 imm]] w (Post g (topE 218 imm ⟨m,full⟩)):=by
 cases hc:Stpp.cond m 3 with
 | true =>
  have e:topE 218 imm ⟨m,full⟩=(⟨{ m with pc:=imm },full⟩,true):=by
   unfold topE
   rw [if_neg (by rintro (⟨h,_,_⟩|h|h) <;> exact absurd h (by decide)),if_neg (by decide),if_neg (by decide),if_neg (by decide),if_neg (by decide),if_neg (by decide),if_neg (by decide),if_neg (by decide),if_neg (by decide),if_neg (by decide),if_neg (by decide),if_neg (by decide),if_neg (by decide),if_pos (.inl ⟨by decide,by decide,hc⟩)]
  exact of_eq (top_218y g m full imm i0 i1 hc w h hg) (by rw [e];try rfl) (by rw [e])
 | false =>
  have e:topE 218 imm ⟨m,full⟩=(⟨m,full⟩,false):=by
   unfold topE
   rw [if_neg (by rintro (⟨h,_,_⟩|h|h) <;> exact absurd h (by decide)),if_neg (by decide),if_neg (by decide),if_neg (by decide),if_neg (by decide),if_neg (by decide),if_neg (by decide),if_neg (by decide),if_neg (by decide),if_neg (by decide),if_neg (by decide),if_neg (by decide),if_neg (by decide),if_neg (by rintro (⟨_,_,h⟩|h);exact absurd (h.symm.trans hc) (by decide);exact absurd h (by decide)),if_neg (by decide),if_neg (by rintro (⟨h,_⟩|h) <;> exact absurd h (by decide)),if_neg (by decide),if_neg (by decide)]
  exact of_eq (top_218n g m full imm i0 i1 hc w h hg) (by rw [e]) (by rw [e])
theorem t_220 (g:SG) (m:M) (full:Bool) (imm:Int) (i0:0<=imm) (i1:imm<=65535) (w:World) (h:InS g w m full) (hg:Stpq.Good m):Calls prog 72 #[.pointer (some ⟨g.X,0,none⟩),.agg #[.int .i64 220,.bool false,.int .i64 imm]] w (Post g (topE 220 imm ⟨m,full⟩)):=by
 cases hc:Stpp.cond m 3 with
 | true =>
  have e:topE 220 imm ⟨m,full⟩=(callE imm ⟨m,full⟩,true):=by
   unfold topE
   rw [if_neg (by rintro (⟨h,_,_⟩|h|h) <;> exact absurd h (by decide)),if_neg (by decide),if_neg (by decide),if_neg (by decide),if_neg (by decide),if_neg (by decide),if_neg (by decide),if_neg (by decide),if_neg (by decide),if_neg (by decide),if_neg (by decide),if_neg (by decide),if_neg (by decide),if_neg (by rintro (⟨h,_,_⟩|h) <;> exact absurd h (by decide)),if_neg (by decide),if_pos (.inl ⟨by decide,hc⟩)]
  exact of_eq (top_220y g m full imm i0 i1 hc w h hg) (by rw [e];try rfl) (by rw [e])
 | false =>
  have e:topE 220 imm ⟨m,full⟩=(⟨m,full⟩,false):=by
   unfold topE
   rw [if_neg (by rintro (⟨h,_,_⟩|h|h) <;> exact absurd h (by decide)),if_neg (by decide),if_neg (by decide),if_neg (by decide),if_neg (by decide),if_neg (by decide),if_neg (by decide),if_neg (by decide),if_neg (by decide),if_neg (by decide),if_neg (by decide),if_neg (by decide),if_neg (by decide),if_neg (by rintro (⟨h,_,_⟩|h) <;> exact absurd h (by decide)),if_neg (by decide),if_neg (by rintro (⟨_,h⟩|h);exact absurd (h.symm.trans hc) (by decide);exact absurd h (by decide)),if_neg (by decide),if_neg (by decide)]
  exact of_eq (top_220n g m full imm i0 i1 hc w h hg) (by rw [e]) (by rw [e])
theorem t_222 (g:SG) (m:M) (full:Bool) (imm:Int) (i0:0<=imm) (i1:imm<=65535) (ib:imm<=255) (w:World) (h:InS g w m full) (hg:Stpq.Good m):Calls prog 72 #[.pointer (some ⟨g.X,0,none⟩),.agg #[.int .i64 222,.bool false,.int .i64 imm]] w (Post g (topE 222 imm ⟨m,full⟩)):=of_eq (top_222 g m full imm i0 i1 ib w h hg) rfl rfl
theorem t_223 (g:SG) (m:M) (full:Bool) (imm:Int) (i0:0<=imm) (i1:imm<=65535) (w:World) (h:InS g w m full) (hg:Stpq.Good m):Calls prog 72 #[.pointer (some ⟨g.X,0,none⟩),.agg #[.int .i64 223,.bool false,.int .i64 imm]] w (Post g (topE 223 imm ⟨m,full⟩)):=of_eq (top_223 g m full imm i0 i1 w h hg) rfl rfl
theorem t_224 (g:SG) (m:M) (full:Bool) (imm:Int) (i0:0<=imm) (i1:imm<=65535) (w:World) (h:InS g w m full) (hg:Stpq.Good m):Calls prog 72 #[.pointer (some ⟨g.X,0,none⟩),.agg #[.int .i64 224,.bool false,.int .i64 imm]] w (Post g (topE 224 imm ⟨m,full⟩)):=of_eq (top_224 g m full imm i0 i1 w h hg) rfl rfl
theorem t_225 (g:SG) (m:M) (full:Bool) (imm:Int) (i0:0<=imm) (i1:imm<=65535) (w:World) (h:InS g w m full) (hg:Stpq.Good m):Calls prog 72 #[.pointer (some ⟨g.X,0,none⟩),.agg #[.int .i64 225,.bool false,.int .i64 imm]] w (Post g (topE 225 imm ⟨m,full⟩)):=of_eq (top_225 g m full imm i0 i1 w h hg) rfl rfl
theorem t_226 (g:SG) (m:M) (full:Bool) (imm:Int) (i0:0<=imm) (i1:imm<=65535) (w:World) (h:InS g w m full) (hg:Stpq.Good m):Calls prog 72 #[.pointer (some ⟨g.X,0,none⟩),.agg #[.int .i64 226,.bool false,.int .i64 imm]] w (Post g (topE 226 imm ⟨m,full⟩)):=of_eq (top_226 g m full imm i0 i1 w h hg) rfl rfl
theorem t_229 (g:SG) (m:M) (full:Bool) (imm:Int) (i0:0<=imm) (i1:imm<=65535) (w:World) (h:InS g w m full) (hg:Stpq.Good m):Calls prog 72 #[.pointer (some ⟨g.X,0,none⟩),.agg #[.int .i64 229,.bool false,.int .i64 imm]] w (Post g (topE 229 imm ⟨m,full⟩)):=of_eq (top_229 g m full imm i0 i1 w h hg) rfl rfl
theorem t_230 (g:SG) (m:M) (full:Bool) (imm:Int) (i0:0<=imm) (i1:imm<=65535) (ib:imm<=255) (w:World) (h:InS g w m full) (hg:Stpq.Good m):Calls prog 72 #[.pointer (some ⟨g.X,0,none⟩),.agg #[.int .i64 230,.bool false,.int .i64 imm]] w (Post g (topE 230 imm ⟨m,full⟩)):=of_eq (top_230 g m full imm i0 i1 ib w h hg) rfl rfl
theorem t_231 (g:SG) (m:M) (full:Bool) (imm:Int) (i0:0<=imm) (i1:imm<=65535) (w:World) (h:InS g w m full) (hg:Stpq.Good m):Calls prog 72 #[.pointer (some ⟨g.X,0,none⟩),.agg #[.int .i64 231,.bool false,.int .i64 imm]] w (Post g (topE 231 imm ⟨m,full⟩)):=of_eq (top_231 g m full imm i0 i1 w h hg) rfl rfl
theorem t_232 (g:SG) (m:M) (full:Bool) (imm:Int) (i0:0<=imm) (i1:imm<=65535) (ib:imm<=255) (w:World) (h:InS g w m full) (hg:Stpq.Good m):Calls prog 72 #[.pointer (some ⟨g.X,0,none⟩),.agg #[.int .i64 232,.bool false,.int .i64 imm]] w (Post g (topE 232 imm ⟨m,full⟩)):=of_eq (top_232 g m full imm i0 i1 ib w h hg) rfl rfl
theorem t_233 (g:SG) (m:M) (full:Bool) (imm:Int) (i0:0<=imm) (i1:imm<=65535) (w:World) (h:InS g w m full) (hg:Stpq.Good m):Calls prog 72 #[.pointer (some ⟨g.X,0,none⟩),.agg #[.int .i64 233,.bool false,.int .i64 imm]] w (Post g (topE 233 imm ⟨m,full⟩)):=of_eq (top_233 g m full imm i0 i1 w h hg) rfl rfl
theorem t_234 (g:SG) (m:M) (full:Bool) (imm:Int) (i0:0<=imm) (i1:imm<=65535) (w:World) (h:InS g w m full) (hg:Stpq.Good m):Calls prog 72 #[.pointer (some ⟨g.X,0,none⟩),.agg #[.int .i64 234,.bool false,.int .i64 imm]] w (Post g (topE 234 imm ⟨m,full⟩)):=of_eq (top_234 g m full imm i0 i1 w h hg) rfl rfl
theorem t_238 (g:SG) (m:M) (full:Bool) (imm:Int) (i0:0<=imm) (i1:imm<=65535) (ib:imm<=255) (w:World) (h:InS g w m full) (hg:Stpq.Good m):Calls prog 72 #[.pointer (some ⟨g.X,0,none⟩),.agg #[.int .i64 238,.bool false,.int .i64 imm]] w (Post g (topE 238 imm ⟨m,full⟩)):=of_eq (top_238 g m full imm i0 i1 ib w h hg) rfl rfl
theorem t_239 (g:SG) (m:M) (full:Bool) (imm:Int) (i0:0<=imm) (i1:imm<=65535) (w:World) (h:InS g w m full) (hg:Stpq.Good m):Calls prog 72 #[.pointer (some ⟨g.X,0,none⟩),.agg #[.int .i64 239,.bool false,.int .i64 imm]] w (Post g (topE 239 imm ⟨m,full⟩)):=of_eq (top_239 g m full imm i0 i1 w h hg) rfl rfl
theorem t_240 (g:SG) (m:M) (full:Bool) (imm:Int) (i0:0<=imm) (i1:imm<=65535) (w:World) (h:InS g w m full) (hg:Stpq.Good m):Calls prog 72 #[.pointer (some ⟨g.X,0,none⟩),.agg #[.int .i64 240,.bool false,.int .i64 imm]] w (Post g (topE 240 imm ⟨m,full⟩)):=of_eq (top_240 g m full imm i0 i1 w h hg) rfl rfl
theorem t_241 (g:SG) (m:M) (full:Bool) (imm:Int) (i0:0<=imm) (i1:imm<=65535) (w:World) (h:InS g w m full) (hg:Stpq.Good m):Calls prog 72 #[.pointer (some ⟨g.X,0,none⟩),.agg #[.int .i64 241,.bool false,.int .i64 imm]] w (Post g (topE 241 imm ⟨m,full⟩)):=of_eq (top_241 g m full imm i0 i1 w h hg) rfl rfl
theorem t_242 (g:SG) (m:M) (full:Bool) (imm:Int) (i0:0<=imm) (i1:imm<=65535) (w:World) (h:InS g w m full) (hg:Stpq.Good m):Calls prog 72 #[.pointer (some ⟨g.X,0,none⟩),.agg #[.int .i64 242,.bool false,.int .i64 imm]] w (Post g (topE 242 imm ⟨m,full⟩)):=of_eq (top_242 g m full imm i0 i1 w h hg) rfl rfl
theorem t_243 (g:SG) (m:M) (full:Bool) (imm:Int) (i0:0<=imm) (i1:imm<=65535) (w:World) (h:InS g w m full) (hg:Stpq.Good m):Calls prog 72 #[.pointer (some ⟨g.X,0,none⟩),.agg #[.int .i64 243,.bool false,.int .i64 imm]] w (Post g (topE 243 imm ⟨m,full⟩)):=of_eq (top_243 g m full imm i0 i1 w h hg) rfl rfl
theorem t_245 (g:SG) (m:M) (full:Bool) (imm:Int) (i0:0<=imm) (i1:imm<=65535) (w:World) (h:InS g w m full) (hg:Stpq.Good m):Calls prog 72 #[.pointer (some ⟨g.X,0,none⟩),.agg #[.int .i64 245,.bool false,.int .i64 imm]] w (Post g (topE 245 imm ⟨m,full⟩)):=of_eq (top_245 g m full imm i0 i1 w h hg) rfl rfl
theorem t_246 (g:SG) (m:M) (full:Bool) (imm:Int) (i0:0<=imm) (i1:imm<=65535) (ib:imm<=255) (w:World) (h:InS g w m full) (hg:Stpq.Good m):Calls prog 72 #[.pointer (some ⟨g.X,0,none⟩),.agg #[.int .i64 246,.bool false,.int .i64 imm]] w (Post g (topE 246 imm ⟨m,full⟩)):=of_eq (top_246 g m full imm i0 i1 ib w h hg) rfl rfl
theorem t_247 (g:SG) (m:M) (full:Bool) (imm:Int) (i0:0<=imm) (i1:imm<=65535) (w:World) (h:InS g w m full) (hg:Stpq.Good m):Calls prog 72 #[.pointer (some ⟨g.X,0,none⟩),.agg #[.int .i64 247,.bool false,.int .i64 imm]] w (Post g (topE 247 imm ⟨m,full⟩)):=of_eq (top_247 g m full imm i0 i1 w h hg) rfl rfl
theorem t_248 (g:SG) (m:M) (full:Bool) (imm:Int) (i0:0<=imm) (i1:imm<=65535) (ib:imm<=255) (w:World) (h:InS g w m full) (hg:Stpq.Good m):Calls prog 72 #[.pointer (some ⟨g.X,0,none⟩),.agg #[.int .i64 248,.bool false,.int .i64 imm]] w (Post g (topE 248 imm ⟨m,full⟩)):=of_eq (top_248 g m full imm i0 i1 ib w h hg) rfl rfl
theorem t_249 (g:SG) (m:M) (full:Bool) (imm:Int) (i0:0<=imm) (i1:imm<=65535) (w:World) (h:InS g w m full) (hg:Stpq.Good m):Calls prog 72 #[.pointer (some ⟨g.X,0,none⟩),.agg #[.int .i64 249,.bool false,.int .i64 imm]] w (Post g (topE 249 imm ⟨m,full⟩)):=of_eq (top_249 g m full imm i0 i1 w h hg) rfl rfl
theorem t_250 (g:SG) (m:M) (full:Bool) (imm:Int) (i0:0<=imm) (i1:imm<=65535) (w:World) (h:InS g w m full) (hg:Stpq.Good m):Calls prog 72 #[.pointer (some ⟨g.X,0,none⟩),.agg #[.int .i64 250,.bool false,.int .i64 imm]] w (Post g (topE 250 imm ⟨m,full⟩)):=of_eq (top_250 g m full imm i0 i1 w h hg) rfl rfl
theorem t_251 (g:SG) (m:M) (full:Bool) (imm:Int) (i0:0<=imm) (i1:imm<=65535) (w:World) (h:InS g w m full) (hg:Stpq.Good m):Calls prog 72 #[.pointer (some ⟨g.X,0,none⟩),.agg #[.int .i64 251,.bool false,.int .i64 imm]] w (Post g (topE 251 imm ⟨m,full⟩)):=of_eq (top_251 g m full imm i0 i1 w h hg) rfl rfl
theorem t_254 (g:SG) (m:M) (full:Bool) (imm:Int) (i0:0<=imm) (i1:imm<=65535) (ib:imm<=255) (w:World) (h:InS g w m full) (hg:Stpq.Good m):Calls prog 72 #[.pointer (some ⟨g.X,0,none⟩),.agg #[.int .i64 254,.bool false,.int .i64 imm]] w (Post g (topE 254 imm ⟨m,full⟩)):=of_eq (top_254 g m full imm i0 i1 ib w h hg) rfl rfl
theorem t_255 (g:SG) (m:M) (full:Bool) (imm:Int) (i0:0<=imm) (i1:imm<=65535) (w:World) (h:InS g w m full) (hg:Stpq.Good m):Calls prog 72 #[.pointer (some ⟨g.X,0,none⟩),.agg #[.int .i64 255,.bool false,.int .i64 imm]] w (Post g (topE 255 imm ⟨m,full⟩)):=of_eq (top_255 g m full imm i0 i1 w h hg) rfl rfl
theorem none_all:∀ k:Fin 256,192<=k.val->LenX.none? (k.val:Int) false=false->(k.val=192 \/ k.val=193 \/ k.val=194 \/ k.val=195 \/ k.val=196 \/ k.val=197 \/ k.val=198 \/ k.val=199 \/ k.val=200 \/ k.val=201 \/ k.val=202 \/ k.val=204 \/ k.val=205 \/ k.val=206 \/ k.val=207 \/ k.val=208 \/ k.val=209 \/ k.val=210 \/ k.val=212 \/ k.val=213 \/ k.val=214 \/ k.val=215 \/ k.val=216 \/ k.val=217 \/ k.val=218 \/ k.val=220 \/ k.val=222 \/ k.val=223 \/ k.val=224 \/ k.val=225 \/ k.val=226 \/ k.val=229 \/ k.val=230 \/ k.val=231 \/ k.val=232 \/ k.val=233 \/ k.val=234 \/ k.val=238 \/ k.val=239 \/ k.val=240 \/ k.val=241 \/ k.val=242 \/ k.val=243 \/ k.val=245 \/ k.val=246 \/ k.val=247 \/ k.val=248 \/ k.val=249 \/ k.val=250 \/ k.val=251 \/ k.val=254 \/ k.val=255 \/ k.val=203):=by decide +kernel
theorem topS (g:SG) (m:M) (full:Bool) (c imm:Int) (c0:192<=c) (c1:c<=255) (hn:LenX.none? c false=false) (hb:¬ c=203) (hi:ImmOk c false imm) (w:World) (h:InS g w m full) (hg:Stpq.Good m):Calls prog 72 #[.pointer (some ⟨g.X,0,none⟩),.agg #[.int .i64 c,.bool false,.int .i64 imm]] w (Post g (topE c imm ⟨m,full⟩)):=by
 rcases hi with hi|⟨i0,i1,i2,i3⟩
 ·cases hi
 obtain ⟨k,hk⟩:=Stpc.fin_of (c:=c) (by omega) c1
 have hc:=none_all k (by omega) (by rw [hk];exact hn)
 have hc2:c=192 \/ c=193 \/ c=194 \/ c=195 \/ c=196 \/ c=197 \/ c=198 \/ c=199 \/ c=200 \/ c=201 \/ c=202 \/ c=204 \/ c=205 \/ c=206 \/ c=207 \/ c=208 \/ c=209 \/ c=210 \/ c=212 \/ c=213 \/ c=214 \/ c=215 \/ c=216 \/ c=217 \/ c=218 \/ c=220 \/ c=222 \/ c=223 \/ c=224 \/ c=225 \/ c=226 \/ c=229 \/ c=230 \/ c=231 \/ c=232 \/ c=233 \/ c=234 \/ c=238 \/ c=239 \/ c=240 \/ c=241 \/ c=242 \/ c=243 \/ c=245 \/ c=246 \/ c=247 \/ c=248 \/ c=249 \/ c=250 \/ c=251 \/ c=254 \/ c=255:=by omega
 rcases hc2 with rfl|rfl|rfl|rfl|rfl|rfl|rfl|rfl|rfl|rfl|rfl|rfl|rfl|rfl|rfl|rfl|rfl|rfl|rfl|rfl|rfl|rfl|rfl|rfl|rfl|rfl|rfl|rfl|rfl|rfl|rfl|rfl|rfl|rfl|rfl|rfl|rfl|rfl|rfl|rfl|rfl|rfl|rfl|rfl|rfl|rfl|rfl|rfl|rfl|rfl|rfl|rfl
 ·exact t_192 g m full imm i0 i1 w h hg
 ·exact t_193 g m full imm i0 i1 w h hg
 ·exact t_194 g m full imm i0 i1 w h hg
 ·exact t_195 g m full imm i0 i1 w h hg
 ·exact t_196 g m full imm i0 i1 w h hg
 ·exact t_197 g m full imm i0 i1 w h hg
 ·exact t_198 g m full imm i0 i1 (i3 (by decide)) w h hg
 ·exact t_199 g m full imm i0 i1 w h hg
 ·exact t_200 g m full imm i0 i1 w h hg
 ·exact t_201 g m full imm i0 i1 w h hg
 ·exact t_202 g m full imm i0 i1 w h hg
 ·exact t_204 g m full imm i0 i1 w h hg
 ·exact t_205 g m full imm i0 i1 w h hg
 ·exact t_206 g m full imm i0 i1 (i3 (by decide)) w h hg
 ·exact t_207 g m full imm i0 i1 w h hg
 ·exact t_208 g m full imm i0 i1 w h hg
 ·exact t_209 g m full imm i0 i1 w h hg
 ·exact t_210 g m full imm i0 i1 w h hg
 ·exact t_212 g m full imm i0 i1 w h hg
 ·exact t_213 g m full imm i0 i1 w h hg
 ·exact t_214 g m full imm i0 i1 (i3 (by decide)) w h hg
 ·exact t_215 g m full imm i0 i1 w h hg
 ·exact t_216 g m full imm i0 i1 w h hg
 ·exact t_217 g m full imm i0 i1 w h hg
 ·exact t_218 g m full imm i0 i1 w h hg
 ·exact t_220 g m full imm i0 i1 w h hg
 ·exact t_222 g m full imm i0 i1 (i3 (by decide)) w h hg
 ·exact t_223 g m full imm i0 i1 w h hg
 ·exact t_224 g m full imm i0 i1 w h hg
 ·exact t_225 g m full imm i0 i1 w h hg
 ·exact t_226 g m full imm i0 i1 w h hg
 ·exact t_229 g m full imm i0 i1 w h hg
 ·exact t_230 g m full imm i0 i1 (i3 (by decide)) w h hg
 ·exact t_231 g m full imm i0 i1 w h hg
 ·exact t_232 g m full imm i0 i1 (i3 (by decide)) w h hg
 ·exact t_233 g m full imm i0 i1 w h hg
 ·exact t_234 g m full imm i0 i1 w h hg
 ·exact t_238 g m full imm i0 i1 (i3 (by decide)) w h hg
 ·exact t_239 g m full imm i0 i1 w h hg
 ·exact t_240 g m full imm i0 i1 w h hg
 ·exact t_241 g m full imm i0 i1 w h hg
 ·exact t_242 g m full imm i0 i1 w h hg
 ·exact t_243 g m full imm i0 i1 w h hg
 ·exact t_245 g m full imm i0 i1 w h hg
 ·exact t_246 g m full imm i0 i1 (i3 (by decide)) w h hg
 ·exact t_247 g m full imm i0 i1 w h hg
 ·exact t_248 g m full imm i0 i1 (i3 (by decide)) w h hg
 ·exact t_249 g m full imm i0 i1 w h hg
 ·exact t_250 g m full imm i0 i1 w h hg
 ·exact t_251 g m full imm i0 i1 w h hg
 ·exact t_254 g m full imm i0 i1 (i3 (by decide)) w h hg
 ·exact t_255 g m full imm i0 i1 w h hg
end Stde
end Go.Proofs.YtfpecdgcapfgfaaGreat
