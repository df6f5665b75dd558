import Derived.Test.YtnjolmbdbgbmbaaGreatDoorH29
import Derived.Test.YtnjolmbdbgbmbaaGreatDoorP02
import Derived.Test.YtnjolmbdbgbmbaaGreatDoorP07
set_option linter.all false
set_option maxRecDepth 20000
set_option maxHeartbeats 8000000
open Go.ChangeShapes Go.WideShapes Go.ChangeAt Go.RowKit
open Go.Proofs.Tryz
namespace Go.Proofs.YtnjolmbdbgbmbaaGreatDoor
namespace Stpu
open Go.Deep
open Signed (inB sgn ret_int ret_bool)
open Busw Busx Stpp Stpq Stpi Stpj Stpr Stpk Stpm Stpn
structure Pt (g:G):Prop where
 x:0<=g.x/\g.x<=3
 y:0<=g.y/\g.y<=7
 z:0<=g.z/\g.z<=7
 p:0<=g.p/\g.p<=3
theorem mv1 (g:G) (m:M) (full:Bool)  (w:World) (h:In g w m full) (hg:Stpq.Good m) (hp:Pt g) :
  Calls prog 153 #[.pointer (some ⟨g.K,0,none⟩)] w fun e w'=>e=.returned (.tuple #[])/\In g w' (put ⟨m,full⟩ g.y (Stpp.get m g.z)).m (put ⟨m,full⟩ g.y (Stpp.get m g.z)).full:=by
 have c1:Rg 155 #[.pointer (some ⟨g.K,0,none⟩),.int .i64 g.z] w (.int .i64 (Stpp.get m g.z)):=rg fun W hb=>get_any g m full g.z W (h.below hb) hg hp.z.1 hp.z.2
 have bd:=get_bd hg g.z
 have c2:Hid (∀ W,In g W m full->Calls prog 154 #[.pointer (some ⟨g.K,0,none⟩),.int .i64 g.y,.int .i64 (Stpp.get m g.z)] W fun e w'=>e=.returned (.tuple #[])/\In g w' (put ⟨m,full⟩ g.y (Stpp.get m g.z)).m (put ⟨m,full⟩ g.y (Stpp.get m g.z)).full):=fun W hi=>put_any g m full _ _ W hi hg hp.y.1 hp.y.2 bd.1 bd.2
 generalize put ⟨m,full⟩ g.y (Stpp.get m g.z)=t at *
 generalize Stpp.get m g.z=v at *
 have r0:=cell_regrown (h.k_y)
 have r1:=cell_regrown (h.k_z)
 have HI:Hid (In g w m full):=h
 clear h hg hp bd
 go_enter func153,ntmps153
 go_wp2_with fail
 refine Qtail.tail_below 13 (by kernel_rfl) (by kernel_rfl) ?_
 simp only [List.take_succ_cons,List.take_zero,List.drop_succ_cons,List.drop_zero]
 repeat (go_big_quiet_step (first|with_reducible exact c1 _ _))
 refine wpQuiet_nil ?_
 intro _ hw'
 obtain ⟨⟨dq,osq⟩,hw''⟩:=hw'
 subst hw''
 have H2:=zHd (HI.out.below (below_regrown w dq osq))
 generalize Go.Sort.grow (redrawn w dq) osq=W2 at *
 clear HI r0 r1 c1
 go_wp2_with fail
 refine Calls.mono (c2.out _ H2.out) ?_
 rintro e w1 ⟨rfl,hi1⟩
 have H3:Hid (In g w1 t.m t.full):=hi1
 clear hi1 H2 c2
 go_wp2
 go_end0
 exact ⟨rfl,H3.out⟩
theorem mv2 (g:G) (m:M) (full:Bool) (i0:0<=g.imm) (i1:g.imm<=255) (w:World) (h:In g w m full) (hg:Stpq.Good m) (hp:Pt g) :
  Calls prog 156 #[.pointer (some ⟨g.K,0,none⟩)] w fun e w'=>e=.returned (.tuple #[])/\In g w' (put ⟨m,full⟩ g.y g.imm).m (put ⟨m,full⟩ g.y g.imm).full:=by
 have c2:Hid (∀ W,In g W m full->Calls prog 154 #[.pointer (some ⟨g.K,0,none⟩),.int .i64 g.y,.int .i64 g.imm] W fun e w'=>e=.returned (.tuple #[])/\In g w' (put ⟨m,full⟩ g.y g.imm).m (put ⟨m,full⟩ g.y g.imm).full):=fun W hi=>put_any g m full _ _ W hi hg hp.y.1 hp.y.2 i0 i1
 generalize put ⟨m,full⟩ g.y g.imm=t at *
 have r0:=cell_regrown (h.k_y)
 have r1:=cell_regrown (h.k_imm)
 have HI:Hid (In g w m full):=h
 clear h hg hp i0 i1
 go_enter func156,ntmps156
 go_wp2_with fail
 refine Qtail.tail_below 11 (by kernel_rfl) (by kernel_rfl) ?_
 simp only [List.take_succ_cons,List.take_zero,List.drop_succ_cons,List.drop_zero]
 repeat (go_big_quiet_step (first|fail))
 refine wpQuiet_nil ?_
 intro _ hw'
 obtain ⟨⟨dq,osq⟩,hw''⟩:=hw'
 subst hw''
 have H2:=zHd (HI.out.below (below_regrown w dq osq))
 generalize Go.Sort.grow (redrawn w dq) osq=W2 at *
 clear HI r0 r1
 go_wp2_with fail
 refine Calls.mono (c2.out _ H2.out) ?_
 rintro e w1 ⟨rfl,hi1⟩
 have H3:Hid (In g w1 t.m t.full):=hi1
 clear hi1 H2 c2
 go_wp2
 go_end0
 exact ⟨rfl,H3.out⟩
theorem mv3 (g:G) (m:M) (full:Bool)  (w:World) (h:In g w m full) (hg:Stpq.Good m) (hp:Pt g) :
  Calls prog 157 #[.pointer (some ⟨g.K,0,none⟩)] w fun e w'=>e=.returned (.tuple #[])/\In g w' (⟨setP m g.p (g.imm%65536),full⟩ : S).m (⟨setP m g.p (g.imm%65536),full⟩ : S).full:=by
 have c1:Rg 158 #[.pointer (some ⟨g.K,0,none⟩),.int .i64 g.p] w (pv g g.p):=rg fun W hb=>pairOf_any g m full g.p W (h.below hb) hp.p.1 hp.p.2
 have c2:Hid (∀ W,In g W m full->Calls prog 159 #[pv g g.p,.int .i64 g.imm] W fun e w'=>e=.returned (.tuple #[])/\In g w' (⟨setP m g.p (g.imm%65536),full⟩ : S).m (⟨setP m g.p (g.imm%65536),full⟩ : S).full):=fun W hi=>pput_any g m full _ _ W hi hp.p.1 hp.p.2
 generalize (⟨setP m g.p (g.imm%65536),full⟩ : S)=t at *
 generalize pv g g.p=v at *
 have r0:=cell_regrown (h.k_p)
 have r1:=cell_regrown (h.k_imm)
 have HI:Hid (In g w m full):=h
 clear h hg hp
 go_enter func157,ntmps157
 go_wp2_with fail
 refine Qtail.tail_below 12 (by kernel_rfl) (by kernel_rfl) ?_
 simp only [List.take_succ_cons,List.take_zero,List.drop_succ_cons,List.drop_zero]
 repeat (go_big_quiet_step (first|with_reducible exact c1 _ _))
 refine wpQuiet_nil ?_
 intro _ hw'
 obtain ⟨⟨dq,osq⟩,hw''⟩:=hw'
 subst hw''
 have H2:=zHd (HI.out.below (below_regrown w dq osq))
 generalize Go.Sort.grow (redrawn w dq) osq=W2 at *
 clear HI r0 r1 c1
 go_wp2_with fail
 refine Calls.mono (c2.out _ H2.out) ?_
 rintro e w1 ⟨rfl,hi1⟩
 have H3:Hid (In g w1 t.m t.full):=hi1
 clear hi1 H2 c2
 go_wp2
 go_end0
 exact ⟨rfl,H3.out⟩
theorem mv4 (g:G) (m:M) (full:Bool)  (w:World) (h:In g w m full) (hg:Stpq.Good m) (hp:Pt g) :
  Calls prog 160 #[.pointer (some ⟨g.K,0,none⟩)] w fun e w'=>e=.returned (.tuple #[])/\In g w' (⟨{ m with sp:=hl m },full⟩ : S).m (⟨{ m with sp:=hl m },full⟩ : S).full:=by
 have c1:Rg 161 #[.pointer (some ⟨g.K,0,none⟩)] w (.agg #[.pointer (some ⟨g.B,6,none⟩),.pointer (some ⟨g.B,7,none⟩)]):=rg fun W hb=>hl_any g W ((h.below hb).k_cpu)
 have c2:Rg 162 #[.agg #[.pointer (some ⟨g.B,6,none⟩),.pointer (some ⟨g.B,7,none⟩)]] w (.int .i64 (hl m)):=rg fun W hb=>at_hl g m full W (h.below hb) hg
 generalize hl m=v at *
 have r0:=cell_regrown (h.k_cpu)
 have HI:Hid (In g w m full):=h
 clear h hg hp
 go_enter func160,ntmps160
 go_wp2_with fail
 refine Qtail.tail_below 9 (by kernel_rfl) (by kernel_rfl) ?_
 simp only [List.take_succ_cons,List.take_zero,List.drop_succ_cons,List.drop_zero]
 repeat (go_big_quiet_step (first|with_reducible exact c1 _ _|with_reducible exact c2 _ _))
 refine wpQuiet_nil ?_
 intro _ hw'
 obtain ⟨⟨dq,osq⟩,hw''⟩:=hw'
 subst hw''
 have H2:=zHd (HI.out.below (below_regrown w dq osq))
 generalize Go.Sort.grow (redrawn w dq) osq=W2 at *
 clear HI r0 c1 c2
 have q_k_cpu:=H2.out.k_cpu
 have q_c_sp:=H2.out.c_sp
 have f_sp:=H2.out.fro 8
 have H3:=H2.out.s_sp v
 have HF:Hid (In g (W2.setCell ⟨g.B,8,none⟩ (.int .i64 v)) { m with sp:=v } full):=H3
 clear H3 H2
 go_wp2
 go_end0
 exact ⟨rfl,HF.out⟩
theorem mvSp (g:G) (m:M) (full:Bool) (i0:0<=g.imm) (i1:g.imm<=65535) (w:World) (h:In g w m full) (hg:Stpq.Good m) (hp:Pt g) :
  Calls prog 163 #[.pointer (some ⟨g.K,0,none⟩)] w fun e w'=>e=.returned (.tuple #[])/\In g w' (spE g.imm ⟨m,full⟩).m (spE g.imm ⟨m,full⟩).full:=by
 obtain ⟨s0,s1⟩:=hg.sp
 have d1:m.sp.tmod 256=m.sp%256:=Int.tmod_eq_emod_of_nonneg s0
 have d2:m.sp.tdiv 256=m.sp / 256:=Int.tdiv_eq_ediv_of_nonneg s0
 have d3:IntKind.i64.wrap (g.imm+1)=g.imm+1:=by rw [IntKind.wrap_i64];omega
 have d4:IntKind.i64.wrap (m.sp / 256)=m.sp / 256:=by rw [IntKind.wrap_i64];omega
 have c1:Hid (∀ W,In g W m full->Calls prog 219 #[.pointer (some ⟨g.K,0,none⟩),.int .i64 g.imm,.int .i64 (m.sp%256)] W fun e w'=>e=.returned (.tuple #[])/\In g w' (wr ⟨m,full⟩ g.imm (m.sp%256)).m (wr ⟨m,full⟩ g.imm (m.sp%256)).full):=fun W hi=>write_any g m full _ _ W hi hg.rt (by omega) (by omega)
 have g1:=wr_good (s:=⟨m,full⟩) hg g.imm (m.sp%256) (by omega) (by omega)
 have p1:=wr_sp ⟨m,full⟩ g.imm (m.sp%256)
 unfold spE
 simp only []
 generalize wr ⟨m,full⟩ g.imm (m.sp%256)=t at *
 have c2:Hid (∀ W,In g W t.m t.full->Calls prog 219 #[.pointer (some ⟨g.K,0,none⟩),.int .i64 (g.imm+1),.int .i64 (m.sp / 256)] W fun e w'=>e=.returned (.tuple #[])/\In g w' (wr t (g.imm+1) (m.sp / 256)).m (wr t (g.imm+1) (m.sp / 256)).full):=fun W hi=>write_any g t.m t.full _ _ W hi g1.rt (by omega) (by omega)
 generalize wr t (g.imm+1) (m.sp / 256)=t2 at *
 have HP:Hid (t.m.sp=m.sp):=p1
 have r0:=cell_regrown (h.k_cpu)
 have r1:=cell_regrown (h.k_imm)
 have r2:=cell_regrown (h.c_sp)
 have HI:Hid (In g w m full):=h
 clear h hg hp p1 g1 i0 i1
 go_enter func163,ntmps163
 go_wp2_with fail
 refine Qtail.tail_below 14 (by kernel_rfl) (by kernel_rfl) ?_
 simp only [List.take_succ_cons,List.take_zero,List.drop_succ_cons,List.drop_zero]
 repeat (go_big_quiet_step (first|fail))
 refine wpQuiet_nil ?_
 intro _ hw'
 obtain ⟨⟨dq,osq⟩,hw''⟩:=hw'
 subst hw''
 have H2:=zHd (HI.out.below (below_regrown w dq osq))
 generalize Go.Sort.grow (redrawn w dq) osq=W2 at *
 clear HI r0 r1 r2
 go_wp2_with fail
 refine Calls.mono (c1.out _ H2.out) ?_
 rintro e w1 ⟨rfl,hi1⟩
 have H3:Hid (In g w1 t.m t.full):=hi1
 clear hi1 H2 c1
 have r0:=cell_regrown (H3.out.k_cpu)
 have r1:=cell_regrown (H3.out.k_imm)
 have r2:=cell_regrown (H3.out.c_sp)
 rw [HP.out] at r2
 go_wp2_with fail
 refine Qtail.tail_below 15 (by kernel_rfl) (by kernel_rfl) ?_
 simp only [List.take_succ_cons,List.take_zero,List.drop_succ_cons,List.drop_zero]
 repeat (go_big_quiet_step (first|fail))
 refine wpQuiet_nil ?_
 intro _ hw'
 obtain ⟨⟨dq,osq⟩,hw''⟩:=hw'
 subst hw''
 have H4:=zHd (H3.out.below (below_regrown w1 dq osq))
 generalize Go.Sort.grow (redrawn w1 dq) osq=W4 at *
 clear H3 r0 r1 r2
 go_wp2_with fail
 refine Calls.mono (c2.out _ H4.out) ?_
 rintro e w2 ⟨rfl,hi1⟩
 have H5:Hid (In g w2 t2.m t2.full):=hi1
 clear hi1 H4 c2
 go_wp2
 go_end0
 exact ⟨rfl,H5.out⟩
theorem inT {n lo hi:Int} (h:lo<=n/\n<=hi):inB n lo hi=true:=decide_eq_true h
theorem asg_in {a b:Int} (h1:0<=a/\a<=65535) (h2:0<=b/\b<=255):ReckM.asg a b=ReckM.asR a b:=by unfold ReckM.asg;rw [inT h1,inT h2];rfl
theorem mvHl (g:G) (m:M) (full:Bool) (i0:0<=g.imm) (i1:g.imm<=255) (w:World) (h:In g w m full) (hg:Stpq.Good m) (hp:Pt g) :
  Calls prog 164 #[.pointer (some ⟨g.K,0,none⟩)] w fun e w'=>e=.returned (.tuple #[])/\In g w' (⟨{ setP m 2 (ReckM.asR m.sp g.imm).1 with rf:=(ReckM.asR m.sp g.imm).2 },full⟩ : S).m (⟨{ setP m 2 (ReckM.asR m.sp g.imm).1 with rf:=(ReckM.asR m.sp g.imm).2 },full⟩ : S).full:=by
 have c1:Rg 186 #[.int .i64 m.sp,.int .i64 g.imm] w (.tuple #[.int .i64 (ReckM.asR m.sp g.imm).1,.int .i64 (ReckM.asR m.sp g.imm).2]):=rg fun W hb=>(ReckM.implAddSigned_any m.sp g.imm W).mono fun e w' h=>⟨by rw [<- asg_in hg.sp ⟨i0,i1⟩];exact h.1,by rw [h.2];exact zRf⟩
 have bd:=as_bd m.sp g.imm
 generalize (ReckM.asR m.sp g.imm).1=v at *
 generalize (ReckM.asR m.sp g.imm).2=f at *
 have d1:Hid (∀ W,In g W m full->Calls prog 161 #[.pointer (some ⟨g.K,0,none⟩)] W fun e w'=>e=.returned (.agg #[.pointer (some ⟨g.B,6,none⟩),.pointer (some ⟨g.B,7,none⟩)])/\Below W.heap.size W w'):=fun W hi=>hl_any g W hi.k_cpu
 have d2:Hid (∀ W,In g W m full->Calls prog 159 #[.agg #[.pointer (some ⟨g.B,6,none⟩),.pointer (some ⟨g.B,7,none⟩)],.int .i64 v] W fun e w'=>e=.returned (.tuple #[])/\In g w' (setP m 2 v) full):=fun W hi=>by
  have h:=pput_any g m full 2 v W hi (by omega) (by omega)
  rw [show v%65536=v by omega] at h
  exact h
 generalize setP m 2 v=t at *
 have r0:=cell_regrown (h.k_cpu)
 have r1:=cell_regrown (h.k_imm)
 have r2:=cell_regrown (h.c_sp)
 have HI:Hid (In g w m full):=h
 clear h hg hp bd i0 i1
 go_enter func164,ntmps164
 go_wp2_with fail
 refine wp_region_quiet_below (by kernel_rfl) (by kernel_rfl) ?_
 repeat (go_big_quiet_step (first|with_reducible exact c1 _ _))
 refine wpQuiet_nil ?_
 intro _ hw'
 obtain ⟨⟨dq,osq⟩,hw''⟩:=hw'
 subst hw''
 have H2:=zHd (HI.out.below (below_regrown w dq osq))
 generalize Go.Sort.grow (redrawn w dq) osq=W2 at *
 clear HI r0 r1 r2 c1
 go_wp2_with fail
 refine Calls.mono (d1.out _ H2.out) ?_
 rintro e w1 ⟨rfl,hb1⟩
 have H3:=zHd (H2.out.below hb1)
 clear hb1 H2 d1
 go_wp2_with fail
 refine Calls.mono (d2.out _ H3.out) ?_
 rintro e w2 ⟨rfl,hi1⟩
 have H4:Hid (In g w2 t full):=hi1
 clear hi1 H3 d2
 have q_k_cpu:=H4.out.k_cpu
 have q_c_rf:=H4.out.c_rf
 have f_rf:=H4.out.fro 1
 have H3:=H4.out.s_rf f
 have HF:Hid (In g (w2.setCell ⟨g.B,1,none⟩ (.int .i64 f)) { t with rf:=f } full):=H3
 clear H3 H4
 go_wp2
 go_end0
 exact ⟨rfl,HF.out⟩
theorem at_told (g:G) (m:M) (full:Bool) (w:World) (h:In g w m full) (hg:Stpq.Good m) (i0:0<=g.imm) (i1:g.imm<=65535) :
  Calls prog 170 #[.pointer (some ⟨g.K,0,none⟩)] w fun e w'=>e=.returned (.int .i64 (g.imm))/\Below w.heap.size w w':=by
 have q_k_imm:=h.k_imm
 clear h hg
 go_enter func170,ntmps170
 go_wp2
 go_ret
 exact ⟨rfl,by repeat (with_reducible first|exact zRf|refine zGr ?_ _|refine below_drewN ?_ _|refine Below.drew ?_)⟩
theorem at_high (g:G) (m:M) (full:Bool) (w:World) (h:In g w m full) (hg:Stpq.Good m) (i0:0<=g.imm) (i1:g.imm<=65535) :
  Calls prog 168 #[.pointer (some ⟨g.K,0,none⟩)] w fun e w'=>e=.returned (.int .i64 (65280+g.imm))/\Below w.heap.size w w':=by
 have q_k_imm:=h.k_imm
 have d1:IntKind.i64.wrap (65280+g.imm)=65280+g.imm:=by rw [IntKind.wrap_i64];omega
 clear h hg
 go_enter func168,ntmps168
 go_wp2
 go_ret
 exact ⟨rfl,by repeat (with_reducible first|exact zRf|refine zGr ?_ _|refine below_drewN ?_ _|refine Below.drew ?_)⟩
theorem at_highC (g:G) (m:M) (full:Bool) (w:World) (h:In g w m full) (hg:Stpq.Good m) (i0:0<=g.imm) (i1:g.imm<=65535) :
  Calls prog 169 #[.pointer (some ⟨g.K,0,none⟩)] w fun e w'=>e=.returned (.int .i64 (65280+m.rC))/\Below w.heap.size w w':=by
 have q_k_cpu:=h.k_cpu
 have q_c_rC:=h.c_rC
 have hc:=hg.c
 have d1:IntKind.i64.wrap (65280+m.rC)=65280+m.rC:=by rw [IntKind.wrap_i64];omega
 clear h hg
 go_enter func169,ntmps169
 go_wp2
 go_ret
 exact ⟨rfl,by repeat (with_reducible first|exact zRf|refine zGr ?_ _|refine below_drewN ?_ _|refine Below.drew ?_)⟩
def Stays (g:G) (m:M) (full:Bool) (F:FuncId) (v:Int):Prop:=∀ W,In g W m full->Calls prog F #[.pointer (some ⟨g.K,0,none⟩)] W fun e w'=>e=.returned (.int .i64 v)/\Below W.heap.size W w'
theorem stA_told (g:G) (m:M) (full:Bool) (v:Int) (hF:Stays g m full 170 v) (bx:Nat) (w:World) (h:In g w m full) (hg:Stpq.Good m) (hb:w.cell? ⟨bx,0,none⟩=some (.func (.func 170) #[] #[])) :
  Calls prog 221 #[.pointer (some ⟨g.K,0,none⟩),.pointer (some ⟨bx,0,none⟩)] w fun e w'=>e=.returned (.tuple #[])/\In g w' (wr ⟨m,full⟩ v m.ra).m (wr ⟨m,full⟩ v m.ra).full:=by
 have lb:=World.block_lt_of_cell? w _ hb
 have c1:Rg 170 #[.pointer (some ⟨g.K,0,none⟩)] w (.int .i64 v):=rg fun W hb=>hF W (h.below hb)
 have c2:Hid (∀ W,In g W m full->Calls prog 219 #[.pointer (some ⟨g.K,0,none⟩),.int .i64 v,.int .i64 m.ra] W fun e w'=>e=.returned (.tuple #[])/\In g w' (wr ⟨m,full⟩ v m.ra).m (wr ⟨m,full⟩ v m.ra).full):=fun W hi=>write_any g m full _ _ W hi hg.rt hg.a.1 hg.a.2
 generalize wr ⟨m,full⟩ v m.ra=t at *
 have r0:=cell_regrown (h.k_cpu)
 have r1:=cell_regrown (h.c_ra)
 have rb:=cell_regrown hb
 have HI:Hid (In g w m full):=h
 clear h hg hF hb
 go_enter func221,ntmps221
 go_wp2_with fail
 refine Qtail.tail_below 11 (by kernel_rfl) (by kernel_rfl) ?_
 simp only [List.take_succ_cons,List.take_zero,List.drop_succ_cons,List.drop_zero]
 repeat (go_big_quiet_step (first|with_reducible exact c1 _ _))
 refine wpQuiet_nil ?_
 intro _ hw'
 obtain ⟨⟨dq,osq⟩,hw''⟩:=hw'
 subst hw''
 have H2:=zHd (HI.out.below (below_regrown w dq osq))
 generalize Go.Sort.grow (redrawn w dq) osq=W2 at *
 clear HI r0 r1 rb c1
 go_wp2_with fail
 refine Calls.mono (c2.out _ H2.out) ?_
 rintro e w1 ⟨rfl,hi1⟩
 have H3:Hid (In g w1 t.m t.full):=hi1
 clear hi1 H2 c2
 go_wp2
 go_end0
 exact ⟨rfl,H3.out⟩
theorem ldA_told (g:G) (m:M) (full:Bool) (v:Int) (hF:Stays g m full 170 v) (v0:0<=v) (v1:v<=65535) (bx:Nat) (w:World) (h:In g w m full) (hg:Stpq.Good m) (hb:w.cell? ⟨bx,0,none⟩=some (.func (.func 170) #[] #[])) :
  Calls prog 222 #[.pointer (some ⟨g.K,0,none⟩),.pointer (some ⟨bx,0,none⟩)] w fun e w'=>e=.returned (.tuple #[])/\In g w' (⟨{ m with ra:=rd m v },full⟩ : S).m (⟨{ m with ra:=rd m v },full⟩ : S).full:=by
 have lb:=World.block_lt_of_cell? w _ hb
 have c1:Rg 170 #[.pointer (some ⟨g.K,0,none⟩)] w (.int .i64 v):=rg fun W hb=>hF W (h.below hb)
 have c2:Rg 220 #[.pointer (some ⟨g.K,0,none⟩),.int .i64 v] w (.int .i64 (rd m v)):=rg fun W hb=>by
  have h:=read_any g m full v W (h.below hb) hg.rt
  rw [show v%65536=v by omega] at h
  exact h
 generalize rd m v=q at *
 have r0:=cell_regrown (h.k_cpu)
 have rb:=cell_regrown hb
 have HI:Hid (In g w m full):=h
 clear h hg hF hb
 go_enter func222,ntmps222
 go_wp2_with fail
 refine Qtail.tail_below 11 (by kernel_rfl) (by kernel_rfl) ?_
 simp only [List.take_succ_cons,List.take_zero,List.drop_succ_cons,List.drop_zero]
 repeat (go_big_quiet_step (first|with_reducible exact c1 _ _|with_reducible exact c2 _ _))
 refine wpQuiet_nil ?_
 intro _ hw'
 obtain ⟨⟨dq,osq⟩,hw''⟩:=hw'
 subst hw''
 have H2:=zHd (HI.out.below (below_regrown w dq osq))
 generalize Go.Sort.grow (redrawn w dq) osq=W2 at *
 clear HI r0 rb c1 c2
 have q_k_cpu:=H2.out.k_cpu
 have q_c_ra:=H2.out.c_ra
 have f_ra:=H2.out.fro 0
 have H3:=H2.out.s_ra q
 have HF:Hid (In g (W2.setCell ⟨g.B,0,none⟩ (.int .i64 q)) { m with ra:=q } full):=H3
 clear H3 H2
 go_wp2
 go_end0
 exact ⟨rfl,HF.out⟩
theorem stA_high (g:G) (m:M) (full:Bool) (v:Int) (hF:Stays g m full 168 v) (bx:Nat) (w:World) (h:In g w m full) (hg:Stpq.Good m) (hb:w.cell? ⟨bx,0,none⟩=some (.func (.func 168) #[] #[])) :
  Calls prog 221 #[.pointer (some ⟨g.K,0,none⟩),.pointer (some ⟨bx,0,none⟩)] w fun e w'=>e=.returned (.tuple #[])/\In g w' (wr ⟨m,full⟩ v m.ra).m (wr ⟨m,full⟩ v m.ra).full:=by
 have lb:=World.block_lt_of_cell? w _ hb
 have c1:Rg 168 #[.pointer (some ⟨g.K,0,none⟩)] w (.int .i64 v):=rg fun W hb=>hF W (h.below hb)
 have c2:Hid (∀ W,In g W m full->Calls prog 219 #[.pointer (some ⟨g.K,0,none⟩),.int .i64 v,.int .i64 m.ra] W fun e w'=>e=.returned (.tuple #[])/\In g w' (wr ⟨m,full⟩ v m.ra).m (wr ⟨m,full⟩ v m.ra).full):=fun W hi=>write_any g m full _ _ W hi hg.rt hg.a.1 hg.a.2
 generalize wr ⟨m,full⟩ v m.ra=t at *
 have r0:=cell_regrown (h.k_cpu)
 have r1:=cell_regrown (h.c_ra)
 have rb:=cell_regrown hb
 have HI:Hid (In g w m full):=h
 clear h hg hF hb
 go_enter func221,ntmps221
 go_wp2_with fail
 refine Qtail.tail_below 11 (by kernel_rfl) (by kernel_rfl) ?_
 simp only [List.take_succ_cons,List.take_zero,List.drop_succ_cons,List.drop_zero]
 repeat (go_big_quiet_step (first|with_reducible exact c1 _ _))
 refine wpQuiet_nil ?_
 intro _ hw'
 obtain ⟨⟨dq,osq⟩,hw''⟩:=hw'
 subst hw''
 have H2:=zHd (HI.out.below (below_regrown w dq osq))
 generalize Go.Sort.grow (redrawn w dq) osq=W2 at *
 clear HI r0 r1 rb c1
 go_wp2_with fail
 refine Calls.mono (c2.out _ H2.out) ?_
 rintro e w1 ⟨rfl,hi1⟩
 have H3:Hid (In g w1 t.m t.full):=hi1
 clear hi1 H2 c2
 go_wp2
 go_end0
 exact ⟨rfl,H3.out⟩
theorem ldA_high (g:G) (m:M) (full:Bool) (v:Int) (hF:Stays g m full 168 v) (v0:0<=v) (v1:v<=65535) (bx:Nat) (w:World) (h:In g w m full) (hg:Stpq.Good m) (hb:w.cell? ⟨bx,0,none⟩=some (.func (.func 168) #[] #[])) :
  Calls prog 222 #[.pointer (some ⟨g.K,0,none⟩),.pointer (some ⟨bx,0,none⟩)] w fun e w'=>e=.returned (.tuple #[])/\In g w' (⟨{ m with ra:=rd m v },full⟩ : S).m (⟨{ m with ra:=rd m v },full⟩ : S).full:=by
 have lb:=World.block_lt_of_cell? w _ hb
 have c1:Rg 168 #[.pointer (some ⟨g.K,0,none⟩)] w (.int .i64 v):=rg fun W hb=>hF W (h.below hb)
 have c2:Rg 220 #[.pointer (some ⟨g.K,0,none⟩),.int .i64 v] w (.int .i64 (rd m v)):=rg fun W hb=>by
  have h:=read_any g m full v W (h.below hb) hg.rt
  rw [show v%65536=v by omega] at h
  exact h
 generalize rd m v=q at *
 have r0:=cell_regrown (h.k_cpu)
 have rb:=cell_regrown hb
 have HI:Hid (In g w m full):=h
 clear h hg hF hb
 go_enter func222,ntmps222
 go_wp2_with fail
 refine Qtail.tail_below 11 (by kernel_rfl) (by kernel_rfl) ?_
 simp only [List.take_succ_cons,List.take_zero,List.drop_succ_cons,List.drop_zero]
 repeat (go_big_quiet_step (first|with_reducible exact c1 _ _|with_reducible exact c2 _ _))
 refine wpQuiet_nil ?_
 intro _ hw'
 obtain ⟨⟨dq,osq⟩,hw''⟩:=hw'
 subst hw''
 have H2:=zHd (HI.out.below (below_regrown w dq osq))
 generalize Go.Sort.grow (redrawn w dq) osq=W2 at *
 clear HI r0 rb c1 c2
 have q_k_cpu:=H2.out.k_cpu
 have q_c_ra:=H2.out.c_ra
 have f_ra:=H2.out.fro 0
 have H3:=H2.out.s_ra q
 have HF:Hid (In g (W2.setCell ⟨g.B,0,none⟩ (.int .i64 q)) { m with ra:=q } full):=H3
 clear H3 H2
 go_wp2
 go_end0
 exact ⟨rfl,HF.out⟩
theorem stA_highC (g:G) (m:M) (full:Bool) (v:Int) (hF:Stays g m full 169 v) (bx:Nat) (w:World) (h:In g w m full) (hg:Stpq.Good m) (hb:w.cell? ⟨bx,0,none⟩=some (.func (.func 169) #[] #[])) :
  Calls prog 221 #[.pointer (some ⟨g.K,0,none⟩),.pointer (some ⟨bx,0,none⟩)] w fun e w'=>e=.returned (.tuple #[])/\In g w' (wr ⟨m,full⟩ v m.ra).m (wr ⟨m,full⟩ v m.ra).full:=by
 have lb:=World.block_lt_of_cell? w _ hb
 have c1:Rg 169 #[.pointer (some ⟨g.K,0,none⟩)] w (.int .i64 v):=rg fun W hb=>hF W (h.below hb)
 have c2:Hid (∀ W,In g W m full->Calls prog 219 #[.pointer (some ⟨g.K,0,none⟩),.int .i64 v,.int .i64 m.ra] W fun e w'=>e=.returned (.tuple #[])/\In g w' (wr ⟨m,full⟩ v m.ra).m (wr ⟨m,full⟩ v m.ra).full):=fun W hi=>write_any g m full _ _ W hi hg.rt hg.a.1 hg.a.2
 generalize wr ⟨m,full⟩ v m.ra=t at *
 have r0:=cell_regrown (h.k_cpu)
 have r1:=cell_regrown (h.c_ra)
 have rb:=cell_regrown hb
 have HI:Hid (In g w m full):=h
 clear h hg hF hb
 go_enter func221,ntmps221
 go_wp2_with fail
 refine Qtail.tail_below 11 (by kernel_rfl) (by kernel_rfl) ?_
 simp only [List.take_succ_cons,List.take_zero,List.drop_succ_cons,List.drop_zero]
 repeat (go_big_quiet_step (first|with_reducible exact c1 _ _))
 refine wpQuiet_nil ?_
 intro _ hw'
 obtain ⟨⟨dq,osq⟩,hw''⟩:=hw'
 subst hw''
 have H2:=zHd (HI.out.below (below_regrown w dq osq))
 generalize Go.Sort.grow (redrawn w dq) osq=W2 at *
 clear HI r0 r1 rb c1
 go_wp2_with fail
 refine Calls.mono (c2.out _ H2.out) ?_
 rintro e w1 ⟨rfl,hi1⟩
 have H3:Hid (In g w1 t.m t.full):=hi1
 clear hi1 H2 c2
 go_wp2
 go_end0
 exact ⟨rfl,H3.out⟩
theorem ldA_highC (g:G) (m:M) (full:Bool) (v:Int) (hF:Stays g m full 169 v) (v0:0<=v) (v1:v<=65535) (bx:Nat) (w:World) (h:In g w m full) (hg:Stpq.Good m) (hb:w.cell? ⟨bx,0,none⟩=some (.func (.func 169) #[] #[])) :
  Calls prog 222 #[.pointer (some ⟨g.K,0,none⟩),.pointer (some ⟨bx,0,none⟩)] w fun e w'=>e=.returned (.tuple #[])/\In g w' (⟨{ m with ra:=rd m v },full⟩ : S).m (⟨{ m with ra:=rd m v },full⟩ : S).full:=by
 have lb:=World.block_lt_of_cell? w _ hb
 have c1:Rg 169 #[.pointer (some ⟨g.K,0,none⟩)] w (.int .i64 v):=rg fun W hb=>hF W (h.below hb)
 have c2:Rg 220 #[.pointer (some ⟨g.K,0,none⟩),.int .i64 v] w (.int .i64 (rd m v)):=rg fun W hb=>by
  have h:=read_any g m full v W (h.below hb) hg.rt
  rw [show v%65536=v by omega] at h
  exact h
 generalize rd m v=q at *
 have r0:=cell_regrown (h.k_cpu)
 have rb:=cell_regrown hb
 have HI:Hid (In g w m full):=h
 clear h hg hF hb
 go_enter func222,ntmps222
 go_wp2_with fail
 refine Qtail.tail_below 11 (by kernel_rfl) (by kernel_rfl) ?_
 simp only [List.take_succ_cons,List.take_zero,List.drop_succ_cons,List.drop_zero]
 repeat (go_big_quiet_step (first|with_reducible exact c1 _ _|with_reducible exact c2 _ _))
 refine wpQuiet_nil ?_
 intro _ hw'
 obtain ⟨⟨dq,osq⟩,hw''⟩:=hw'
 subst hw''
 have H2:=zHd (HI.out.below (below_regrown w dq osq))
 generalize Go.Sort.grow (redrawn w dq) osq=W2 at *
 clear HI r0 rb c1 c2
 have q_k_cpu:=H2.out.k_cpu
 have q_c_ra:=H2.out.c_ra
 have f_ra:=H2.out.fro 0
 have H3:=H2.out.s_ra q
 have HF:Hid (In g (W2.setCell ⟨g.B,0,none⟩ (.int .i64 q)) { m with ra:=q } full):=H3
 clear H3 H2
 go_wp2
 go_end0
 exact ⟨rfl,HF.out⟩
theorem mvPush (g:G) (m:M) (full:Bool)  (w:World) (h:In g w m full) (hg:Stpq.Good m) (hp:Pt g) :
  Calls prog 171 #[.pointer (some ⟨g.K,0,none⟩)] w fun e w'=>e=.returned (.tuple #[])/\In g w' (push ⟨m,full⟩ (prQ m g.p)).m (push ⟨m,full⟩ (prQ m g.p)).full:=by
 have c1:Hid (∀ W,In g W m full->Calls prog 173 #[.pointer (some ⟨g.K,0,none⟩),.int .i64 g.p] W fun e w'=>e=.returned (qv g g.p)/\Below W.heap.size W w'):=fun W hi=>stack_any g m full g.p W hi hp.p.1 hp.p.2
 have c2:Hid (∀ W,In g W m full->Calls prog 162 #[qv g g.p] W fun e w'=>e=.returned (.int .i64 (prQ m g.p))/\Below W.heap.size W w'):=fun W hi=>wordQ_any g m full g.p W hi hg hp.p.1 hp.p.2
 have bd:=prQ_bd hg g.p
 have c3:Hid (∀ W,In g W m full->Calls prog 172 #[.pointer (some ⟨g.K,0,none⟩),.int .i64 (prQ m g.p)] W fun e w'=>e=.returned (.tuple #[])/\In g w' (push ⟨m,full⟩ (prQ m g.p)).m (push ⟨m,full⟩ (prQ m g.p)).full):=fun W hi=>push_any g m full _ W hi hg bd.1 bd.2
 generalize push ⟨m,full⟩ (prQ m g.p)=t at *
 generalize prQ m g.p=v at *
 generalize qv g g.p=pq at *
 have q_p:=h.k_p
 have HI:Hid (In g w m full):=h
 clear h hg hp bd
 go_enter func171,ntmps171
 go_wp2_with fail
 refine Calls.mono (c1.out _ HI.out) ?_
 rintro e w1 ⟨rfl,hb1⟩
 have H1:=zHd (HI.out.below hb1)
 clear hb1 HI c1
 go_wp2_with fail
 refine Calls.mono (c2.out _ H1.out) ?_
 rintro e w2 ⟨rfl,hb1⟩
 have H2:=zHd (H1.out.below hb1)
 clear hb1 H1 c2
 go_wp2_with fail
 refine Calls.mono (c3.out _ H2.out) ?_
 rintro e w3 ⟨rfl,hi1⟩
 have H3:Hid (In g w3 t.m t.full):=hi1
 clear hi1 H2 c3
 go_wp2
 go_end0
 exact ⟨rfl,H3.out⟩
theorem mvPop (g:G) (m:M) (full:Bool)  (w:World) (h:In g w m full) (hg:Stpq.Good m) (hp:Pt g) :
  Calls prog 174 #[.pointer (some ⟨g.K,0,none⟩)] w fun e w'=>e=.returned (.tuple #[])/\In g w' (⟨{ setQ0 (popM m) g.p (popV m%65536) with rf:=bits .and .i64 (setQ0 (popM m) g.p (popV m%65536)).rf 240 },full⟩ : S).m (⟨{ setQ0 (popM m) g.p (popV m%65536) with rf:=bits .and .i64 (setQ0 (popM m) g.p (popV m%65536)).rf 240 },full⟩ : S).full:=by
 have c1:Hid (∀ W,In g W m full->Calls prog 173 #[.pointer (some ⟨g.K,0,none⟩),.int .i64 g.p] W fun e w'=>e=.returned (qv g g.p)/\Below W.heap.size W w'):=fun W hi=>stack_any g m full g.p W hi hp.p.1 hp.p.2
 have c2:Hid (∀ W,In g W m full->Calls prog 203 #[.pointer (some ⟨g.K,0,none⟩)] W fun e w'=>e=.returned (.int .i64 (popV m))/\In g w' (popM m) full):=fun W hi=>pop_any g m full W hi hg
 have c3:Hid (∀ W,In g W (popM m) full->Calls prog 159 #[qv g g.p,.int .i64 (popV m)] W fun e w'=>e=.returned (.tuple #[])/\In g w' (setQ0 (popM m) g.p (popV m%65536)) full):=fun W hi=>pputQ_any g (popM m) full g.p (popV m) W hi hp.p.1 hp.p.2
 generalize setQ0 (popM m) g.p (popV m%65536)=t at *
 generalize popM m=m1 at *
 generalize popV m=v at *
 generalize qv g g.p=pq at *
 obtain ⟨fv,hfv⟩ : ∃ f,bits .and .i64 t.rf 240=f:=⟨_,rfl⟩
 rw [hfv]
 have q_p:=h.k_p
 have HI:Hid (In g w m full):=h
 clear h hg hp
 go_enter func174,ntmps174
 go_wp2_with fail
 refine Calls.mono (c1.out _ HI.out) ?_
 rintro e w1 ⟨rfl,hb1⟩
 have H1:=zHd (HI.out.below hb1)
 clear hb1 HI c1
 go_wp2_with fail
 refine Calls.mono (c2.out _ H1.out) ?_
 rintro e w2 ⟨rfl,hi1⟩
 have H2:Hid (In g w2 m1 full):=hi1
 clear hi1 H1 c2
 go_wp2_with fail
 refine Calls.mono (c3.out _ H2.out) ?_
 rintro e w3 ⟨rfl,hi1⟩
 have H3':Hid (In g w3 t full):=hi1
 clear hi1 H2 c3
 have q_k_cpu:=H3'.out.k_cpu
 have q_c_rf:=H3'.out.c_rf
 have f_rf:=H3'.out.fro 1
 have H3:=H3'.out.s_rf fv
 have HF:Hid (In g (w3.setCell ⟨g.B,1,none⟩ (.int .i64 fv)) { t with rf:=fv } full):=H3
 clear H3 H3'
 go_wp2
 go_end0
 exact ⟨rfl,HF.out⟩
end Stpu
namespace Stpv
open Go.Deep
open Signed (inB sgn ret_int ret_bool)
open Busw Busx Stpp Stpq Stpi Stpj Stpr Stpk Stpm Stpn Stpu
open Reck ReckS ReckM ReckD TurnS
theorem alu_in {o a b f:Int} (h0:0<=o/\o<=7) (h1:0<=a/\a<=255) (h2:0<=b/\b<=255) (h3:0<=f/\f<=255):alu o a b f=aluR o a b f:=by unfold alu;rw [inT h0,inT h1,inT h2,inT h3];rfl
theorem st8_in {v f:Int} {d:Bool} (h1:0<=v/\v<=255) (h3:0<=f/\f<=255):st8 v f d=st8R v f d:=by unfold st8;rw [inT h1,inT h3];rfl
theorem aw_in {a b f:Int} (h1:0<=a/\a<=65535) (h2:0<=b/\b<=65535) (h3:0<=f/\f<=255):aw a b f=awR a b f:=by unfold aw;rw [inT h1,inT h2,inT h3];rfl
theorem daa_in {a f:Int} (h1:0<=a/\a<=255) (h3:0<=f/\f<=255):daa a f=daaR a f:=by unfold daa;rw [inT h1,inT h3];rfl
theorem trn_in {o v f:Int} (h0:0<=o/\o<=7) (h1:0<=v/\v<=255) (h3:0<=f/\f<=255):trn o v f=trnR o v f:=by unfold trn;rw [inT h0,inT h1,inT h3];rfl
theorem reckon (g:G) (m:M) (full:Bool) (v:Int) (v0:0<=v) (v1:v<=255) (w:World) (h:In g w m full) (hg:Stpq.Good m) (hp:Pt g) :
  Calls prog 176 #[.pointer (some ⟨g.K,0,none⟩),.int .i64 v] w fun e w'=>e=.returned (.tuple #[])/\In g w' (⟨{ m with ra:=(aluR g.y m.ra v m.rf).1,rf:=(aluR g.y m.ra v m.rf).2 },full⟩ : S).m (⟨{ m with ra:=(aluR g.y m.ra v m.rf).1,rf:=(aluR g.y m.ra v m.rf).2 },full⟩ : S).full:=by
 have c1:Rg 223 #[.int .i64 g.y,.int .i64 m.ra,.int .i64 v,.int .i64 m.rf] w (.tuple #[.int .i64 (aluR g.y m.ra v m.rf).1,.int .i64 (aluR g.y m.ra v m.rf).2]):=rg fun W hb=>(AluI.implAlu_any g.y m.ra v m.rf W).mono fun e w' h=>⟨by rw [<- alu_in hp.y hg.a ⟨v0,v1⟩ hg.f];exact h.1,h.2⟩
 generalize (aluR g.y m.ra v m.rf).1=a1 at *
 generalize (aluR g.y m.ra v m.rf).2=f1 at *
 have r0:=cell_regrown (h.k_cpu)
 have r1:=cell_regrown (h.k_y)
 have r2:=cell_regrown (h.c_ra)
 have r3:=cell_regrown (h.c_rf)
 have HI:Hid (In g w m full):=h
 clear h hg hp v0 v1
 go_enter func176,ntmps176
 go_wp2_with fail
 refine Qflo.tail_late 31 32 (by kernel_rfl) (by kernel_rfl) (fun _ _ _ _ _ h=>h) ?_
 simp only [List.take_succ_cons,List.take_zero,List.drop_succ_cons,List.drop_zero]
 repeat (go_big_quiet_step (first|with_reducible exact c1 _ _))
 refine wpQuiet_nil ?_
 intro _ hw'
 obtain ⟨⟨dq,osq⟩,hw''⟩:=hw'
 subst hw''
 have H2:=zHd (HI.out.below (below_regrown w dq osq))
 generalize Go.Sort.grow (redrawn w dq) osq=W2 at *
 clear HI r0 r1 r2 r3 c1
 have q_k_cpu:=H2.out.k_cpu
 have q_c_ra:=H2.out.c_ra
 have q_c_rf:=H2.out.c_rf
 have f_ra:=H2.out.fro 0
 have f_rf:=H2.out.fro 1
 have lB:=H2.out.ltB
 have HF:Hid (In g ((W2.setCell ⟨g.B,0,none⟩ (.int .i64 a1)).setCell ⟨g.B,1,none⟩ (.int .i64 f1)) { m with ra:=a1,rf:=f1 } full):=(H2.out.s_ra a1).s_rf f1
 clear H2
 go_wp2
 go_end0
 exact ⟨rfl,HF.out⟩
theorem rk1 (g:G) (m:M) (full:Bool)  (w:World) (h:In g w m full) (hg:Stpq.Good m) (hp:Pt g) :
  Calls prog 175 #[.pointer (some ⟨g.K,0,none⟩)] w fun e w'=>e=.returned (.tuple #[])/\In g w' (⟨{ m with ra:=(aluR g.y m.ra (Stpp.get m g.z) m.rf).1,rf:=(aluR g.y m.ra (Stpp.get m g.z) m.rf).2 },full⟩ : S).m (⟨{ m with ra:=(aluR g.y m.ra (Stpp.get m g.z) m.rf).1,rf:=(aluR g.y m.ra (Stpp.get m g.z) m.rf).2 },full⟩ : S).full:=by
 have c1:Hid (∀ W,In g W m full->Calls prog 155 #[.pointer (some ⟨g.K,0,none⟩),.int .i64 g.z] W fun e w'=>e=.returned (.int .i64 (Stpp.get m g.z))/\Below W.heap.size W w'):=fun W hi=>get_any g m full g.z W hi hg hp.z.1 hp.z.2
 have bd:=get_bd hg g.z
 have c2:Hid (∀ W,In g W m full->Calls prog 176 #[.pointer (some ⟨g.K,0,none⟩),.int .i64 (Stpp.get m g.z)] W fun e w'=>e=.returned (.tuple #[])/\In g w' (⟨{ m with ra:=(aluR g.y m.ra (Stpp.get m g.z) m.rf).1,rf:=(aluR g.y m.ra (Stpp.get m g.z) m.rf).2 },full⟩ : S).m (⟨{ m with ra:=(aluR g.y m.ra (Stpp.get m g.z) m.rf).1,rf:=(aluR g.y m.ra (Stpp.get m g.z) m.rf).2 },full⟩ : S).full):=fun W hi=>reckon g m full _ bd.1 bd.2 W hi hg hp
 generalize (⟨{ m with ra:=(aluR g.y m.ra (Stpp.get m g.z) m.rf).1,rf:=(aluR g.y m.ra (Stpp.get m g.z) m.rf).2 },full⟩ : S)=t at *
 generalize Stpp.get m g.z=v at *
 have q_z:=h.k_z
 have HI:Hid (In g w m full):=h
 clear h hg hp bd
 go_enter func175,ntmps175
 go_wp2_with fail
 refine Calls.mono (c1.out _ HI.out) ?_
 rintro e w1 ⟨rfl,hb1⟩
 have H1:=zHd (HI.out.below hb1)
 clear hb1 HI c1
 go_wp2_with fail
 refine Calls.mono (c2.out _ H1.out) ?_
 rintro e w2 ⟨rfl,hi1⟩
 have H3:Hid (In g w2 t.m t.full):=hi1
 clear hi1 H1 c2
 go_wp2
 go_end0
 exact ⟨rfl,H3.out⟩
theorem rk2 (g:G) (m:M) (full:Bool) (i0:0<=g.imm) (i1:g.imm<=255) (w:World) (h:In g w m full) (hg:Stpq.Good m) (hp:Pt g) :
  Calls prog 177 #[.pointer (some ⟨g.K,0,none⟩)] w fun e w'=>e=.returned (.tuple #[])/\In g w' (⟨{ m with ra:=(aluR g.y m.ra g.imm m.rf).1,rf:=(aluR g.y m.ra g.imm m.rf).2 },full⟩ : S).m (⟨{ m with ra:=(aluR g.y m.ra g.imm m.rf).1,rf:=(aluR g.y m.ra g.imm m.rf).2 },full⟩ : S).full:=by
 have c2:Hid (∀ W,In g W m full->Calls prog 176 #[.pointer (some ⟨g.K,0,none⟩),.int .i64 g.imm] W fun e w'=>e=.returned (.tuple #[])/\In g w' (⟨{ m with ra:=(aluR g.y m.ra g.imm m.rf).1,rf:=(aluR g.y m.ra g.imm m.rf).2 },full⟩ : S).m (⟨{ m with ra:=(aluR g.y m.ra g.imm m.rf).1,rf:=(aluR g.y m.ra g.imm m.rf).2 },full⟩ : S).full):=fun W hi=>reckon g m full _ i0 i1 W hi hg hp
 generalize (⟨{ m with ra:=(aluR g.y m.ra g.imm m.rf).1,rf:=(aluR g.y m.ra g.imm m.rf).2 },full⟩ : S)=t at *
 have q_i:=h.k_imm
 have HI:Hid (In g w m full):=h
 clear h hg hp i0 i1
 go_enter func177,ntmps177
 go_wp2_with fail
 refine Calls.mono (c2.out _ HI.out) ?_
 rintro e w2 ⟨rfl,hi1⟩
 have H3:Hid (In g w2 t.m t.full):=hi1
 clear hi1 HI c2
 go_wp2
 go_end0
 exact ⟨rfl,H3.out⟩
theorem stepByte (g:G) (m:M) (full:Bool) (down:Bool) (w:World) (h:In g w m full) (hg:Stpq.Good m) (hp:Pt g) :
  Calls prog 179 #[.pointer (some ⟨g.K,0,none⟩),.bool down] w fun e w'=>e=.returned (.tuple #[])/\In g w' (F (put ⟨m,full⟩ g.y (st8R (Stpp.get m g.y) m.rf down).1) (st8R (Stpp.get m g.y) m.rf down).2).m (F (put ⟨m,full⟩ g.y (st8R (Stpp.get m g.y) m.rf down).1) (st8R (Stpp.get m g.y) m.rf down).2).full:=by
 have c1:Rg 155 #[.pointer (some ⟨g.K,0,none⟩),.int .i64 g.y] w (.int .i64 (Stpp.get m g.y)):=rg fun W hb=>get_any g m full g.y W (h.below hb) hg hp.y.1 hp.y.2
 have c2:Rg 224 #[.int .i64 (Stpp.get m g.y),.int .i64 m.rf,.bool down] w (.tuple #[.int .i64 (st8R (Stpp.get m g.y) m.rf down).1,.int .i64 (st8R (Stpp.get m g.y) m.rf down).2]):=rg fun W hb=>(implStepped8_any (Stpp.get m g.y) m.rf down W).mono fun e w' h=>⟨by rw [<- st8_in (get_bd hg g.y) hg.f];exact h.1,by rw [h.2];exact zRf⟩
 have bd:=st8_bd (v:=Stpp.get m g.y) (f:=m.rf) down
 generalize (st8R (Stpp.get m g.y) m.rf down).1=v at *
 generalize (st8R (Stpp.get m g.y) m.rf down).2=f at *
 generalize Stpp.get m g.y=x at *
 have c3:Hid (∀ W,In g W m full->Calls prog 154 #[.pointer (some ⟨g.K,0,none⟩),.int .i64 g.y,.int .i64 v] W fun e w'=>e=.returned (.tuple #[])/\In g w' (put ⟨m,full⟩ g.y v).m (put ⟨m,full⟩ g.y v).full):=fun W hi=>put_any g m full _ _ W hi hg hp.y.1 hp.y.2 bd.1 bd.2.1
 generalize put ⟨m,full⟩ g.y v=t at *
 have r0:=cell_regrown (h.k_cpu)
 have r1:=cell_regrown (h.k_y)
 have r2:=cell_regrown (h.c_rf)
 have HI:Hid (In g w m full):=h
 clear h hg hp bd
 go_enter func179,ntmps179
 go_wp2_with fail
 refine wp_region_quiet_below (by kernel_rfl) (by kernel_rfl) ?_
 repeat (go_big_quiet_step (first|with_reducible exact c1 _ _|with_reducible exact c2 _ _))
 refine wpQuiet_nil ?_
 intro _ hw'
 obtain ⟨⟨dq,osq⟩,hw''⟩:=hw'
 subst hw''
 have H2:=zHd (HI.out.below (below_regrown w dq osq))
 generalize Go.Sort.grow (redrawn w dq) osq=W2 at *
 clear HI r0 r1 r2 c1 c2
 have q_y:=H2.out.k_y
 go_wp2_with fail
 refine Calls.mono (c3.out _ H2.out) ?_
 rintro e w1 ⟨rfl,hi1⟩
 have H3':Hid (In g w1 t.m t.full):=hi1
 clear hi1 H2 c3
 have q_k_cpu:=H3'.out.k_cpu
 have q_c_rf:=H3'.out.c_rf
 have f_rf:=H3'.out.fro 1
 have H3:=H3'.out.s_rf f
 have HF:Hid (In g (w1.setCell ⟨g.B,1,none⟩ (.int .i64 f)) { t.m with rf:=f } t.full):=H3
 clear H3 H3'
 go_wp2
 go_end0
 exact ⟨rfl,HF.out⟩
theorem rk3 (g:G) (m:M) (full:Bool)  (w:World) (h:In g w m full) (hg:Stpq.Good m) (hp:Pt g) :
  Calls prog 178 #[.pointer (some ⟨g.K,0,none⟩)] w fun e w'=>e=.returned (.tuple #[])/\In g w' (F (put ⟨m,full⟩ g.y (st8R (Stpp.get m g.y) m.rf false).1) (st8R (Stpp.get m g.y) m.rf false).2).m (F (put ⟨m,full⟩ g.y (st8R (Stpp.get m g.y) m.rf false).1) (st8R (Stpp.get m g.y) m.rf false).2).full:=by
 have c2:Hid (∀ W,In g W m full->Calls prog 179 #[.pointer (some ⟨g.K,0,none⟩),.bool false] W fun e w'=>e=.returned (.tuple #[])/\In g w' (F (put ⟨m,full⟩ g.y (st8R (Stpp.get m g.y) m.rf false).1) (st8R (Stpp.get m g.y) m.rf false).2).m (F (put ⟨m,full⟩ g.y (st8R (Stpp.get m g.y) m.rf false).1) (st8R (Stpp.get m g.y) m.rf false).2).full):=fun W hi=>stepByte g m full false W hi hg hp
 generalize F (put ⟨m,full⟩ g.y (st8R (Stpp.get m g.y) m.rf false).1) (st8R (Stpp.get m g.y) m.rf false).2=t at *
 have HI:Hid (In g w m full):=h
 clear h hg hp
 go_enter func178,ntmps178
 go_wp2_with fail
 refine Calls.mono (c2.out _ HI.out) ?_
 rintro e w2 ⟨rfl,hi1⟩
 have H3:Hid (In g w2 t.m t.full):=hi1
 clear hi1 HI c2
 go_wp2
 go_end0
 exact ⟨rfl,H3.out⟩
theorem rk4 (g:G) (m:M) (full:Bool)  (w:World) (h:In g w m full) (hg:Stpq.Good m) (hp:Pt g) :
  Calls prog 180 #[.pointer (some ⟨g.K,0,none⟩)] w fun e w'=>e=.returned (.tuple #[])/\In g w' (F (put ⟨m,full⟩ g.y (st8R (Stpp.get m g.y) m.rf true).1) (st8R (Stpp.get m g.y) m.rf true).2).m (F (put ⟨m,full⟩ g.y (st8R (Stpp.get m g.y) m.rf true).1) (st8R (Stpp.get m g.y) m.rf true).2).full:=by
 have c2:Hid (∀ W,In g W m full->Calls prog 179 #[.pointer (some ⟨g.K,0,none⟩),.bool true] W fun e w'=>e=.returned (.tuple #[])/\In g w' (F (put ⟨m,full⟩ g.y (st8R (Stpp.get m g.y) m.rf true).1) (st8R (Stpp.get m g.y) m.rf true).2).m (F (put ⟨m,full⟩ g.y (st8R (Stpp.get m g.y) m.rf true).1) (st8R (Stpp.get m g.y) m.rf true).2).full):=fun W hi=>stepByte g m full true W hi hg hp
 generalize F (put ⟨m,full⟩ g.y (st8R (Stpp.get m g.y) m.rf true).1) (st8R (Stpp.get m g.y) m.rf true).2=t at *
 have HI:Hid (In g w m full):=h
 clear h hg hp
 go_enter func180,ntmps180
 go_wp2_with fail
 refine Calls.mono (c2.out _ HI.out) ?_
 rintro e w2 ⟨rfl,hi1⟩
 have H3:Hid (In g w2 t.m t.full):=hi1
 clear hi1 HI c2
 go_wp2
 go_end0
 exact ⟨rfl,H3.out⟩
end Stpv
namespace Stpx
open Go.Deep
open Signed (inB sgn ret_int ret_bool)
open Busw Busx Stpp Stpq Stpi Stpj Stpr Stpk Stpm Stpn Stpu
theorem ixs_0 (w:World):(Instr.index 188 (.agg #[.int .i64 0,.int .i64 0,.int .i64 1,.int .i64 (-1)]) (.int .i64 0)).run prog w=.ok (.int .i64 (0)) w:=by kernel_rfl
theorem step_0 (g:G) (m:M) (full:Bool) (w:World) (h:In g w m full) (hg:Stpq.Good m) (hk:g.p=0) :
  Calls prog 166 #[.pointer (some ⟨g.K,0,none⟩)] w fun e w'=>e=.returned (.int .i64 (pr m 0))/\In g w' (setP m 0 ((pr m 0+0)%65536)) full:=by
 have hi:=ixs_0
 have c1:Hid (∀ W,In g W m full->Calls prog 158 #[.pointer (some ⟨g.K,0,none⟩),.int .i64 0] W fun e w'=>e=.returned (.agg #[.pointer (some ⟨g.B,2,none⟩),.pointer (some ⟨g.B,3,none⟩)])/\Below W.heap.size W w'):=fun W hi=>pairOf_0 g W hi.k_cpu
 have c2:Hid (∀ W,In g W m full->Calls prog 162 #[.agg #[.pointer (some ⟨g.B,2,none⟩),.pointer (some ⟨g.B,3,none⟩)]] W fun e w'=>e=.returned (.int .i64 (pr m 0))/\Below W.heap.size W w'):=fun W hi=>word_any g m full 0 W hi hg (by omega) (by omega)
 have bd:=pr_bd hg 0
 have c3:Hid (∀ W,In g W m full->Calls prog 159 #[.agg #[.pointer (some ⟨g.B,2,none⟩),.pointer (some ⟨g.B,3,none⟩)],.int .i64 (pr m 0)] W fun e w'=>e=.returned (.tuple #[])/\In g w' (setP m 0 ((pr m 0+0)%65536)) full):=fun W hi=>by have h:=pput_any g m full 0 (pr m 0) W hi (by omega) (by omega);rw [show pr m 0+0=pr m 0 by omega];exact h
 generalize setP m 0 ((pr m 0+0)%65536)=t at *
 generalize pr m 0=v at *
 have d1:IntKind.i64.wrap (v)=v:=by rw [IntKind.wrap_i64];omega
 have q_p:=h.k_p
 rw [hk] at q_p
 have HI:Hid (In g w m full):=h
 clear h hg bd
 go_enter func166,ntmps166
 go_wp2_with fail
 refine Calls.mono (c1.out _ HI.out) ?_
 rintro e w1 ⟨rfl,hb1⟩
 have H1:=zHd (HI.out.below hb1)
 clear hb1 HI c1
 go_wp2_with fail
 have hA:Below w1.heap.size w1 (w1.alloc (.cells #[.pointer (some ⟨g.B,2,none⟩),.pointer (some ⟨g.B,3,none⟩)] 173)):=zAl _ _
 refine Calls.mono (c2.out _ (H1.out.below hA)) ?_
 rintro e w2 ⟨rfl,hb2⟩
 have hx2:w2.heap[w1.heap.size]? = some (.cells #[.pointer (some ⟨g.B,2,none⟩),.pointer (some ⟨g.B,3,none⟩)] 173):=(hb2.block _ (by simp)).trans (heap_alloc_new w1 _)
 have H2:Hid (In g w2 m full):=(H1.out.below hA).below hb2
 obtain ⟨bx,hbx⟩ : ∃ b,b=w1.heap.size:=⟨_,rfl⟩
 rw [<- hbx] at hx2 |-
 clear hbx hA hb2 H1 c2 q_p
 have r0:=cell_regrown ((cell_of_row w2 bx 0 _ _ _ hx2).trans rfl)
 have r1:=cell_regrown ((cell_of_row w2 bx 1 _ _ _ hx2).trans rfl)
 have r2:=cell_regrown (H2.out.k_p)
 rw [hk] at r2
 clear hx2
 go_wp2_with fail
 refine Qtail.tail_below 10 (by kernel_rfl) (by kernel_rfl) ?_
 simp only [List.take_succ_cons,List.take_zero,List.drop_succ_cons,List.drop_zero]
 repeat (go_big_quiet_step (first|fail))
 refine wpQuiet_nil ?_
 intro _ hw'
 obtain ⟨⟨dq,osq⟩,hw''⟩:=hw'
 subst hw''
 have H3:=zHd (H2.out.below (below_regrown w2 dq osq))
 generalize Go.Sort.grow (redrawn w2 dq) osq=W3 at *
 clear H2 r0 r1 r2
 go_wp2_with fail
 refine Calls.mono (c3.out _ H3.out) ?_
 rintro e w4 ⟨rfl,hi1⟩
 have H4:Hid (In g w4 t full):=hi1
 clear hi1 H3 c3
 go_wp2
 go_ret
 exact ⟨rfl,H4.out⟩
theorem ixs_1 (w:World):(Instr.index 188 (.agg #[.int .i64 0,.int .i64 0,.int .i64 1,.int .i64 (-1)]) (.int .i64 1)).run prog w=.ok (.int .i64 (0)) w:=by kernel_rfl
theorem step_1 (g:G) (m:M) (full:Bool) (w:World) (h:In g w m full) (hg:Stpq.Good m) (hk:g.p=1) :
  Calls prog 166 #[.pointer (some ⟨g.K,0,none⟩)] w fun e w'=>e=.returned (.int .i64 (pr m 1))/\In g w' (setP m 1 ((pr m 1+0)%65536)) full:=by
 have hi:=ixs_1
 have c1:Hid (∀ W,In g W m full->Calls prog 158 #[.pointer (some ⟨g.K,0,none⟩),.int .i64 1] W fun e w'=>e=.returned (.agg #[.pointer (some ⟨g.B,4,none⟩),.pointer (some ⟨g.B,5,none⟩)])/\Below W.heap.size W w'):=fun W hi=>pairOf_1 g W hi.k_cpu
 have c2:Hid (∀ W,In g W m full->Calls prog 162 #[.agg #[.pointer (some ⟨g.B,4,none⟩),.pointer (some ⟨g.B,5,none⟩)]] W fun e w'=>e=.returned (.int .i64 (pr m 1))/\Below W.heap.size W w'):=fun W hi=>word_any g m full 1 W hi hg (by omega) (by omega)
 have bd:=pr_bd hg 1
 have c3:Hid (∀ W,In g W m full->Calls prog 159 #[.agg #[.pointer (some ⟨g.B,4,none⟩),.pointer (some ⟨g.B,5,none⟩)],.int .i64 (pr m 1)] W fun e w'=>e=.returned (.tuple #[])/\In g w' (setP m 1 ((pr m 1+0)%65536)) full):=fun W hi=>by have h:=pput_any g m full 1 (pr m 1) W hi (by omega) (by omega);rw [show pr m 1+0=pr m 1 by omega];exact h
 generalize setP m 1 ((pr m 1+0)%65536)=t at *
 generalize pr m 1=v at *
 have d1:IntKind.i64.wrap (v)=v:=by rw [IntKind.wrap_i64];omega
 have q_p:=h.k_p
 rw [hk] at q_p
 have HI:Hid (In g w m full):=h
 clear h hg bd
 go_enter func166,ntmps166
 go_wp2_with fail
 refine Calls.mono (c1.out _ HI.out) ?_
 rintro e w1 ⟨rfl,hb1⟩
 have H1:=zHd (HI.out.below hb1)
 clear hb1 HI c1
 go_wp2_with fail
 have hA:Below w1.heap.size w1 (w1.alloc (.cells #[.pointer (some ⟨g.B,4,none⟩),.pointer (some ⟨g.B,5,none⟩)] 173)):=zAl _ _
 refine Calls.mono (c2.out _ (H1.out.below hA)) ?_
 rintro e w2 ⟨rfl,hb2⟩
 have hx2:w2.heap[w1.heap.size]? = some (.cells #[.pointer (some ⟨g.B,4,none⟩),.pointer (some ⟨g.B,5,none⟩)] 173):=(hb2.block _ (by simp)).trans (heap_alloc_new w1 _)
 have H2:Hid (In g w2 m full):=(H1.out.below hA).below hb2
 obtain ⟨bx,hbx⟩ : ∃ b,b=w1.heap.size:=⟨_,rfl⟩
 rw [<- hbx] at hx2 |-
 clear hbx hA hb2 H1 c2 q_p
 have r0:=cell_regrown ((cell_of_row w2 bx 0 _ _ _ hx2).trans rfl)
 have r1:=cell_regrown ((cell_of_row w2 bx 1 _ _ _ hx2).trans rfl)
 have r2:=cell_regrown (H2.out.k_p)
 rw [hk] at r2
 clear hx2
 go_wp2_with fail
 refine Qtail.tail_below 10 (by kernel_rfl) (by kernel_rfl) ?_
 simp only [List.take_succ_cons,List.take_zero,List.drop_succ_cons,List.drop_zero]
 repeat (go_big_quiet_step (first|fail))
 refine wpQuiet_nil ?_
 intro _ hw'
 obtain ⟨⟨dq,osq⟩,hw''⟩:=hw'
 subst hw''
 have H3:=zHd (H2.out.below (below_regrown w2 dq osq))
 generalize Go.Sort.grow (redrawn w2 dq) osq=W3 at *
 clear H2 r0 r1 r2
 go_wp2_with fail
 refine Calls.mono (c3.out _ H3.out) ?_
 rintro e w4 ⟨rfl,hi1⟩
 have H4:Hid (In g w4 t full):=hi1
 clear hi1 H3 c3
 go_wp2
 go_ret
 exact ⟨rfl,H4.out⟩
theorem ixs_2 (w:World):(Instr.index 188 (.agg #[.int .i64 0,.int .i64 0,.int .i64 1,.int .i64 (-1)]) (.int .i64 2)).run prog w=.ok (.int .i64 (1)) w:=by kernel_rfl
theorem step_2 (g:G) (m:M) (full:Bool) (w:World) (h:In g w m full) (hg:Stpq.Good m) (hk:g.p=2) :
  Calls prog 166 #[.pointer (some ⟨g.K,0,none⟩)] w fun e w'=>e=.returned (.int .i64 (pr m 2))/\In g w' (setP m 2 ((pr m 2+1)%65536)) full:=by
 have hi:=ixs_2
 have c1:Hid (∀ W,In g W m full->Calls prog 158 #[.pointer (some ⟨g.K,0,none⟩),.int .i64 2] W fun e w'=>e=.returned (.agg #[.pointer (some ⟨g.B,6,none⟩),.pointer (some ⟨g.B,7,none⟩)])/\Below W.heap.size W w'):=fun W hi=>pairOf_2 g W hi.k_cpu
 have c2:Hid (∀ W,In g W m full->Calls prog 162 #[.agg #[.pointer (some ⟨g.B,6,none⟩),.pointer (some ⟨g.B,7,none⟩)]] W fun e w'=>e=.returned (.int .i64 (pr m 2))/\Below W.heap.size W w'):=fun W hi=>word_any g m full 2 W hi hg (by omega) (by omega)
 have bd:=pr_bd hg 2
 have c3:Hid (∀ W,In g W m full->Calls prog 159 #[.agg #[.pointer (some ⟨g.B,6,none⟩),.pointer (some ⟨g.B,7,none⟩)],.int .i64 (pr m 2+1)] W fun e w'=>e=.returned (.tuple #[])/\In g w' (setP m 2 ((pr m 2+1)%65536)) full):=fun W hi=>pput_any g m full 2 _ W hi (by omega) (by omega)
 generalize setP m 2 ((pr m 2+1)%65536)=t at *
 generalize pr m 2=v at *
 have d1:IntKind.i64.wrap (v+1)=v+1:=by rw [IntKind.wrap_i64];omega
 have q_p:=h.k_p
 rw [hk] at q_p
 have HI:Hid (In g w m full):=h
 clear h hg bd
 go_enter func166,ntmps166
 go_wp2_with fail
 refine Calls.mono (c1.out _ HI.out) ?_
 rintro e w1 ⟨rfl,hb1⟩
 have H1:=zHd (HI.out.below hb1)
 clear hb1 HI c1
 go_wp2_with fail
 have hA:Below w1.heap.size w1 (w1.alloc (.cells #[.pointer (some ⟨g.B,6,none⟩),.pointer (some ⟨g.B,7,none⟩)] 173)):=zAl _ _
 refine Calls.mono (c2.out _ (H1.out.below hA)) ?_
 rintro e w2 ⟨rfl,hb2⟩
 have hx2:w2.heap[w1.heap.size]? = some (.cells #[.pointer (some ⟨g.B,6,none⟩),.pointer (some ⟨g.B,7,none⟩)] 173):=(hb2.block _ (by simp)).trans (heap_alloc_new w1 _)
 have H2:Hid (In g w2 m full):=(H1.out.below hA).below hb2
 obtain ⟨bx,hbx⟩ : ∃ b,b=w1.heap.size:=⟨_,rfl⟩
 rw [<- hbx] at hx2 |-
 clear hbx hA hb2 H1 c2 q_p
 have r0:=cell_regrown ((cell_of_row w2 bx 0 _ _ _ hx2).trans rfl)
 have r1:=cell_regrown ((cell_of_row w2 bx 1 _ _ _ hx2).trans rfl)
 have r2:=cell_regrown (H2.out.k_p)
 rw [hk] at r2
 clear hx2
 go_wp2_with fail
 refine Qtail.tail_below 10 (by kernel_rfl) (by kernel_rfl) ?_
 simp only [List.take_succ_cons,List.take_zero,List.drop_succ_cons,List.drop_zero]
 repeat (go_big_quiet_step (first|fail))
 refine wpQuiet_nil ?_
 intro _ hw'
 obtain ⟨⟨dq,osq⟩,hw''⟩:=hw'
 subst hw''
 have H3:=zHd (H2.out.below (below_regrown w2 dq osq))
 generalize Go.Sort.grow (redrawn w2 dq) osq=W3 at *
 clear H2 r0 r1 r2
 go_wp2_with fail
 refine Calls.mono (c3.out _ H3.out) ?_
 rintro e w4 ⟨rfl,hi1⟩
 have H4:Hid (In g w4 t full):=hi1
 clear hi1 H3 c3
 go_wp2
 go_ret
 exact ⟨rfl,H4.out⟩
theorem ixs_3 (w:World):(Instr.index 188 (.agg #[.int .i64 0,.int .i64 0,.int .i64 1,.int .i64 (-1)]) (.int .i64 3)).run prog w=.ok (.int .i64 (-1)) w:=by kernel_rfl
theorem step_3 (g:G) (m:M) (full:Bool) (w:World) (h:In g w m full) (hg:Stpq.Good m) (hk:g.p=3) :
  Calls prog 166 #[.pointer (some ⟨g.K,0,none⟩)] w fun e w'=>e=.returned (.int .i64 (pr m 2))/\In g w' (setP m 2 ((pr m 2+-1)%65536)) full:=by
 have hi:=ixs_3
 have c1:Hid (∀ W,In g W m full->Calls prog 158 #[.pointer (some ⟨g.K,0,none⟩),.int .i64 2] W fun e w'=>e=.returned (.agg #[.pointer (some ⟨g.B,6,none⟩),.pointer (some ⟨g.B,7,none⟩)])/\Below W.heap.size W w'):=fun W hi=>pairOf_2 g W hi.k_cpu
 have c2:Hid (∀ W,In g W m full->Calls prog 162 #[.agg #[.pointer (some ⟨g.B,6,none⟩),.pointer (some ⟨g.B,7,none⟩)]] W fun e w'=>e=.returned (.int .i64 (pr m 2))/\Below W.heap.size W w'):=fun W hi=>word_any g m full 2 W hi hg (by omega) (by omega)
 have bd:=pr_bd hg 2
 have c3:Hid (∀ W,In g W m full->Calls prog 159 #[.agg #[.pointer (some ⟨g.B,6,none⟩),.pointer (some ⟨g.B,7,none⟩)],.int .i64 (pr m 2+-1)] W fun e w'=>e=.returned (.tuple #[])/\In g w' (setP m 2 ((pr m 2+-1)%65536)) full):=fun W hi=>pput_any g m full 2 _ W hi (by omega) (by omega)
 generalize setP m 2 ((pr m 2+-1)%65536)=t at *
 generalize pr m 2=v at *
 have d1:IntKind.i64.wrap (v+-1)=v+-1:=by rw [IntKind.wrap_i64];omega
 have q_p:=h.k_p
 rw [hk] at q_p
 have HI:Hid (In g w m full):=h
 clear h hg bd
 go_enter func166,ntmps166
 go_wp2_with fail
 refine Calls.mono (c1.out _ HI.out) ?_
 rintro e w1 ⟨rfl,hb1⟩
 have H1:=zHd (HI.out.below hb1)
 clear hb1 HI c1
 go_wp2_with fail
 have hA:Below w1.heap.size w1 (w1.alloc (.cells #[.pointer (some ⟨g.B,6,none⟩),.pointer (some ⟨g.B,7,none⟩)] 173)):=zAl _ _
 refine Calls.mono (c2.out _ (H1.out.below hA)) ?_
 rintro e w2 ⟨rfl,hb2⟩
 have hx2:w2.heap[w1.heap.size]? = some (.cells #[.pointer (some ⟨g.B,6,none⟩),.pointer (some ⟨g.B,7,none⟩)] 173):=(hb2.block _ (by simp)).trans (heap_alloc_new w1 _)
 have H2:Hid (In g w2 m full):=(H1.out.below hA).below hb2
 obtain ⟨bx,hbx⟩ : ∃ b,b=w1.heap.size:=⟨_,rfl⟩
 rw [<- hbx] at hx2 |-
 clear hbx hA hb2 H1 c2 q_p
 have r0:=cell_regrown ((cell_of_row w2 bx 0 _ _ _ hx2).trans rfl)
 have r1:=cell_regrown ((cell_of_row w2 bx 1 _ _ _ hx2).trans rfl)
 have r2:=cell_regrown (H2.out.k_p)
 rw [hk] at r2
 clear hx2
 go_wp2_with fail
 refine Qtail.tail_below 10 (by kernel_rfl) (by kernel_rfl) ?_
 simp only [List.take_succ_cons,List.take_zero,List.drop_succ_cons,List.drop_zero]
 repeat (go_big_quiet_step (first|fail))
 refine wpQuiet_nil ?_
 intro _ hw'
 obtain ⟨⟨dq,osq⟩,hw''⟩:=hw'
 subst hw''
 have H3:=zHd (H2.out.below (below_regrown w2 dq osq))
 generalize Go.Sort.grow (redrawn w2 dq) osq=W3 at *
 clear H2 r0 r1 r2
 go_wp2_with fail
 refine Calls.mono (c3.out _ H3.out) ?_
 rintro e w4 ⟨rfl,hi1⟩
 have H4:Hid (In g w4 t full):=hi1
 clear hi1 H3 c3
 go_wp2
 go_ret
 exact ⟨rfl,H4.out⟩
end Stpx
namespace Stpy
open Go.Deep
open Signed (inB sgn ret_int ret_bool)
open Busw Busx Stpp Stpq Stpi Stpj Stpr Stpk Stpm Stpn Stpu Stpx
theorem setP_same {m:M} (h:Stpq.Good m) (p:Int) (h0:0<=p) (h1:p<=2):setP m p ((pr m p+0)%65536)=m:=by
 have hb:=h.b;have hc:=h.c;have hd:=h.d;have he:=h.e;have hh:=h.h;have hl:=h.l
 have hn:p=0 \/ p=1 \/ p=2:=by omega
 rcases hn with rfl|rfl|rfl
 ·show ({ m with rB:=_,rC:=_ }:M)=m
  rw [show (pr m 0+0)%65536 / 256=m.rB by show (256*m.rB+m.rC+0)%65536 / 256=m.rB;omega,show (pr m 0+0)%65536%256=m.rC by show (256*m.rB+m.rC+0)%65536%256=m.rC;omega]
 ·show ({ m with rD:=_,rE:=_ }:M)=m
  rw [show (pr m 1+0)%65536 / 256=m.rD by show (256*m.rD+m.rE+0)%65536 / 256=m.rD;omega,show (pr m 1+0)%65536%256=m.rE by show (256*m.rD+m.rE+0)%65536%256=m.rE;omega]
 ·show ({ m with rH:=_,rL:=_ }:M)=m
  rw [show (pr m 2+0)%65536 / 256=m.rH by show (256*m.rH+m.rL+0)%65536 / 256=m.rH;omega,show (pr m 2+0)%65536%256=m.rL by show (256*m.rH+m.rL+0)%65536%256=m.rL;omega]
theorem step_any (g:G) (m:M) (full:Bool) (w:World) (h:In g w m full) (hg:Stpq.Good m) (hp:Pt g) :
  Calls prog 166 #[.pointer (some ⟨g.K,0,none⟩)] w fun e w'=>e=.returned (.int .i64 (placeOf m g.p))/\In g w' (stepHl m g.p) full:=by
 have h4:=cases4 hp.p.1 hp.p.2
 rcases h4 with h4|h4|h4|h4
 ·have c:=step_0 g m full w h hg h4
  rw [setP_same hg 0 (by omega) (by omega)] at c
  rw [h4];exact c
 ·have c:=step_1 g m full w h hg h4
  rw [setP_same hg 1 (by omega) (by omega)] at c
  rw [h4];exact c
 ·have c:=step_2 g m full w h hg h4
  rw [h4];exact c
 ·have c:=step_3 g m full w h hg h4
  have e:(pr m 2+-1)%65536=(hl m+65535)%65536:=by show (256*m.rH+m.rL+-1)%65536=(256*m.rH+m.rL+65535)%65536;omega
  rw [e] at c
  rw [h4];exact c
theorem stepHl_ra (m:M) (p:Int):(stepHl m p).ra=m.ra:=by
 unfold stepHl setP
 repeat' split
 all_goals rfl
theorem stepHl_cpu (X m:M) (p:Int):stepHl (withCpu X m) p=withCpu X (stepHl m p):=by
 unfold stepHl setP
 repeat' split
 all_goals first|rfl|contradiction
theorem stepHl_self (m:M) (p:Int):withCpu m (stepHl m p)=stepHl m p:=by
 rw [<- stepHl_cpu,withCpu_self]
theorem st_eq (m:M) (full:Bool) (p:Int):wr ⟨stepHl m p,full⟩ (placeOf m p) m.ra=stE p ⟨m,full⟩:=by
 have h:=wr_cpu m (stepHl m p) full (placeOf m p) m.ra
 rw [stepHl_self] at h
 rw [h]
 unfold stE
 simp only []
 have h2:=wr_same ⟨m,full⟩ (placeOf m p) m.ra
 rw [show stepHl (wr ⟨m,full⟩ (placeOf m p) m.ra).m p=stepHl (withCpu (wr ⟨m,full⟩ (placeOf m p) m.ra).m m) p by rw [h2],stepHl_cpu]
theorem ld_eq (m:M) (full:Bool) (p:Int):(⟨{ stepHl m p with ra:=rd m (placeOf m p) },full⟩ : S)=ldE p ⟨m,full⟩:=by
 unfold ldE stepHl setP
 repeat' split
 all_goals first|rfl|contradiction
theorem rd_stepHl (m:M) (p a:Int):rd (stepHl m p) a=rd m a:=by
 unfold stepHl setP
 repeat' split
 all_goals rfl
theorem place_bd {m:M} (h:Stpq.Good m) (p:Int):0<=placeOf m p/\placeOf m p<=65535:=pr_bd h _
theorem stA_step (g:G) (m:M) (full:Bool) (bx:Nat) (w:World) (h:In g w m full) (hg:Stpq.Good m) (hp:Pt g) (hb:w.cell? ⟨bx,0,none⟩=some (.func (.func 166) #[] #[])) :
  Calls prog 221 #[.pointer (some ⟨g.K,0,none⟩),.pointer (some ⟨bx,0,none⟩)] w fun e w'=>e=.returned (.tuple #[])/\In g w' (stE g.p ⟨m,full⟩).m (stE g.p ⟨m,full⟩).full:=by
 have lb:=World.block_lt_of_cell? w _ hb
 rw [<- st_eq]
 have c1:Hid (∀ W,In g W m full->Calls prog 166 #[.pointer (some ⟨g.K,0,none⟩)] W fun e w'=>e=.returned (.int .i64 (placeOf m g.p))/\In g w' (stepHl m g.p) full):=fun W hi=>step_any g m full W hi hg hp
 have g1:=stepHl_good hg g.p
 have c2:Hid (∀ W,In g W (stepHl m g.p) full->Calls prog 219 #[.pointer (some ⟨g.K,0,none⟩),.int .i64 (placeOf m g.p),.int .i64 m.ra] W fun e w'=>e=.returned (.tuple #[])/\In g w' (wr ⟨stepHl m g.p,full⟩ (placeOf m g.p) m.ra).m (wr ⟨stepHl m g.p,full⟩ (placeOf m g.p) m.ra).full):=fun W hi=>write_any g (stepHl m g.p) full _ _ W hi g1.rt hg.a.1 hg.a.2
 have HR:Hid ((stepHl m g.p).ra=m.ra):=stepHl_ra m g.p
 generalize wr ⟨stepHl m g.p,full⟩ (placeOf m g.p) m.ra=t at *
 generalize stepHl m g.p=m1 at *
 generalize placeOf m g.p=v at *
 have q0:=h.k_cpu
 have q1:=h.c_ra
 have HI:=zHd (h.below zRf.drew)
 clear h hg g1 hp
 go_enter func221,ntmps221
 go_wp2_with fail
 go_region_with (first|(go_at_call 166;refine Calls.mono (c1.out _ HI.out) ?_;rintro e w1 ⟨rfl,hi1⟩;have k1:=hi1.k_cpu;have k2:=(hi1.c_ra).trans (by rw [HR.out]);have H1:Hid (In g w1 m1 full):=hi1;clear hi1)|(go_at_call 219;refine Calls.mono (c2.out _ (by assumption:Hid (In g _ m1 full)).out) ?_;rintro e w2 ⟨rfl,hi2⟩;have H2:Hid (In g w2 t.m t.full):=hi2;clear hi2))
 all_goals go_wp2
 all_goals go_end0
 all_goals exact ⟨rfl,(by assumption:Hid (In g _ t.m t.full)).out⟩
theorem ldA_step (g:G) (m:M) (full:Bool) (bx:Nat) (w:World) (h:In g w m full) (hg:Stpq.Good m) (hp:Pt g) (hb:w.cell? ⟨bx,0,none⟩=some (.func (.func 166) #[] #[])) :
  Calls prog 222 #[.pointer (some ⟨g.K,0,none⟩),.pointer (some ⟨bx,0,none⟩)] w fun e w'=>e=.returned (.tuple #[])/\In g w' (ldE g.p ⟨m,full⟩).m (ldE g.p ⟨m,full⟩).full:=by
 have lb:=World.block_lt_of_cell? w _ hb
 rw [<- ld_eq]
 have c1:Hid (∀ W,In g W m full->Calls prog 166 #[.pointer (some ⟨g.K,0,none⟩)] W fun e w'=>e=.returned (.int .i64 (placeOf m g.p))/\In g w' (stepHl m g.p) full):=fun W hi=>step_any g m full W hi hg hp
 have g1:=stepHl_good hg g.p
 have pb:=place_bd hg g.p
 have c2:Hid (∀ W,In g W (stepHl m g.p) full->Calls prog 220 #[.pointer (some ⟨g.K,0,none⟩),.int .i64 (placeOf m g.p)] W fun e w'=>e=.returned (.int .i64 (rd m (placeOf m g.p)))/\Below W.heap.size W w'):=fun W hi=>by
  have h:=read_any g (stepHl m g.p) full (placeOf m g.p) W hi g1.rt
  rw [show placeOf m g.p%65536=placeOf m g.p by omega,rd_stepHl] at h
  exact h
 generalize rd m (placeOf m g.p)=q at *
 generalize stepHl m g.p=m1 at *
 generalize placeOf m g.p=v at *
 have q0:=h.k_cpu
 have HI:=zHd (h.below zRf.drew)
 clear h hg g1 hp pb
 go_enter func222,ntmps222
 go_wp2_with fail
 go_region_with (first|(go_at_call 166;refine Calls.mono (c1.out _ HI.out) ?_;rintro e w1 ⟨rfl,hi1⟩;have k1:=hi1.k_cpu;have H1:Hid (In g w1 m1 full):=hi1;clear hi1)|(go_at_call 220;refine Calls.mono (c2.out _ (by assumption:Hid (In g _ m1 full)).out) ?_;rintro e w2 ⟨rfl,hb2⟩;have hi2:=(by assumption:Hid (In g _ m1 full)).out.below hb2;have k3:=hi2.k_cpu;have k4:=hi2.c_ra;have k5:=hi2.fro 0;have H2:Hid (In g (w2.setCell ⟨g.B,0,none⟩ (.int .i64 q)) { m1 with ra:=q } full):=hi2.s_ra q;clear hi2 hb2))
 all_goals go_wp2
 all_goals go_end0
 all_goals exact ⟨rfl,(by assumption:Hid (In g _ { m1 with ra:=q } full)).out⟩
end Stpy
end Go.Proofs.YtnjolmbdbgbmbaaGreatDoor
