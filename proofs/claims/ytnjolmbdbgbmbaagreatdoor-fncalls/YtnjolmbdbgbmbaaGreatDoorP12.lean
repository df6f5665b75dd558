/-
  Contracts and facts of ours, joined: Stpu, AluI.
-/
import Derived.Test.YtnjolmbdbgbmbaaGreatDoorP09
import Derived.Test.YtnjolmbdbgbmbaaGreatDoorP11
import Derived.Test.YtnjolmbdbgbmbaaGreatDoorP00
import Derived.Test.YtnjolmbdbgbmbaaGreatDoorP05
import Derived.Lib.QuietBelow
import Derived.BigQuiet
set_option linter.unusedVariables false
set_option linter.unusedSimpArgs false
set_option maxRecDepth 20000
set_option maxHeartbeats 8000000
open Go.ChangeShapes Go.WideShapes Go.ChangeAt Go.RowKit
open Go.Proofs.Tryz
namespace Go.Proofs.YtnjolmbdbgbmbaaGreatDoor.Stpu
open Go.Deep
open Signed (inB sgn ret_int ret_bool)
open Busw Busx Stpp Stpq Stpi Stpj Stpr Stpk Stpm Stpn
structure Pt (g:G):Prop where
 x:0<=g.x/\g.x<=3
 y:0<=g.y/\g.y<=7
 z:0<=g.z/\g.z<=7
 p:0<=g.p/\g.p<=3
theorem mv1 (g:G) (m:M) (full:Bool)  (w:World) (h:In g w m full) (hg:Stpq.Good m) (hp:Pt g) :
  Calls prog 153 #[.pointer (some ⟨g.K,0,none⟩)] w fun e w'=>e=.returned (.tuple #[])/\In g w' (put ⟨m,full⟩ g.y (Stpp.get m g.z)).m (put ⟨m,full⟩ g.y (Stpp.get m g.z)).full:=by
 have c1:Rg 155 #[.pointer (some ⟨g.K,0,none⟩),.int .i64 g.z] w (.int .i64 (Stpp.get m g.z)):=rg fun W hb=>get_any g m full g.z W (h.below hb) hg hp.z.1 hp.z.2
 have bd:=get_bd hg g.z
 have c2:Hid (∀ W,In g W m full->Calls prog 154 #[.pointer (some ⟨g.K,0,none⟩),.int .i64 g.y,.int .i64 (Stpp.get m g.z)] W fun e w'=>e=.returned (.tuple #[])/\In g w' (put ⟨m,full⟩ g.y (Stpp.get m g.z)).m (put ⟨m,full⟩ g.y (Stpp.get m g.z)).full):=fun W hi=>put_any g m full _ _ W hi hg hp.y.1 hp.y.2 bd.1 bd.2
 generalize put ⟨m,full⟩ g.y (Stpp.get m g.z)=t at *
 generalize Stpp.get m g.z=v at *
 have r0:=cell_regrown (h.k_y)
 have r1:=cell_regrown (h.k_z)
 have HI:Hid (In g w m full):=h
 clear h hg hp bd
 go_enter func153,ntmps153
 go_wp2_with fail
 refine Qtail.tail_below 13 (by kernel_rfl) (by kernel_rfl) ?_
 simp only [List.take_succ_cons,List.take_zero,List.drop_succ_cons,List.drop_zero]
 repeat (go_big_quiet_step (first|with_reducible exact c1 _ _))
 refine wpQuiet_nil ?_
 intro _ hw'
 obtain ⟨⟨dq,osq⟩,hw''⟩:=hw'
 subst hw''
 have H2:=zHd (HI.out.below (below_regrown w dq osq))
 generalize Go.Sort.grow (redrawn w dq) osq=W2 at *
 clear HI r0 r1 c1
 go_wp2_with fail
 refine Calls.mono (c2.out _ H2.out) ?_
 rintro e w1 ⟨rfl,hi1⟩
 have H3:Hid (In g w1 t.m t.full):=hi1
 clear hi1 H2 c2
 go_wp2
 go_end0
 exact ⟨rfl,H3.out⟩
theorem mv2 (g:G) (m:M) (full:Bool) (i0:0<=g.imm) (i1:g.imm<=255) (w:World) (h:In g w m full) (hg:Stpq.Good m) (hp:Pt g) :
  Calls prog 156 #[.pointer (some ⟨g.K,0,none⟩)] w fun e w'=>e=.returned (.tuple #[])/\In g w' (put ⟨m,full⟩ g.y g.imm).m (put ⟨m,full⟩ g.y g.imm).full:=by
 have c2:Hid (∀ W,In g W m full->Calls prog 154 #[.pointer (some ⟨g.K,0,none⟩),.int .i64 g.y,.int .i64 g.imm] W fun e w'=>e=.returned (.tuple #[])/\In g w' (put ⟨m,full⟩ g.y g.imm).m (put ⟨m,full⟩ g.y g.imm).full):=fun W hi=>put_any g m full _ _ W hi hg hp.y.1 hp.y.2 i0 i1
 generalize put ⟨m,full⟩ g.y g.imm=t at *
 have r0:=cell_regrown (h.k_y)
 have r1:=cell_regrown (h.k_imm)
 have HI:Hid (In g w m full):=h
 clear h hg hp i0 i1
 go_enter func156,ntmps156
 go_wp2_with fail
 refine Qtail.tail_below 11 (by kernel_rfl) (by kernel_rfl) ?_
 simp only [List.take_succ_cons,List.take_zero,List.drop_succ_cons,List.drop_zero]
 repeat (go_big_quiet_step (first|fail))
 refine wpQuiet_nil ?_
 intro _ hw'
 obtain ⟨⟨dq,osq⟩,hw''⟩:=hw'
 subst hw''
 have H2:=zHd (HI.out.below (below_regrown w dq osq))
 generalize Go.Sort.grow (redrawn w dq) osq=W2 at *
 clear HI r0 r1
 go_wp2_with fail
 refine Calls.mono (c2.out _ H2.out) ?_
 rintro e w1 ⟨rfl,hi1⟩
 have H3:Hid (In g w1 t.m t.full):=hi1
 clear hi1 H2 c2
 go_wp2
 go_end0
 exact ⟨rfl,H3.out⟩
theorem mv3 (g:G) (m:M) (full:Bool)  (w:World) (h:In g w m full) (hg:Stpq.Good m) (hp:Pt g) :
  Calls prog 157 #[.pointer (some ⟨g.K,0,none⟩)] w fun e w'=>e=.returned (.tuple #[])/\In g w' (⟨setP m g.p (g.imm%65536),full⟩ : S).m (⟨setP m g.p (g.imm%65536),full⟩ : S).full:=by
 have c1:Rg 158 #[.pointer (some ⟨g.K,0,none⟩),.int .i64 g.p] w (pv g g.p):=rg fun W hb=>pairOf_any g m full g.p W (h.below hb) hp.p.1 hp.p.2
 have c2:Hid (∀ W,In g W m full->Calls prog 159 #[pv g g.p,.int .i64 g.imm] W fun e w'=>e=.returned (.tuple #[])/\In g w' (⟨setP m g.p (g.imm%65536),full⟩ : S).m (⟨setP m g.p (g.imm%65536),full⟩ : S).full):=fun W hi=>pput_any g m full _ _ W hi hp.p.1 hp.p.2
 generalize (⟨setP m g.p (g.imm%65536),full⟩ : S)=t at *
 generalize pv g g.p=v at *
 have r0:=cell_regrown (h.k_p)
 have r1:=cell_regrown (h.k_imm)
 have HI:Hid (In g w m full):=h
 clear h hg hp
 go_enter func157,ntmps157
 go_wp2_with fail
 refine Qtail.tail_below 12 (by kernel_rfl) (by kernel_rfl) ?_
 simp only [List.take_succ_cons,List.take_zero,List.drop_succ_cons,List.drop_zero]
 repeat (go_big_quiet_step (first|with_reducible exact c1 _ _))
 refine wpQuiet_nil ?_
 intro _ hw'
 obtain ⟨⟨dq,osq⟩,hw''⟩:=hw'
 subst hw''
 have H2:=zHd (HI.out.below (below_regrown w dq osq))
 generalize Go.Sort.grow (redrawn w dq) osq=W2 at *
 clear HI r0 r1 c1
 go_wp2_with fail
 refine Calls.mono (c2.out _ H2.out) ?_
 rintro e w1 ⟨rfl,hi1⟩
 have H3:Hid (In g w1 t.m t.full):=hi1
 clear hi1 H2 c2
 go_wp2
 go_end0
 exact ⟨rfl,H3.out⟩
theorem mv4 (g:G) (m:M) (full:Bool)  (w:World) (h:In g w m full) (hg:Stpq.Good m) (hp:Pt g) :
  Calls prog 160 #[.pointer (some ⟨g.K,0,none⟩)] w fun e w'=>e=.returned (.tuple #[])/\In g w' (⟨{ m with sp:=hl m },full⟩ : S).m (⟨{ m with sp:=hl m },full⟩ : S).full:=by
 have c1:Rg 161 #[.pointer (some ⟨g.K,0,none⟩)] w (.agg #[.pointer (some ⟨g.B,6,none⟩),.pointer (some ⟨g.B,7,none⟩)]):=rg fun W hb=>hl_any g W ((h.below hb).k_cpu)
 have c2:Rg 162 #[.agg #[.pointer (some ⟨g.B,6,none⟩),.pointer (some ⟨g.B,7,none⟩)]] w (.int .i64 (hl m)):=rg fun W hb=>at_hl g m full W (h.below hb) hg
 generalize hl m=v at *
 have r0:=cell_regrown (h.k_cpu)
 have HI:Hid (In g w m full):=h
 clear h hg hp
 go_enter func160,ntmps160
 go_wp2_with fail
 refine Qtail.tail_below 9 (by kernel_rfl) (by kernel_rfl) ?_
 simp only [List.take_succ_cons,List.take_zero,List.drop_succ_cons,List.drop_zero]
 repeat (go_big_quiet_step (first|with_reducible exact c1 _ _|with_reducible exact c2 _ _))
 refine wpQuiet_nil ?_
 intro _ hw'
 obtain ⟨⟨dq,osq⟩,hw''⟩:=hw'
 subst hw''
 have H2:=zHd (HI.out.below (below_regrown w dq osq))
 generalize Go.Sort.grow (redrawn w dq) osq=W2 at *
 clear HI r0 c1 c2
 have q_k_cpu:=H2.out.k_cpu
 have q_c_sp:=H2.out.c_sp
 have f_sp:=H2.out.fro 8
 have H3:=H2.out.s_sp v
 have HF:Hid (In g (W2.setCell ⟨g.B,8,none⟩ (.int .i64 v)) { m with sp:=v } full):=H3
 clear H3 H2
 go_wp2
 go_end0
 exact ⟨rfl,HF.out⟩
theorem mvSp (g:G) (m:M) (full:Bool) (i0:0<=g.imm) (i1:g.imm<=65535) (w:World) (h:In g w m full) (hg:Stpq.Good m) (hp:Pt g) :
  Calls prog 163 #[.pointer (some ⟨g.K,0,none⟩)] w fun e w'=>e=.returned (.tuple #[])/\In g w' (spE g.imm ⟨m,full⟩).m (spE g.imm ⟨m,full⟩).full:=by
 obtain ⟨s0,s1⟩:=hg.sp
 have d1:m.sp.tmod 256=m.sp%256:=Int.tmod_eq_emod_of_nonneg s0
 have d2:m.sp.tdiv 256=m.sp / 256:=Int.tdiv_eq_ediv_of_nonneg s0
 have d3:IntKind.i64.wrap (g.imm+1)=g.imm+1:=by rw [IntKind.wrap_i64];omega
 have d4:IntKind.i64.wrap (m.sp / 256)=m.sp / 256:=by rw [IntKind.wrap_i64];omega
 have c1:Hid (∀ W,In g W m full->Calls prog 219 #[.pointer (some ⟨g.K,0,none⟩),.int .i64 g.imm,.int .i64 (m.sp%256)] W fun e w'=>e=.returned (.tuple #[])/\In g w' (wr ⟨m,full⟩ g.imm (m.sp%256)).m (wr ⟨m,full⟩ g.imm (m.sp%256)).full):=fun W hi=>write_any g m full _ _ W hi hg.rt (by omega) (by omega)
 have g1:=wr_good (s:=⟨m,full⟩) hg g.imm (m.sp%256) (by omega) (by omega)
 have p1:=wr_sp ⟨m,full⟩ g.imm (m.sp%256)
 unfold spE
 simp only []
 generalize wr ⟨m,full⟩ g.imm (m.sp%256)=t at *
 have c2:Hid (∀ W,In g W t.m t.full->Calls prog 219 #[.pointer (some ⟨g.K,0,none⟩),.int .i64 (g.imm+1),.int .i64 (m.sp / 256)] W fun e w'=>e=.returned (.tuple #[])/\In g w' (wr t (g.imm+1) (m.sp / 256)).m (wr t (g.imm+1) (m.sp / 256)).full):=fun W hi=>write_any g t.m t.full _ _ W hi g1.rt (by omega) (by omega)
 generalize wr t (g.imm+1) (m.sp / 256)=t2 at *
 have HP:Hid (t.m.sp=m.sp):=p1
 have r0:=cell_regrown (h.k_cpu)
 have r1:=cell_regrown (h.k_imm)
 have r2:=cell_regrown (h.c_sp)
 have HI:Hid (In g w m full):=h
 clear h hg hp p1 g1 i0 i1
 go_enter func163,ntmps163
 go_wp2_with fail
 refine Qtail.tail_below 14 (by kernel_rfl) (by kernel_rfl) ?_
 simp only [List.take_succ_cons,List.take_zero,List.drop_succ_cons,List.drop_zero]
 repeat (go_big_quiet_step (first|fail))
 refine wpQuiet_nil ?_
 intro _ hw'
 obtain ⟨⟨dq,osq⟩,hw''⟩:=hw'
 subst hw''
 have H2:=zHd (HI.out.below (below_regrown w dq osq))
 generalize Go.Sort.grow (redrawn w dq) osq=W2 at *
 clear HI r0 r1 r2
 go_wp2_with fail
 refine Calls.mono (c1.out _ H2.out) ?_
 rintro e w1 ⟨rfl,hi1⟩
 have H3:Hid (In g w1 t.m t.full):=hi1
 clear hi1 H2 c1
 have r0:=cell_regrown (H3.out.k_cpu)
 have r1:=cell_regrown (H3.out.k_imm)
 have r2:=cell_regrown (H3.out.c_sp)
 rw [HP.out] at r2
 go_wp2_with fail
 refine Qtail.tail_below 15 (by kernel_rfl) (by kernel_rfl) ?_
 simp only [List.take_succ_cons,List.take_zero,List.drop_succ_cons,List.drop_zero]
 repeat (go_big_quiet_step (first|fail))
 refine wpQuiet_nil ?_
 intro _ hw'
 obtain ⟨⟨dq,osq⟩,hw''⟩:=hw'
 subst hw''
 have H4:=zHd (H3.out.below (below_regrown w1 dq osq))
 generalize Go.Sort.grow (redrawn w1 dq) osq=W4 at *
 clear H3 r0 r1 r2
 go_wp2_with fail
 refine Calls.mono (c2.out _ H4.out) ?_
 rintro e w2 ⟨rfl,hi1⟩
 have H5:Hid (In g w2 t2.m t2.full):=hi1
 clear hi1 H4 c2
 go_wp2
 go_end0
 exact ⟨rfl,H5.out⟩
theorem inT {n lo hi:Int} (h:lo<=n/\n<=hi):inB n lo hi=true:=decide_eq_true h
theorem asg_in {a b:Int} (h1:0<=a/\a<=65535) (h2:0<=b/\b<=255):ReckM.asg a b=ReckM.asR a b:=by unfold ReckM.asg;rw [inT h1,inT h2];rfl
theorem mvHl (g:G) (m:M) (full:Bool) (i0:0<=g.imm) (i1:g.imm<=255) (w:World) (h:In g w m full) (hg:Stpq.Good m) (hp:Pt g) :
  Calls prog 164 #[.pointer (some ⟨g.K,0,none⟩)] w fun e w'=>e=.returned (.tuple #[])/\In g w' (⟨{ setP m 2 (ReckM.asR m.sp g.imm).1 with rf:=(ReckM.asR m.sp g.imm).2 },full⟩ : S).m (⟨{ setP m 2 (ReckM.asR m.sp g.imm).1 with rf:=(ReckM.asR m.sp g.imm).2 },full⟩ : S).full:=by
 have c1:Rg 186 #[.int .i64 m.sp,.int .i64 g.imm] w (.tuple #[.int .i64 (ReckM.asR m.sp g.imm).1,.int .i64 (ReckM.asR m.sp g.imm).2]):=rg fun W hb=>(ReckM.implAddSigned_any m.sp g.imm W).mono fun e w' h=>⟨by rw [<- asg_in hg.sp ⟨i0,i1⟩];exact h.1,by rw [h.2];exact zRf⟩
 have bd:=as_bd m.sp g.imm
 generalize (ReckM.asR m.sp g.imm).1=v at *
 generalize (ReckM.asR m.sp g.imm).2=f at *
 have d1:Hid (∀ W,In g W m full->Calls prog 161 #[.pointer (some ⟨g.K,0,none⟩)] W fun e w'=>e=.returned (.agg #[.pointer (some ⟨g.B,6,none⟩),.pointer (some ⟨g.B,7,none⟩)])/\Below W.heap.size W w'):=fun W hi=>hl_any g W hi.k_cpu
 have d2:Hid (∀ W,In g W m full->Calls prog 159 #[.agg #[.pointer (some ⟨g.B,6,none⟩),.pointer (some ⟨g.B,7,none⟩)],.int .i64 v] W fun e w'=>e=.returned (.tuple #[])/\In g w' (setP m 2 v) full):=fun W hi=>by
  have h:=pput_any g m full 2 v W hi (by omega) (by omega)
  rw [show v%65536=v by omega] at h
  exact h
 generalize setP m 2 v=t at *
 have r0:=cell_regrown (h.k_cpu)
 have r1:=cell_regrown (h.k_imm)
 have r2:=cell_regrown (h.c_sp)
 have HI:Hid (In g w m full):=h
 clear h hg hp bd i0 i1
 go_enter func164,ntmps164
 go_wp2_with fail
 refine wp_region_quiet_below (by kernel_rfl) (by kernel_rfl) ?_
 repeat (go_big_quiet_step (first|with_reducible exact c1 _ _))
 refine wpQuiet_nil ?_
 intro _ hw'
 obtain ⟨⟨dq,osq⟩,hw''⟩:=hw'
 subst hw''
 have H2:=zHd (HI.out.below (below_regrown w dq osq))
 generalize Go.Sort.grow (redrawn w dq) osq=W2 at *
 clear HI r0 r1 r2 c1
 go_wp2_with fail
 refine Calls.mono (d1.out _ H2.out) ?_
 rintro e w1 ⟨rfl,hb1⟩
 have H3:=zHd (H2.out.below hb1)
 clear hb1 H2 d1
 go_wp2_with fail
 refine Calls.mono (d2.out _ H3.out) ?_
 rintro e w2 ⟨rfl,hi1⟩
 have H4:Hid (In g w2 t full):=hi1
 clear hi1 H3 d2
 have q_k_cpu:=H4.out.k_cpu
 have q_c_rf:=H4.out.c_rf
 have f_rf:=H4.out.fro 1
 have H3:=H4.out.s_rf f
 have HF:Hid (In g (w2.setCell ⟨g.B,1,none⟩ (.int .i64 f)) { t with rf:=f } full):=H3
 clear H3 H4
 go_wp2
 go_end0
 exact ⟨rfl,HF.out⟩
theorem at_told (g:G) (m:M) (full:Bool) (w:World) (h:In g w m full) (hg:Stpq.Good m) (i0:0<=g.imm) (i1:g.imm<=65535) :
  Calls prog 170 #[.pointer (some ⟨g.K,0,none⟩)] w fun e w'=>e=.returned (.int .i64 (g.imm))/\Below w.heap.size w w':=by
 have q_k_imm:=h.k_imm
 clear h hg
 go_enter func170,ntmps170
 go_wp2
 go_ret
 exact ⟨rfl,by repeat (with_reducible first|exact zRf|refine zGr ?_ _|refine below_drewN ?_ _|refine Below.drew ?_)⟩
theorem at_high (g:G) (m:M) (full:Bool) (w:World) (h:In g w m full) (hg:Stpq.Good m) (i0:0<=g.imm) (i1:g.imm<=65535) :
  Calls prog 168 #[.pointer (some ⟨g.K,0,none⟩)] w fun e w'=>e=.returned (.int .i64 (65280+g.imm))/\Below w.heap.size w w':=by
 have q_k_imm:=h.k_imm
 have d1:IntKind.i64.wrap (65280+g.imm)=65280+g.imm:=by rw [IntKind.wrap_i64];omega
 clear h hg
 go_enter func168,ntmps168
 go_wp2
 go_ret
 exact ⟨rfl,by repeat (with_reducible first|exact zRf|refine zGr ?_ _|refine below_drewN ?_ _|refine Below.drew ?_)⟩
theorem at_highC (g:G) (m:M) (full:Bool) (w:World) (h:In g w m full) (hg:Stpq.Good m) (i0:0<=g.imm) (i1:g.imm<=65535) :
  Calls prog 169 #[.pointer (some ⟨g.K,0,none⟩)] w fun e w'=>e=.returned (.int .i64 (65280+m.rC))/\Below w.heap.size w w':=by
 have q_k_cpu:=h.k_cpu
 have q_c_rC:=h.c_rC
 have hc:=hg.c
 have d1:IntKind.i64.wrap (65280+m.rC)=65280+m.rC:=by rw [IntKind.wrap_i64];omega
 clear h hg
 go_enter func169,ntmps169
 go_wp2
 go_ret
 exact ⟨rfl,by repeat (with_reducible first|exact zRf|refine zGr ?_ _|refine below_drewN ?_ _|refine Below.drew ?_)⟩
def Stays (g:G) (m:M) (full:Bool) (F:FuncId) (v:Int):Prop:=∀ W,In g W m full->Calls prog F #[.pointer (some ⟨g.K,0,none⟩)] W fun e w'=>e=.returned (.int .i64 v)/\Below W.heap.size W w'
theorem stA_told (g:G) (m:M) (full:Bool) (v:Int) (hF:Stays g m full 170 v) (bx:Nat) (w:World) (h:In g w m full) (hg:Stpq.Good m) (hb:w.cell? ⟨bx,0,none⟩=some (.func (.func 170) #[] #[])) :
  Calls prog 221 #[.pointer (some ⟨g.K,0,none⟩),.pointer (some ⟨bx,0,none⟩)] w fun e w'=>e=.returned (.tuple #[])/\In g w' (wr ⟨m,full⟩ v m.ra).m (wr ⟨m,full⟩ v m.ra).full:=by
 have lb:=World.block_lt_of_cell? w _ hb
 have c1:Rg 170 #[.pointer (some ⟨g.K,0,none⟩)] w (.int .i64 v):=rg fun W hb=>hF W (h.below hb)
 have c2:Hid (∀ W,In g W m full->Calls prog 219 #[.pointer (some ⟨g.K,0,none⟩),.int .i64 v,.int .i64 m.ra] W fun e w'=>e=.returned (.tuple #[])/\In g w' (wr ⟨m,full⟩ v m.ra).m (wr ⟨m,full⟩ v m.ra).full):=fun W hi=>write_any g m full _ _ W hi hg.rt hg.a.1 hg.a.2
 generalize wr ⟨m,full⟩ v m.ra=t at *
 have r0:=cell_regrown (h.k_cpu)
 have r1:=cell_regrown (h.c_ra)
 have rb:=cell_regrown hb
 have HI:Hid (In g w m full):=h
 clear h hg hF hb
 go_enter func221,ntmps221
 go_wp2_with fail
 refine Qtail.tail_below 11 (by kernel_rfl) (by kernel_rfl) ?_
 simp only [List.take_succ_cons,List.take_zero,List.drop_succ_cons,List.drop_zero]
 repeat (go_big_quiet_step (first|with_reducible exact c1 _ _))
 refine wpQuiet_nil ?_
 intro _ hw'
 obtain ⟨⟨dq,osq⟩,hw''⟩:=hw'
 subst hw''
 have H2:=zHd (HI.out.below (below_regrown w dq osq))
 generalize Go.Sort.grow (redrawn w dq) osq=W2 at *
 clear HI r0 r1 rb c1
 go_wp2_with fail
 refine Calls.mono (c2.out _ H2.out) ?_
 rintro e w1 ⟨rfl,hi1⟩
 have H3:Hid (In g w1 t.m t.full):=hi1
 clear hi1 H2 c2
 go_wp2
 go_end0
 exact ⟨rfl,H3.out⟩
theorem ldA_told (g:G) (m:M) (full:Bool) (v:Int) (hF:Stays g m full 170 v) (v0:0<=v) (v1:v<=65535) (bx:Nat) (w:World) (h:In g w m full) (hg:Stpq.Good m) (hb:w.cell? ⟨bx,0,none⟩=some (.func (.func 170) #[] #[])) :
  Calls prog 222 #[.pointer (some ⟨g.K,0,none⟩),.pointer (some ⟨bx,0,none⟩)] w fun e w'=>e=.returned (.tuple #[])/\In g w' (⟨{ m with ra:=rd m v },full⟩ : S).m (⟨{ m with ra:=rd m v },full⟩ : S).full:=by
 have lb:=World.block_lt_of_cell? w _ hb
 have c1:Rg 170 #[.pointer (some ⟨g.K,0,none⟩)] w (.int .i64 v):=rg fun W hb=>hF W (h.below hb)
 have c2:Rg 220 #[.pointer (some ⟨g.K,0,none⟩),.int .i64 v] w (.int .i64 (rd m v)):=rg fun W hb=>by
  have h:=read_any g m full v W (h.below hb) hg.rt
  rw [show v%65536=v by omega] at h
  exact h
 generalize rd m v=q at *
 have r0:=cell_regrown (h.k_cpu)
 have rb:=cell_regrown hb
 have HI:Hid (In g w m full):=h
 clear h hg hF hb
 go_enter func222,ntmps222
 go_wp2_with fail
 refine Qtail.tail_below 11 (by kernel_rfl) (by kernel_rfl) ?_
 simp only [List.take_succ_cons,List.take_zero,List.drop_succ_cons,List.drop_zero]
 repeat (go_big_quiet_step (first|with_reducible exact c1 _ _|with_reducible exact c2 _ _))
 refine wpQuiet_nil ?_
 intro _ hw'
 obtain ⟨⟨dq,osq⟩,hw''⟩:=hw'
 subst hw''
 have H2:=zHd (HI.out.below (below_regrown w dq osq))
 generalize Go.Sort.grow (redrawn w dq) osq=W2 at *
 clear HI r0 rb c1 c2
 have q_k_cpu:=H2.out.k_cpu
 have q_c_ra:=H2.out.c_ra
 have f_ra:=H2.out.fro 0
 have H3:=H2.out.s_ra q
 have HF:Hid (In g (W2.setCell ⟨g.B,0,none⟩ (.int .i64 q)) { m with ra:=q } full):=H3
 clear H3 H2
 go_wp2
 go_end0
 exact ⟨rfl,HF.out⟩
theorem stA_high (g:G) (m:M) (full:Bool) (v:Int) (hF:Stays g m full 168 v) (bx:Nat) (w:World) (h:In g w m full) (hg:Stpq.Good m) (hb:w.cell? ⟨bx,0,none⟩=some (.func (.func 168) #[] #[])) :
  Calls prog 221 #[.pointer (some ⟨g.K,0,none⟩),.pointer (some ⟨bx,0,none⟩)] w fun e w'=>e=.returned (.tuple #[])/\In g w' (wr ⟨m,full⟩ v m.ra).m (wr ⟨m,full⟩ v m.ra).full:=by
 have lb:=World.block_lt_of_cell? w _ hb
 have c1:Rg 168 #[.pointer (some ⟨g.K,0,none⟩)] w (.int .i64 v):=rg fun W hb=>hF W (h.below hb)
 have c2:Hid (∀ W,In g W m full->Calls prog 219 #[.pointer (some ⟨g.K,0,none⟩),.int .i64 v,.int .i64 m.ra] W fun e w'=>e=.returned (.tuple #[])/\In g w' (wr ⟨m,full⟩ v m.ra).m (wr ⟨m,full⟩ v m.ra).full):=fun W hi=>write_any g m full _ _ W hi hg.rt hg.a.1 hg.a.2
 generalize wr ⟨m,full⟩ v m.ra=t at *
 have r0:=cell_regrown (h.k_cpu)
 have r1:=cell_regrown (h.c_ra)
 have rb:=cell_regrown hb
 have HI:Hid (In g w m full):=h
 clear h hg hF hb
 go_enter func221,ntmps221
 go_wp2_with fail
 refine Qtail.tail_below 11 (by kernel_rfl) (by kernel_rfl) ?_
 simp only [List.take_succ_cons,List.take_zero,List.drop_succ_cons,List.drop_zero]
 repeat (go_big_quiet_step (first|with_reducible exact c1 _ _))
 refine wpQuiet_nil ?_
 intro _ hw'
 obtain ⟨⟨dq,osq⟩,hw''⟩:=hw'
 subst hw''
 have H2:=zHd (HI.out.below (below_regrown w dq osq))
 generalize Go.Sort.grow (redrawn w dq) osq=W2 at *
 clear HI r0 r1 rb c1
 go_wp2_with fail
 refine Calls.mono (c2.out _ H2.out) ?_
 rintro e w1 ⟨rfl,hi1⟩
 have H3:Hid (In g w1 t.m t.full):=hi1
 clear hi1 H2 c2
 go_wp2
 go_end0
 exact ⟨rfl,H3.out⟩
theorem ldA_high (g:G) (m:M) (full:Bool) (v:Int) (hF:Stays g m full 168 v) (v0:0<=v) (v1:v<=65535) (bx:Nat) (w:World) (h:In g w m full) (hg:Stpq.Good m) (hb:w.cell? ⟨bx,0,none⟩=some (.func (.func 168) #[] #[])) :
  Calls prog 222 #[.pointer (some ⟨g.K,0,none⟩),.pointer (some ⟨bx,0,none⟩)] w fun e w'=>e=.returned (.tuple #[])/\In g w' (⟨{ m with ra:=rd m v },full⟩ : S).m (⟨{ m with ra:=rd m v },full⟩ : S).full:=by
 have lb:=World.block_lt_of_cell? w _ hb
 have c1:Rg 168 #[.pointer (some ⟨g.K,0,none⟩)] w (.int .i64 v):=rg fun W hb=>hF W (h.below hb)
 have c2:Rg 220 #[.pointer (some ⟨g.K,0,none⟩),.int .i64 v] w (.int .i64 (rd m v)):=rg fun W hb=>by
  have h:=read_any g m full v W (h.below hb) hg.rt
  rw [show v%65536=v by omega] at h
  exact h
 generalize rd m v=q at *
 have r0:=cell_regrown (h.k_cpu)
 have rb:=cell_regrown hb
 have HI:Hid (In g w m full):=h
 clear h hg hF hb
 go_enter func222,ntmps222
 go_wp2_with fail
 refine Qtail.tail_below 11 (by kernel_rfl) (by kernel_rfl) ?_
 simp only [List.take_succ_cons,List.take_zero,List.drop_succ_cons,List.drop_zero]
 repeat (go_big_quiet_step (first|with_reducible exact c1 _ _|with_reducible exact c2 _ _))
 refine wpQuiet_nil ?_
 intro _ hw'
 obtain ⟨⟨dq,osq⟩,hw''⟩:=hw'
 subst hw''
 have H2:=zHd (HI.out.below (below_regrown w dq osq))
 generalize Go.Sort.grow (redrawn w dq) osq=W2 at *
 clear HI r0 rb c1 c2
 have q_k_cpu:=H2.out.k_cpu
 have q_c_ra:=H2.out.c_ra
 have f_ra:=H2.out.fro 0
 have H3:=H2.out.s_ra q
 have HF:Hid (In g (W2.setCell ⟨g.B,0,none⟩ (.int .i64 q)) { m with ra:=q } full):=H3
 clear H3 H2
 go_wp2
 go_end0
 exact ⟨rfl,HF.out⟩
theorem stA_highC (g:G) (m:M) (full:Bool) (v:Int) (hF:Stays g m full 169 v) (bx:Nat) (w:World) (h:In g w m full) (hg:Stpq.Good m) (hb:w.cell? ⟨bx,0,none⟩=some (.func (.func 169) #[] #[])) :
  Calls prog 221 #[.pointer (some ⟨g.K,0,none⟩),.pointer (some ⟨bx,0,none⟩)] w fun e w'=>e=.returned (.tuple #[])/\In g w' (wr ⟨m,full⟩ v m.ra).m (wr ⟨m,full⟩ v m.ra).full:=by
 have lb:=World.block_lt_of_cell? w _ hb
 have c1:Rg 169 #[.pointer (some ⟨g.K,0,none⟩)] w (.int .i64 v):=rg fun W hb=>hF W (h.below hb)
 have c2:Hid (∀ W,In g W m full->Calls prog 219 #[.pointer (some ⟨g.K,0,none⟩),.int .i64 v,.int .i64 m.ra] W fun e w'=>e=.returned (.tuple #[])/\In g w' (wr ⟨m,full⟩ v m.ra).m (wr ⟨m,full⟩ v m.ra).full):=fun W hi=>write_any g m full _ _ W hi hg.rt hg.a.1 hg.a.2
 generalize wr ⟨m,full⟩ v m.ra=t at *
 have r0:=cell_regrown (h.k_cpu)
 have r1:=cell_regrown (h.c_ra)
 have rb:=cell_regrown hb
 have HI:Hid (In g w m full):=h
 clear h hg hF hb
 go_enter func221,ntmps221
 go_wp2_with fail
 refine Qtail.tail_below 11 (by kernel_rfl) (by kernel_rfl) ?_
 simp only [List.take_succ_cons,List.take_zero,List.drop_succ_cons,List.drop_zero]
 repeat (go_big_quiet_step (first|with_reducible exact c1 _ _))
 refine wpQuiet_nil ?_
 intro _ hw'
 obtain ⟨⟨dq,osq⟩,hw''⟩:=hw'
 subst hw''
 have H2:=zHd (HI.out.below (below_regrown w dq osq))
 generalize Go.Sort.grow (redrawn w dq) osq=W2 at *
 clear HI r0 r1 rb c1
 go_wp2_with fail
 refine Calls.mono (c2.out _ H2.out) ?_
 rintro e w1 ⟨rfl,hi1⟩
 have H3:Hid (In g w1 t.m t.full):=hi1
 clear hi1 H2 c2
 go_wp2
 go_end0
 exact ⟨rfl,H3.out⟩
theorem ldA_highC (g:G) (m:M) (full:Bool) (v:Int) (hF:Stays g m full 169 v) (v0:0<=v) (v1:v<=65535) (bx:Nat) (w:World) (h:In g w m full) (hg:Stpq.Good m) (hb:w.cell? ⟨bx,0,none⟩=some (.func (.func 169) #[] #[])) :
  Calls prog 222 #[.pointer (some ⟨g.K,0,none⟩),.pointer (some ⟨bx,0,none⟩)] w fun e w'=>e=.returned (.tuple #[])/\In g w' (⟨{ m with ra:=rd m v },full⟩ : S).m (⟨{ m with ra:=rd m v },full⟩ : S).full:=by
 have lb:=World.block_lt_of_cell? w _ hb
 have c1:Rg 169 #[.pointer (some ⟨g.K,0,none⟩)] w (.int .i64 v):=rg fun W hb=>hF W (h.below hb)
 have c2:Rg 220 #[.pointer (some ⟨g.K,0,none⟩),.int .i64 v] w (.int .i64 (rd m v)):=rg fun W hb=>by
  have h:=read_any g m full v W (h.below hb) hg.rt
  rw [show v%65536=v by omega] at h
  exact h
 generalize rd m v=q at *
 have r0:=cell_regrown (h.k_cpu)
 have rb:=cell_regrown hb
 have HI:Hid (In g w m full):=h
 clear h hg hF hb
 go_enter func222,ntmps222
 go_wp2_with fail
 refine Qtail.tail_below 11 (by kernel_rfl) (by kernel_rfl) ?_
 simp only [List.take_succ_cons,List.take_zero,List.drop_succ_cons,List.drop_zero]
 repeat (go_big_quiet_step (first|with_reducible exact c1 _ _|with_reducible exact c2 _ _))
 refine wpQuiet_nil ?_
 intro _ hw'
 obtain ⟨⟨dq,osq⟩,hw''⟩:=hw'
 subst hw''
 have H2:=zHd (HI.out.below (below_regrown w dq osq))
 generalize Go.Sort.grow (redrawn w dq) osq=W2 at *
 clear HI r0 rb c1 c2
 have q_k_cpu:=H2.out.k_cpu
 have q_c_ra:=H2.out.c_ra
 have f_ra:=H2.out.fro 0
 have H3:=H2.out.s_ra q
 have HF:Hid (In g (W2.setCell ⟨g.B,0,none⟩ (.int .i64 q)) { m with ra:=q } full):=H3
 clear H3 H2
 go_wp2
 go_end0
 exact ⟨rfl,HF.out⟩
theorem mvPush (g:G) (m:M) (full:Bool)  (w:World) (h:In g w m full) (hg:Stpq.Good m) (hp:Pt g) :
  Calls prog 171 #[.pointer (some ⟨g.K,0,none⟩)] w fun e w'=>e=.returned (.tuple #[])/\In g w' (push ⟨m,full⟩ (prQ m g.p)).m (push ⟨m,full⟩ (prQ m g.p)).full:=by
 have c1:Hid (∀ W,In g W m full->Calls prog 173 #[.pointer (some ⟨g.K,0,none⟩),.int .i64 g.p] W fun e w'=>e=.returned (qv g g.p)/\Below W.heap.size W w'):=fun W hi=>stack_any g m full g.p W hi hp.p.1 hp.p.2
 have c2:Hid (∀ W,In g W m full->Calls prog 162 #[qv g g.p] W fun e w'=>e=.returned (.int .i64 (prQ m g.p))/\Below W.heap.size W w'):=fun W hi=>wordQ_any g m full g.p W hi hg hp.p.1 hp.p.2
 have bd:=prQ_bd hg g.p
 have c3:Hid (∀ W,In g W m full->Calls prog 172 #[.pointer (some ⟨g.K,0,none⟩),.int .i64 (prQ m g.p)] W fun e w'=>e=.returned (.tuple #[])/\In g w' (push ⟨m,full⟩ (prQ m g.p)).m (push ⟨m,full⟩ (prQ m g.p)).full):=fun W hi=>push_any g m full _ W hi hg bd.1 bd.2
 generalize push ⟨m,full⟩ (prQ m g.p)=t at *
 generalize prQ m g.p=v at *
 generalize qv g g.p=pq at *
 have q_p:=h.k_p
 have HI:Hid (In g w m full):=h
 clear h hg hp bd
 go_enter func171,ntmps171
 go_wp2_with fail
 refine Calls.mono (c1.out _ HI.out) ?_
 rintro e w1 ⟨rfl,hb1⟩
 have H1:=zHd (HI.out.below hb1)
 clear hb1 HI c1
 go_wp2_with fail
 refine Calls.mono (c2.out _ H1.out) ?_
 rintro e w2 ⟨rfl,hb1⟩
 have H2:=zHd (H1.out.below hb1)
 clear hb1 H1 c2
 go_wp2_with fail
 refine Calls.mono (c3.out _ H2.out) ?_
 rintro e w3 ⟨rfl,hi1⟩
 have H3:Hid (In g w3 t.m t.full):=hi1
 clear hi1 H2 c3
 go_wp2
 go_end0
 exact ⟨rfl,H3.out⟩
theorem mvPop (g:G) (m:M) (full:Bool)  (w:World) (h:In g w m full) (hg:Stpq.Good m) (hp:Pt g) :
  Calls prog 174 #[.pointer (some ⟨g.K,0,none⟩)] w fun e w'=>e=.returned (.tuple #[])/\In g w' (⟨{ setQ0 (popM m) g.p (popV m%65536) with rf:=bits .and .i64 (setQ0 (popM m) g.p (popV m%65536)).rf 240 },full⟩ : S).m (⟨{ setQ0 (popM m) g.p (popV m%65536) with rf:=bits .and .i64 (setQ0 (popM m) g.p (popV m%65536)).rf 240 },full⟩ : S).full:=by
 have c1:Hid (∀ W,In g W m full->Calls prog 173 #[.pointer (some ⟨g.K,0,none⟩),.int .i64 g.p] W fun e w'=>e=.returned (qv g g.p)/\Below W.heap.size W w'):=fun W hi=>stack_any g m full g.p W hi hp.p.1 hp.p.2
 have c2:Hid (∀ W,In g W m full->Calls prog 203 #[.pointer (some ⟨g.K,0,none⟩)] W fun e w'=>e=.returned (.int .i64 (popV m))/\In g w' (popM m) full):=fun W hi=>pop_any g m full W hi hg
 have c3:Hid (∀ W,In g W (popM m) full->Calls prog 159 #[qv g g.p,.int .i64 (popV m)] W fun e w'=>e=.returned (.tuple #[])/\In g w' (setQ0 (popM m) g.p (popV m%65536)) full):=fun W hi=>pputQ_any g (popM m) full g.p (popV m) W hi hp.p.1 hp.p.2
 generalize setQ0 (popM m) g.p (popV m%65536)=t at *
 generalize popM m=m1 at *
 generalize popV m=v at *
 generalize qv g g.p=pq at *
 obtain ⟨fv,hfv⟩ : ∃ f,bits .and .i64 t.rf 240=f:=⟨_,rfl⟩
 rw [hfv]
 have q_p:=h.k_p
 have HI:Hid (In g w m full):=h
 clear h hg hp
 go_enter func174,ntmps174
 go_wp2_with fail
 refine Calls.mono (c1.out _ HI.out) ?_
 rintro e w1 ⟨rfl,hb1⟩
 have H1:=zHd (HI.out.below hb1)
 clear hb1 HI c1
 go_wp2_with fail
 refine Calls.mono (c2.out _ H1.out) ?_
 rintro e w2 ⟨rfl,hi1⟩
 have H2:Hid (In g w2 m1 full):=hi1
 clear hi1 H1 c2
 go_wp2_with fail
 refine Calls.mono (c3.out _ H2.out) ?_
 rintro e w3 ⟨rfl,hi1⟩
 have H3':Hid (In g w3 t full):=hi1
 clear hi1 H2 c3
 have q_k_cpu:=H3'.out.k_cpu
 have q_c_rf:=H3'.out.c_rf
 have f_rf:=H3'.out.fro 1
 have H3:=H3'.out.s_rf fv
 have HF:Hid (In g (w3.setCell ⟨g.B,1,none⟩ (.int .i64 fv)) { t with rf:=fv } full):=H3
 clear H3 H3'
 go_wp2
 go_end0
 exact ⟨rfl,HF.out⟩
end Go.Proofs.YtnjolmbdbgbmbaaGreatDoor.Stpu
namespace Go.Proofs.YtnjolmbdbgbmbaaGreatDoor.AluI
open Signed (inB ret_int ret_bool isByte_any l1In_any)
open Reck
theorem implAlu_0 (a b f:Int) (w:World) (a0:0<=a) (a1:a<=255) (b0:0<=b) (b1:b<=255) (f0:0<=f) (f1:f<=255) :
  Calls prog 223 #[.int .i64 0,.int .i64 a,.int .i64 b,.int .i64 f] w fun e w'=>e=.returned (.tuple #[.int .i64 (aluR 0 a b f).1,.int .i64 (aluR 0 a b f).2])/\Below w.heap.size w w':=by
 have ha:inB a 0 255=true:=decide_eq_true (by omega)
 have hb:inB b 0 255=true:=decide_eq_true (by omega)
 have hf:inB f 0 255=true:=decide_eq_true (by omega)
 obtain ⟨c0,c1⟩:=cy_bd f
 have hi:∀ w:World,(Instr.index 197 (.agg #[.func (.func 249) #[] #[],.func (.func 250) #[] #[],.func (.func 251) #[] #[],.func (.func 252) #[] #[],.func (.func 253) #[] #[],.func (.func 254) #[] #[],.func (.func 255) #[] #[],.func (.func 251) #[] #[]]) (.int .i64 0)).run prog w=.ok (.func (.func 249) #[] #[]) w:=fun _=>by kernel_rfl
 go_enter func223,ntmps223
 go_wp2_with (go_at_call 107;refine (isByte_any _ _).mono ?_;rintro e w' ⟨rfl,rfl⟩)
 go_region_with (first|(go_at_call 239;refine (aluOps_any _).mono ?_;rintro e w1 ⟨rfl,hbe⟩)|(go_at_call 240;refine (carryOf_any _ _ f0 f1).mono ?_;rintro e w2 ⟨rfl,rfl⟩)|(go_at_call 249;refine (addAlone_any _ _ _ _ a0 a1 b0 b1).mono ?_;rintro e w2 ⟨rfl,rfl⟩))
 all_goals go_wp2_with (go_at_call 226;refine (flagIf_any _ _ _).mono ?_;rintro e w3 ⟨rfl,rfl⟩)
 all_goals go_ret2
 all_goals exact ⟨ret_two rfl (zd_fl _ _ _ _ _ (beq_dec _)),below_of_drew hbe⟩
theorem implAlu_1 (a b f:Int) (w:World) (a0:0<=a) (a1:a<=255) (b0:0<=b) (b1:b<=255) (f0:0<=f) (f1:f<=255) :
  Calls prog 223 #[.int .i64 1,.int .i64 a,.int .i64 b,.int .i64 f] w fun e w'=>e=.returned (.tuple #[.int .i64 (aluR 1 a b f).1,.int .i64 (aluR 1 a b f).2])/\Below w.heap.size w w':=by
 have ha:inB a 0 255=true:=decide_eq_true (by omega)
 have hb:inB b 0 255=true:=decide_eq_true (by omega)
 have hf:inB f 0 255=true:=decide_eq_true (by omega)
 obtain ⟨c0,c1⟩:=cy_bd f
 have hi:∀ w:World,(Instr.index 197 (.agg #[.func (.func 249) #[] #[],.func (.func 250) #[] #[],.func (.func 251) #[] #[],.func (.func 252) #[] #[],.func (.func 253) #[] #[],.func (.func 254) #[] #[],.func (.func 255) #[] #[],.func (.func 251) #[] #[]]) (.int .i64 1)).run prog w=.ok (.func (.func 250) #[] #[]) w:=fun _=>by kernel_rfl
 go_enter func223,ntmps223
 go_wp2_with (go_at_call 107;refine (isByte_any _ _).mono ?_;rintro e w' ⟨rfl,rfl⟩)
 go_region_with (first|(go_at_call 239;refine (aluOps_any _).mono ?_;rintro e w1 ⟨rfl,hbe⟩)|(go_at_call 240;refine (carryOf_any _ _ f0 f1).mono ?_;rintro e w2 ⟨rfl,rfl⟩)|(go_at_call 250;refine (addCarried_any _ _ _ _ a0 a1 b0 b1 c0 c1).mono ?_;rintro e w2 ⟨rfl,rfl⟩))
 all_goals go_wp2_with (go_at_call 226;refine (flagIf_any _ _ _).mono ?_;rintro e w3 ⟨rfl,rfl⟩)
 all_goals go_ret2
 all_goals exact ⟨ret_two rfl (zd_fl _ _ _ _ _ (beq_dec _)),below_of_drew hbe⟩
theorem implAlu_2 (a b f:Int) (w:World) (a0:0<=a) (a1:a<=255) (b0:0<=b) (b1:b<=255) (f0:0<=f) (f1:f<=255) :
  Calls prog 223 #[.int .i64 2,.int .i64 a,.int .i64 b,.int .i64 f] w fun e w'=>e=.returned (.tuple #[.int .i64 (aluR 2 a b f).1,.int .i64 (aluR 2 a b f).2])/\Below w.heap.size w w':=by
 have ha:inB a 0 255=true:=decide_eq_true (by omega)
 have hb:inB b 0 255=true:=decide_eq_true (by omega)
 have hf:inB f 0 255=true:=decide_eq_true (by omega)
 obtain ⟨c0,c1⟩:=cy_bd f
 have hi:∀ w:World,(Instr.index 197 (.agg #[.func (.func 249) #[] #[],.func (.func 250) #[] #[],.func (.func 251) #[] #[],.func (.func 252) #[] #[],.func (.func 253) #[] #[],.func (.func 254) #[] #[],.func (.func 255) #[] #[],.func (.func 251) #[] #[]]) (.int .i64 2)).run prog w=.ok (.func (.func 251) #[] #[]) w:=fun _=>by kernel_rfl
 go_enter func223,ntmps223
 go_wp2_with (go_at_call 107;refine (isByte_any _ _).mono ?_;rintro e w' ⟨rfl,rfl⟩)
 go_region_with (first|(go_at_call 239;refine (aluOps_any _).mono ?_;rintro e w1 ⟨rfl,hbe⟩)|(go_at_call 240;refine (carryOf_any _ _ f0 f1).mono ?_;rintro e w2 ⟨rfl,rfl⟩)|(go_at_call 251;refine (subAlone_any _ _ _ _ a0 a1 b0 b1).mono ?_;rintro e w2 ⟨rfl,rfl⟩))
 all_goals go_wp2_with (go_at_call 226;refine (flagIf_any _ _ _).mono ?_;rintro e w3 ⟨rfl,rfl⟩)
 all_goals go_ret2
 all_goals exact ⟨ret_two rfl (zd_fl _ _ _ _ _ (beq_dec _)),below_of_drew hbe⟩
theorem implAlu_3 (a b f:Int) (w:World) (a0:0<=a) (a1:a<=255) (b0:0<=b) (b1:b<=255) (f0:0<=f) (f1:f<=255) :
  Calls prog 223 #[.int .i64 3,.int .i64 a,.int .i64 b,.int .i64 f] w fun e w'=>e=.returned (.tuple #[.int .i64 (aluR 3 a b f).1,.int .i64 (aluR 3 a b f).2])/\Below w.heap.size w w':=by
 have ha:inB a 0 255=true:=decide_eq_true (by omega)
 have hb:inB b 0 255=true:=decide_eq_true (by omega)
 have hf:inB f 0 255=true:=decide_eq_true (by omega)
 obtain ⟨c0,c1⟩:=cy_bd f
 have hi:∀ w:World,(Instr.index 197 (.agg #[.func (.func 249) #[] #[],.func (.func 250) #[] #[],.func (.func 251) #[] #[],.func (.func 252) #[] #[],.func (.func 253) #[] #[],.func (.func 254) #[] #[],.func (.func 255) #[] #[],.func (.func 251) #[] #[]]) (.int .i64 3)).run prog w=.ok (.func (.func 252) #[] #[]) w:=fun _=>by kernel_rfl
 go_enter func223,ntmps223
 go_wp2_with (go_at_call 107;refine (isByte_any _ _).mono ?_;rintro e w' ⟨rfl,rfl⟩)
 go_region_with (first|(go_at_call 239;refine (aluOps_any _).mono ?_;rintro e w1 ⟨rfl,hbe⟩)|(go_at_call 240;refine (carryOf_any _ _ f0 f1).mono ?_;rintro e w2 ⟨rfl,rfl⟩)|(go_at_call 252;refine (subCarried_any _ _ _ _ a0 a1 b0 b1 c0 c1).mono ?_;rintro e w2 ⟨rfl,rfl⟩))
 all_goals go_wp2_with (go_at_call 226;refine (flagIf_any _ _ _).mono ?_;rintro e w3 ⟨rfl,rfl⟩)
 all_goals go_ret2
 all_goals exact ⟨ret_two rfl (zd_fl _ _ _ _ _ (beq_dec _)),below_of_drew hbe⟩
theorem implAlu_4 (a b f:Int) (w:World) (a0:0<=a) (a1:a<=255) (b0:0<=b) (b1:b<=255) (f0:0<=f) (f1:f<=255) :
  Calls prog 223 #[.int .i64 4,.int .i64 a,.int .i64 b,.int .i64 f] w fun e w'=>e=.returned (.tuple #[.int .i64 (aluR 4 a b f).1,.int .i64 (aluR 4 a b f).2])/\Below w.heap.size w w':=by
 have ha:inB a 0 255=true:=decide_eq_true (by omega)
 have hb:inB b 0 255=true:=decide_eq_true (by omega)
 have hf:inB f 0 255=true:=decide_eq_true (by omega)
 obtain ⟨c0,c1⟩:=cy_bd f
 have hi:∀ w:World,(Instr.index 197 (.agg #[.func (.func 249) #[] #[],.func (.func 250) #[] #[],.func (.func 251) #[] #[],.func (.func 252) #[] #[],.func (.func 253) #[] #[],.func (.func 254) #[] #[],.func (.func 255) #[] #[],.func (.func 251) #[] #[]]) (.int .i64 4)).run prog w=.ok (.func (.func 253) #[] #[]) w:=fun _=>by kernel_rfl
 go_enter func223,ntmps223
 go_wp2_with (go_at_call 107;refine (isByte_any _ _).mono ?_;rintro e w' ⟨rfl,rfl⟩)
 go_region_with (first|(go_at_call 239;refine (aluOps_any _).mono ?_;rintro e w1 ⟨rfl,hbe⟩)|(go_at_call 240;refine (carryOf_any _ _ f0 f1).mono ?_;rintro e w2 ⟨rfl,rfl⟩)|(go_at_call 253;refine (andBits_any _ _ _ _ ).mono ?_;rintro e w2 ⟨rfl,rfl⟩))
 all_goals go_wp2_with (go_at_call 226;refine (flagIf_any _ _ _).mono ?_;rintro e w3 ⟨rfl,rfl⟩)
 all_goals go_ret2
 all_goals exact ⟨ret_two rfl (zd_32 _ _ (beq_dec _)),below_of_drew hbe⟩
theorem implAlu_5 (a b f:Int) (w:World) (a0:0<=a) (a1:a<=255) (b0:0<=b) (b1:b<=255) (f0:0<=f) (f1:f<=255) :
  Calls prog 223 #[.int .i64 5,.int .i64 a,.int .i64 b,.int .i64 f] w fun e w'=>e=.returned (.tuple #[.int .i64 (aluR 5 a b f).1,.int .i64 (aluR 5 a b f).2])/\Below w.heap.size w w':=by
 have ha:inB a 0 255=true:=decide_eq_true (by omega)
 have hb:inB b 0 255=true:=decide_eq_true (by omega)
 have hf:inB f 0 255=true:=decide_eq_true (by omega)
 obtain ⟨c0,c1⟩:=cy_bd f
 have hi:∀ w:World,(Instr.index 197 (.agg #[.func (.func 249) #[] #[],.func (.func 250) #[] #[],.func (.func 251) #[] #[],.func (.func 252) #[] #[],.func (.func 253) #[] #[],.func (.func 254) #[] #[],.func (.func 255) #[] #[],.func (.func 251) #[] #[]]) (.int .i64 5)).run prog w=.ok (.func (.func 254) #[] #[]) w:=fun _=>by kernel_rfl
 go_enter func223,ntmps223
 go_wp2_with (go_at_call 107;refine (isByte_any _ _).mono ?_;rintro e w' ⟨rfl,rfl⟩)
 go_region_with (first|(go_at_call 239;refine (aluOps_any _).mono ?_;rintro e w1 ⟨rfl,hbe⟩)|(go_at_call 240;refine (carryOf_any _ _ f0 f1).mono ?_;rintro e w2 ⟨rfl,rfl⟩)|(go_at_call 254;refine (xorBits_any _ _ _ _ ).mono ?_;rintro e w2 ⟨rfl,rfl⟩))
 all_goals go_wp2_with (go_at_call 226;refine (flagIf_any _ _ _).mono ?_;rintro e w3 ⟨rfl,rfl⟩)
 all_goals go_ret2
 all_goals exact ⟨ret_two rfl (zd_0 _ _ (beq_dec _)),below_of_drew hbe⟩
theorem implAlu_6 (a b f:Int) (w:World) (a0:0<=a) (a1:a<=255) (b0:0<=b) (b1:b<=255) (f0:0<=f) (f1:f<=255) :
  Calls prog 223 #[.int .i64 6,.int .i64 a,.int .i64 b,.int .i64 f] w fun e w'=>e=.returned (.tuple #[.int .i64 (aluR 6 a b f).1,.int .i64 (aluR 6 a b f).2])/\Below w.heap.size w w':=by
 have ha:inB a 0 255=true:=decide_eq_true (by omega)
 have hb:inB b 0 255=true:=decide_eq_true (by omega)
 have hf:inB f 0 255=true:=decide_eq_true (by omega)
 obtain ⟨c0,c1⟩:=cy_bd f
 have hi:∀ w:World,(Instr.index 197 (.agg #[.func (.func 249) #[] #[],.func (.func 250) #[] #[],.func (.func 251) #[] #[],.func (.func 252) #[] #[],.func (.func 253) #[] #[],.func (.func 254) #[] #[],.func (.func 255) #[] #[],.func (.func 251) #[] #[]]) (.int .i64 6)).run prog w=.ok (.func (.func 255) #[] #[]) w:=fun _=>by kernel_rfl
 go_enter func223,ntmps223
 go_wp2_with (go_at_call 107;refine (isByte_any _ _).mono ?_;rintro e w' ⟨rfl,rfl⟩)
 go_region_with (first|(go_at_call 239;refine (aluOps_any _).mono ?_;rintro e w1 ⟨rfl,hbe⟩)|(go_at_call 240;refine (carryOf_any _ _ f0 f1).mono ?_;rintro e w2 ⟨rfl,rfl⟩)|(go_at_call 255;refine (orBits_any _ _ _ _ ).mono ?_;rintro e w2 ⟨rfl,rfl⟩))
 all_goals go_wp2_with (go_at_call 226;refine (flagIf_any _ _ _).mono ?_;rintro e w3 ⟨rfl,rfl⟩)
 all_goals go_ret2
 all_goals exact ⟨ret_two rfl (zd_0 _ _ (beq_dec _)),below_of_drew hbe⟩
theorem implAlu_7 (a b f:Int) (w:World) (a0:0<=a) (a1:a<=255) (b0:0<=b) (b1:b<=255) (f0:0<=f) (f1:f<=255) :
  Calls prog 223 #[.int .i64 7,.int .i64 a,.int .i64 b,.int .i64 f] w fun e w'=>e=.returned (.tuple #[.int .i64 (aluR 7 a b f).1,.int .i64 (aluR 7 a b f).2])/\Below w.heap.size w w':=by
 have ha:inB a 0 255=true:=decide_eq_true (by omega)
 have hb:inB b 0 255=true:=decide_eq_true (by omega)
 have hf:inB f 0 255=true:=decide_eq_true (by omega)
 obtain ⟨c0,c1⟩:=cy_bd f
 have hi:∀ w:World,(Instr.index 197 (.agg #[.func (.func 249) #[] #[],.func (.func 250) #[] #[],.func (.func 251) #[] #[],.func (.func 252) #[] #[],.func (.func 253) #[] #[],.func (.func 254) #[] #[],.func (.func 255) #[] #[],.func (.func 251) #[] #[]]) (.int .i64 7)).run prog w=.ok (.func (.func 251) #[] #[]) w:=fun _=>by kernel_rfl
 go_enter func223,ntmps223
 go_wp2_with (go_at_call 107;refine (isByte_any _ _).mono ?_;rintro e w' ⟨rfl,rfl⟩)
 go_region_with (first|(go_at_call 239;refine (aluOps_any _).mono ?_;rintro e w1 ⟨rfl,hbe⟩)|(go_at_call 240;refine (carryOf_any _ _ f0 f1).mono ?_;rintro e w2 ⟨rfl,rfl⟩)|(go_at_call 251;refine (subAlone_any _ _ _ _ a0 a1 b0 b1).mono ?_;rintro e w2 ⟨rfl,rfl⟩))
 all_goals go_wp2_with (go_at_call 226;refine (flagIf_any _ _ _).mono ?_;rintro e w3 ⟨rfl,rfl⟩)
 all_goals go_ret2
 all_goals exact ⟨ret_two rfl (zd_fl _ _ _ _ _ (beq_dec _)),below_of_drew hbe⟩
theorem implAlu_any (op a b f:Int) (w:World) :
  Calls prog 223 #[.int .i64 op,.int .i64 a,.int .i64 b,.int .i64 f] w fun e w'=>e=.returned (.tuple #[.int .i64 (alu op a b f).1,.int .i64 (alu op a b f).2])/\Below w.heap.size w w':=by
 by_cases h:(inB op 0 7 && inB a 0 255 && inB b 0 255 && inB f 0 255)=true
 ·have e:alu op a b f=aluR op a b f:=by unfold alu;rw [if_pos h]
  rw [e]
  simp only [Bool.and_eq_true,inB,decide_eq_true_eq] at h
  obtain ⟨⟨⟨⟨o0,o1⟩,a0,a1⟩,b0,b1⟩,f0,f1⟩:=h
  have ho:op=0 \/ op=1 \/ op=2 \/ op=3 \/ op=4 \/ op=5 \/ op=6 \/ op=7:=by omega
  rcases ho with rfl|rfl|rfl|rfl|rfl|rfl|rfl|rfl
  ·exact implAlu_0 a b f w a0 a1 b0 b1 f0 f1
  ·exact implAlu_1 a b f w a0 a1 b0 b1 f0 f1
  ·exact implAlu_2 a b f w a0 a1 b0 b1 f0 f1
  ·exact implAlu_3 a b f w a0 a1 b0 b1 f0 f1
  ·exact implAlu_4 a b f w a0 a1 b0 b1 f0 f1
  ·exact implAlu_5 a b f w a0 a1 b0 b1 f0 f1
  ·exact implAlu_6 a b f w a0 a1 b0 b1 f0 f1
  ·exact implAlu_7 a b f w a0 a1 b0 b1 f0 f1
 ·have e:alu op a b f=(0,0):=by unfold alu;rw [if_neg h]
  rw [e]
  have h:(inB op 0 7 && inB a 0 255 && inB b 0 255 && inB f 0 255)=false:=by simpa using h
  by_cases ho:op<0
  ·go_enter func223,ntmps223
   go_wp2
   go_ret2
   exact ⟨rfl,Below.refl _ _⟩
  by_cases ho':7<op
  ·go_enter func223,ntmps223
   go_wp2
   go_ret2
   exact ⟨rfl,Below.refl _ _⟩
  have hop:inB op 0 7=true:=decide_eq_true (by omega)
  have h7:decide (7<op)=false:=decide_eq_false ho'
  rw [hop] at h
  cases ha:inB a 0 255
  ·go_enter func223,ntmps223
   go_wp2_with (go_at_call 107;refine (isByte_any _ _).mono ?_;rintro e w' ⟨rfl,rfl⟩)
   go_ret2
   exact ⟨rfl,Below.refl _ _⟩
  cases hb:inB b 0 255
  ·go_enter func223,ntmps223
   go_wp2_with (go_at_call 107;refine (isByte_any _ _).mono ?_;rintro e w' ⟨rfl,rfl⟩)
   go_ret2
   exact ⟨rfl,Below.refl _ _⟩
  cases hf:inB f 0 255
  ·go_enter func223,ntmps223
   go_wp2_with (go_at_call 107;refine (isByte_any _ _).mono ?_;rintro e w' ⟨rfl,rfl⟩)
   go_ret2
   exact ⟨rfl,Below.refl _ _⟩
  rw [ha,hb,hf] at h
  exact absurd h (by decide)
end Go.Proofs.YtnjolmbdbgbmbaaGreatDoor.AluI
