import Derived.Test.YtnjolmbdbgbmbaaGreatDoorH32
set_option linter.all false
set_option maxRecDepth 20000
set_option maxHeartbeats 8000000
open Go.ChangeShapes Go.WideShapes Go.ChangeAt Go.RowKit
open Go.Proofs.Tryz
namespace Go.Proofs.YtnjolmbdbgbmbaaGreatDoor
namespace Stpw
open Go.Deep
open Signed (inB sgn ret_int ret_bool)
open Busw Busx Stpp Stpq Stpi Stpj Stpr Stpk Stpm Stpn Stpu Stpv Stpz
open Reck ReckS ReckM ReckD TurnS
theorem shl_at {y:Int} (h:0<=y/\y<=7):IntKind.i64.wrap (2 ^ y.toNat)=bitV y:=by
 have hn:y=0 \/ y=1 \/ y=2 \/ y=3 \/ y=4 \/ y=5 \/ y=6 \/ y=7:=by omega
 rcases hn with rfl|rfl|rfl|rfl|rfl|rfl|rfl|rfl
 all_goals decide +kernel
theorem bit_2 (g:G) (m:M) (full:Bool) (hx:g.x=2) (w:World) (h:In g w m full) (hg:Stpq.Good m) (hp:Pt g) :
  Calls prog 189 #[.pointer (some ⟨g.K,0,none⟩)] w fun e w'=>e=.returned (.tuple #[])/\In g w' (put ⟨m,full⟩ g.z (bits .andNot .i64 (Stpp.get m g.z) (bitV g.y))).m (put ⟨m,full⟩ g.z (bits .andNot .i64 (Stpp.get m g.z) (bitV g.y))).full:=by
 have c1:Rg 155 #[.pointer (some ⟨g.K,0,none⟩),.int .i64 g.z] w (.int .i64 (Stpp.get m g.z)):=rg fun W hb=>get_any g m full g.z W (h.below hb) hg hp.z.1 hp.z.2
 have hsh:=shl_at hp.y
 have hy0:=hp.y.1
 have hy1:=hp.y.2
 have bg:=get_bd hg g.z
 have bd:=andNot_bd bg.1 bg.2 g.y
 have c3:Hid (∀ W,In g W m full->Calls prog 154 #[.pointer (some ⟨g.K,0,none⟩),.int .i64 g.z,.int .i64 (bits .andNot .i64 (Stpp.get m g.z) (bitV g.y))] W fun e w'=>e=.returned (.tuple #[])/\In g w' (put ⟨m,full⟩ g.z (bits .andNot .i64 (Stpp.get m g.z) (bitV g.y))).m (put ⟨m,full⟩ g.z (bits .andNot .i64 (Stpp.get m g.z) (bitV g.y))).full):=fun W hi=>put_any g m full _ _ W hi hg hp.z.1 hp.z.2 bd.1 bd.2
 generalize put ⟨m,full⟩ g.z (bits .andNot .i64 (Stpp.get m g.z) (bitV g.y))=t at *
 generalize Stpp.get m g.z=v at *
 generalize bitV g.y=b at *
 have q:∀ W,Below w.heap.size w W->W.cell? ⟨1,2,none⟩=some (.string ⟨#[114,101,115]⟩):=fun W hb=>(h.below hb).tb.bit 2 (by decide)
 have HQ:Hid (∀ W,In g W m full->W.cell? ⟨1,2,none⟩=some (.string ⟨#[114,101,115]⟩)):=fun W hi=>hi.tb.bit 2 (by decide)
 have r0:=cell_regrown (h.k_cpu)
 have r1:=cell_regrown (h.k_y)
 have r2:=cell_regrown (h.k_z)
 have HI:Hid (In g w m full):=h
 clear h hg hp bg q bd
 go_enter func189,ntmps189
 go_wp2_with fail
 refine wp_region_quiet_below (by kernel_rfl) (by kernel_rfl) ?_
 repeat (go_big_quiet_step (first|with_reducible exact c1 _ _))
 refine wpQuiet_nil ?_
 intro _ hw'
 obtain ⟨⟨dq,osq⟩,hw''⟩:=hw'
 subst hw''
 have H2:=zHd (HI.out.below (below_regrown w dq osq))
 generalize Go.Sort.grow (redrawn w dq) osq=W2 at *
 clear HI r0 r1 r2 c1
 have q_x:=H2.out.k_x
 rw [hx] at q_x
 have q_t:=HQ.out _ H2.out
 clear HQ
 have q_z:=H2.out.k_z
 go_wp2_with fail
 refine Calls.mono (c3.out _ H2.out) ?_
 rintro e w1 ⟨rfl,hi1⟩
 have H3:Hid (In g w1 t.m t.full):=hi1
 clear hi1 H2 c3
 go_wp2
 go_end0
 exact ⟨rfl,H3.out⟩
theorem bit_3 (g:G) (m:M) (full:Bool) (hx:g.x=3) (w:World) (h:In g w m full) (hg:Stpq.Good m) (hp:Pt g) :
  Calls prog 189 #[.pointer (some ⟨g.K,0,none⟩)] w fun e w'=>e=.returned (.tuple #[])/\In g w' (put ⟨m,full⟩ g.z (bits .or .i64 (Stpp.get m g.z) (bitV g.y))).m (put ⟨m,full⟩ g.z (bits .or .i64 (Stpp.get m g.z) (bitV g.y))).full:=by
 have c1:Rg 155 #[.pointer (some ⟨g.K,0,none⟩),.int .i64 g.z] w (.int .i64 (Stpp.get m g.z)):=rg fun W hb=>get_any g m full g.z W (h.below hb) hg hp.z.1 hp.z.2
 have hsh:=shl_at hp.y
 have hy0:=hp.y.1
 have hy1:=hp.y.2
 have bg:=get_bd hg g.z
 have bd:=orBit_bd bg.1 bg.2 g.y
 have c3:Hid (∀ W,In g W m full->Calls prog 154 #[.pointer (some ⟨g.K,0,none⟩),.int .i64 g.z,.int .i64 (bits .or .i64 (Stpp.get m g.z) (bitV g.y))] W fun e w'=>e=.returned (.tuple #[])/\In g w' (put ⟨m,full⟩ g.z (bits .or .i64 (Stpp.get m g.z) (bitV g.y))).m (put ⟨m,full⟩ g.z (bits .or .i64 (Stpp.get m g.z) (bitV g.y))).full):=fun W hi=>put_any g m full _ _ W hi hg hp.z.1 hp.z.2 bd.1 bd.2
 generalize put ⟨m,full⟩ g.z (bits .or .i64 (Stpp.get m g.z) (bitV g.y))=t at *
 generalize Stpp.get m g.z=v at *
 generalize bitV g.y=b at *
 have q:∀ W,Below w.heap.size w W->W.cell? ⟨1,3,none⟩=some (.string ⟨#[115,101,116]⟩):=fun W hb=>(h.below hb).tb.bit 3 (by decide)
 have HQ:Hid (∀ W,In g W m full->W.cell? ⟨1,3,none⟩=some (.string ⟨#[115,101,116]⟩)):=fun W hi=>hi.tb.bit 3 (by decide)
 have r0:=cell_regrown (h.k_cpu)
 have r1:=cell_regrown (h.k_y)
 have r2:=cell_regrown (h.k_z)
 have HI:Hid (In g w m full):=h
 clear h hg hp bg q bd
 go_enter func189,ntmps189
 go_wp2_with fail
 refine wp_region_quiet_below (by kernel_rfl) (by kernel_rfl) ?_
 repeat (go_big_quiet_step (first|with_reducible exact c1 _ _))
 refine wpQuiet_nil ?_
 intro _ hw'
 obtain ⟨⟨dq,osq⟩,hw''⟩:=hw'
 subst hw''
 have H2:=zHd (HI.out.below (below_regrown w dq osq))
 generalize Go.Sort.grow (redrawn w dq) osq=W2 at *
 clear HI r0 r1 r2 c1
 have q_x:=H2.out.k_x
 rw [hx] at q_x
 have q_t:=HQ.out _ H2.out
 clear HQ
 have q_z:=H2.out.k_z
 go_wp2_with fail
 refine Calls.mono (c3.out _ H2.out) ?_
 rintro e w1 ⟨rfl,hi1⟩
 have H3:Hid (In g w1 t.m t.full):=hi1
 clear hi1 H2 c3
 go_wp2
 go_end0
 exact ⟨rfl,H3.out⟩
theorem bit_1 (g:G) (m:M) (full:Bool) (hx:g.x=1) (w:World) (h:In g w m full) (hg:Stpq.Good m) (hp:Pt g) :
  Calls prog 189 #[.pointer (some ⟨g.K,0,none⟩)] w fun e w'=>e=.returned (.tuple #[])/\In g w' (⟨{ m with rf:=bits .or .i64 (bits .or .i64 (chz (decide (bits .and .i64 (Stpp.get m g.z) (bitV g.y)=0)) 128 0) 32) (bits .and .i64 m.rf 16) },full⟩ : S).m (⟨{ m with rf:=bits .or .i64 (bits .or .i64 (chz (decide (bits .and .i64 (Stpp.get m g.z) (bitV g.y)=0)) 128 0) 32) (bits .and .i64 m.rf 16) },full⟩ : S).full:=by
 have c1:Rg 155 #[.pointer (some ⟨g.K,0,none⟩),.int .i64 g.z] w (.int .i64 (Stpp.get m g.z)):=rg fun W hb=>get_any g m full g.z W (h.below hb) hg hp.z.1 hp.z.2
 have hsh:=shl_at hp.y
 have hy0:=hp.y.1
 have hy1:=hp.y.2
 have bg:=get_bd hg g.z
 generalize Stpp.get m g.z=v at *
 generalize bitV g.y=b at *
 obtain ⟨vb,hvb⟩ : ∃ x,bits .and .i64 v b=x:=⟨_,rfl⟩
 rw [hvb]
 have hzz:(vb == 0)=decide (vb=0):=by by_cases h:vb=0 <;> simp [h]
 have C2:Hid (∀ W:World,Rg 226 #[.int .i64 128,.bool (decide (vb=0))] W (.int .i64 (chz (decide (vb=0)) 128 0))):=fun W=>rg fun W' hb=>(flagIf_any 128 _ W').mono fun e w' h=>⟨h.1,by rw [h.2];exact zRf⟩
 generalize chz (decide (vb=0)) 128 0=cz at *
 generalize decide (vb=0)=db at *
 obtain ⟨f1,hf1⟩ : ∃ f,bits .or .i64 (bits .or .i64 cz 32) (bits .and .i64 m.rf 16)=f:=⟨_,rfl⟩
 rw [hf1]
 have q:∀ W,Below w.heap.size w W->W.cell? ⟨1,1,none⟩=some (.string ⟨#[98,105,116]⟩):=fun W hb=>(h.below hb).tb.bit 1 (by decide)
 have HQ:Hid (∀ W,In g W m full->W.cell? ⟨1,1,none⟩=some (.string ⟨#[98,105,116]⟩)):=fun W hi=>hi.tb.bit 1 (by decide)
 have r0:=cell_regrown (h.k_cpu)
 have r1:=cell_regrown (h.k_y)
 have r2:=cell_regrown (h.k_z)
 have HI:Hid (In g w m full):=h
 clear h hg hp bg q 
 go_enter func189,ntmps189
 go_wp2_with fail
 refine wp_region_quiet_below (by kernel_rfl) (by kernel_rfl) ?_
 repeat (go_big_quiet_step (first|with_reducible exact c1 _ _))
 refine wpQuiet_nil ?_
 intro _ hw'
 obtain ⟨⟨dq,osq⟩,hw''⟩:=hw'
 subst hw''
 have H2:=zHd (HI.out.below (below_regrown w dq osq))
 generalize Go.Sort.grow (redrawn w dq) osq=W2 at *
 clear HI r0 r1 r2 c1
 have q_x:=H2.out.k_x
 rw [hx] at q_x
 have q_t:=HQ.out _ H2.out
 clear HQ
 have r0:=cell_regrown (H2.out.k_cpu)
 have r1:=cell_regrown (H2.out.c_rf)
 have c2:=C2.out W2
 clear C2
 go_wp2_with fail
 refine Qtail.tail_below 21 (by kernel_rfl) (by kernel_rfl) ?_
 simp only [List.take_succ_cons,List.take_zero,List.drop_succ_cons,List.drop_zero]
 repeat (go_big_quiet_step (first|with_reducible exact c2 _ _))
 refine wpQuiet_nil ?_
 intro _ hw'
 obtain ⟨⟨dq,osq⟩,hw''⟩:=hw'
 subst hw''
 have H3:=zHd (H2.out.below (below_regrown W2 dq osq))
 generalize Go.Sort.grow (redrawn W2 dq) osq=W3 at *
 clear H2 r0 r1 c2
 have q_k_cpu:=H3.out.k_cpu
 have q_c_rf:=H3.out.c_rf
 have f_rf:=H3.out.fro 1
 have H3x:=H3.out.s_rf f1
 have HF:Hid (In g (W3.setCell ⟨g.B,1,none⟩ (.int .i64 f1)) { m with rf:=f1 } full):=H3x
 clear H3x H3
 go_wp2
 go_end0
 exact ⟨rfl,HF.out⟩
theorem jp1 (g:G) (m:M) (full:Bool)  (w:World) (h:In g w m full) (hg:Stpq.Good m) (hp:Pt g) :
  Calls prog 195 #[.pointer (some ⟨g.K,0,none⟩)] w fun e w'=>e=.returned (.tuple #[])/\In g w' (⟨{ m with pc:=(m.pc+sgn g.imm)%65536 },full⟩ : S).m (⟨{ m with pc:=(m.pc+sgn g.imm)%65536 },full⟩ : S).full:=by
 have hpc:=hg.pc
 have hs:=ReckM.sgn_bd g.imm
 have c1:Rg 196 #[.int .i64 g.imm] w (.int .i64 (sgn g.imm)):=rg fun W hb=>(Signed.implSigned_any g.imm W).mono fun e w' h=>⟨h.1,by rw [h.2];exact zRf⟩
 have c2:Rg 94 #[.int .i64 (m.pc+sgn g.imm)] w (.int .i64 ((m.pc+sgn g.imm)%65536)):=rg fun W hb=>(wrapped_any (m.pc+sgn g.imm) W).mono fun e w' h=>⟨h.1,by rw [h.2];exact zRf⟩
 have d1:IntKind.i64.wrap (m.pc+sgn g.imm)=m.pc+sgn g.imm:=by rw [IntKind.wrap_i64];omega
 generalize (m.pc+sgn g.imm)%65536=v at *
 generalize sgn g.imm=sg at *
 clear hpc hs
 have r0:=cell_regrown (h.k_cpu)
 have r1:=cell_regrown (h.k_imm)
 have r2:=cell_regrown (h.c_pc)
 have HI:Hid (In g w m full):=h
 clear h hg hp
 go_enter func195,ntmps195
 go_wp2_with fail
 refine Qtail.tail_below 21 (by kernel_rfl) (by kernel_rfl) ?_
 simp only [List.take_succ_cons,List.take_zero,List.drop_succ_cons,List.drop_zero]
 repeat (go_big_quiet_step (first|with_reducible exact c1 _ _|with_reducible exact c2 _ _))
 refine wpQuiet_nil ?_
 intro _ hw'
 obtain ⟨⟨dq,osq⟩,hw''⟩:=hw'
 subst hw''
 have H2:=zHd (HI.out.below (below_regrown w dq osq))
 generalize Go.Sort.grow (redrawn w dq) osq=W2 at *
 clear HI r0 r1 r2 c1 c2
 have q_k_cpu:=H2.out.k_cpu
 have q_c_pc:=H2.out.c_pc
 have f_pc:=H2.out.fro 9
 have H3:=H2.out.s_pc v
 have HF:Hid (In g (W2.setCell ⟨g.B,9,none⟩ (.int .i64 v)) { m with pc:=v } full):=H3
 clear H3 H2
 go_wp2
 go_end0
 exact ⟨rfl,HF.out⟩
theorem jp2 (g:G) (m:M) (full:Bool)  (w:World) (h:In g w m full) (hg:Stpq.Good m) (hp:Pt g) :
  Calls prog 197 #[.pointer (some ⟨g.K,0,none⟩)] w fun e w'=>e=.returned (.tuple #[])/\In g w' (⟨{ m with pc:=g.imm },full⟩ : S).m (⟨{ m with pc:=g.imm },full⟩ : S).full:=by
 have r0:=cell_regrown (h.k_cpu)
 have r1:=cell_regrown (h.k_imm)
 have HI:Hid (In g w m full):=h
 clear h hg hp
 go_enter func197,ntmps197
 go_wp2_with fail
 refine Qtail.tail_below 11 (by kernel_rfl) (by kernel_rfl) ?_
 simp only [List.take_succ_cons,List.take_zero,List.drop_succ_cons,List.drop_zero]
 repeat (go_big_quiet_step (first|fail))
 refine wpQuiet_nil ?_
 intro _ hw'
 obtain ⟨⟨dq,osq⟩,hw''⟩:=hw'
 subst hw''
 have H2:=zHd (HI.out.below (below_regrown w dq osq))
 generalize Go.Sort.grow (redrawn w dq) osq=W2 at *
 clear HI r0 r1
 have q_k_cpu:=H2.out.k_cpu
 have q_c_pc:=H2.out.c_pc
 have f_pc:=H2.out.fro 9
 have H3:=H2.out.s_pc g.imm
 have HF:Hid (In g (W2.setCell ⟨g.B,9,none⟩ (.int .i64 g.imm)) { m with pc:=g.imm } full):=H3
 clear H3 H2
 go_wp2
 go_end0
 exact ⟨rfl,HF.out⟩
theorem jp3 (g:G) (m:M) (full:Bool)  (w:World) (h:In g w m full) (hg:Stpq.Good m) (hp:Pt g) :
  Calls prog 198 #[.pointer (some ⟨g.K,0,none⟩)] w fun e w'=>e=.returned (.tuple #[])/\In g w' (⟨{ m with pc:=hl m },full⟩ : S).m (⟨{ m with pc:=hl m },full⟩ : S).full:=by
 have c1:Rg 161 #[.pointer (some ⟨g.K,0,none⟩)] w (.agg #[.pointer (some ⟨g.B,6,none⟩),.pointer (some ⟨g.B,7,none⟩)]):=rg fun W hb=>hl_any g W ((h.below hb).k_cpu)
 have c2:Rg 162 #[.agg #[.pointer (some ⟨g.B,6,none⟩),.pointer (some ⟨g.B,7,none⟩)]] w (.int .i64 (hl m)):=rg fun W hb=>at_hl g m full W (h.below hb) hg
 generalize hl m=v at *
 have r0:=cell_regrown (h.k_cpu)
 have HI:Hid (In g w m full):=h
 clear h hg hp
 go_enter func198,ntmps198
 go_wp2_with fail
 refine Qtail.tail_below 9 (by kernel_rfl) (by kernel_rfl) ?_
 simp only [List.take_succ_cons,List.take_zero,List.drop_succ_cons,List.drop_zero]
 repeat (go_big_quiet_step (first|with_reducible exact c1 _ _|with_reducible exact c2 _ _))
 refine wpQuiet_nil ?_
 intro _ hw'
 obtain ⟨⟨dq,osq⟩,hw''⟩:=hw'
 subst hw''
 have H2:=zHd (HI.out.below (below_regrown w dq osq))
 generalize Go.Sort.grow (redrawn w dq) osq=W2 at *
 clear HI r0 c1 c2
 have q_k_cpu:=H2.out.k_cpu
 have q_c_pc:=H2.out.c_pc
 have f_pc:=H2.out.fro 9
 have H3:=H2.out.s_pc v
 have HF:Hid (In g (W2.setCell ⟨g.B,9,none⟩ (.int .i64 v)) { m with pc:=v } full):=H3
 clear H3 H2
 go_wp2
 go_end0
 exact ⟨rfl,HF.out⟩
theorem jcall (g:G) (m:M) (full:Bool) (v:Int) (w:World) (h:In g w m full) (hg:Stpq.Good m) (hp:Pt g) :
  Calls prog 200 #[.pointer (some ⟨g.K,0,none⟩),.int .i64 v] w fun e w'=>e=.returned (.tuple #[])/\In g w' (callE v ⟨m,full⟩).m (callE v ⟨m,full⟩).full:=by
 have c1:Hid (∀ W,In g W m full->Calls prog 172 #[.pointer (some ⟨g.K,0,none⟩),.int .i64 m.pc] W fun e w'=>e=.returned (.tuple #[])/\In g w' (push ⟨m,full⟩ m.pc).m (push ⟨m,full⟩ m.pc).full):=fun W hi=>push_any g m full _ W hi hg hg.pc.1 hg.pc.2
 unfold callE
 simp only []
 generalize push ⟨m,full⟩ m.pc=t at *
 have q0:=h.k_cpu
 have q1:=h.c_pc
 have HI:Hid (In g w m full):=h
 clear h hg hp
 go_enter func200,ntmps200
 go_wp2_with fail
 refine Calls.mono (c1.out _ HI.out) ?_
 rintro e w1 ⟨rfl,hi1⟩
 have H1:Hid (In g w1 t.m t.full):=hi1
 clear hi1 HI c1
 have q_k_cpu:=H1.out.k_cpu
 have q_c_pc:=H1.out.c_pc
 have f_pc:=H1.out.fro 9
 have H3:=H1.out.s_pc v
 have HF:Hid (In g (w1.setCell ⟨g.B,9,none⟩ (.int .i64 v)) { t.m with pc:=v } t.full):=H3
 clear H3 H1
 go_wp2
 go_end0
 exact ⟨rfl,HF.out⟩
theorem jp4 (g:G) (m:M) (full:Bool)  (w:World) (h:In g w m full) (hg:Stpq.Good m) (hp:Pt g) :
  Calls prog 199 #[.pointer (some ⟨g.K,0,none⟩)] w fun e w'=>e=.returned (.tuple #[])/\In g w' (callE g.imm ⟨m,full⟩).m (callE g.imm ⟨m,full⟩).full:=by
 have c2:Hid (∀ W,In g W m full->Calls prog 200 #[.pointer (some ⟨g.K,0,none⟩),.int .i64 g.imm] W fun e w'=>e=.returned (.tuple #[])/\In g w' (callE g.imm ⟨m,full⟩).m (callE g.imm ⟨m,full⟩).full):=fun W hi=>jcall g m full g.imm W hi hg hp
 generalize callE g.imm ⟨m,full⟩=t at *
 have q_i:=h.k_imm
 have HI:Hid (In g w m full):=h
 clear h hg hp
 go_enter func199,ntmps199
 go_wp2_with fail
 refine Calls.mono (c2.out _ HI.out) ?_
 rintro e w2 ⟨rfl,hi1⟩
 have H3:Hid (In g w2 t.m t.full):=hi1
 clear hi1 HI c2
 go_wp2
 go_end0
 exact ⟨rfl,H3.out⟩
theorem jp5 (g:G) (m:M) (full:Bool)  (w:World) (h:In g w m full) (hg:Stpq.Good m) (hp:Pt g) :
  Calls prog 201 #[.pointer (some ⟨g.K,0,none⟩)] w fun e w'=>e=.returned (.tuple #[])/\In g w' (callE (8*g.y) ⟨m,full⟩).m (callE (8*g.y) ⟨m,full⟩).full:=by
 have hy:=hp.y
 have d1:IntKind.i64.wrap (8*g.y)=8*g.y:=by rw [IntKind.wrap_i64];omega
 have c2:Hid (∀ W,In g W m full->Calls prog 200 #[.pointer (some ⟨g.K,0,none⟩),.int .i64 (8*g.y)] W fun e w'=>e=.returned (.tuple #[])/\In g w' (callE (8*g.y) ⟨m,full⟩).m (callE (8*g.y) ⟨m,full⟩).full):=fun W hi=>jcall g m full (8*g.y) W hi hg hp
 generalize callE (8*g.y) ⟨m,full⟩=t at *
 have q_i:=h.k_y
 have HI:Hid (In g w m full):=h
 clear h hg hp hy
 go_enter func201,ntmps201
 go_wp2_with fail
 refine Calls.mono (c2.out _ HI.out) ?_
 rintro e w2 ⟨rfl,hi1⟩
 have H3:Hid (In g w2 t.m t.full):=hi1
 clear hi1 HI c2
 go_wp2
 go_end0
 exact ⟨rfl,H3.out⟩
theorem jp6 (g:G) (m:M) (full:Bool)  (w:World) (h:In g w m full) (hg:Stpq.Good m) (hp:Pt g) :
  Calls prog 202 #[.pointer (some ⟨g.K,0,none⟩)] w fun e w'=>e=.returned (.tuple #[])/\In g w' (⟨{ popM m with pc:=popV m },full⟩ : S).m (⟨{ popM m with pc:=popV m },full⟩ : S).full:=by
 have c1:Hid (∀ W,In g W m full->Calls prog 203 #[.pointer (some ⟨g.K,0,none⟩)] W fun e w'=>e=.returned (.int .i64 (popV m))/\In g w' (popM m) full):=fun W hi=>pop_any g m full W hi hg
 generalize popV m=v at *
 generalize popM m=m1 at *
 have q0:=h.k_cpu
 have HI:=zHd (h.below zRf.drew)
 clear h hg hp
 go_enter func202,ntmps202
 go_wp2_with fail
 go_region_with (go_at_call 203;refine Calls.mono (c1.out _ HI.out) ?_;rintro e w1 ⟨rfl,hi1⟩;have k1:=hi1.k_cpu;have k2:=hi1.c_pc;have k3:=hi1.fro 9;have HF:Hid (In g (w1.setCell ⟨g.B,9,none⟩ (.int .i64 v)) { m1 with pc:=v } full):=hi1.s_pc v;clear hi1)
 all_goals go_wp2
 all_goals go_end0
 all_goals exact ⟨rfl,HF.out⟩
theorem jp7 (g:G) (m:M) (full:Bool)  (w:World) (h:In g w m full) (hg:Stpq.Good m) (hp:Pt g) :
  Calls prog 204 #[.pointer (some ⟨g.K,0,none⟩)] w fun e w'=>e=.returned (.tuple #[])/\In g w' (⟨{ popM m with pc:=popV m,ime:=true },full⟩ : S).m (⟨{ popM m with pc:=popV m,ime:=true },full⟩ : S).full:=by
 have c1:Hid (∀ W,In g W m full->Calls prog 203 #[.pointer (some ⟨g.K,0,none⟩)] W fun e w'=>e=.returned (.int .i64 (popV m))/\In g w' (popM m) full):=fun W hi=>pop_any g m full W hi hg
 generalize popV m=v at *
 generalize popM m=m1 at *
 have q0:=h.k_cpu
 have HI:=zHd (h.below zRf.drew)
 clear h hg hp
 go_enter func204,ntmps204
 go_wp2_with fail
 go_region_with (go_at_call 203;refine Calls.mono (c1.out _ HI.out) ?_;rintro e w1 ⟨rfl,hi1⟩;have k1:=hi1.k_cpu;have k2:=hi1.c_pc;have k3:=hi1.fro 9;have k4:=hi1.c_ime;have k5:=hi1.fro 10;have k6:=hi1.ltB;have HF:Hid (In g ((w1.setCell ⟨g.B,9,none⟩ (.int .i64 v)).setCell ⟨g.B,10,none⟩ (.bool true)) { m1 with pc:=v,ime:=true } full):=(hi1.s_pc v).s_ime true;clear hi1)
 all_goals go_wp2
 all_goals go_end0
 all_goals exact ⟨rfl,HF.out⟩
theorem jp8 (g:G) (m:M) (full:Bool)  (w:World) (h:In g w m full) (hg:Stpq.Good m) (hp:Pt g) :
  Calls prog 205 #[.pointer (some ⟨g.K,0,none⟩)] w fun e w'=>e=.returned (.tuple #[])/\In g w' (⟨{ m with ime:=false },full⟩ : S).m (⟨{ m with ime:=false },full⟩ : S).full:=by
 have HI:Hid (In g w m full):=h
 clear h hg hp
 have q_k_cpu:=HI.out.k_cpu
 have q_c_ime:=HI.out.c_ime
 have f_ime:=HI.out.fro 10
 have H3:=HI.out.s_ime false
 have HF:Hid (In g (w.setCell ⟨g.B,10,none⟩ (.bool false)) { m with ime:=false } full):=H3
 clear H3 HI
 go_enter func205,ntmps205
 go_wp2
 go_end0
 exact ⟨rfl,HF.out⟩
theorem jp9 (g:G) (m:M) (full:Bool)  (w:World) (h:In g w m full) (hg:Stpq.Good m) (hp:Pt g) :
  Calls prog 206 #[.pointer (some ⟨g.K,0,none⟩)] w fun e w'=>e=.returned (.tuple #[])/\In g w' (⟨{ m with ime:=true },full⟩ : S).m (⟨{ m with ime:=true },full⟩ : S).full:=by
 have HI:Hid (In g w m full):=h
 clear h hg hp
 have q_k_cpu:=HI.out.k_cpu
 have q_c_ime:=HI.out.c_ime
 have f_ime:=HI.out.fro 10
 have H3:=HI.out.s_ime true
 have HF:Hid (In g (w.setCell ⟨g.B,10,none⟩ (.bool true)) { m with ime:=true } full):=H3
 clear H3 HI
 go_enter func206,ntmps206
 go_wp2
 go_end0
 exact ⟨rfl,HF.out⟩
theorem jp10 (g:G) (m:M) (full:Bool)  (w:World) (h:In g w m full) (hg:Stpq.Good m) (hp:Pt g) :
  Calls prog 207 #[.pointer (some ⟨g.K,0,none⟩)] w fun e w'=>e=.returned (.tuple #[])/\In g w' (⟨{ m with hal:=true },full⟩ : S).m (⟨{ m with hal:=true },full⟩ : S).full:=by
 have HI:Hid (In g w m full):=h
 clear h hg hp
 have q_k_cpu:=HI.out.k_cpu
 have q_c_hal:=HI.out.c_hal
 have f_hal:=HI.out.fro 11
 have H3:=HI.out.s_hal true
 have HF:Hid (In g (w.setCell ⟨g.B,11,none⟩ (.bool true)) { m with hal:=true } full):=H3
 clear H3 HI
 go_enter func207,ntmps207
 go_wp2
 go_end0
 exact ⟨rfl,HF.out⟩
theorem nothing (g:G) (m:M) (full:Bool) (w:World) (h:In g w m full) (hg:Stpq.Good m) (hp:Pt g) :
  Calls prog 142 #[.pointer (some ⟨g.K,0,none⟩)] w fun e w'=>e=.returned (.tuple #[])/\In g w' (⟨m,full⟩ : S).m (⟨m,full⟩ : S).full:=by
 have HI:Hid (In g w m full):=h
 clear h
 go_enter func142,ntmps142
 go_wp2
 go_end0
 exact ⟨rfl,HI.out⟩
end Stpw
namespace Stpb
open Go.Deep
open Busw Busx Stpp Stpq Stpi Stpj Stpr Stpk Stpm Stpn Stpu Stpx Stpy Stpv Stpz Stpw
theorem storeA_any (p:FuncId) (w:World):Calls prog 165 #[.func (.func p) #[] #[]] w fun e w'=>e=.returned (.func (.func 221) #[] #[.pointer (some ⟨w.heap.size,0,none⟩)])/\w'=w.alloc (.cells #[.func (.func p) #[] #[]] 187):=by
 have hmf:∀ (fn:Fn) (first cap:Array Value) (w:World),(Instr.makeFunc fn first cap).run prog w=.ok (.func fn first cap) w:=fun _ _ _ _=>rfl
 go_enter func165,ntmps165
 go_wp2
 go_ret
 exact ⟨rfl,rfl⟩
theorem loadA_any (p:FuncId) (w:World):Calls prog 167 #[.func (.func p) #[] #[]] w fun e w'=>e=.returned (.func (.func 222) #[] #[.pointer (some ⟨w.heap.size,0,none⟩)])/\w'=w.alloc (.cells #[.func (.func p) #[] #[]] 187):=by
 have hmf:∀ (fn:Fn) (first cap:Array Value) (w:World),(Instr.makeFunc fn first cap).run prog w=.ok (.func fn first cap) w:=fun _ _ _ _=>rfl
 go_enter func167,ntmps167
 go_wp2
 go_ret
 exact ⟨rfl,rfl⟩
theorem mv_ld_RS (w:World):Calls prog 139 #[.string ⟨#[108,100,32,82,44,83]⟩] w fun e w'=>e=.returned (.func (.func 153) #[] #[])/\w'=w:=by
 go_enter func139,ntmps139
 go_wp2
 go_ret
 exact ⟨rfl,rfl⟩
theorem mv_ld_Rn8 (w:World):Calls prog 139 #[.string ⟨#[108,100,32,82,44,110,56]⟩] w fun e w'=>e=.returned (.func (.func 156) #[] #[])/\w'=w:=by
 go_enter func139,ntmps139
 go_wp2
 go_ret
 exact ⟨rfl,rfl⟩
theorem mv_ld_Pn16 (w:World):Calls prog 139 #[.string ⟨#[108,100,32,80,44,110,49,54]⟩] w fun e w'=>e=.returned (.func (.func 157) #[] #[])/\w'=w:=by
 go_enter func139,ntmps139
 go_wp2
 go_ret
 exact ⟨rfl,rfl⟩
theorem mv_ld_sphl (w:World):Calls prog 139 #[.string ⟨#[108,100,32,115,112,44,104,108]⟩] w fun e w'=>e=.returned (.func (.func 160) #[] #[])/\w'=w:=by
 go_enter func139,ntmps139
 go_wp2
 go_ret
 exact ⟨rfl,rfl⟩
theorem mv_ld_in16sp (w:World):Calls prog 139 #[.string ⟨#[108,100,32,91,110,49,54,93,44,115,112]⟩] w fun e w'=>e=.returned (.func (.func 163) #[] #[])/\w'=w:=by
 go_enter func139,ntmps139
 go_wp2
 go_ret
 exact ⟨rfl,rfl⟩
theorem mv_ld_hlspe8 (w:World):Calls prog 139 #[.string ⟨#[108,100,32,104,108,44,115,112,43,101,56]⟩] w fun e w'=>e=.returned (.func (.func 164) #[] #[])/\w'=w:=by
 go_enter func139,ntmps139
 go_wp2
 go_ret
 exact ⟨rfl,rfl⟩
theorem mv_ld_Ma (w:World):Calls prog 139 #[.string ⟨#[108,100,32,77,44,97]⟩] w fun e w'=>e=.returned (.func (.func 221) #[] #[.pointer (some ⟨w.heap.size,0,none⟩)])/\w'=w.alloc (.cells #[.func (.func 166) #[] #[]] 187):=by
 go_enter func139,ntmps139
 go_wp2_with (go_at_call 165;refine (storeA_any _ _).mono ?_;rintro e w' ⟨rfl,rfl⟩)
 go_ret
 exact ⟨rfl,rfl⟩
theorem mv_ld_aM (w:World):Calls prog 139 #[.string ⟨#[108,100,32,97,44,77]⟩] w fun e w'=>e=.returned (.func (.func 222) #[] #[.pointer (some ⟨w.heap.size,0,none⟩)])/\w'=w.alloc (.cells #[.func (.func 166) #[] #[]] 187):=by
 go_enter func139,ntmps139
 go_wp2_with (go_at_call 167;refine (loadA_any _ _).mono ?_;rintro e w' ⟨rfl,rfl⟩)
 go_ret
 exact ⟨rfl,rfl⟩
theorem mv_ldh_in8a (w:World):Calls prog 139 #[.string ⟨#[108,100,104,32,91,110,56,93,44,97]⟩] w fun e w'=>e=.returned (.func (.func 221) #[] #[.pointer (some ⟨w.heap.size,0,none⟩)])/\w'=w.alloc (.cells #[.func (.func 168) #[] #[]] 187):=by
 go_enter func139,ntmps139
 go_wp2_with (go_at_call 165;refine (storeA_any _ _).mono ?_;rintro e w' ⟨rfl,rfl⟩)
 go_ret
 exact ⟨rfl,rfl⟩
theorem mv_ldh_ain8 (w:World):Calls prog 139 #[.string ⟨#[108,100,104,32,97,44,91,110,56,93]⟩] w fun e w'=>e=.returned (.func (.func 222) #[] #[.pointer (some ⟨w.heap.size,0,none⟩)])/\w'=w.alloc (.cells #[.func (.func 168) #[] #[]] 187):=by
 go_enter func139,ntmps139
 go_wp2_with (go_at_call 167;refine (loadA_any _ _).mono ?_;rintro e w' ⟨rfl,rfl⟩)
 go_ret
 exact ⟨rfl,rfl⟩
theorem mv_ldh_ica (w:World):Calls prog 139 #[.string ⟨#[108,100,104,32,91,99,93,44,97]⟩] w fun e w'=>e=.returned (.func (.func 221) #[] #[.pointer (some ⟨w.heap.size,0,none⟩)])/\w'=w.alloc (.cells #[.func (.func 169) #[] #[]] 187):=by
 go_enter func139,ntmps139
 go_wp2_with (go_at_call 165;refine (storeA_any _ _).mono ?_;rintro e w' ⟨rfl,rfl⟩)
 go_ret
 exact ⟨rfl,rfl⟩
theorem mv_ldh_aic (w:World):Calls prog 139 #[.string ⟨#[108,100,104,32,97,44,91,99,93]⟩] w fun e w'=>e=.returned (.func (.func 222) #[] #[.pointer (some ⟨w.heap.size,0,none⟩)])/\w'=w.alloc (.cells #[.func (.func 169) #[] #[]] 187):=by
 go_enter func139,ntmps139
 go_wp2_with (go_at_call 167;refine (loadA_any _ _).mono ?_;rintro e w' ⟨rfl,rfl⟩)
 go_ret
 exact ⟨rfl,rfl⟩
theorem mv_ld_in16a (w:World):Calls prog 139 #[.string ⟨#[108,100,32,91,110,49,54,93,44,97]⟩] w fun e w'=>e=.returned (.func (.func 221) #[] #[.pointer (some ⟨w.heap.size,0,none⟩)])/\w'=w.alloc (.cells #[.func (.func 170) #[] #[]] 187):=by
 go_enter func139,ntmps139
 go_wp2_with (go_at_call 165;refine (storeA_any _ _).mono ?_;rintro e w' ⟨rfl,rfl⟩)
 go_ret
 exact ⟨rfl,rfl⟩
theorem mv_ld_ain16 (w:World):Calls prog 139 #[.string ⟨#[108,100,32,97,44,91,110,49,54,93]⟩] w fun e w'=>e=.returned (.func (.func 222) #[] #[.pointer (some ⟨w.heap.size,0,none⟩)])/\w'=w.alloc (.cells #[.func (.func 170) #[] #[]] 187):=by
 go_enter func139,ntmps139
 go_wp2_with (go_at_call 167;refine (loadA_any _ _).mono ?_;rintro e w' ⟨rfl,rfl⟩)
 go_ret
 exact ⟨rfl,rfl⟩
theorem mv_push_Q (w:World):Calls prog 139 #[.string ⟨#[112,117,115,104,32,81]⟩] w fun e w'=>e=.returned (.func (.func 171) #[] #[])/\w'=w:=by
 go_enter func139,ntmps139
 go_wp2
 go_ret
 exact ⟨rfl,rfl⟩
theorem mv_pop_Q (w:World):Calls prog 139 #[.string ⟨#[112,111,112,32,81]⟩] w fun e w'=>e=.returned (.func (.func 174) #[] #[])/\w'=w:=by
 go_enter func139,ntmps139
 go_wp2
 go_ret
 exact ⟨rfl,rfl⟩
theorem mn_A_aS (w:World):Calls prog 139 #[.string ⟨#[65,32,97,44,83]⟩] w fun e w'=>e=.returned (.nilFunc)/\w'=w:=by
 go_enter func139,ntmps139
 go_wp2
 go_ret
 exact ⟨rfl,rfl⟩
theorem mn_A_an8 (w:World):Calls prog 139 #[.string ⟨#[65,32,97,44,110,56]⟩] w fun e w'=>e=.returned (.nilFunc)/\w'=w:=by
 go_enter func139,ntmps139
 go_wp2
 go_ret
 exact ⟨rfl,rfl⟩
theorem mn_inc_R (w:World):Calls prog 139 #[.string ⟨#[105,110,99,32,82]⟩] w fun e w'=>e=.returned (.nilFunc)/\w'=w:=by
 go_enter func139,ntmps139
 go_wp2
 go_ret
 exact ⟨rfl,rfl⟩
theorem mn_dec_R (w:World):Calls prog 139 #[.string ⟨#[100,101,99,32,82]⟩] w fun e w'=>e=.returned (.nilFunc)/\w'=w:=by
 go_enter func139,ntmps139
 go_wp2
 go_ret
 exact ⟨rfl,rfl⟩
theorem mn_inc_P (w:World):Calls prog 139 #[.string ⟨#[105,110,99,32,80]⟩] w fun e w'=>e=.returned (.nilFunc)/\w'=w:=by
 go_enter func139,ntmps139
 go_wp2
 go_ret
 exact ⟨rfl,rfl⟩
theorem mn_dec_P (w:World):Calls prog 139 #[.string ⟨#[100,101,99,32,80]⟩] w fun e w'=>e=.returned (.nilFunc)/\w'=w:=by
 go_enter func139,ntmps139
 go_wp2
 go_ret
 exact ⟨rfl,rfl⟩
theorem mn_add_hlP (w:World):Calls prog 139 #[.string ⟨#[97,100,100,32,104,108,44,80]⟩] w fun e w'=>e=.returned (.nilFunc)/\w'=w:=by
 go_enter func139,ntmps139
 go_wp2
 go_ret
 exact ⟨rfl,rfl⟩
theorem mn_add_spe8 (w:World):Calls prog 139 #[.string ⟨#[97,100,100,32,115,112,44,101,56]⟩] w fun e w'=>e=.returned (.nilFunc)/\w'=w:=by
 go_enter func139,ntmps139
 go_wp2
 go_ret
 exact ⟨rfl,rfl⟩
theorem mn_rlca (w:World):Calls prog 139 #[.string ⟨#[114,108,99,97]⟩] w fun e w'=>e=.returned (.nilFunc)/\w'=w:=by
 go_enter func139,ntmps139
 go_wp2
 go_ret
 exact ⟨rfl,rfl⟩
theorem mn_rrca (w:World):Calls prog 139 #[.string ⟨#[114,114,99,97]⟩] w fun e w'=>e=.returned (.nilFunc)/\w'=w:=by
 go_enter func139,ntmps139
 go_wp2
 go_ret
 exact ⟨rfl,rfl⟩
theorem mn_rla (w:World):Calls prog 139 #[.string ⟨#[114,108,97]⟩] w fun e w'=>e=.returned (.nilFunc)/\w'=w:=by
 go_enter func139,ntmps139
 go_wp2
 go_ret
 exact ⟨rfl,rfl⟩
theorem mn_rra (w:World):Calls prog 139 #[.string ⟨#[114,114,97]⟩] w fun e w'=>e=.returned (.nilFunc)/\w'=w:=by
 go_enter func139,ntmps139
 go_wp2
 go_ret
 exact ⟨rfl,rfl⟩
theorem mn_T_S (w:World):Calls prog 139 #[.string ⟨#[84,32,83]⟩] w fun e w'=>e=.returned (.nilFunc)/\w'=w:=by
 go_enter func139,ntmps139
 go_wp2
 go_ret
 exact ⟨rfl,rfl⟩
theorem mn_B_YS (w:World):Calls prog 139 #[.string ⟨#[66,32,89,44,83]⟩] w fun e w'=>e=.returned (.nilFunc)/\w'=w:=by
 go_enter func139,ntmps139
 go_wp2
 go_ret
 exact ⟨rfl,rfl⟩
theorem mn_daa (w:World):Calls prog 139 #[.string ⟨#[100,97,97]⟩] w fun e w'=>e=.returned (.nilFunc)/\w'=w:=by
 go_enter func139,ntmps139
 go_wp2
 go_ret
 exact ⟨rfl,rfl⟩
theorem mn_cpl (w:World):Calls prog 139 #[.string ⟨#[99,112,108]⟩] w fun e w'=>e=.returned (.nilFunc)/\w'=w:=by
 go_enter func139,ntmps139
 go_wp2
 go_ret
 exact ⟨rfl,rfl⟩
theorem mn_scf (w:World):Calls prog 139 #[.string ⟨#[115,99,102]⟩] w fun e w'=>e=.returned (.nilFunc)/\w'=w:=by
 go_enter func139,ntmps139
 go_wp2
 go_ret
 exact ⟨rfl,rfl⟩
theorem mn_ccf (w:World):Calls prog 139 #[.string ⟨#[99,99,102]⟩] w fun e w'=>e=.returned (.nilFunc)/\w'=w:=by
 go_enter func139,ntmps139
 go_wp2
 go_ret
 exact ⟨rfl,rfl⟩
theorem mn_jr_e8 (w:World):Calls prog 139 #[.string ⟨#[106,114,32,101,56]⟩] w fun e w'=>e=.returned (.nilFunc)/\w'=w:=by
 go_enter func139,ntmps139
 go_wp2
 go_ret
 exact ⟨rfl,rfl⟩
theorem mn_jr_Ce8 (w:World):Calls prog 139 #[.string ⟨#[106,114,32,67,44,101,56]⟩] w fun e w'=>e=.returned (.nilFunc)/\w'=w:=by
 go_enter func139,ntmps139
 go_wp2
 go_ret
 exact ⟨rfl,rfl⟩
theorem mn_jp_n16 (w:World):Calls prog 139 #[.string ⟨#[106,112,32,110,49,54]⟩] w fun e w'=>e=.returned (.nilFunc)/\w'=w:=by
 go_enter func139,ntmps139
 go_wp2
 go_ret
 exact ⟨rfl,rfl⟩
theorem mn_jp_Cn16 (w:World):Calls prog 139 #[.string ⟨#[106,112,32,67,44,110,49,54]⟩] w fun e w'=>e=.returned (.nilFunc)/\w'=w:=by
 go_enter func139,ntmps139
 go_wp2
 go_ret
 exact ⟨rfl,rfl⟩
theorem mn_jp_hl (w:World):Calls prog 139 #[.string ⟨#[106,112,32,104,108]⟩] w fun e w'=>e=.returned (.nilFunc)/\w'=w:=by
 go_enter func139,ntmps139
 go_wp2
 go_ret
 exact ⟨rfl,rfl⟩
theorem mn_call_n16 (w:World):Calls prog 139 #[.string ⟨#[99,97,108,108,32,110,49,54]⟩] w fun e w'=>e=.returned (.nilFunc)/\w'=w:=by
 go_enter func139,ntmps139
 go_wp2
 go_ret
 exact ⟨rfl,rfl⟩
theorem mn_call_Cn16 (w:World):Calls prog 139 #[.string ⟨#[99,97,108,108,32,67,44,110,49,54]⟩] w fun e w'=>e=.returned (.nilFunc)/\w'=w:=by
 go_enter func139,ntmps139
 go_wp2
 go_ret
 exact ⟨rfl,rfl⟩
theorem mn_rst_H (w:World):Calls prog 139 #[.string ⟨#[114,115,116,32,72]⟩] w fun e w'=>e=.returned (.nilFunc)/\w'=w:=by
 go_enter func139,ntmps139
 go_wp2
 go_ret
 exact ⟨rfl,rfl⟩
theorem mn_ret (w:World):Calls prog 139 #[.string ⟨#[114,101,116]⟩] w fun e w'=>e=.returned (.nilFunc)/\w'=w:=by
 go_enter func139,ntmps139
 go_wp2
 go_ret
 exact ⟨rfl,rfl⟩
theorem mn_ret_C (w:World):Calls prog 139 #[.string ⟨#[114,101,116,32,67]⟩] w fun e w'=>e=.returned (.nilFunc)/\w'=w:=by
 go_enter func139,ntmps139
 go_wp2
 go_ret
 exact ⟨rfl,rfl⟩
theorem mn_reti (w:World):Calls prog 139 #[.string ⟨#[114,101,116,105]⟩] w fun e w'=>e=.returned (.nilFunc)/\w'=w:=by
 go_enter func139,ntmps139
 go_wp2
 go_ret
 exact ⟨rfl,rfl⟩
theorem mn_di (w:World):Calls prog 139 #[.string ⟨#[100,105]⟩] w fun e w'=>e=.returned (.nilFunc)/\w'=w:=by
 go_enter func139,ntmps139
 go_wp2
 go_ret
 exact ⟨rfl,rfl⟩
theorem mn_ei (w:World):Calls prog 139 #[.string ⟨#[101,105]⟩] w fun e w'=>e=.returned (.nilFunc)/\w'=w:=by
 go_enter func139,ntmps139
 go_wp2
 go_ret
 exact ⟨rfl,rfl⟩
theorem mn_halt (w:World):Calls prog 139 #[.string ⟨#[104,97,108,116]⟩] w fun e w'=>e=.returned (.nilFunc)/\w'=w:=by
 go_enter func139,ntmps139
 go_wp2
 go_ret
 exact ⟨rfl,rfl⟩
theorem mn_nop (w:World):Calls prog 139 #[.string ⟨#[110,111,112]⟩] w fun e w'=>e=.returned (.nilFunc)/\w'=w:=by
 go_enter func139,ntmps139
 go_wp2
 go_ret
 exact ⟨rfl,rfl⟩
theorem mn_stop_n8 (w:World):Calls prog 139 #[.string ⟨#[115,116,111,112,32,110,56]⟩] w fun e w'=>e=.returned (.nilFunc)/\w'=w:=by
 go_enter func139,ntmps139
 go_wp2
 go_ret
 exact ⟨rfl,rfl⟩
theorem rk_A_aS (w:World):Calls prog 140 #[.string ⟨#[65,32,97,44,83]⟩] w fun e w'=>e=.returned (.func (.func 175) #[] #[])/\w'=w:=by
 go_enter func140,ntmps140
 go_wp2
 go_ret
 exact ⟨rfl,rfl⟩
theorem rk_A_an8 (w:World):Calls prog 140 #[.string ⟨#[65,32,97,44,110,56]⟩] w fun e w'=>e=.returned (.func (.func 177) #[] #[])/\w'=w:=by
 go_enter func140,ntmps140
 go_wp2
 go_ret
 exact ⟨rfl,rfl⟩
theorem rk_inc_R (w:World):Calls prog 140 #[.string ⟨#[105,110,99,32,82]⟩] w fun e w'=>e=.returned (.func (.func 178) #[] #[])/\w'=w:=by
 go_enter func140,ntmps140
 go_wp2
 go_ret
 exact ⟨rfl,rfl⟩
theorem rk_dec_R (w:World):Calls prog 140 #[.string ⟨#[100,101,99,32,82]⟩] w fun e w'=>e=.returned (.func (.func 180) #[] #[])/\w'=w:=by
 go_enter func140,ntmps140
 go_wp2
 go_ret
 exact ⟨rfl,rfl⟩
theorem rk_inc_P (w:World):Calls prog 140 #[.string ⟨#[105,110,99,32,80]⟩] w fun e w'=>e=.returned (.func (.func 181) #[] #[])/\w'=w:=by
 go_enter func140,ntmps140
 go_wp2
 go_ret
 exact ⟨rfl,rfl⟩
theorem rk_dec_P (w:World):Calls prog 140 #[.string ⟨#[100,101,99,32,80]⟩] w fun e w'=>e=.returned (.func (.func 183) #[] #[])/\w'=w:=by
 go_enter func140,ntmps140
 go_wp2
 go_ret
 exact ⟨rfl,rfl⟩
theorem rk_add_hlP (w:World):Calls prog 140 #[.string ⟨#[97,100,100,32,104,108,44,80]⟩] w fun e w'=>e=.returned (.func (.func 184) #[] #[])/\w'=w:=by
 go_enter func140,ntmps140
 go_wp2
 go_ret
 exact ⟨rfl,rfl⟩
theorem rk_add_spe8 (w:World):Calls prog 140 #[.string ⟨#[97,100,100,32,115,112,44,101,56]⟩] w fun e w'=>e=.returned (.func (.func 185) #[] #[])/\w'=w:=by
 go_enter func140,ntmps140
 go_wp2
 go_ret
 exact ⟨rfl,rfl⟩
theorem rk_rlca (w:World):Calls prog 140 #[.string ⟨#[114,108,99,97]⟩] w fun e w'=>e=.returned (.func (.func 187) #[] #[])/\w'=w:=by
 go_enter func140,ntmps140
 go_wp2
 go_ret
 exact ⟨rfl,rfl⟩
theorem rk_rrca (w:World):Calls prog 140 #[.string ⟨#[114,114,99,97]⟩] w fun e w'=>e=.returned (.func (.func 187) #[] #[])/\w'=w:=by
 go_enter func140,ntmps140
 go_wp2
 go_ret
 exact ⟨rfl,rfl⟩
theorem rk_rla (w:World):Calls prog 140 #[.string ⟨#[114,108,97]⟩] w fun e w'=>e=.returned (.func (.func 187) #[] #[])/\w'=w:=by
 go_enter func140,ntmps140
 go_wp2
 go_ret
 exact ⟨rfl,rfl⟩
theorem rk_rra (w:World):Calls prog 140 #[.string ⟨#[114,114,97]⟩] w fun e w'=>e=.returned (.func (.func 187) #[] #[])/\w'=w:=by
 go_enter func140,ntmps140
 go_wp2
 go_ret
 exact ⟨rfl,rfl⟩
theorem rk_T_S (w:World):Calls prog 140 #[.string ⟨#[84,32,83]⟩] w fun e w'=>e=.returned (.func (.func 188) #[] #[])/\w'=w:=by
 go_enter func140,ntmps140
 go_wp2
 go_ret
 exact ⟨rfl,rfl⟩
theorem rk_B_YS (w:World):Calls prog 140 #[.string ⟨#[66,32,89,44,83]⟩] w fun e w'=>e=.returned (.func (.func 189) #[] #[])/\w'=w:=by
 go_enter func140,ntmps140
 go_wp2
 go_ret
 exact ⟨rfl,rfl⟩
theorem rk_daa (w:World):Calls prog 140 #[.string ⟨#[100,97,97]⟩] w fun e w'=>e=.returned (.func (.func 190) #[] #[])/\w'=w:=by
 go_enter func140,ntmps140
 go_wp2
 go_ret
 exact ⟨rfl,rfl⟩
theorem rk_cpl (w:World):Calls prog 140 #[.string ⟨#[99,112,108]⟩] w fun e w'=>e=.returned (.func (.func 192) #[] #[])/\w'=w:=by
 go_enter func140,ntmps140
 go_wp2
 go_ret
 exact ⟨rfl,rfl⟩
theorem rk_scf (w:World):Calls prog 140 #[.string ⟨#[115,99,102]⟩] w fun e w'=>e=.returned (.func (.func 193) #[] #[])/\w'=w:=by
 go_enter func140,ntmps140
 go_wp2
 go_ret
 exact ⟨rfl,rfl⟩
theorem rk_ccf (w:World):Calls prog 140 #[.string ⟨#[99,99,102]⟩] w fun e w'=>e=.returned (.func (.func 194) #[] #[])/\w'=w:=by
 go_enter func140,ntmps140
 go_wp2
 go_ret
 exact ⟨rfl,rfl⟩
theorem rn_jr_e8 (w:World):Calls prog 140 #[.string ⟨#[106,114,32,101,56]⟩] w fun e w'=>e=.returned (.nilFunc)/\w'=w:=by
 go_enter func140,ntmps140
 go_wp2
 go_ret
 exact ⟨rfl,rfl⟩
theorem rn_jr_Ce8 (w:World):Calls prog 140 #[.string ⟨#[106,114,32,67,44,101,56]⟩] w fun e w'=>e=.returned (.nilFunc)/\w'=w:=by
 go_enter func140,ntmps140
 go_wp2
 go_ret
 exact ⟨rfl,rfl⟩
theorem rn_jp_n16 (w:World):Calls prog 140 #[.string ⟨#[106,112,32,110,49,54]⟩] w fun e w'=>e=.returned (.nilFunc)/\w'=w:=by
 go_enter func140,ntmps140
 go_wp2
 go_ret
 exact ⟨rfl,rfl⟩
theorem rn_jp_Cn16 (w:World):Calls prog 140 #[.string ⟨#[106,112,32,67,44,110,49,54]⟩] w fun e w'=>e=.returned (.nilFunc)/\w'=w:=by
 go_enter func140,ntmps140
 go_wp2
 go_ret
 exact ⟨rfl,rfl⟩
theorem rn_jp_hl (w:World):Calls prog 140 #[.string ⟨#[106,112,32,104,108]⟩] w fun e w'=>e=.returned (.nilFunc)/\w'=w:=by
 go_enter func140,ntmps140
 go_wp2
 go_ret
 exact ⟨rfl,rfl⟩
theorem rn_call_n16 (w:World):Calls prog 140 #[.string ⟨#[99,97,108,108,32,110,49,54]⟩] w fun e w'=>e=.returned (.nilFunc)/\w'=w:=by
 go_enter func140,ntmps140
 go_wp2
 go_ret
 exact ⟨rfl,rfl⟩
theorem rn_call_Cn16 (w:World):Calls prog 140 #[.string ⟨#[99,97,108,108,32,67,44,110,49,54]⟩] w fun e w'=>e=.returned (.nilFunc)/\w'=w:=by
 go_enter func140,ntmps140
 go_wp2
 go_ret
 exact ⟨rfl,rfl⟩
theorem rn_rst_H (w:World):Calls prog 140 #[.string ⟨#[114,115,116,32,72]⟩] w fun e w'=>e=.returned (.nilFunc)/\w'=w:=by
 go_enter func140,ntmps140
 go_wp2
 go_ret
 exact ⟨rfl,rfl⟩
theorem rn_ret (w:World):Calls prog 140 #[.string ⟨#[114,101,116]⟩] w fun e w'=>e=.returned (.nilFunc)/\w'=w:=by
 go_enter func140,ntmps140
 go_wp2
 go_ret
 exact ⟨rfl,rfl⟩
theorem rn_ret_C (w:World):Calls prog 140 #[.string ⟨#[114,101,116,32,67]⟩] w fun e w'=>e=.returned (.nilFunc)/\w'=w:=by
 go_enter func140,ntmps140
 go_wp2
 go_ret
 exact ⟨rfl,rfl⟩
theorem rn_reti (w:World):Calls prog 140 #[.string ⟨#[114,101,116,105]⟩] w fun e w'=>e=.returned (.nilFunc)/\w'=w:=by
 go_enter func140,ntmps140
 go_wp2
 go_ret
 exact ⟨rfl,rfl⟩
theorem rn_di (w:World):Calls prog 140 #[.string ⟨#[100,105]⟩] w fun e w'=>e=.returned (.nilFunc)/\w'=w:=by
 go_enter func140,ntmps140
 go_wp2
 go_ret
 exact ⟨rfl,rfl⟩
theorem rn_ei (w:World):Calls prog 140 #[.string ⟨#[101,105]⟩] w fun e w'=>e=.returned (.nilFunc)/\w'=w:=by
 go_enter func140,ntmps140
 go_wp2
 go_ret
 exact ⟨rfl,rfl⟩
theorem rn_halt (w:World):Calls prog 140 #[.string ⟨#[104,97,108,116]⟩] w fun e w'=>e=.returned (.nilFunc)/\w'=w:=by
 go_enter func140,ntmps140
 go_wp2
 go_ret
 exact ⟨rfl,rfl⟩
theorem rn_nop (w:World):Calls prog 140 #[.string ⟨#[110,111,112]⟩] w fun e w'=>e=.returned (.nilFunc)/\w'=w:=by
 go_enter func140,ntmps140
 go_wp2
 go_ret
 exact ⟨rfl,rfl⟩
theorem rn_stop_n8 (w:World):Calls prog 140 #[.string ⟨#[115,116,111,112,32,110,56]⟩] w fun e w'=>e=.returned (.nilFunc)/\w'=w:=by
 go_enter func140,ntmps140
 go_wp2
 go_ret
 exact ⟨rfl,rfl⟩
theorem jp_jr_e8 (w:World):Calls prog 141 #[.string ⟨#[106,114,32,101,56]⟩] w fun e w'=>e=.returned (.func (.func 195) #[] #[])/\w'=w:=by
 go_enter func141,ntmps141
 go_wp2
 go_ret
 exact ⟨rfl,rfl⟩
theorem jp_jr_Ce8 (w:World):Calls prog 141 #[.string ⟨#[106,114,32,67,44,101,56]⟩] w fun e w'=>e=.returned (.func (.func 195) #[] #[])/\w'=w:=by
 go_enter func141,ntmps141
 go_wp2
 go_ret
 exact ⟨rfl,rfl⟩
theorem jp_jp_n16 (w:World):Calls prog 141 #[.string ⟨#[106,112,32,110,49,54]⟩] w fun e w'=>e=.returned (.func (.func 197) #[] #[])/\w'=w:=by
 go_enter func141,ntmps141
 go_wp2
 go_ret
 exact ⟨rfl,rfl⟩
theorem jp_jp_Cn16 (w:World):Calls prog 141 #[.string ⟨#[106,112,32,67,44,110,49,54]⟩] w fun e w'=>e=.returned (.func (.func 197) #[] #[])/\w'=w:=by
 go_enter func141,ntmps141
 go_wp2
 go_ret
 exact ⟨rfl,rfl⟩
theorem jp_jp_hl (w:World):Calls prog 141 #[.string ⟨#[106,112,32,104,108]⟩] w fun e w'=>e=.returned (.func (.func 198) #[] #[])/\w'=w:=by
 go_enter func141,ntmps141
 go_wp2
 go_ret
 exact ⟨rfl,rfl⟩
theorem jp_call_n16 (w:World):Calls prog 141 #[.string ⟨#[99,97,108,108,32,110,49,54]⟩] w fun e w'=>e=.returned (.func (.func 199) #[] #[])/\w'=w:=by
 go_enter func141,ntmps141
 go_wp2
 go_ret
 exact ⟨rfl,rfl⟩
theorem jp_call_Cn16 (w:World):Calls prog 141 #[.string ⟨#[99,97,108,108,32,67,44,110,49,54]⟩] w fun e w'=>e=.returned (.func (.func 199) #[] #[])/\w'=w:=by
 go_enter func141,ntmps141
 go_wp2
 go_ret
 exact ⟨rfl,rfl⟩
theorem jp_rst_H (w:World):Calls prog 141 #[.string ⟨#[114,115,116,32,72]⟩] w fun e w'=>e=.returned (.func (.func 201) #[] #[])/\w'=w:=by
 go_enter func141,ntmps141
 go_wp2
 go_ret
 exact ⟨rfl,rfl⟩
theorem jp_ret (w:World):Calls prog 141 #[.string ⟨#[114,101,116]⟩] w fun e w'=>e=.returned (.func (.func 202) #[] #[])/\w'=w:=by
 go_enter func141,ntmps141
 go_wp2
 go_ret
 exact ⟨rfl,rfl⟩
theorem jp_ret_C (w:World):Calls prog 141 #[.string ⟨#[114,101,116,32,67]⟩] w fun e w'=>e=.returned (.func (.func 202) #[] #[])/\w'=w:=by
 go_enter func141,ntmps141
 go_wp2
 go_ret
 exact ⟨rfl,rfl⟩
theorem jp_reti (w:World):Calls prog 141 #[.string ⟨#[114,101,116,105]⟩] w fun e w'=>e=.returned (.func (.func 204) #[] #[])/\w'=w:=by
 go_enter func141,ntmps141
 go_wp2
 go_ret
 exact ⟨rfl,rfl⟩
theorem jp_di (w:World):Calls prog 141 #[.string ⟨#[100,105]⟩] w fun e w'=>e=.returned (.func (.func 205) #[] #[])/\w'=w:=by
 go_enter func141,ntmps141
 go_wp2
 go_ret
 exact ⟨rfl,rfl⟩
theorem jp_ei (w:World):Calls prog 141 #[.string ⟨#[101,105]⟩] w fun e w'=>e=.returned (.func (.func 206) #[] #[])/\w'=w:=by
 go_enter func141,ntmps141
 go_wp2
 go_ret
 exact ⟨rfl,rfl⟩
theorem jp_halt (w:World):Calls prog 141 #[.string ⟨#[104,97,108,116]⟩] w fun e w'=>e=.returned (.func (.func 207) #[] #[])/\w'=w:=by
 go_enter func141,ntmps141
 go_wp2
 go_ret
 exact ⟨rfl,rfl⟩
theorem jn_nop (w:World):Calls prog 141 #[.string ⟨#[110,111,112]⟩] w fun e w'=>e=.returned (.nilFunc)/\w'=w:=by
 go_enter func141,ntmps141
 go_wp2
 go_ret
 exact ⟨rfl,rfl⟩
theorem jn_stop_n8 (w:World):Calls prog 141 #[.string ⟨#[115,116,111,112,32,110,56]⟩] w fun e w'=>e=.returned (.nilFunc)/\w'=w:=by
 go_enter func141,ntmps141
 go_wp2
 go_ret
 exact ⟨rfl,rfl⟩
end Stpb
namespace Stpd
open Go.Deep
open Busw Busx Stpp Stpq Stpi Stpj Stpr Stpk Stpm Stpn Stpu Stpx Stpy Stpv Stpz Stpw Stpb
theorem fam_0 (w:World):(Instr.index 158 (.agg #[.func (.func 139) #[] #[],.func (.func 140) #[] #[],.func (.func 141) #[] #[]]) (.int .i64 0)).run prog w=.ok (.func (.func 139) #[] #[]) w:=by kernel_rfl
theorem fam_1 (w:World):(Instr.index 158 (.agg #[.func (.func 139) #[] #[],.func (.func 140) #[] #[],.func (.func 141) #[] #[]]) (.int .i64 1)).run prog w=.ok (.func (.func 140) #[] #[]) w:=by kernel_rfl
theorem fam_2 (w:World):(Instr.index 158 (.agg #[.func (.func 139) #[] #[],.func (.func 140) #[] #[],.func (.func 141) #[] #[]]) (.int .i64 2)).run prog w=.ok (.func (.func 141) #[] #[]) w:=by kernel_rfl
theorem neq_nil (w:World):(binOp .neq 122 .nilFunc .nilFunc).run prog w=.ok (.bool false) w:=by kernel_rfl
theorem neq_func (F:FuncId) (cap:Array Value) (w:World):(binOp .neq 122 (.func (.func F) #[] cap) .nilFunc).run prog w=.ok (.bool true) w:=by rfl
theorem act_0 (s:ByteArray) (F:FuncId) (w:World) (h0:∀ W,Calls prog 139 #[.string s] W fun e w'=>e=.returned (.func (.func F) #[] #[])/\w'=W):Calls prog 95 #[.string s] w fun e w'=>e=.returned (.func (.func F) #[] #[])/\w'=w:=by
 have x0:=fam_0
 have x1:=fam_1
 have x2:=fam_2
 have y0:=neq_nil
 have y1:=neq_func
 go_enter func95,ntmps95
 go_wp2_with (go_at_call 139;refine (h0 _).mono ?_;rintro e w' ⟨rfl,hw'⟩;have hw':=hw'.symm;subst hw')
 refine wp_loop_rounds 1 ?_
 rw [rounds_succ]
 go_wp2_with (go_at_call 139;refine (h0 _).mono ?_;rintro e w' ⟨rfl,hw'⟩;have hw':=hw'.symm;subst hw')
 go_ret
 exact ⟨rfl,rfl⟩
theorem act_1 (s:ByteArray) (F:FuncId) (w:World) (h0:∀ W,Calls prog 139 #[.string s] W fun e w'=>e=.returned (.nilFunc)/\w'=W) (h1:∀ W,Calls prog 140 #[.string s] W fun e w'=>e=.returned (.func (.func F) #[] #[])/\w'=W):Calls prog 95 #[.string s] w fun e w'=>e=.returned (.func (.func F) #[] #[])/\w'=w:=by
 have x0:=fam_0
 have x1:=fam_1
 have x2:=fam_2
 have y0:=neq_nil
 have y1:=neq_func
 go_enter func95,ntmps95
 go_wp2_with first|(go_at_call 139;refine (h0 _).mono ?_;rintro e w' ⟨rfl,hw'⟩;have hw':=hw'.symm;subst hw')|(go_at_call 140;refine (h1 _).mono ?_;rintro e w' ⟨rfl,hw'⟩;have hw':=hw'.symm;subst hw')
 refine wp_loop_rounds 2 ?_
 rw [rounds_succ]
 go_wp2_with first|(go_at_call 139;refine (h0 _).mono ?_;rintro e w' ⟨rfl,hw'⟩;have hw':=hw'.symm;subst hw')|(go_at_call 140;refine (h1 _).mono ?_;rintro e w' ⟨rfl,hw'⟩;have hw':=hw'.symm;subst hw')
 rw [rounds_succ]
 go_wp2_with first|(go_at_call 139;refine (h0 _).mono ?_;rintro e w' ⟨rfl,hw'⟩;have hw':=hw'.symm;subst hw')|(go_at_call 140;refine (h1 _).mono ?_;rintro e w' ⟨rfl,hw'⟩;have hw':=hw'.symm;subst hw')
 go_ret
 exact ⟨rfl,rfl⟩
theorem act_2 (s:ByteArray) (F:FuncId) (w:World) (h0:∀ W,Calls prog 139 #[.string s] W fun e w'=>e=.returned (.nilFunc)/\w'=W) (h1:∀ W,Calls prog 140 #[.string s] W fun e w'=>e=.returned (.nilFunc)/\w'=W) (h2:∀ W,Calls prog 141 #[.string s] W fun e w'=>e=.returned (.func (.func F) #[] #[])/\w'=W):Calls prog 95 #[.string s] w fun e w'=>e=.returned (.func (.func F) #[] #[])/\w'=w:=by
 have x0:=fam_0
 have x1:=fam_1
 have x2:=fam_2
 have y0:=neq_nil
 have y1:=neq_func
 go_enter func95,ntmps95
 go_wp2_with first|(go_at_call 139;refine (h0 _).mono ?_;rintro e w' ⟨rfl,hw'⟩;have hw':=hw'.symm;subst hw')|(go_at_call 140;refine (h1 _).mono ?_;rintro e w' ⟨rfl,hw'⟩;have hw':=hw'.symm;subst hw')|(go_at_call 141;refine (h2 _).mono ?_;rintro e w' ⟨rfl,hw'⟩;have hw':=hw'.symm;subst hw')
 refine wp_loop_rounds 3 ?_
 rw [rounds_succ]
 go_wp2_with first|(go_at_call 139;refine (h0 _).mono ?_;rintro e w' ⟨rfl,hw'⟩;have hw':=hw'.symm;subst hw')|(go_at_call 140;refine (h1 _).mono ?_;rintro e w' ⟨rfl,hw'⟩;have hw':=hw'.symm;subst hw')|(go_at_call 141;refine (h2 _).mono ?_;rintro e w' ⟨rfl,hw'⟩;have hw':=hw'.symm;subst hw')
 rw [rounds_succ]
 go_wp2_with first|(go_at_call 139;refine (h0 _).mono ?_;rintro e w' ⟨rfl,hw'⟩;have hw':=hw'.symm;subst hw')|(go_at_call 140;refine (h1 _).mono ?_;rintro e w' ⟨rfl,hw'⟩;have hw':=hw'.symm;subst hw')|(go_at_call 141;refine (h2 _).mono ?_;rintro e w' ⟨rfl,hw'⟩;have hw':=hw'.symm;subst hw')
 rw [rounds_succ]
 go_wp2_with first|(go_at_call 139;refine (h0 _).mono ?_;rintro e w' ⟨rfl,hw'⟩;have hw':=hw'.symm;subst hw')|(go_at_call 140;refine (h1 _).mono ?_;rintro e w' ⟨rfl,hw'⟩;have hw':=hw'.symm;subst hw')|(go_at_call 141;refine (h2 _).mono ?_;rintro e w' ⟨rfl,hw'⟩;have hw':=hw'.symm;subst hw')
 go_ret
 exact ⟨rfl,rfl⟩
theorem act_3 (s:ByteArray) (w:World) (h0:∀ W,Calls prog 139 #[.string s] W fun e w'=>e=.returned (.nilFunc)/\w'=W) (h1:∀ W,Calls prog 140 #[.string s] W fun e w'=>e=.returned (.nilFunc)/\w'=W) (h2:∀ W,Calls prog 141 #[.string s] W fun e w'=>e=.returned (.nilFunc)/\w'=W):Calls prog 95 #[.string s] w fun e w'=>e=.returned (.func (.func 142) #[] #[])/\w'=w:=by
 have x0:=fam_0
 have x1:=fam_1
 have x2:=fam_2
 have y0:=neq_nil
 have y1:=neq_func
 go_enter func95,ntmps95
 go_wp2_with first|(go_at_call 139;refine (h0 _).mono ?_;rintro e w' ⟨rfl,hw'⟩;have hw':=hw'.symm;subst hw')|(go_at_call 140;refine (h1 _).mono ?_;rintro e w' ⟨rfl,hw'⟩;have hw':=hw'.symm;subst hw')|(go_at_call 141;refine (h2 _).mono ?_;rintro e w' ⟨rfl,hw'⟩;have hw':=hw'.symm;subst hw')
 refine wp_loop_rounds 4 ?_
 rw [rounds_succ]
 go_wp2_with first|(go_at_call 139;refine (h0 _).mono ?_;rintro e w' ⟨rfl,hw'⟩;have hw':=hw'.symm;subst hw')|(go_at_call 140;refine (h1 _).mono ?_;rintro e w' ⟨rfl,hw'⟩;have hw':=hw'.symm;subst hw')|(go_at_call 141;refine (h2 _).mono ?_;rintro e w' ⟨rfl,hw'⟩;have hw':=hw'.symm;subst hw')
 rw [rounds_succ]
 go_wp2_with first|(go_at_call 139;refine (h0 _).mono ?_;rintro e w' ⟨rfl,hw'⟩;have hw':=hw'.symm;subst hw')|(go_at_call 140;refine (h1 _).mono ?_;rintro e w' ⟨rfl,hw'⟩;have hw':=hw'.symm;subst hw')|(go_at_call 141;refine (h2 _).mono ?_;rintro e w' ⟨rfl,hw'⟩;have hw':=hw'.symm;subst hw')
 rw [rounds_succ]
 go_wp2_with first|(go_at_call 139;refine (h0 _).mono ?_;rintro e w' ⟨rfl,hw'⟩;have hw':=hw'.symm;subst hw')|(go_at_call 140;refine (h1 _).mono ?_;rintro e w' ⟨rfl,hw'⟩;have hw':=hw'.symm;subst hw')|(go_at_call 141;refine (h2 _).mono ?_;rintro e w' ⟨rfl,hw'⟩;have hw':=hw'.symm;subst hw')
 rw [rounds_succ]
 go_wp2_with first|(go_at_call 139;refine (h0 _).mono ?_;rintro e w' ⟨rfl,hw'⟩;have hw':=hw'.symm;subst hw')|(go_at_call 140;refine (h1 _).mono ?_;rintro e w' ⟨rfl,hw'⟩;have hw':=hw'.symm;subst hw')|(go_at_call 141;refine (h2 _).mono ?_;rintro e w' ⟨rfl,hw'⟩;have hw':=hw'.symm;subst hw')
 go_ret
 exact ⟨rfl,rfl⟩
theorem act_4 (s:ByteArray) (F:FuncId) (v:Value) (w:World) (h0:∀ W,Calls prog 139 #[.string s] W fun e w'=>e=.returned (.func (.func F) #[] #[.pointer (some ⟨W.heap.size,0,none⟩)])/\w'=W.alloc (.cells #[v] 187)):Calls prog 95 #[.string s] w fun e w'=>e=.returned (.func (.func F) #[] #[.pointer (some ⟨w.heap.size,0,none⟩)])/\w'=w.alloc (.cells #[v] 187):=by
 have x0:=fam_0
 have x1:=fam_1
 have x2:=fam_2
 have y0:=neq_nil
 have y1:=neq_func
 go_enter func95,ntmps95
 go_wp2_with (go_at_call 139;refine (h0 _).mono ?_;rintro e w' ⟨rfl,rfl⟩)
 refine wp_loop_rounds 1 ?_
 rw [rounds_succ]
 go_wp2_with (go_at_call 139;refine (h0 _).mono ?_;rintro e w' ⟨rfl,rfl⟩)
 go_ret
 exact ⟨rfl,rfl⟩
end Stpd
end Go.Proofs.YtnjolmbdbgbmbaaGreatDoor
