/-
  Contracts and facts of ours, joined: Stpw, Stpx, Stpy.
-/
import Derived.Test.YtnjolmbdbgbmbaaGreatDoorP14
import Derived.Lib.QuietBelow
import Derived.BigQuiet
import Derived.Test.YtnjolmbdbgbmbaaGreatDoorP12
import Derived.Test.YtnjolmbdbgbmbaaGreatDoorP00
set_option linter.unusedVariables false
set_option linter.unusedSimpArgs false
set_option maxRecDepth 20000
set_option maxHeartbeats 8000000
open Go.ChangeShapes Go.WideShapes Go.ChangeAt Go.RowKit
open Go.Proofs.Tryz
namespace Go.Proofs.YtnjolmbdbgbmbaaGreatDoor.Stpw
open Go.Deep
open Signed (inB sgn ret_int ret_bool)
open Busw Busx Stpp Stpq Stpi Stpj Stpr Stpk Stpm Stpn Stpu Stpv Stpz
open Reck ReckS ReckM ReckD TurnS
theorem shl_at {y:Int} (h:0<=y/\y<=7):IntKind.i64.wrap (2 ^ y.toNat)=bitV y:=by
 have hn:y=0 \/ y=1 \/ y=2 \/ y=3 \/ y=4 \/ y=5 \/ y=6 \/ y=7:=by omega
 rcases hn with rfl|rfl|rfl|rfl|rfl|rfl|rfl|rfl
 all_goals decide +kernel
theorem bit_2 (g:G) (m:M) (full:Bool) (hx:g.x=2) (w:World) (h:In g w m full) (hg:Stpq.Good m) (hp:Pt g) :
  Calls prog 189 #[.pointer (some ⟨g.K,0,none⟩)] w fun e w'=>e=.returned (.tuple #[])/\In g w' (put ⟨m,full⟩ g.z (bits .andNot .i64 (Stpp.get m g.z) (bitV g.y))).m (put ⟨m,full⟩ g.z (bits .andNot .i64 (Stpp.get m g.z) (bitV g.y))).full:=by
 have c1:Rg 155 #[.pointer (some ⟨g.K,0,none⟩),.int .i64 g.z] w (.int .i64 (Stpp.get m g.z)):=rg fun W hb=>get_any g m full g.z W (h.below hb) hg hp.z.1 hp.z.2
 have hsh:=shl_at hp.y
 have hy0:=hp.y.1
 have hy1:=hp.y.2
 have bg:=get_bd hg g.z
 have bd:=andNot_bd bg.1 bg.2 g.y
 have c3:Hid (∀ W,In g W m full->Calls prog 154 #[.pointer (some ⟨g.K,0,none⟩),.int .i64 g.z,.int .i64 (bits .andNot .i64 (Stpp.get m g.z) (bitV g.y))] W fun e w'=>e=.returned (.tuple #[])/\In g w' (put ⟨m,full⟩ g.z (bits .andNot .i64 (Stpp.get m g.z) (bitV g.y))).m (put ⟨m,full⟩ g.z (bits .andNot .i64 (Stpp.get m g.z) (bitV g.y))).full):=fun W hi=>put_any g m full _ _ W hi hg hp.z.1 hp.z.2 bd.1 bd.2
 generalize put ⟨m,full⟩ g.z (bits .andNot .i64 (Stpp.get m g.z) (bitV g.y))=t at *
 generalize Stpp.get m g.z=v at *
 generalize bitV g.y=b at *
 have q:∀ W,Below w.heap.size w W->W.cell? ⟨1,2,none⟩=some (.string ⟨#[114,101,115]⟩):=fun W hb=>(h.below hb).tb.bit 2 (by decide)
 have HQ:Hid (∀ W,In g W m full->W.cell? ⟨1,2,none⟩=some (.string ⟨#[114,101,115]⟩)):=fun W hi=>hi.tb.bit 2 (by decide)
 have r0:=cell_regrown (h.k_cpu)
 have r1:=cell_regrown (h.k_y)
 have r2:=cell_regrown (h.k_z)
 have HI:Hid (In g w m full):=h
 clear h hg hp bg q bd
 go_enter func189,ntmps189
 go_wp2_with fail
 refine wp_region_quiet_below (by kernel_rfl) (by kernel_rfl) ?_
 repeat (go_big_quiet_step (first|with_reducible exact c1 _ _))
 refine wpQuiet_nil ?_
 intro _ hw'
 obtain ⟨⟨dq,osq⟩,hw''⟩:=hw'
 subst hw''
 have H2:=zHd (HI.out.below (below_regrown w dq osq))
 generalize Go.Sort.grow (redrawn w dq) osq=W2 at *
 clear HI r0 r1 r2 c1
 have q_x:=H2.out.k_x
 rw [hx] at q_x
 have q_t:=HQ.out _ H2.out
 clear HQ
 have q_z:=H2.out.k_z
 go_wp2_with fail
 refine Calls.mono (c3.out _ H2.out) ?_
 rintro e w1 ⟨rfl,hi1⟩
 have H3:Hid (In g w1 t.m t.full):=hi1
 clear hi1 H2 c3
 go_wp2
 go_end0
 exact ⟨rfl,H3.out⟩
theorem bit_3 (g:G) (m:M) (full:Bool) (hx:g.x=3) (w:World) (h:In g w m full) (hg:Stpq.Good m) (hp:Pt g) :
  Calls prog 189 #[.pointer (some ⟨g.K,0,none⟩)] w fun e w'=>e=.returned (.tuple #[])/\In g w' (put ⟨m,full⟩ g.z (bits .or .i64 (Stpp.get m g.z) (bitV g.y))).m (put ⟨m,full⟩ g.z (bits .or .i64 (Stpp.get m g.z) (bitV g.y))).full:=by
 have c1:Rg 155 #[.pointer (some ⟨g.K,0,none⟩),.int .i64 g.z] w (.int .i64 (Stpp.get m g.z)):=rg fun W hb=>get_any g m full g.z W (h.below hb) hg hp.z.1 hp.z.2
 have hsh:=shl_at hp.y
 have hy0:=hp.y.1
 have hy1:=hp.y.2
 have bg:=get_bd hg g.z
 have bd:=orBit_bd bg.1 bg.2 g.y
 have c3:Hid (∀ W,In g W m full->Calls prog 154 #[.pointer (some ⟨g.K,0,none⟩),.int .i64 g.z,.int .i64 (bits .or .i64 (Stpp.get m g.z) (bitV g.y))] W fun e w'=>e=.returned (.tuple #[])/\In g w' (put ⟨m,full⟩ g.z (bits .or .i64 (Stpp.get m g.z) (bitV g.y))).m (put ⟨m,full⟩ g.z (bits .or .i64 (Stpp.get m g.z) (bitV g.y))).full):=fun W hi=>put_any g m full _ _ W hi hg hp.z.1 hp.z.2 bd.1 bd.2
 generalize put ⟨m,full⟩ g.z (bits .or .i64 (Stpp.get m g.z) (bitV g.y))=t at *
 generalize Stpp.get m g.z=v at *
 generalize bitV g.y=b at *
 have q:∀ W,Below w.heap.size w W->W.cell? ⟨1,3,none⟩=some (.string ⟨#[115,101,116]⟩):=fun W hb=>(h.below hb).tb.bit 3 (by decide)
 have HQ:Hid (∀ W,In g W m full->W.cell? ⟨1,3,none⟩=some (.string ⟨#[115,101,116]⟩)):=fun W hi=>hi.tb.bit 3 (by decide)
 have r0:=cell_regrown (h.k_cpu)
 have r1:=cell_regrown (h.k_y)
 have r2:=cell_regrown (h.k_z)
 have HI:Hid (In g w m full):=h
 clear h hg hp bg q bd
 go_enter func189,ntmps189
 go_wp2_with fail
 refine wp_region_quiet_below (by kernel_rfl) (by kernel_rfl) ?_
 repeat (go_big_quiet_step (first|with_reducible exact c1 _ _))
 refine wpQuiet_nil ?_
 intro _ hw'
 obtain ⟨⟨dq,osq⟩,hw''⟩:=hw'
 subst hw''
 have H2:=zHd (HI.out.below (below_regrown w dq osq))
 generalize Go.Sort.grow (redrawn w dq) osq=W2 at *
 clear HI r0 r1 r2 c1
 have q_x:=H2.out.k_x
 rw [hx] at q_x
 have q_t:=HQ.out _ H2.out
 clear HQ
 have q_z:=H2.out.k_z
 go_wp2_with fail
 refine Calls.mono (c3.out _ H2.out) ?_
 rintro e w1 ⟨rfl,hi1⟩
 have H3:Hid (In g w1 t.m t.full):=hi1
 clear hi1 H2 c3
 go_wp2
 go_end0
 exact ⟨rfl,H3.out⟩
theorem bit_1 (g:G) (m:M) (full:Bool) (hx:g.x=1) (w:World) (h:In g w m full) (hg:Stpq.Good m) (hp:Pt g) :
  Calls prog 189 #[.pointer (some ⟨g.K,0,none⟩)] w fun e w'=>e=.returned (.tuple #[])/\In g w' (⟨{ m with rf:=bits .or .i64 (bits .or .i64 (chz (decide (bits .and .i64 (Stpp.get m g.z) (bitV g.y)=0)) 128 0) 32) (bits .and .i64 m.rf 16) },full⟩ : S).m (⟨{ m with rf:=bits .or .i64 (bits .or .i64 (chz (decide (bits .and .i64 (Stpp.get m g.z) (bitV g.y)=0)) 128 0) 32) (bits .and .i64 m.rf 16) },full⟩ : S).full:=by
 have c1:Rg 155 #[.pointer (some ⟨g.K,0,none⟩),.int .i64 g.z] w (.int .i64 (Stpp.get m g.z)):=rg fun W hb=>get_any g m full g.z W (h.below hb) hg hp.z.1 hp.z.2
 have hsh:=shl_at hp.y
 have hy0:=hp.y.1
 have hy1:=hp.y.2
 have bg:=get_bd hg g.z
 generalize Stpp.get m g.z=v at *
 generalize bitV g.y=b at *
 obtain ⟨vb,hvb⟩ : ∃ x,bits .and .i64 v b=x:=⟨_,rfl⟩
 rw [hvb]
 have hzz:(vb == 0)=decide (vb=0):=by by_cases h:vb=0 <;> simp [h]
 have C2:Hid (∀ W:World,Rg 226 #[.int .i64 128,.bool (decide (vb=0))] W (.int .i64 (chz (decide (vb=0)) 128 0))):=fun W=>rg fun W' hb=>(flagIf_any 128 _ W').mono fun e w' h=>⟨h.1,by rw [h.2];exact zRf⟩
 generalize chz (decide (vb=0)) 128 0=cz at *
 generalize decide (vb=0)=db at *
 obtain ⟨f1,hf1⟩ : ∃ f,bits .or .i64 (bits .or .i64 cz 32) (bits .and .i64 m.rf 16)=f:=⟨_,rfl⟩
 rw [hf1]
 have q:∀ W,Below w.heap.size w W->W.cell? ⟨1,1,none⟩=some (.string ⟨#[98,105,116]⟩):=fun W hb=>(h.below hb).tb.bit 1 (by decide)
 have HQ:Hid (∀ W,In g W m full->W.cell? ⟨1,1,none⟩=some (.string ⟨#[98,105,116]⟩)):=fun W hi=>hi.tb.bit 1 (by decide)
 have r0:=cell_regrown (h.k_cpu)
 have r1:=cell_regrown (h.k_y)
 have r2:=cell_regrown (h.k_z)
 have HI:Hid (In g w m full):=h
 clear h hg hp bg q 
 go_enter func189,ntmps189
 go_wp2_with fail
 refine wp_region_quiet_below (by kernel_rfl) (by kernel_rfl) ?_
 repeat (go_big_quiet_step (first|with_reducible exact c1 _ _))
 refine wpQuiet_nil ?_
 intro _ hw'
 obtain ⟨⟨dq,osq⟩,hw''⟩:=hw'
 subst hw''
 have H2:=zHd (HI.out.below (below_regrown w dq osq))
 generalize Go.Sort.grow (redrawn w dq) osq=W2 at *
 clear HI r0 r1 r2 c1
 have q_x:=H2.out.k_x
 rw [hx] at q_x
 have q_t:=HQ.out _ H2.out
 clear HQ
 have r0:=cell_regrown (H2.out.k_cpu)
 have r1:=cell_regrown (H2.out.c_rf)
 have c2:=C2.out W2
 clear C2
 go_wp2_with fail
 refine Qtail.tail_below 21 (by kernel_rfl) (by kernel_rfl) ?_
 simp only [List.take_succ_cons,List.take_zero,List.drop_succ_cons,List.drop_zero]
 repeat (go_big_quiet_step (first|with_reducible exact c2 _ _))
 refine wpQuiet_nil ?_
 intro _ hw'
 obtain ⟨⟨dq,osq⟩,hw''⟩:=hw'
 subst hw''
 have H3:=zHd (H2.out.below (below_regrown W2 dq osq))
 generalize Go.Sort.grow (redrawn W2 dq) osq=W3 at *
 clear H2 r0 r1 c2
 have q_k_cpu:=H3.out.k_cpu
 have q_c_rf:=H3.out.c_rf
 have f_rf:=H3.out.fro 1
 have H3x:=H3.out.s_rf f1
 have HF:Hid (In g (W3.setCell ⟨g.B,1,none⟩ (.int .i64 f1)) { m with rf:=f1 } full):=H3x
 clear H3x H3
 go_wp2
 go_end0
 exact ⟨rfl,HF.out⟩
theorem jp1 (g:G) (m:M) (full:Bool)  (w:World) (h:In g w m full) (hg:Stpq.Good m) (hp:Pt g) :
  Calls prog 195 #[.pointer (some ⟨g.K,0,none⟩)] w fun e w'=>e=.returned (.tuple #[])/\In g w' (⟨{ m with pc:=(m.pc+sgn g.imm)%65536 },full⟩ : S).m (⟨{ m with pc:=(m.pc+sgn g.imm)%65536 },full⟩ : S).full:=by
 have hpc:=hg.pc
 have hs:=ReckM.sgn_bd g.imm
 have c1:Rg 196 #[.int .i64 g.imm] w (.int .i64 (sgn g.imm)):=rg fun W hb=>(Signed.implSigned_any g.imm W).mono fun e w' h=>⟨h.1,by rw [h.2];exact zRf⟩
 have c2:Rg 94 #[.int .i64 (m.pc+sgn g.imm)] w (.int .i64 ((m.pc+sgn g.imm)%65536)):=rg fun W hb=>(wrapped_any (m.pc+sgn g.imm) W).mono fun e w' h=>⟨h.1,by rw [h.2];exact zRf⟩
 have d1:IntKind.i64.wrap (m.pc+sgn g.imm)=m.pc+sgn g.imm:=by rw [IntKind.wrap_i64];omega
 generalize (m.pc+sgn g.imm)%65536=v at *
 generalize sgn g.imm=sg at *
 clear hpc hs
 have r0:=cell_regrown (h.k_cpu)
 have r1:=cell_regrown (h.k_imm)
 have r2:=cell_regrown (h.c_pc)
 have HI:Hid (In g w m full):=h
 clear h hg hp
 go_enter func195,ntmps195
 go_wp2_with fail
 refine Qtail.tail_below 21 (by kernel_rfl) (by kernel_rfl) ?_
 simp only [List.take_succ_cons,List.take_zero,List.drop_succ_cons,List.drop_zero]
 repeat (go_big_quiet_step (first|with_reducible exact c1 _ _|with_reducible exact c2 _ _))
 refine wpQuiet_nil ?_
 intro _ hw'
 obtain ⟨⟨dq,osq⟩,hw''⟩:=hw'
 subst hw''
 have H2:=zHd (HI.out.below (below_regrown w dq osq))
 generalize Go.Sort.grow (redrawn w dq) osq=W2 at *
 clear HI r0 r1 r2 c1 c2
 have q_k_cpu:=H2.out.k_cpu
 have q_c_pc:=H2.out.c_pc
 have f_pc:=H2.out.fro 9
 have H3:=H2.out.s_pc v
 have HF:Hid (In g (W2.setCell ⟨g.B,9,none⟩ (.int .i64 v)) { m with pc:=v } full):=H3
 clear H3 H2
 go_wp2
 go_end0
 exact ⟨rfl,HF.out⟩
theorem jp2 (g:G) (m:M) (full:Bool)  (w:World) (h:In g w m full) (hg:Stpq.Good m) (hp:Pt g) :
  Calls prog 197 #[.pointer (some ⟨g.K,0,none⟩)] w fun e w'=>e=.returned (.tuple #[])/\In g w' (⟨{ m with pc:=g.imm },full⟩ : S).m (⟨{ m with pc:=g.imm },full⟩ : S).full:=by
 have r0:=cell_regrown (h.k_cpu)
 have r1:=cell_regrown (h.k_imm)
 have HI:Hid (In g w m full):=h
 clear h hg hp
 go_enter func197,ntmps197
 go_wp2_with fail
 refine Qtail.tail_below 11 (by kernel_rfl) (by kernel_rfl) ?_
 simp only [List.take_succ_cons,List.take_zero,List.drop_succ_cons,List.drop_zero]
 repeat (go_big_quiet_step (first|fail))
 refine wpQuiet_nil ?_
 intro _ hw'
 obtain ⟨⟨dq,osq⟩,hw''⟩:=hw'
 subst hw''
 have H2:=zHd (HI.out.below (below_regrown w dq osq))
 generalize Go.Sort.grow (redrawn w dq) osq=W2 at *
 clear HI r0 r1
 have q_k_cpu:=H2.out.k_cpu
 have q_c_pc:=H2.out.c_pc
 have f_pc:=H2.out.fro 9
 have H3:=H2.out.s_pc g.imm
 have HF:Hid (In g (W2.setCell ⟨g.B,9,none⟩ (.int .i64 g.imm)) { m with pc:=g.imm } full):=H3
 clear H3 H2
 go_wp2
 go_end0
 exact ⟨rfl,HF.out⟩
theorem jp3 (g:G) (m:M) (full:Bool)  (w:World) (h:In g w m full) (hg:Stpq.Good m) (hp:Pt g) :
  Calls prog 198 #[.pointer (some ⟨g.K,0,none⟩)] w fun e w'=>e=.returned (.tuple #[])/\In g w' (⟨{ m with pc:=hl m },full⟩ : S).m (⟨{ m with pc:=hl m },full⟩ : S).full:=by
 have c1:Rg 161 #[.pointer (some ⟨g.K,0,none⟩)] w (.agg #[.pointer (some ⟨g.B,6,none⟩),.pointer (some ⟨g.B,7,none⟩)]):=rg fun W hb=>hl_any g W ((h.below hb).k_cpu)
 have c2:Rg 162 #[.agg #[.pointer (some ⟨g.B,6,none⟩),.pointer (some ⟨g.B,7,none⟩)]] w (.int .i64 (hl m)):=rg fun W hb=>at_hl g m full W (h.below hb) hg
 generalize hl m=v at *
 have r0:=cell_regrown (h.k_cpu)
 have HI:Hid (In g w m full):=h
 clear h hg hp
 go_enter func198,ntmps198
 go_wp2_with fail
 refine Qtail.tail_below 9 (by kernel_rfl) (by kernel_rfl) ?_
 simp only [List.take_succ_cons,List.take_zero,List.drop_succ_cons,List.drop_zero]
 repeat (go_big_quiet_step (first|with_reducible exact c1 _ _|with_reducible exact c2 _ _))
 refine wpQuiet_nil ?_
 intro _ hw'
 obtain ⟨⟨dq,osq⟩,hw''⟩:=hw'
 subst hw''
 have H2:=zHd (HI.out.below (below_regrown w dq osq))
 generalize Go.Sort.grow (redrawn w dq) osq=W2 at *
 clear HI r0 c1 c2
 have q_k_cpu:=H2.out.k_cpu
 have q_c_pc:=H2.out.c_pc
 have f_pc:=H2.out.fro 9
 have H3:=H2.out.s_pc v
 have HF:Hid (In g (W2.setCell ⟨g.B,9,none⟩ (.int .i64 v)) { m with pc:=v } full):=H3
 clear H3 H2
 go_wp2
 go_end0
 exact ⟨rfl,HF.out⟩
theorem jcall (g:G) (m:M) (full:Bool) (v:Int) (w:World) (h:In g w m full) (hg:Stpq.Good m) (hp:Pt g) :
  Calls prog 200 #[.pointer (some ⟨g.K,0,none⟩),.int .i64 v] w fun e w'=>e=.returned (.tuple #[])/\In g w' (callE v ⟨m,full⟩).m (callE v ⟨m,full⟩).full:=by
 have c1:Hid (∀ W,In g W m full->Calls prog 172 #[.pointer (some ⟨g.K,0,none⟩),.int .i64 m.pc] W fun e w'=>e=.returned (.tuple #[])/\In g w' (push ⟨m,full⟩ m.pc).m (push ⟨m,full⟩ m.pc).full):=fun W hi=>push_any g m full _ W hi hg hg.pc.1 hg.pc.2
 unfold callE
 simp only []
 generalize push ⟨m,full⟩ m.pc=t at *
 have q0:=h.k_cpu
 have q1:=h.c_pc
 have HI:Hid (In g w m full):=h
 clear h hg hp
 go_enter func200,ntmps200
 go_wp2_with fail
 refine Calls.mono (c1.out _ HI.out) ?_
 rintro e w1 ⟨rfl,hi1⟩
 have H1:Hid (In g w1 t.m t.full):=hi1
 clear hi1 HI c1
 have q_k_cpu:=H1.out.k_cpu
 have q_c_pc:=H1.out.c_pc
 have f_pc:=H1.out.fro 9
 have H3:=H1.out.s_pc v
 have HF:Hid (In g (w1.setCell ⟨g.B,9,none⟩ (.int .i64 v)) { t.m with pc:=v } t.full):=H3
 clear H3 H1
 go_wp2
 go_end0
 exact ⟨rfl,HF.out⟩
theorem jp4 (g:G) (m:M) (full:Bool)  (w:World) (h:In g w m full) (hg:Stpq.Good m) (hp:Pt g) :
  Calls prog 199 #[.pointer (some ⟨g.K,0,none⟩)] w fun e w'=>e=.returned (.tuple #[])/\In g w' (callE g.imm ⟨m,full⟩).m (callE g.imm ⟨m,full⟩).full:=by
 have c2:Hid (∀ W,In g W m full->Calls prog 200 #[.pointer (some ⟨g.K,0,none⟩),.int .i64 g.imm] W fun e w'=>e=.returned (.tuple #[])/\In g w' (callE g.imm ⟨m,full⟩).m (callE g.imm ⟨m,full⟩).full):=fun W hi=>jcall g m full g.imm W hi hg hp
 generalize callE g.imm ⟨m,full⟩=t at *
 have q_i:=h.k_imm
 have HI:Hid (In g w m full):=h
 clear h hg hp
 go_enter func199,ntmps199
 go_wp2_with fail
 refine Calls.mono (c2.out _ HI.out) ?_
 rintro e w2 ⟨rfl,hi1⟩
 have H3:Hid (In g w2 t.m t.full):=hi1
 clear hi1 HI c2
 go_wp2
 go_end0
 exact ⟨rfl,H3.out⟩
theorem jp5 (g:G) (m:M) (full:Bool)  (w:World) (h:In g w m full) (hg:Stpq.Good m) (hp:Pt g) :
  Calls prog 201 #[.pointer (some ⟨g.K,0,none⟩)] w fun e w'=>e=.returned (.tuple #[])/\In g w' (callE (8*g.y) ⟨m,full⟩).m (callE (8*g.y) ⟨m,full⟩).full:=by
 have hy:=hp.y
 have d1:IntKind.i64.wrap (8*g.y)=8*g.y:=by rw [IntKind.wrap_i64];omega
 have c2:Hid (∀ W,In g W m full->Calls prog 200 #[.pointer (some ⟨g.K,0,none⟩),.int .i64 (8*g.y)] W fun e w'=>e=.returned (.tuple #[])/\In g w' (callE (8*g.y) ⟨m,full⟩).m (callE (8*g.y) ⟨m,full⟩).full):=fun W hi=>jcall g m full (8*g.y) W hi hg hp
 generalize callE (8*g.y) ⟨m,full⟩=t at *
 have q_i:=h.k_y
 have HI:Hid (In g w m full):=h
 clear h hg hp hy
 go_enter func201,ntmps201
 go_wp2_with fail
 refine Calls.mono (c2.out _ HI.out) ?_
 rintro e w2 ⟨rfl,hi1⟩
 have H3:Hid (In g w2 t.m t.full):=hi1
 clear hi1 HI c2
 go_wp2
 go_end0
 exact ⟨rfl,H3.out⟩
theorem jp6 (g:G) (m:M) (full:Bool)  (w:World) (h:In g w m full) (hg:Stpq.Good m) (hp:Pt g) :
  Calls prog 202 #[.pointer (some ⟨g.K,0,none⟩)] w fun e w'=>e=.returned (.tuple #[])/\In g w' (⟨{ popM m with pc:=popV m },full⟩ : S).m (⟨{ popM m with pc:=popV m },full⟩ : S).full:=by
 have c1:Hid (∀ W,In g W m full->Calls prog 203 #[.pointer (some ⟨g.K,0,none⟩)] W fun e w'=>e=.returned (.int .i64 (popV m))/\In g w' (popM m) full):=fun W hi=>pop_any g m full W hi hg
 generalize popV m=v at *
 generalize popM m=m1 at *
 have q0:=h.k_cpu
 have HI:=zHd (h.below zRf.drew)
 clear h hg hp
 go_enter func202,ntmps202
 go_wp2_with fail
 go_region_with (go_at_call 203;refine Calls.mono (c1.out _ HI.out) ?_;rintro e w1 ⟨rfl,hi1⟩;have k1:=hi1.k_cpu;have k2:=hi1.c_pc;have k3:=hi1.fro 9;have HF:Hid (In g (w1.setCell ⟨g.B,9,none⟩ (.int .i64 v)) { m1 with pc:=v } full):=hi1.s_pc v;clear hi1)
 all_goals go_wp2
 all_goals go_end0
 all_goals exact ⟨rfl,HF.out⟩
theorem jp7 (g:G) (m:M) (full:Bool)  (w:World) (h:In g w m full) (hg:Stpq.Good m) (hp:Pt g) :
  Calls prog 204 #[.pointer (some ⟨g.K,0,none⟩)] w fun e w'=>e=.returned (.tuple #[])/\In g w' (⟨{ popM m with pc:=popV m,ime:=true },full⟩ : S).m (⟨{ popM m with pc:=popV m,ime:=true },full⟩ : S).full:=by
 have c1:Hid (∀ W,In g W m full->Calls prog 203 #[.pointer (some ⟨g.K,0,none⟩)] W fun e w'=>e=.returned (.int .i64 (popV m))/\In g w' (popM m) full):=fun W hi=>pop_any g m full W hi hg
 generalize popV m=v at *
 generalize popM m=m1 at *
 have q0:=h.k_cpu
 have HI:=zHd (h.below zRf.drew)
 clear h hg hp
 go_enter func204,ntmps204
 go_wp2_with fail
 go_region_with (go_at_call 203;refine Calls.mono (c1.out _ HI.out) ?_;rintro e w1 ⟨rfl,hi1⟩;have k1:=hi1.k_cpu;have k2:=hi1.c_pc;have k3:=hi1.fro 9;have k4:=hi1.c_ime;have k5:=hi1.fro 10;have k6:=hi1.ltB;have HF:Hid (In g ((w1.setCell ⟨g.B,9,none⟩ (.int .i64 v)).setCell ⟨g.B,10,none⟩ (.bool true)) { m1 with pc:=v,ime:=true } full):=(hi1.s_pc v).s_ime true;clear hi1)
 all_goals go_wp2
 all_goals go_end0
 all_goals exact ⟨rfl,HF.out⟩
theorem jp8 (g:G) (m:M) (full:Bool)  (w:World) (h:In g w m full) (hg:Stpq.Good m) (hp:Pt g) :
  Calls prog 205 #[.pointer (some ⟨g.K,0,none⟩)] w fun e w'=>e=.returned (.tuple #[])/\In g w' (⟨{ m with ime:=false },full⟩ : S).m (⟨{ m with ime:=false },full⟩ : S).full:=by
 have HI:Hid (In g w m full):=h
 clear h hg hp
 have q_k_cpu:=HI.out.k_cpu
 have q_c_ime:=HI.out.c_ime
 have f_ime:=HI.out.fro 10
 have H3:=HI.out.s_ime false
 have HF:Hid (In g (w.setCell ⟨g.B,10,none⟩ (.bool false)) { m with ime:=false } full):=H3
 clear H3 HI
 go_enter func205,ntmps205
 go_wp2
 go_end0
 exact ⟨rfl,HF.out⟩
theorem jp9 (g:G) (m:M) (full:Bool)  (w:World) (h:In g w m full) (hg:Stpq.Good m) (hp:Pt g) :
  Calls prog 206 #[.pointer (some ⟨g.K,0,none⟩)] w fun e w'=>e=.returned (.tuple #[])/\In g w' (⟨{ m with ime:=true },full⟩ : S).m (⟨{ m with ime:=true },full⟩ : S).full:=by
 have HI:Hid (In g w m full):=h
 clear h hg hp
 have q_k_cpu:=HI.out.k_cpu
 have q_c_ime:=HI.out.c_ime
 have f_ime:=HI.out.fro 10
 have H3:=HI.out.s_ime true
 have HF:Hid (In g (w.setCell ⟨g.B,10,none⟩ (.bool true)) { m with ime:=true } full):=H3
 clear H3 HI
 go_enter func206,ntmps206
 go_wp2
 go_end0
 exact ⟨rfl,HF.out⟩
theorem jp10 (g:G) (m:M) (full:Bool)  (w:World) (h:In g w m full) (hg:Stpq.Good m) (hp:Pt g) :
  Calls prog 207 #[.pointer (some ⟨g.K,0,none⟩)] w fun e w'=>e=.returned (.tuple #[])/\In g w' (⟨{ m with hal:=true },full⟩ : S).m (⟨{ m with hal:=true },full⟩ : S).full:=by
 have HI:Hid (In g w m full):=h
 clear h hg hp
 have q_k_cpu:=HI.out.k_cpu
 have q_c_hal:=HI.out.c_hal
 have f_hal:=HI.out.fro 11
 have H3:=HI.out.s_hal true
 have HF:Hid (In g (w.setCell ⟨g.B,11,none⟩ (.bool true)) { m with hal:=true } full):=H3
 clear H3 HI
 go_enter func207,ntmps207
 go_wp2
 go_end0
 exact ⟨rfl,HF.out⟩
theorem nothing (g:G) (m:M) (full:Bool) (w:World) (h:In g w m full) (hg:Stpq.Good m) (hp:Pt g) :
  Calls prog 142 #[.pointer (some ⟨g.K,0,none⟩)] w fun e w'=>e=.returned (.tuple #[])/\In g w' (⟨m,full⟩ : S).m (⟨m,full⟩ : S).full:=by
 have HI:Hid (In g w m full):=h
 clear h
 go_enter func142,ntmps142
 go_wp2
 go_end0
 exact ⟨rfl,HI.out⟩
end Go.Proofs.YtnjolmbdbgbmbaaGreatDoor.Stpw
namespace Go.Proofs.YtnjolmbdbgbmbaaGreatDoor.Stpx
open Go.Deep
open Signed (inB sgn ret_int ret_bool)
open Busw Busx Stpp Stpq Stpi Stpj Stpr Stpk Stpm Stpn Stpu
theorem ixs_0 (w:World):(Instr.index 188 (.agg #[.int .i64 0,.int .i64 0,.int .i64 1,.int .i64 (-1)]) (.int .i64 0)).run prog w=.ok (.int .i64 (0)) w:=by kernel_rfl
theorem step_0 (g:G) (m:M) (full:Bool) (w:World) (h:In g w m full) (hg:Stpq.Good m) (hk:g.p=0) :
  Calls prog 166 #[.pointer (some ⟨g.K,0,none⟩)] w fun e w'=>e=.returned (.int .i64 (pr m 0))/\In g w' (setP m 0 ((pr m 0+0)%65536)) full:=by
 have hi:=ixs_0
 have c1:Hid (∀ W,In g W m full->Calls prog 158 #[.pointer (some ⟨g.K,0,none⟩),.int .i64 0] W fun e w'=>e=.returned (.agg #[.pointer (some ⟨g.B,2,none⟩),.pointer (some ⟨g.B,3,none⟩)])/\Below W.heap.size W w'):=fun W hi=>pairOf_0 g W hi.k_cpu
 have c2:Hid (∀ W,In g W m full->Calls prog 162 #[.agg #[.pointer (some ⟨g.B,2,none⟩),.pointer (some ⟨g.B,3,none⟩)]] W fun e w'=>e=.returned (.int .i64 (pr m 0))/\Below W.heap.size W w'):=fun W hi=>word_any g m full 0 W hi hg (by omega) (by omega)
 have bd:=pr_bd hg 0
 have c3:Hid (∀ W,In g W m full->Calls prog 159 #[.agg #[.pointer (some ⟨g.B,2,none⟩),.pointer (some ⟨g.B,3,none⟩)],.int .i64 (pr m 0)] W fun e w'=>e=.returned (.tuple #[])/\In g w' (setP m 0 ((pr m 0+0)%65536)) full):=fun W hi=>by have h:=pput_any g m full 0 (pr m 0) W hi (by omega) (by omega);rw [show pr m 0+0=pr m 0 by omega];exact h
 generalize setP m 0 ((pr m 0+0)%65536)=t at *
 generalize pr m 0=v at *
 have d1:IntKind.i64.wrap (v)=v:=by rw [IntKind.wrap_i64];omega
 have q_p:=h.k_p
 rw [hk] at q_p
 have HI:Hid (In g w m full):=h
 clear h hg bd
 go_enter func166,ntmps166
 go_wp2_with fail
 refine Calls.mono (c1.out _ HI.out) ?_
 rintro e w1 ⟨rfl,hb1⟩
 have H1:=zHd (HI.out.below hb1)
 clear hb1 HI c1
 go_wp2_with fail
 have hA:Below w1.heap.size w1 (w1.alloc (.cells #[.pointer (some ⟨g.B,2,none⟩),.pointer (some ⟨g.B,3,none⟩)] 173)):=zAl _ _
 refine Calls.mono (c2.out _ (H1.out.below hA)) ?_
 rintro e w2 ⟨rfl,hb2⟩
 have hx2:w2.heap[w1.heap.size]? = some (.cells #[.pointer (some ⟨g.B,2,none⟩),.pointer (some ⟨g.B,3,none⟩)] 173):=(hb2.block _ (by simp)).trans (heap_alloc_new w1 _)
 have H2:Hid (In g w2 m full):=(H1.out.below hA).below hb2
 obtain ⟨bx,hbx⟩ : ∃ b,b=w1.heap.size:=⟨_,rfl⟩
 rw [<- hbx] at hx2 |-
 clear hbx hA hb2 H1 c2 q_p
 have r0:=cell_regrown ((cell_of_row w2 bx 0 _ _ _ hx2).trans rfl)
 have r1:=cell_regrown ((cell_of_row w2 bx 1 _ _ _ hx2).trans rfl)
 have r2:=cell_regrown (H2.out.k_p)
 rw [hk] at r2
 clear hx2
 go_wp2_with fail
 refine Qtail.tail_below 10 (by kernel_rfl) (by kernel_rfl) ?_
 simp only [List.take_succ_cons,List.take_zero,List.drop_succ_cons,List.drop_zero]
 repeat (go_big_quiet_step (first|fail))
 refine wpQuiet_nil ?_
 intro _ hw'
 obtain ⟨⟨dq,osq⟩,hw''⟩:=hw'
 subst hw''
 have H3:=zHd (H2.out.below (below_regrown w2 dq osq))
 generalize Go.Sort.grow (redrawn w2 dq) osq=W3 at *
 clear H2 r0 r1 r2
 go_wp2_with fail
 refine Calls.mono (c3.out _ H3.out) ?_
 rintro e w4 ⟨rfl,hi1⟩
 have H4:Hid (In g w4 t full):=hi1
 clear hi1 H3 c3
 go_wp2
 go_ret
 exact ⟨rfl,H4.out⟩
theorem ixs_1 (w:World):(Instr.index 188 (.agg #[.int .i64 0,.int .i64 0,.int .i64 1,.int .i64 (-1)]) (.int .i64 1)).run prog w=.ok (.int .i64 (0)) w:=by kernel_rfl
theorem step_1 (g:G) (m:M) (full:Bool) (w:World) (h:In g w m full) (hg:Stpq.Good m) (hk:g.p=1) :
  Calls prog 166 #[.pointer (some ⟨g.K,0,none⟩)] w fun e w'=>e=.returned (.int .i64 (pr m 1))/\In g w' (setP m 1 ((pr m 1+0)%65536)) full:=by
 have hi:=ixs_1
 have c1:Hid (∀ W,In g W m full->Calls prog 158 #[.pointer (some ⟨g.K,0,none⟩),.int .i64 1] W fun e w'=>e=.returned (.agg #[.pointer (some ⟨g.B,4,none⟩),.pointer (some ⟨g.B,5,none⟩)])/\Below W.heap.size W w'):=fun W hi=>pairOf_1 g W hi.k_cpu
 have c2:Hid (∀ W,In g W m full->Calls prog 162 #[.agg #[.pointer (some ⟨g.B,4,none⟩),.pointer (some ⟨g.B,5,none⟩)]] W fun e w'=>e=.returned (.int .i64 (pr m 1))/\Below W.heap.size W w'):=fun W hi=>word_any g m full 1 W hi hg (by omega) (by omega)
 have bd:=pr_bd hg 1
 have c3:Hid (∀ W,In g W m full->Calls prog 159 #[.agg #[.pointer (some ⟨g.B,4,none⟩),.pointer (some ⟨g.B,5,none⟩)],.int .i64 (pr m 1)] W fun e w'=>e=.returned (.tuple #[])/\In g w' (setP m 1 ((pr m 1+0)%65536)) full):=fun W hi=>by have h:=pput_any g m full 1 (pr m 1) W hi (by omega) (by omega);rw [show pr m 1+0=pr m 1 by omega];exact h
 generalize setP m 1 ((pr m 1+0)%65536)=t at *
 generalize pr m 1=v at *
 have d1:IntKind.i64.wrap (v)=v:=by rw [IntKind.wrap_i64];omega
 have q_p:=h.k_p
 rw [hk] at q_p
 have HI:Hid (In g w m full):=h
 clear h hg bd
 go_enter func166,ntmps166
 go_wp2_with fail
 refine Calls.mono (c1.out _ HI.out) ?_
 rintro e w1 ⟨rfl,hb1⟩
 have H1:=zHd (HI.out.below hb1)
 clear hb1 HI c1
 go_wp2_with fail
 have hA:Below w1.heap.size w1 (w1.alloc (.cells #[.pointer (some ⟨g.B,4,none⟩),.pointer (some ⟨g.B,5,none⟩)] 173)):=zAl _ _
 refine Calls.mono (c2.out _ (H1.out.below hA)) ?_
 rintro e w2 ⟨rfl,hb2⟩
 have hx2:w2.heap[w1.heap.size]? = some (.cells #[.pointer (some ⟨g.B,4,none⟩),.pointer (some ⟨g.B,5,none⟩)] 173):=(hb2.block _ (by simp)).trans (heap_alloc_new w1 _)
 have H2:Hid (In g w2 m full):=(H1.out.below hA).below hb2
 obtain ⟨bx,hbx⟩ : ∃ b,b=w1.heap.size:=⟨_,rfl⟩
 rw [<- hbx] at hx2 |-
 clear hbx hA hb2 H1 c2 q_p
 have r0:=cell_regrown ((cell_of_row w2 bx 0 _ _ _ hx2).trans rfl)
 have r1:=cell_regrown ((cell_of_row w2 bx 1 _ _ _ hx2).trans rfl)
 have r2:=cell_regrown (H2.out.k_p)
 rw [hk] at r2
 clear hx2
 go_wp2_with fail
 refine Qtail.tail_below 10 (by kernel_rfl) (by kernel_rfl) ?_
 simp only [List.take_succ_cons,List.take_zero,List.drop_succ_cons,List.drop_zero]
 repeat (go_big_quiet_step (first|fail))
 refine wpQuiet_nil ?_
 intro _ hw'
 obtain ⟨⟨dq,osq⟩,hw''⟩:=hw'
 subst hw''
 have H3:=zHd (H2.out.below (below_regrown w2 dq osq))
 generalize Go.Sort.grow (redrawn w2 dq) osq=W3 at *
 clear H2 r0 r1 r2
 go_wp2_with fail
 refine Calls.mono (c3.out _ H3.out) ?_
 rintro e w4 ⟨rfl,hi1⟩
 have H4:Hid (In g w4 t full):=hi1
 clear hi1 H3 c3
 go_wp2
 go_ret
 exact ⟨rfl,H4.out⟩
theorem ixs_2 (w:World):(Instr.index 188 (.agg #[.int .i64 0,.int .i64 0,.int .i64 1,.int .i64 (-1)]) (.int .i64 2)).run prog w=.ok (.int .i64 (1)) w:=by kernel_rfl
theorem step_2 (g:G) (m:M) (full:Bool) (w:World) (h:In g w m full) (hg:Stpq.Good m) (hk:g.p=2) :
  Calls prog 166 #[.pointer (some ⟨g.K,0,none⟩)] w fun e w'=>e=.returned (.int .i64 (pr m 2))/\In g w' (setP m 2 ((pr m 2+1)%65536)) full:=by
 have hi:=ixs_2
 have c1:Hid (∀ W,In g W m full->Calls prog 158 #[.pointer (some ⟨g.K,0,none⟩),.int .i64 2] W fun e w'=>e=.returned (.agg #[.pointer (some ⟨g.B,6,none⟩),.pointer (some ⟨g.B,7,none⟩)])/\Below W.heap.size W w'):=fun W hi=>pairOf_2 g W hi.k_cpu
 have c2:Hid (∀ W,In g W m full->Calls prog 162 #[.agg #[.pointer (some ⟨g.B,6,none⟩),.pointer (some ⟨g.B,7,none⟩)]] W fun e w'=>e=.returned (.int .i64 (pr m 2))/\Below W.heap.size W w'):=fun W hi=>word_any g m full 2 W hi hg (by omega) (by omega)
 have bd:=pr_bd hg 2
 have c3:Hid (∀ W,In g W m full->Calls prog 159 #[.agg #[.pointer (some ⟨g.B,6,none⟩),.pointer (some ⟨g.B,7,none⟩)],.int .i64 (pr m 2+1)] W fun e w'=>e=.returned (.tuple #[])/\In g w' (setP m 2 ((pr m 2+1)%65536)) full):=fun W hi=>pput_any g m full 2 _ W hi (by omega) (by omega)
 generalize setP m 2 ((pr m 2+1)%65536)=t at *
 generalize pr m 2=v at *
 have d1:IntKind.i64.wrap (v+1)=v+1:=by rw [IntKind.wrap_i64];omega
 have q_p:=h.k_p
 rw [hk] at q_p
 have HI:Hid (In g w m full):=h
 clear h hg bd
 go_enter func166,ntmps166
 go_wp2_with fail
 refine Calls.mono (c1.out _ HI.out) ?_
 rintro e w1 ⟨rfl,hb1⟩
 have H1:=zHd (HI.out.below hb1)
 clear hb1 HI c1
 go_wp2_with fail
 have hA:Below w1.heap.size w1 (w1.alloc (.cells #[.pointer (some ⟨g.B,6,none⟩),.pointer (some ⟨g.B,7,none⟩)] 173)):=zAl _ _
 refine Calls.mono (c2.out _ (H1.out.below hA)) ?_
 rintro e w2 ⟨rfl,hb2⟩
 have hx2:w2.heap[w1.heap.size]? = some (.cells #[.pointer (some ⟨g.B,6,none⟩),.pointer (some ⟨g.B,7,none⟩)] 173):=(hb2.block _ (by simp)).trans (heap_alloc_new w1 _)
 have H2:Hid (In g w2 m full):=(H1.out.below hA).below hb2
 obtain ⟨bx,hbx⟩ : ∃ b,b=w1.heap.size:=⟨_,rfl⟩
 rw [<- hbx] at hx2 |-
 clear hbx hA hb2 H1 c2 q_p
 have r0:=cell_regrown ((cell_of_row w2 bx 0 _ _ _ hx2).trans rfl)
 have r1:=cell_regrown ((cell_of_row w2 bx 1 _ _ _ hx2).trans rfl)
 have r2:=cell_regrown (H2.out.k_p)
 rw [hk] at r2
 clear hx2
 go_wp2_with fail
 refine Qtail.tail_below 10 (by kernel_rfl) (by kernel_rfl) ?_
 simp only [List.take_succ_cons,List.take_zero,List.drop_succ_cons,List.drop_zero]
 repeat (go_big_quiet_step (first|fail))
 refine wpQuiet_nil ?_
 intro _ hw'
 obtain ⟨⟨dq,osq⟩,hw''⟩:=hw'
 subst hw''
 have H3:=zHd (H2.out.below (below_regrown w2 dq osq))
 generalize Go.Sort.grow (redrawn w2 dq) osq=W3 at *
 clear H2 r0 r1 r2
 go_wp2_with fail
 refine Calls.mono (c3.out _ H3.out) ?_
 rintro e w4 ⟨rfl,hi1⟩
 have H4:Hid (In g w4 t full):=hi1
 clear hi1 H3 c3
 go_wp2
 go_ret
 exact ⟨rfl,H4.out⟩
theorem ixs_3 (w:World):(Instr.index 188 (.agg #[.int .i64 0,.int .i64 0,.int .i64 1,.int .i64 (-1)]) (.int .i64 3)).run prog w=.ok (.int .i64 (-1)) w:=by kernel_rfl
theorem step_3 (g:G) (m:M) (full:Bool) (w:World) (h:In g w m full) (hg:Stpq.Good m) (hk:g.p=3) :
  Calls prog 166 #[.pointer (some ⟨g.K,0,none⟩)] w fun e w'=>e=.returned (.int .i64 (pr m 2))/\In g w' (setP m 2 ((pr m 2+-1)%65536)) full:=by
 have hi:=ixs_3
 have c1:Hid (∀ W,In g W m full->Calls prog 158 #[.pointer (some ⟨g.K,0,none⟩),.int .i64 2] W fun e w'=>e=.returned (.agg #[.pointer (some ⟨g.B,6,none⟩),.pointer (some ⟨g.B,7,none⟩)])/\Below W.heap.size W w'):=fun W hi=>pairOf_2 g W hi.k_cpu
 have c2:Hid (∀ W,In g W m full->Calls prog 162 #[.agg #[.pointer (some ⟨g.B,6,none⟩),.pointer (some ⟨g.B,7,none⟩)]] W fun e w'=>e=.returned (.int .i64 (pr m 2))/\Below W.heap.size W w'):=fun W hi=>word_any g m full 2 W hi hg (by omega) (by omega)
 have bd:=pr_bd hg 2
 have c3:Hid (∀ W,In g W m full->Calls prog 159 #[.agg #[.pointer (some ⟨g.B,6,none⟩),.pointer (some ⟨g.B,7,none⟩)],.int .i64 (pr m 2+-1)] W fun e w'=>e=.returned (.tuple #[])/\In g w' (setP m 2 ((pr m 2+-1)%65536)) full):=fun W hi=>pput_any g m full 2 _ W hi (by omega) (by omega)
 generalize setP m 2 ((pr m 2+-1)%65536)=t at *
 generalize pr m 2=v at *
 have d1:IntKind.i64.wrap (v+-1)=v+-1:=by rw [IntKind.wrap_i64];omega
 have q_p:=h.k_p
 rw [hk] at q_p
 have HI:Hid (In g w m full):=h
 clear h hg bd
 go_enter func166,ntmps166
 go_wp2_with fail
 refine Calls.mono (c1.out _ HI.out) ?_
 rintro e w1 ⟨rfl,hb1⟩
 have H1:=zHd (HI.out.below hb1)
 clear hb1 HI c1
 go_wp2_with fail
 have hA:Below w1.heap.size w1 (w1.alloc (.cells #[.pointer (some ⟨g.B,6,none⟩),.pointer (some ⟨g.B,7,none⟩)] 173)):=zAl _ _
 refine Calls.mono (c2.out _ (H1.out.below hA)) ?_
 rintro e w2 ⟨rfl,hb2⟩
 have hx2:w2.heap[w1.heap.size]? = some (.cells #[.pointer (some ⟨g.B,6,none⟩),.pointer (some ⟨g.B,7,none⟩)] 173):=(hb2.block _ (by simp)).trans (heap_alloc_new w1 _)
 have H2:Hid (In g w2 m full):=(H1.out.below hA).below hb2
 obtain ⟨bx,hbx⟩ : ∃ b,b=w1.heap.size:=⟨_,rfl⟩
 rw [<- hbx] at hx2 |-
 clear hbx hA hb2 H1 c2 q_p
 have r0:=cell_regrown ((cell_of_row w2 bx 0 _ _ _ hx2).trans rfl)
 have r1:=cell_regrown ((cell_of_row w2 bx 1 _ _ _ hx2).trans rfl)
 have r2:=cell_regrown (H2.out.k_p)
 rw [hk] at r2
 clear hx2
 go_wp2_with fail
 refine Qtail.tail_below 10 (by kernel_rfl) (by kernel_rfl) ?_
 simp only [List.take_succ_cons,List.take_zero,List.drop_succ_cons,List.drop_zero]
 repeat (go_big_quiet_step (first|fail))
 refine wpQuiet_nil ?_
 intro _ hw'
 obtain ⟨⟨dq,osq⟩,hw''⟩:=hw'
 subst hw''
 have H3:=zHd (H2.out.below (below_regrown w2 dq osq))
 generalize Go.Sort.grow (redrawn w2 dq) osq=W3 at *
 clear H2 r0 r1 r2
 go_wp2_with fail
 refine Calls.mono (c3.out _ H3.out) ?_
 rintro e w4 ⟨rfl,hi1⟩
 have H4:Hid (In g w4 t full):=hi1
 clear hi1 H3 c3
 go_wp2
 go_ret
 exact ⟨rfl,H4.out⟩
end Go.Proofs.YtnjolmbdbgbmbaaGreatDoor.Stpx
namespace Go.Proofs.YtnjolmbdbgbmbaaGreatDoor.Stpy
open Go.Deep
open Signed (inB sgn ret_int ret_bool)
open Busw Busx Stpp Stpq Stpi Stpj Stpr Stpk Stpm Stpn Stpu Stpx
theorem setP_same {m:M} (h:Stpq.Good m) (p:Int) (h0:0<=p) (h1:p<=2):setP m p ((pr m p+0)%65536)=m:=by
 have hb:=h.b;have hc:=h.c;have hd:=h.d;have he:=h.e;have hh:=h.h;have hl:=h.l
 have hn:p=0 \/ p=1 \/ p=2:=by omega
 rcases hn with rfl|rfl|rfl
 ·show ({ m with rB:=_,rC:=_ }:M)=m
  rw [show (pr m 0+0)%65536 / 256=m.rB by show (256*m.rB+m.rC+0)%65536 / 256=m.rB;omega,show (pr m 0+0)%65536%256=m.rC by show (256*m.rB+m.rC+0)%65536%256=m.rC;omega]
 ·show ({ m with rD:=_,rE:=_ }:M)=m
  rw [show (pr m 1+0)%65536 / 256=m.rD by show (256*m.rD+m.rE+0)%65536 / 256=m.rD;omega,show (pr m 1+0)%65536%256=m.rE by show (256*m.rD+m.rE+0)%65536%256=m.rE;omega]
 ·show ({ m with rH:=_,rL:=_ }:M)=m
  rw [show (pr m 2+0)%65536 / 256=m.rH by show (256*m.rH+m.rL+0)%65536 / 256=m.rH;omega,show (pr m 2+0)%65536%256=m.rL by show (256*m.rH+m.rL+0)%65536%256=m.rL;omega]
theorem step_any (g:G) (m:M) (full:Bool) (w:World) (h:In g w m full) (hg:Stpq.Good m) (hp:Pt g) :
  Calls prog 166 #[.pointer (some ⟨g.K,0,none⟩)] w fun e w'=>e=.returned (.int .i64 (placeOf m g.p))/\In g w' (stepHl m g.p) full:=by
 have h4:=cases4 hp.p.1 hp.p.2
 rcases h4 with h4|h4|h4|h4
 ·have c:=step_0 g m full w h hg h4
  rw [setP_same hg 0 (by omega) (by omega)] at c
  rw [h4];exact c
 ·have c:=step_1 g m full w h hg h4
  rw [setP_same hg 1 (by omega) (by omega)] at c
  rw [h4];exact c
 ·have c:=step_2 g m full w h hg h4
  rw [h4];exact c
 ·have c:=step_3 g m full w h hg h4
  have e:(pr m 2+-1)%65536=(hl m+65535)%65536:=by show (256*m.rH+m.rL+-1)%65536=(256*m.rH+m.rL+65535)%65536;omega
  rw [e] at c
  rw [h4];exact c
theorem stepHl_ra (m:M) (p:Int):(stepHl m p).ra=m.ra:=by
 unfold stepHl setP
 repeat' split
 all_goals rfl
theorem stepHl_cpu (X m:M) (p:Int):stepHl (withCpu X m) p=withCpu X (stepHl m p):=by
 unfold stepHl setP
 repeat' split
 all_goals first|rfl|contradiction
theorem stepHl_self (m:M) (p:Int):withCpu m (stepHl m p)=stepHl m p:=by
 rw [<- stepHl_cpu,withCpu_self]
theorem st_eq (m:M) (full:Bool) (p:Int):wr ⟨stepHl m p,full⟩ (placeOf m p) m.ra=stE p ⟨m,full⟩:=by
 have h:=wr_cpu m (stepHl m p) full (placeOf m p) m.ra
 rw [stepHl_self] at h
 rw [h]
 unfold stE
 simp only []
 have h2:=wr_same ⟨m,full⟩ (placeOf m p) m.ra
 rw [show stepHl (wr ⟨m,full⟩ (placeOf m p) m.ra).m p=stepHl (withCpu (wr ⟨m,full⟩ (placeOf m p) m.ra).m m) p by rw [h2],stepHl_cpu]
theorem ld_eq (m:M) (full:Bool) (p:Int):(⟨{ stepHl m p with ra:=rd m (placeOf m p) },full⟩ : S)=ldE p ⟨m,full⟩:=by
 unfold ldE stepHl setP
 repeat' split
 all_goals first|rfl|contradiction
theorem rd_stepHl (m:M) (p a:Int):rd (stepHl m p) a=rd m a:=by
 unfold stepHl setP
 repeat' split
 all_goals rfl
theorem place_bd {m:M} (h:Stpq.Good m) (p:Int):0<=placeOf m p/\placeOf m p<=65535:=pr_bd h _
theorem stA_step (g:G) (m:M) (full:Bool) (bx:Nat) (w:World) (h:In g w m full) (hg:Stpq.Good m) (hp:Pt g) (hb:w.cell? ⟨bx,0,none⟩=some (.func (.func 166) #[] #[])) :
  Calls prog 221 #[.pointer (some ⟨g.K,0,none⟩),.pointer (some ⟨bx,0,none⟩)] w fun e w'=>e=.returned (.tuple #[])/\In g w' (stE g.p ⟨m,full⟩).m (stE g.p ⟨m,full⟩).full:=by
 have lb:=World.block_lt_of_cell? w _ hb
 rw [<- st_eq]
 have c1:Hid (∀ W,In g W m full->Calls prog 166 #[.pointer (some ⟨g.K,0,none⟩)] W fun e w'=>e=.returned (.int .i64 (placeOf m g.p))/\In g w' (stepHl m g.p) full):=fun W hi=>step_any g m full W hi hg hp
 have g1:=stepHl_good hg g.p
 have c2:Hid (∀ W,In g W (stepHl m g.p) full->Calls prog 219 #[.pointer (some ⟨g.K,0,none⟩),.int .i64 (placeOf m g.p),.int .i64 m.ra] W fun e w'=>e=.returned (.tuple #[])/\In g w' (wr ⟨stepHl m g.p,full⟩ (placeOf m g.p) m.ra).m (wr ⟨stepHl m g.p,full⟩ (placeOf m g.p) m.ra).full):=fun W hi=>write_any g (stepHl m g.p) full _ _ W hi g1.rt hg.a.1 hg.a.2
 have HR:Hid ((stepHl m g.p).ra=m.ra):=stepHl_ra m g.p
 generalize wr ⟨stepHl m g.p,full⟩ (placeOf m g.p) m.ra=t at *
 generalize stepHl m g.p=m1 at *
 generalize placeOf m g.p=v at *
 have q0:=h.k_cpu
 have q1:=h.c_ra
 have HI:=zHd (h.below zRf.drew)
 clear h hg g1 hp
 go_enter func221,ntmps221
 go_wp2_with fail
 go_region_with (first|(go_at_call 166;refine Calls.mono (c1.out _ HI.out) ?_;rintro e w1 ⟨rfl,hi1⟩;have k1:=hi1.k_cpu;have k2:=(hi1.c_ra).trans (by rw [HR.out]);have H1:Hid (In g w1 m1 full):=hi1;clear hi1)|(go_at_call 219;refine Calls.mono (c2.out _ (by assumption:Hid (In g _ m1 full)).out) ?_;rintro e w2 ⟨rfl,hi2⟩;have H2:Hid (In g w2 t.m t.full):=hi2;clear hi2))
 all_goals go_wp2
 all_goals go_end0
 all_goals exact ⟨rfl,(by assumption:Hid (In g _ t.m t.full)).out⟩
theorem ldA_step (g:G) (m:M) (full:Bool) (bx:Nat) (w:World) (h:In g w m full) (hg:Stpq.Good m) (hp:Pt g) (hb:w.cell? ⟨bx,0,none⟩=some (.func (.func 166) #[] #[])) :
  Calls prog 222 #[.pointer (some ⟨g.K,0,none⟩),.pointer (some ⟨bx,0,none⟩)] w fun e w'=>e=.returned (.tuple #[])/\In g w' (ldE g.p ⟨m,full⟩).m (ldE g.p ⟨m,full⟩).full:=by
 have lb:=World.block_lt_of_cell? w _ hb
 rw [<- ld_eq]
 have c1:Hid (∀ W,In g W m full->Calls prog 166 #[.pointer (some ⟨g.K,0,none⟩)] W fun e w'=>e=.returned (.int .i64 (placeOf m g.p))/\In g w' (stepHl m g.p) full):=fun W hi=>step_any g m full W hi hg hp
 have g1:=stepHl_good hg g.p
 have pb:=place_bd hg g.p
 have c2:Hid (∀ W,In g W (stepHl m g.p) full->Calls prog 220 #[.pointer (some ⟨g.K,0,none⟩),.int .i64 (placeOf m g.p)] W fun e w'=>e=.returned (.int .i64 (rd m (placeOf m g.p)))/\Below W.heap.size W w'):=fun W hi=>by
  have h:=read_any g (stepHl m g.p) full (placeOf m g.p) W hi g1.rt
  rw [show placeOf m g.p%65536=placeOf m g.p by omega,rd_stepHl] at h
  exact h
 generalize rd m (placeOf m g.p)=q at *
 generalize stepHl m g.p=m1 at *
 generalize placeOf m g.p=v at *
 have q0:=h.k_cpu
 have HI:=zHd (h.below zRf.drew)
 clear h hg g1 hp pb
 go_enter func222,ntmps222
 go_wp2_with fail
 go_region_with (first|(go_at_call 166;refine Calls.mono (c1.out _ HI.out) ?_;rintro e w1 ⟨rfl,hi1⟩;have k1:=hi1.k_cpu;have H1:Hid (In g w1 m1 full):=hi1;clear hi1)|(go_at_call 220;refine Calls.mono (c2.out _ (by assumption:Hid (In g _ m1 full)).out) ?_;rintro e w2 ⟨rfl,hb2⟩;have hi2:=(by assumption:Hid (In g _ m1 full)).out.below hb2;have k3:=hi2.k_cpu;have k4:=hi2.c_ra;have k5:=hi2.fro 0;have H2:Hid (In g (w2.setCell ⟨g.B,0,none⟩ (.int .i64 q)) { m1 with ra:=q } full):=hi2.s_ra q;clear hi2 hb2))
 all_goals go_wp2
 all_goals go_end0
 all_goals exact ⟨rfl,(by assumption:Hid (In g _ { m1 with ra:=q } full)).out⟩
end Go.Proofs.YtnjolmbdbgbmbaaGreatDoor.Stpy
