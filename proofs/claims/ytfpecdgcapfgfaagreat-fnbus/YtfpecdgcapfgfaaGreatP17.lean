import Derived.Test.YtfpecdgcapfgfaaGreatP16
import Derived.Deep.DeepCutAuto
set_option linter.all false
set_option maxRecDepth 20000
set_option maxHeartbeats 8000000
open Go.ChangeShapes Go.WideShapes Go.ChangeAt Go.RowKit
open Go.Proofs.Tryz
namespace Go.Proofs.YtfpecdgcapfgfaaGreat
namespace Stck
open Go.Deep
open Signed (inB sgn ret_int ret_bool)
open Reck ReckS ReckM ReckD TurnS
open Busw Busx Busy Stpp Stpq Stps Sta Stb
theorem z_eq {f:Int} (h0:0<=f) (h1:f<=255):decide (128<=f)=zB f:=by
 unfold zB
 by_cases h:128<=f
 ·rw [decide_eq_true h,decide_eq_true (by omega)]
 ·rw [decide_eq_false h,decide_eq_false (by omega)]
theorem odd_4 (g:SG) (m:M) (full:Bool) (w:World) (h:InS g w m full) (hg:Stpq.Good m) :
  Calls prog 93 #[.pointer (some ⟨g.X,0,none⟩),.int .i64 4] w fun e w'=>e=.returned (.tuple #[])/\InS g w' { m with ra:=(daaR m.ra m.rf).1,rf:=(daaR m.ra m.rf).2 } full:=by
 have hf:=hg.f
 have ha:=hg.a
 have cc:=fun w=>l4Carry_any m.rf w hf.1 hf.2
 have tc:(cy m.rf == 1)=cB m.rf:=by unfold cB;by_cases h:cy m.rf=1 <;> simp [h]
 have tz:=z_eq hf.1 hf.2
 have cd:=fun w=>specDaa_any m.ra m.rf w
 rw [show daa m.ra m.rf=daaR m.ra m.rf by unfold daa;rw [show inB m.ra 0 255=true from decide_eq_true ha,show inB m.rf 0 255=true from decide_eq_true hf];rfl] at cd
 generalize (daaR m.ra m.rf).1=v1 at *
 generalize (daaR m.ra m.rf).2=v2 at *
 have HF:Hid (∀ o,InS g (((w.setCell ⟨g.X,0,none⟩ (.int .i64 v1)).setCell ⟨g.X,1,none⟩ (.int .i64 v2)).alloc o) { m with ra:=v1,rf:=v2 } full):=fun o=>((h.s_ra v1).s_rf v2).below (zRf.alloc (Nat.le_refl _) o)
 have q_ra:=h.cell 0 _ rfl
 have q_rf:=h.cell 1 _ rfl
 have q_rB:=h.cell 2 _ rfl
 have q_rC:=h.cell 3 _ rfl
 have q_rD:=h.cell 4 _ rfl
 have q_rE:=h.cell 5 _ rfl
 have q_rH:=h.cell 6 _ rfl
 have q_rL:=h.cell 7 _ rfl
 have q_sp:=h.cell 8 _ rfl
 have q_pc:=h.cell 9 _ rfl
 have q_ime:=h.cell 10 _ rfl
 have q_hal:=h.cell 11 _ rfl
 have f0:=h.fro 0
 have f1:=h.fro 1
 have hlt:=h.lt
 generalize zB m.rf=zb at *
 generalize cB m.rf=cb at *
 clear h hg hf ha
 go_enter func93,ntmps93
 go_wp2_with first|(go_at_call 84;refine (cc _).mono ?_;rintro e w' ⟨rfl,hw'⟩;have hw':=hw'.symm;subst hw')|(go_at_call 83;refine (l4Flags_any _ _ _ _ _).mono ?_;rintro e w' ⟨rfl,hw'⟩;have hw':=hw'.symm;subst hw')|(go_at_call 108;refine (cd _).mono ?_;rintro e w' ⟨rfl,hw'⟩;have hw':=hw'.symm;subst hw')
 go_end0
 exact ⟨rfl,HF.out _⟩
theorem odd_5 (g:SG) (m:M) (full:Bool) (w:World) (h:InS g w m full) (hg:Stpq.Good m) :
  Calls prog 93 #[.pointer (some ⟨g.X,0,none⟩),.int .i64 5] w fun e w'=>e=.returned (.tuple #[])/\InS g w' { m with ra:=255-m.ra,rf:=fl (zB m.rf) true true (cB m.rf) } full:=by
 have hf:=hg.f
 have ha:=hg.a
 have cc:=fun w=>l4Carry_any m.rf w hf.1 hf.2
 have tc:(cy m.rf == 1)=cB m.rf:=by unfold cB;by_cases h:cy m.rf=1 <;> simp [h]
 have tz:=z_eq hf.1 hf.2
 have d1:IntKind.i64.wrap (255-m.ra)=255-m.ra:=by rw [IntKind.wrap_i64];omega
 generalize zB m.rf=zb at *
 generalize cB m.rf=cb at *
 have HF:Hid (∀ o,InS g (((w.setCell ⟨g.X,0,none⟩ (.int .i64 (255-m.ra))).setCell ⟨g.X,1,none⟩ (.int .i64 (fl zb true true cb))).alloc o) { m with ra:=255-m.ra,rf:=fl zb true true cb } full):=fun o=>((h.s_ra (255-m.ra)).s_rf (fl zb true true cb)).below (zRf.alloc (Nat.le_refl _) o)
 have q_ra:=h.cell 0 _ rfl
 have q_rf:=h.cell 1 _ rfl
 have q_rB:=h.cell 2 _ rfl
 have q_rC:=h.cell 3 _ rfl
 have q_rD:=h.cell 4 _ rfl
 have q_rE:=h.cell 5 _ rfl
 have q_rH:=h.cell 6 _ rfl
 have q_rL:=h.cell 7 _ rfl
 have q_sp:=h.cell 8 _ rfl
 have q_pc:=h.cell 9 _ rfl
 have q_ime:=h.cell 10 _ rfl
 have q_hal:=h.cell 11 _ rfl
 have f0:=h.fro 0
 have f1:=h.fro 1
 have hlt:=h.lt
 clear h hg hf ha
 go_enter func93,ntmps93
 go_wp2_with first|(go_at_call 84;refine (cc _).mono ?_;rintro e w' ⟨rfl,hw'⟩;have hw':=hw'.symm;subst hw')|(go_at_call 83;refine (l4Flags_any _ _ _ _ _).mono ?_;rintro e w' ⟨rfl,hw'⟩;have hw':=hw'.symm;subst hw')
 go_end0
 exact ⟨rfl,HF.out _⟩
theorem odd_6 (g:SG) (m:M) (full:Bool) (w:World) (h:InS g w m full) (hg:Stpq.Good m) :
  Calls prog 93 #[.pointer (some ⟨g.X,0,none⟩),.int .i64 6] w fun e w'=>e=.returned (.tuple #[])/\InS g w' { m with rf:=fl (zB m.rf) false false true } full:=by
 have hf:=hg.f
 have ha:=hg.a
 have cc:=fun w=>l4Carry_any m.rf w hf.1 hf.2
 have tc:(cy m.rf == 1)=cB m.rf:=by unfold cB;by_cases h:cy m.rf=1 <;> simp [h]
 have tz:=z_eq hf.1 hf.2
 generalize zB m.rf=zb at *
 generalize cB m.rf=cb at *
 have HF:Hid (∀ o,InS g ((w.setCell ⟨g.X,1,none⟩ (.int .i64 (fl zb false false true))).alloc o) { m with rf:=fl zb false false true } full):=fun o=>(h.s_rf (fl zb false false true)).below (zRf.alloc (Nat.le_refl _) o)
 have q_ra:=h.cell 0 _ rfl
 have q_rf:=h.cell 1 _ rfl
 have q_rB:=h.cell 2 _ rfl
 have q_rC:=h.cell 3 _ rfl
 have q_rD:=h.cell 4 _ rfl
 have q_rE:=h.cell 5 _ rfl
 have q_rH:=h.cell 6 _ rfl
 have q_rL:=h.cell 7 _ rfl
 have q_sp:=h.cell 8 _ rfl
 have q_pc:=h.cell 9 _ rfl
 have q_ime:=h.cell 10 _ rfl
 have q_hal:=h.cell 11 _ rfl
 have f0:=h.fro 0
 have f1:=h.fro 1
 have hlt:=h.lt
 clear h hg hf ha
 go_enter func93,ntmps93
 go_wp2_with first|(go_at_call 84;refine (cc _).mono ?_;rintro e w' ⟨rfl,hw'⟩;have hw':=hw'.symm;subst hw')|(go_at_call 83;refine (l4Flags_any _ _ _ _ _).mono ?_;rintro e w' ⟨rfl,hw'⟩;have hw':=hw'.symm;subst hw')
 go_end0
 exact ⟨rfl,HF.out _⟩
theorem odd_7 (g:SG) (m:M) (full:Bool) (w:World) (h:InS g w m full) (hg:Stpq.Good m) :
  Calls prog 93 #[.pointer (some ⟨g.X,0,none⟩),.int .i64 7] w fun e w'=>e=.returned (.tuple #[])/\InS g w' { m with rf:=fl (zB m.rf) false false (!cB m.rf) } full:=by
 have hf:=hg.f
 have ha:=hg.a
 have cc:=fun w=>l4Carry_any m.rf w hf.1 hf.2
 have tc:(cy m.rf == 1)=cB m.rf:=by unfold cB;by_cases h:cy m.rf=1 <;> simp [h]
 have tz:=z_eq hf.1 hf.2
 generalize zB m.rf=zb at *
 generalize cB m.rf=cb at *
 have HF:Hid (∀ o,InS g ((w.setCell ⟨g.X,1,none⟩ (.int .i64 (fl zb false false (!cb)))).alloc o) { m with rf:=fl zb false false (!cb) } full):=fun o=>(h.s_rf (fl zb false false (!cb))).below (zRf.alloc (Nat.le_refl _) o)
 have q_ra:=h.cell 0 _ rfl
 have q_rf:=h.cell 1 _ rfl
 have q_rB:=h.cell 2 _ rfl
 have q_rC:=h.cell 3 _ rfl
 have q_rD:=h.cell 4 _ rfl
 have q_rE:=h.cell 5 _ rfl
 have q_rH:=h.cell 6 _ rfl
 have q_rL:=h.cell 7 _ rfl
 have q_sp:=h.cell 8 _ rfl
 have q_pc:=h.cell 9 _ rfl
 have q_ime:=h.cell 10 _ rfl
 have q_hal:=h.cell 11 _ rfl
 have f0:=h.fro 0
 have f1:=h.fro 1
 have hlt:=h.lt
 clear h hg hf ha
 go_enter func93,ntmps93
 go_wp2_with first|(go_at_call 84;refine (cc _).mono ?_;rintro e w' ⟨rfl,hw'⟩;have hw':=hw'.symm;subst hw')|(go_at_call 83;refine (l4Flags_any _ _ _ _ _).mono ?_;rintro e w' ⟨rfl,hw'⟩;have hw':=hw'.symm;subst hw')
 go_end0
 exact ⟨rfl,HF.out _⟩
theorem odd_t (g:SG) (m:M) (full:Bool) (y:Int) (y0:0<=y) (y1:y<=3) (w:World) (h:InS g w m full) (hg:Stpq.Good m) :
  Calls prog 93 #[.pointer (some ⟨g.X,0,none⟩),.int .i64 y] w fun e w'=>e=.returned (.tuple #[])/\InS g w' { m with ra:=(trnR y m.ra m.rf).1,rf:=fl false false false (cB (trnR y m.ra m.rf).2) } full:=by
 have hf:=hg.f
 have ha:=hg.a
 have cc:=fun w=>l4Carry_any m.rf w hf.1 hf.2
 have tc:(cy m.rf == 1)=cB m.rf:=by unfold cB;by_cases h:cy m.rf=1 <;> simp [h]
 have tz:=z_eq hf.1 hf.2
 have ct:=fun w=>l4Turned_any y m.ra m.rf w y0 (by omega) ha.1 ha.2 hf.1 hf.2
 have bt:=trn_bd (op:=y) (f:=m.rf) ha.1 ha.2
 generalize (trnR y m.ra m.rf).1=v1 at *
 generalize (trnR y m.ra m.rf).2=v2 at *
 have cc2:=fun w=>l4Carry_any v2 w bt.2.2.1 bt.2.2.2.1
 have tc2:(cy v2 == 1)=cB v2:=by unfold cB;by_cases h:cy v2=1 <;> simp [h]
 generalize cB v2=cb2 at *
 have e4:¬ y=4:=by omega
 have e5:¬ y=5:=by omega
 have e6:¬ y=6:=by omega
 have e7:¬ y=7:=by omega
 clear bt
 have HF:Hid (∀ o,InS g (((w.setCell ⟨g.X,0,none⟩ (.int .i64 (v1))).setCell ⟨g.X,1,none⟩ (.int .i64 (fl false false false cb2))).alloc o) { m with ra:=v1,rf:=fl false false false cb2 } full):=fun o=>((h.s_ra (v1)).s_rf (fl false false false cb2)).below (zRf.alloc (Nat.le_refl _) o)
 have q_ra:=h.cell 0 _ rfl
 have q_rf:=h.cell 1 _ rfl
 have q_rB:=h.cell 2 _ rfl
 have q_rC:=h.cell 3 _ rfl
 have q_rD:=h.cell 4 _ rfl
 have q_rE:=h.cell 5 _ rfl
 have q_rH:=h.cell 6 _ rfl
 have q_rL:=h.cell 7 _ rfl
 have q_sp:=h.cell 8 _ rfl
 have q_pc:=h.cell 9 _ rfl
 have q_ime:=h.cell 10 _ rfl
 have q_hal:=h.cell 11 _ rfl
 have f0:=h.fro 0
 have f1:=h.fro 1
 have hlt:=h.lt
 generalize zB m.rf=zb at *
 generalize cB m.rf=cb at *
 clear h hg hf ha
 go_enter func93,ntmps93
 go_wp2_with first|(go_at_call 84;refine (cc _).mono ?_;rintro e w' ⟨rfl,hw'⟩;have hw':=hw'.symm;subst hw')|(go_at_call 83;refine (l4Flags_any _ _ _ _ _).mono ?_;rintro e w' ⟨rfl,hw'⟩;have hw':=hw'.symm;subst hw')|(go_at_call 82;refine (ct _).mono ?_;rintro e w' ⟨rfl,hw'⟩;have hw':=hw'.symm;subst hw')|(go_at_call 84;refine (cc2 _).mono ?_;rintro e w' ⟨rfl,hw'⟩;have hw':=hw'.symm;subst hw')
 go_end0
 exact ⟨rfl,HF.out _⟩
theorem oddS (g:SG) (m:M) (full:Bool) (y:Int) (w:World) (h:InS g w m full) (hg:Stpq.Good m) (y0:0<=y) (y1:y<=7) :
  Calls prog 93 #[.pointer (some ⟨g.X,0,none⟩),.int .i64 y] w fun e w'=>e=.returned (.tuple #[])/\InS g w' (oddE y ⟨m,full⟩).m (oddE y ⟨m,full⟩).full:=by
 unfold oddE
 by_cases h4:y=4
 ·subst h4;exact odd_4 g m full w h hg
 rw [if_neg h4]
 by_cases h5:y=5
 ·subst h5;exact odd_5 g m full w h hg
 rw [if_neg h5]
 by_cases h6:y=6
 ·subst h6;exact odd_6 g m full w h hg
 rw [if_neg h6]
 by_cases h7:y=7
 ·subst h7;exact odd_7 g m full w h hg
 rw [if_neg h7]
 exact odd_t g m full y y0 (by omega) w h hg
theorem cb_0 (g:SG) (m:M) (full:Bool) (c imm y z:Int) (c0:0<=c) (hx:c / 64=0) (hy:c / 8%8=y) (hz:c%8=z) (y0:0<=y) (y1:y<=7) (z0:0<=z) (z1:z<=7) (w:World) (h:InS g w m full) (hg:Stpq.Good m) :
  Calls prog 67 #[.pointer (some ⟨g.X,0,none⟩),.agg #[.int .i64 c,.bool true,.int .i64 imm]] w fun e w'=>e=.returned (.tuple #[])/\InS g w' (F (put ⟨m,full⟩ z (trnR y (Stpp.get m z) m.rf).1) (trnR y (Stpp.get m z) m.rf).2).m (F (put ⟨m,full⟩ z (trnR y (Stpp.get m z) m.rf).1) (trnR y (Stpp.get m z) m.rf).2).full:=by
 have gb:=get_bd hg z
 have HR:Hid (∀ W,Below w.heap.size w W->Calls prog 70 #[.pointer (some ⟨g.X,0,none⟩),.int .i64 z] W fun e w'=>e=.returned (.int .i64 (Stpp.get m z))/\Below W.heap.size W w'):=fun W hb=>regS g m full z W (h.below hb) hg z0 z1
 have HI:Hid (∀ W,Below w.heap.size w W->InS g W m full):=fun W hb=>h.below hb
 have t1:c.tdiv 8=c / 8:=Int.tdiv_eq_ediv_of_nonneg c0
 have t2:(c / 8).tmod 8=y:=by rw [Int.tmod_eq_emod_of_nonneg (by omega)];exact hy
 have t3:c.tmod 8=z:=by rw [Int.tmod_eq_emod_of_nonneg c0];exact hz
 have t4:c.tdiv 64=0:=by rw [Int.tdiv_eq_ediv_of_nonneg c0];exact hx
 have t5:IntKind.i64.wrap (c / 8)=c / 8:=by rw [IntKind.wrap_i64];omega
 have t6:IntKind.u64.wrap y=y:=by rw [IntKind.wrap_u64];omega
 have t7:IntKind.i64.wrap (2 ^ y.toNat)=bitV y:=by
  have hn:y=0 \/ y=1 \/ y=2 \/ y=3 \/ y=4 \/ y=5 \/ y=6 \/ y=7:=by omega
  rcases hn with rfl|rfl|rfl|rfl|rfl|rfl|rfl|rfl
  all_goals decide +kernel
 have hf:=hg.f
 have ct:=fun w=>l4Turned_any y (Stpp.get m z) m.rf w y0 y1 gb.1 gb.2 hf.1 hf.2
 have bd:=trn_bd (op:=y) (f:=m.rf) gb.1 gb.2
 generalize (trnR y (Stpp.get m z) m.rf).1=v1 at *
 generalize (trnR y (Stpp.get m z) m.rf).2=v2 at *
 have c3:Hid (∀ W,InS g W m full->Calls prog 69 #[.pointer (some ⟨g.X,0,none⟩),.int .i64 z,.int .i64 v1] W fun e w'=>e=.returned (.tuple #[])/\InS g w' (put ⟨m,full⟩ z v1).m (put ⟨m,full⟩ z v1).full):=fun W hi=>setS g m full _ _ W hi hg z0 z1 bd.1 bd.2.1
 generalize put ⟨m,full⟩ z v1=t at *
 clear bd hf
 clear h hg gb hx hy hz
 generalize Stpp.get m z=v at *
 generalize bitV y=bt at *
 go_enter func67,ntmps67
 go_wp2_with fail
 refine Calls.mono (HR.out _ (by repeat (with_reducible first|exact zRf|refine zGr ?_ _|refine below_drewN ?_ _|refine Below.drew ?_))) ?_
 rintro e w1 ⟨rfl,hb1⟩
 have k0:=HolI.box hb1 0 _ rfl
 have H1:Hid (InS g w1 m full):=HI.out _ (HolI.unbox hb1)
 clear hb1 HR HI
 have q1:=H1.out.cell 1 _ rfl
 go_wp2_with (go_at_call 82;refine (ct _).mono ?_;rintro e w' ⟨rfl,hw'⟩;have hw':=hw'.symm;subst hw')
 refine Calls.mono (c3.out _ H1.out) ?_
 rintro e w2 ⟨rfl,hi2⟩
 have H2:Hid (InS g w2 t.m t.full):=hi2
 clear hi2 H1 c3 q1
 have q_rf:=H2.out.cell 1 _ rfl
 have f_rf:=H2.out.fro 1
 have HF:Hid (InS g (w2.setCell ⟨g.X,1,none⟩ (.int .i64 v2)) { t.m with rf:=v2 } t.full):=H2.out.s_rf v2
 clear H2
 go_wp2
 go_end0
 exact ⟨rfl,HF.out⟩
theorem cb_1 (g:SG) (m:M) (full:Bool) (c imm y z:Int) (c0:0<=c) (hx:c / 64=1) (hy:c / 8%8=y) (hz:c%8=z) (y0:0<=y) (y1:y<=7) (z0:0<=z) (z1:z<=7) (w:World) (h:InS g w m full) (hg:Stpq.Good m) :
  Calls prog 67 #[.pointer (some ⟨g.X,0,none⟩),.agg #[.int .i64 c,.bool true,.int .i64 imm]] w fun e w'=>e=.returned (.tuple #[])/\InS g w' (F ⟨m,full⟩ (fl (decide (bits .and .i64 (Stpp.get m z) (bitV y)=0)) false true (cB m.rf))).m (F ⟨m,full⟩ (fl (decide (bits .and .i64 (Stpp.get m z) (bitV y)=0)) false true (cB m.rf))).full:=by
 have gb:=get_bd hg z
 have HR:Hid (∀ W,Below w.heap.size w W->Calls prog 70 #[.pointer (some ⟨g.X,0,none⟩),.int .i64 z] W fun e w'=>e=.returned (.int .i64 (Stpp.get m z))/\Below W.heap.size W w'):=fun W hb=>regS g m full z W (h.below hb) hg z0 z1
 have HI:Hid (∀ W,Below w.heap.size w W->InS g W m full):=fun W hb=>h.below hb
 have t1:c.tdiv 8=c / 8:=Int.tdiv_eq_ediv_of_nonneg c0
 have t2:(c / 8).tmod 8=y:=by rw [Int.tmod_eq_emod_of_nonneg (by omega)];exact hy
 have t3:c.tmod 8=z:=by rw [Int.tmod_eq_emod_of_nonneg c0];exact hz
 have t4:c.tdiv 64=1:=by rw [Int.tdiv_eq_ediv_of_nonneg c0];exact hx
 have t5:IntKind.i64.wrap (c / 8)=c / 8:=by rw [IntKind.wrap_i64];omega
 have t6:IntKind.u64.wrap y=y:=by rw [IntKind.wrap_u64];omega
 have t7:IntKind.i64.wrap (2 ^ y.toNat)=bitV y:=by
  have hn:y=0 \/ y=1 \/ y=2 \/ y=3 \/ y=4 \/ y=5 \/ y=6 \/ y=7:=by omega
  rcases hn with rfl|rfl|rfl|rfl|rfl|rfl|rfl|rfl
  all_goals decide +kernel
 have hf:=hg.f
 have cc:=fun w=>l4Carry_any m.rf w hf.1 hf.2
 have tc:(cy m.rf == 1)=cB m.rf:=by unfold cB;by_cases h:cy m.rf=1 <;> simp [h]
 generalize cB m.rf=cb at *
 obtain ⟨vb,hvb⟩ : ∃ x,bits .and .i64 (Stpp.get m z) (bitV y)=x:=⟨_,rfl⟩
 rw [hvb]
 have hzz:(vb == 0)=decide (vb=0):=by by_cases h:vb=0 <;> simp [h]
 generalize decide (vb=0)=db at *
 clear hf
 clear h hg gb hx hy hz
 generalize Stpp.get m z=v at *
 generalize bitV y=bt at *
 go_enter func67,ntmps67
 go_wp2_with fail
 refine Calls.mono (HR.out _ (by repeat (with_reducible first|exact zRf|refine zGr ?_ _|refine below_drewN ?_ _|refine Below.drew ?_))) ?_
 rintro e w1 ⟨rfl,hb1⟩
 have k0:=HolI.box hb1 0 _ rfl
 have H1:Hid (InS g w1 m full):=HI.out _ (HolI.unbox hb1)
 clear hb1 HR HI
 have q1:=H1.out.cell 1 _ rfl
 have q_rf:=H1.out.cell 1 _ rfl
 have f_rf:=H1.out.fro 1
 have HF:Hid (InS g (w1.setCell ⟨g.X,1,none⟩ (.int .i64 (fl db false true cb))) { m with rf:=(fl db false true cb) } full):=H1.out.s_rf (fl db false true cb)
 clear H1
 go_wp2_with first|(go_at_call 84;refine (cc _).mono ?_;rintro e w' ⟨rfl,hw'⟩;have hw':=hw'.symm;subst hw')|(go_at_call 83;refine (l4Flags_any _ _ _ _ _).mono ?_;rintro e w' ⟨rfl,hw'⟩;have hw':=hw'.symm;subst hw')
 go_end0
 exact ⟨rfl,HF.out⟩
theorem cb_2 (g:SG) (m:M) (full:Bool) (c imm y z:Int) (c0:0<=c) (hx:c / 64=2) (hy:c / 8%8=y) (hz:c%8=z) (y0:0<=y) (y1:y<=7) (z0:0<=z) (z1:z<=7) (w:World) (h:InS g w m full) (hg:Stpq.Good m) :
  Calls prog 67 #[.pointer (some ⟨g.X,0,none⟩),.agg #[.int .i64 c,.bool true,.int .i64 imm]] w fun e w'=>e=.returned (.tuple #[])/\InS g w' (put ⟨m,full⟩ z (bits .andNot .i64 (Stpp.get m z) (bitV y))).m (put ⟨m,full⟩ z (bits .andNot .i64 (Stpp.get m z) (bitV y))).full:=by
 have gb:=get_bd hg z
 have HR:Hid (∀ W,Below w.heap.size w W->Calls prog 70 #[.pointer (some ⟨g.X,0,none⟩),.int .i64 z] W fun e w'=>e=.returned (.int .i64 (Stpp.get m z))/\Below W.heap.size W w'):=fun W hb=>regS g m full z W (h.below hb) hg z0 z1
 have HI:Hid (∀ W,Below w.heap.size w W->InS g W m full):=fun W hb=>h.below hb
 have t1:c.tdiv 8=c / 8:=Int.tdiv_eq_ediv_of_nonneg c0
 have t2:(c / 8).tmod 8=y:=by rw [Int.tmod_eq_emod_of_nonneg (by omega)];exact hy
 have t3:c.tmod 8=z:=by rw [Int.tmod_eq_emod_of_nonneg c0];exact hz
 have t4:c.tdiv 64=2:=by rw [Int.tdiv_eq_ediv_of_nonneg c0];exact hx
 have t5:IntKind.i64.wrap (c / 8)=c / 8:=by rw [IntKind.wrap_i64];omega
 have t6:IntKind.u64.wrap y=y:=by rw [IntKind.wrap_u64];omega
 have t7:IntKind.i64.wrap (2 ^ y.toNat)=bitV y:=by
  have hn:y=0 \/ y=1 \/ y=2 \/ y=3 \/ y=4 \/ y=5 \/ y=6 \/ y=7:=by omega
  rcases hn with rfl|rfl|rfl|rfl|rfl|rfl|rfl|rfl
  all_goals decide +kernel
 have bd:=andNot_bd gb.1 gb.2 y
 have c3:Hid (∀ W,InS g W m full->Calls prog 69 #[.pointer (some ⟨g.X,0,none⟩),.int .i64 z,.int .i64 (bits .andNot .i64 (Stpp.get m z) (bitV y))] W fun e w'=>e=.returned (.tuple #[])/\InS g w' (put ⟨m,full⟩ z (bits .andNot .i64 (Stpp.get m z) (bitV y))).m (put ⟨m,full⟩ z (bits .andNot .i64 (Stpp.get m z) (bitV y))).full):=fun W hi=>setS g m full _ _ W hi hg z0 z1 bd.1 bd.2
 generalize put ⟨m,full⟩ z (bits .andNot .i64 (Stpp.get m z) (bitV y))=t at *
 clear bd
 clear h hg gb hx hy hz
 generalize Stpp.get m z=v at *
 generalize bitV y=bt at *
 go_enter func67,ntmps67
 go_wp2_with fail
 refine Calls.mono (HR.out _ (by repeat (with_reducible first|exact zRf|refine zGr ?_ _|refine below_drewN ?_ _|refine Below.drew ?_))) ?_
 rintro e w1 ⟨rfl,hb1⟩
 have k0:=HolI.box hb1 0 _ rfl
 have H1:Hid (InS g w1 m full):=HI.out _ (HolI.unbox hb1)
 clear hb1 HR HI
 go_wp2_with fail
 refine Calls.mono (c3.out _ H1.out) ?_
 rintro e w2 ⟨rfl,hi2⟩
 have H2:Hid (InS g w2 t.m t.full):=hi2
 clear hi2 H1 c3
 go_wp2
 go_end0
 exact ⟨rfl,H2.out⟩
theorem cb_3 (g:SG) (m:M) (full:Bool) (c imm y z:Int) (c0:0<=c) (hx:c / 64=3) (hy:c / 8%8=y) (hz:c%8=z) (y0:0<=y) (y1:y<=7) (z0:0<=z) (z1:z<=7) (w:World) (h:InS g w m full) (hg:Stpq.Good m) :
  Calls prog 67 #[.pointer (some ⟨g.X,0,none⟩),.agg #[.int .i64 c,.bool true,.int .i64 imm]] w fun e w'=>e=.returned (.tuple #[])/\InS g w' (put ⟨m,full⟩ z (bits .or .i64 (Stpp.get m z) (bitV y))).m (put ⟨m,full⟩ z (bits .or .i64 (Stpp.get m z) (bitV y))).full:=by
 have gb:=get_bd hg z
 have HR:Hid (∀ W,Below w.heap.size w W->Calls prog 70 #[.pointer (some ⟨g.X,0,none⟩),.int .i64 z] W fun e w'=>e=.returned (.int .i64 (Stpp.get m z))/\Below W.heap.size W w'):=fun W hb=>regS g m full z W (h.below hb) hg z0 z1
 have HI:Hid (∀ W,Below w.heap.size w W->InS g W m full):=fun W hb=>h.below hb
 have t1:c.tdiv 8=c / 8:=Int.tdiv_eq_ediv_of_nonneg c0
 have t2:(c / 8).tmod 8=y:=by rw [Int.tmod_eq_emod_of_nonneg (by omega)];exact hy
 have t3:c.tmod 8=z:=by rw [Int.tmod_eq_emod_of_nonneg c0];exact hz
 have t4:c.tdiv 64=3:=by rw [Int.tdiv_eq_ediv_of_nonneg c0];exact hx
 have t5:IntKind.i64.wrap (c / 8)=c / 8:=by rw [IntKind.wrap_i64];omega
 have t6:IntKind.u64.wrap y=y:=by rw [IntKind.wrap_u64];omega
 have t7:IntKind.i64.wrap (2 ^ y.toNat)=bitV y:=by
  have hn:y=0 \/ y=1 \/ y=2 \/ y=3 \/ y=4 \/ y=5 \/ y=6 \/ y=7:=by omega
  rcases hn with rfl|rfl|rfl|rfl|rfl|rfl|rfl|rfl
  all_goals decide +kernel
 have bd:=orBit_bd gb.1 gb.2 y
 have c3:Hid (∀ W,InS g W m full->Calls prog 69 #[.pointer (some ⟨g.X,0,none⟩),.int .i64 z,.int .i64 (bits .or .i64 (Stpp.get m z) (bitV y))] W fun e w'=>e=.returned (.tuple #[])/\InS g w' (put ⟨m,full⟩ z (bits .or .i64 (Stpp.get m z) (bitV y))).m (put ⟨m,full⟩ z (bits .or .i64 (Stpp.get m z) (bitV y))).full):=fun W hi=>setS g m full _ _ W hi hg z0 z1 bd.1 bd.2
 generalize put ⟨m,full⟩ z (bits .or .i64 (Stpp.get m z) (bitV y))=t at *
 clear bd
 clear h hg gb hx hy hz
 generalize Stpp.get m z=v at *
 generalize bitV y=bt at *
 go_enter func67,ntmps67
 go_wp2_with fail
 refine Calls.mono (HR.out _ (by repeat (with_reducible first|exact zRf|refine zGr ?_ _|refine below_drewN ?_ _|refine Below.drew ?_))) ?_
 rintro e w1 ⟨rfl,hb1⟩
 have k0:=HolI.box hb1 0 _ rfl
 have H1:Hid (InS g w1 m full):=HI.out _ (HolI.unbox hb1)
 clear hb1 HR HI
 go_wp2_with fail
 refine Calls.mono (c3.out _ H1.out) ?_
 rintro e w2 ⟨rfl,hi2⟩
 have H2:Hid (InS g w2 t.m t.full):=hi2
 clear hi2 H1 c3
 go_wp2
 go_end0
 exact ⟨rfl,H2.out⟩
theorem cbS (g:SG) (m:M) (full:Bool) (c imm:Int) (c0:0<=c) (c1:c<=255) (w:World) (h:InS g w m full) (hg:Stpq.Good m) :
  Calls prog 67 #[.pointer (some ⟨g.X,0,none⟩),.agg #[.int .i64 c,.bool true,.int .i64 imm]] w fun e w'=>e=.returned (.tuple #[])/\InS g w' (cbE c ⟨m,full⟩).m (cbE c ⟨m,full⟩).full:=by
 unfold cbE
 by_cases h0:c / 64=0
 ·rw [if_pos h0];exact cb_0 g m full c imm _ _ c0 h0 rfl rfl (by omega) (by omega) (by omega) (by omega) w h hg
 rw [if_neg h0]
 by_cases h1:c / 64=1
 ·rw [if_pos h1];exact cb_1 g m full c imm _ _ c0 h1 rfl rfl (by omega) (by omega) (by omega) (by omega) w h hg
 rw [if_neg h1]
 by_cases h2:c / 64=2
 ·rw [if_pos h2];exact cb_2 g m full c imm _ _ c0 h2 rfl rfl (by omega) (by omega) (by omega) (by omega) w h hg
 rw [if_neg h2]
 exact cb_3 g m full c imm _ _ c0 (by omega) rfl rfl (by omega) (by omega) (by omega) (by omega) w h hg
theorem stq {g:SG} {w:World} {m:M} {full:Bool} {c imm:Int} (h:InS g w m full):∃ u,u=w.alloc (.cells #[.int .i64 c,.bool false,.int .i64 imm] 76)/\InS g u m full/\Hid (InS g u m full)/\u.cell? ⟨w.heap.size,0,none⟩=some (.int .i64 c)/\u.cell? ⟨w.heap.size,2,none⟩=some (.int .i64 imm)/\Hid (w.heap.size<u.heap.size/\¬ w.heap.size=g.X):=by
 have hI:=h.below (zAl w (.cells #[.int .i64 c,.bool false,.int .i64 imm] 76))
 exact ⟨_,rfl,hI,hI,by rw [World.cell?_alloc_new];rfl,by rw [World.cell?_alloc_new];rfl,by simp,by have:=h.lt;omega⟩
end Stck
namespace Stcz
open Go.Deep
open Signed (inB sgn ret_int ret_bool)
open Reck ReckS ReckM ReckD TurnS
open Busw Busx Busy Stpp Stpq Stps Sta Stb Stck
theorem inT {n lo hi:Int} (h:lo<=n/\n<=hi):inB n lo hi=true:=decide_eq_true h
theorem st8_in {v f:Int} {d:Bool} (h1:0<=v/\v<=255) (h3:0<=f/\f<=255):st8 v f d=st8R v f d:=by unfold st8;rw [inT h1,inT h3];rfl
theorem aw_in {a b f:Int} (h1:0<=a/\a<=65535) (h2:0<=b/\b<=65535) (h3:0<=f/\f<=255):aw a b f=awR a b f:=by unfold aw;rw [inT h1,inT h2,inT h3];rfl
theorem asg_in {a b:Int} (h1:0<=a/\a<=65535) (h2:0<=b/\b<=255):asg a b=asR a b:=by unfold asg;rw [inT h1,inT h2];rfl
theorem rebase {g:SG} {W:World} {m:M} {full:Bool} (h:InS g W m full):InS ⟨W,g.X⟩ W m full:=by
 obtain ⟨po,cap,h⟩:=h
 exact ⟨po,cap,h.box,h.sl,h.ne,⟨rfl,rfl,rfl,Nat.le_refl _,fun _ _ _=>rfl⟩⟩
theorem back {g:SG} {W W':World} {m m':M} {full full':Bool} (h:InS g W m full) (h2:InS ⟨W,g.X⟩ W' m' full'):InS g W' m' full'/\W.grownBy W' (some g.X):=by
 obtain ⟨po,cap,h⟩:=h
 obtain ⟨po',cap',h2⟩:=h2
 exact ⟨⟨po',cap',h2.box,h2.sl,h2.ne,grown_trans h.grown h2.grown⟩,h2.grown⟩
theorem both {g:SG} {f:FuncId} {args:Array Value} {W:World} {m m':M} {full full':Bool} {v:Value} (h:InS g W m full) (hc:∀ g':SG,g'.X=g.X->InS g' W m full->Calls prog f args W fun e w'=>e=.returned v/\InS g' w' m' full'):Calls prog f args W fun e w'=>e=.returned v/\InS g w' m' full'/\W.grownBy w' (some g.X) :=
 (hc ⟨W,g.X⟩ rfl (rebase h)).mono fun e w' h'=>⟨h'.1,(back h h'.2).1,(back h h'.2).2⟩
theorem kept_cell {w w':World} {X b i:Nat} {v:Value} (h:w.grownBy w' (some X)) (hb:b<w.heap.size) (hx:¬ b=X) (hv:w.cell? ⟨b,i,none⟩=some v):w'.cell? ⟨b,i,none⟩=some v :=
 (World.cell?_of_block (a:=⟨b,i,none⟩) (h.block b hb (fun e=>hx (Option.some.inj e)))).trans hv
end Stcz
namespace Stcp
open Go.Deep
open Signed (inB sgn ret_int ret_bool)
open Reck ReckS ReckM ReckD TurnS
open Busw Busx Busy Stpp Stpq Stps Sta Stb Stck Stcz
theorem low_2 (g:SG) (m:M) (full:Bool) (imm:Int) (i0:0<=imm) (i1:imm<=65535) (w:World) (h:InS g w m full) (hg:Stpq.Good m) :
  Calls prog 68 #[.pointer (some ⟨g.X,0,none⟩),.agg #[.int .i64 2,.bool false,.int .i64 imm]] w fun e w'=>e=.returned (.bool false)/\InS g w' (wr ⟨m,full⟩ (pr m 0) m.ra).m (wr ⟨m,full⟩ (pr m 0) m.ra).full:=by
 obtain ⟨u,hu,hI,HI,k0,k2,HLX⟩:=stq (c:=2) (imm:=imm) h
 have bd:=pr_bd hg 0
 have c1:Hid (∀ W,InS g W m full->Calls prog 91 #[.pointer (some ⟨g.X,0,none⟩),.int .i64 0,.bool false] W fun e w'=>e=.returned (.int .i64 (pr m 0))/\Below W.heap.size W w'):=fun W hi=>pairS g m full 0 W hi hg (by omega) (by omega)
 have c2:Hid (∀ W,InS g W m full->Calls prog 85 #[.pointer (some ⟨g.X,0,none⟩),.int .i64 (pr m 0),.int .i64 m.ra] W fun e w'=>e=.returned (.tuple #[])/\InS g w' (wr ⟨m,full⟩ (pr m 0) m.ra).m (wr ⟨m,full⟩ (pr m 0) m.ra).full):=fun W hi=>writeS g m full _ _ W hi hg.rt bd.1 hg.a.1 hg.a.2
 have g1:=wr_good (s:=⟨m,full⟩) hg (pr m 0) m.ra hg.a.1 hg.a.2
 generalize wr ⟨m,full⟩ (pr m 0) m.ra=t at *
 generalize pr m 0=x1 at *
 clear bd g1
 clear h hg hI i0 i1
 go_enter func68,ntmps68
 go_wp2_with fail
 rw [<- hu]
 clear hu k0 k2
 refine Calls.mono (c1.out _ HI.out) ?_
 rintro e w1 ⟨rfl,hb1⟩
 have H1:=zHd (HI.out.below hb1)
 clear hb1 HI c1
 have q0:=H1.out.cell 0 _ rfl
 go_wp2_with fail
 refine Calls.mono (c2.out _ H1.out) ?_
 rintro e w2 ⟨rfl,hi1⟩
 have H2:Hid (InS g w2 t.m t.full):=hi1
 clear hi1 H1 c2
 clear q0
 go_wp2
 go_ret
 exact ⟨rfl,H2.out⟩
theorem low_10 (g:SG) (m:M) (full:Bool) (imm:Int) (i0:0<=imm) (i1:imm<=65535) (w:World) (h:InS g w m full) (hg:Stpq.Good m) :
  Calls prog 68 #[.pointer (some ⟨g.X,0,none⟩),.agg #[.int .i64 10,.bool false,.int .i64 imm]] w fun e w'=>e=.returned (.bool false)/\InS g w' (⟨{ m with ra:=rd m (pr m 0) },full⟩ : S).m (⟨{ m with ra:=rd m (pr m 0) },full⟩ : S).full:=by
 obtain ⟨u,hu,hI,HI,k0,k2,HLX⟩:=stq (c:=10) (imm:=imm) h
 have bd:=pr_bd hg 0
 have c1:Hid (∀ W,InS g W m full->Calls prog 91 #[.pointer (some ⟨g.X,0,none⟩),.int .i64 0,.bool false] W fun e w'=>e=.returned (.int .i64 (pr m 0))/\Below W.heap.size W w'):=fun W hi=>pairS g m full 0 W hi hg (by omega) (by omega)
 have CR:Hid (∀ po cap W,Calls prog 29 #[.agg (cellsM m po cap),.int .i64 (pr m 0)] W fun e w'=>e=.returned (.int .i64 (rd m (pr m 0)))/\Below W.heap.size W w'):=fun po cap W=>l6Read_M m po cap _ W hg.rt bd.1
 have rb:=rd_bd m (pr m 0)
 generalize rd m (pr m 0)=rv at *
 generalize pr m 0=x1 at *
 clear bd rb
 clear h hg hI i0 i1
 go_enter func68,ntmps68
 go_wp2_with fail
 rw [<- hu]
 clear hu k0 k2
 refine Calls.mono (c1.out _ HI.out) ?_
 rintro e w1 ⟨rfl,hb1⟩
 have H1:=zHd (HI.out.below hb1)
 clear hb1 HI c1
 obtain ⟨po,cap,hA⟩:=H1.out
 have hl:=hA.load (W':=w1) rfl
 have CR2:=fun W=>CR.out po cap W
 generalize cellsM m po cap=cM at *
 clear hA CR
 go_upto_region 21 with fail
 refine wp_region_list ?_
 refine wpList_plain rfl (fun K hK=>?_)
 go_simp
 refine hK _ _ ?_
 clear hK
 refine wpList_plain rfl (fun K hK=>?_)
 go_simp
 refine hK _ _ ?_
 clear hK
 refine wpList_plain rfl (fun K hK=>?_)
 go_simp
 refine hK _ _ ?_
 clear hK
 refine wpList_plain rfl (fun K hK=>?_)
 go_simp
 refine hK _ _ ?_
 clear hK
 refine wpList_load_any rfl 30 _ rfl ⟨g.X,0,none⟩ rfl _ hl ?_
 go_wp2_with fail
 refine Calls.mono (CR2 _) ?_
 rintro e w2 ⟨rfl,hb2⟩
 have H2:=zHd (H1.out.below hb2)
 clear hb2 H1 CR2 hl
 have q_ra:=H2.out.cell 0 _ rfl
 have f_ra:=H2.out.fro 0
 have HF:Hid (InS g (w2.setCell ⟨g.X,0,none⟩ (.int .i64 rv)) { m with ra:=rv } full):=H2.out.s_ra rv
 clear H2
 go_wp2
 go_ret
 exact ⟨rfl,HF.out⟩
theorem low_18 (g:SG) (m:M) (full:Bool) (imm:Int) (i0:0<=imm) (i1:imm<=65535) (w:World) (h:InS g w m full) (hg:Stpq.Good m) :
  Calls prog 68 #[.pointer (some ⟨g.X,0,none⟩),.agg #[.int .i64 18,.bool false,.int .i64 imm]] w fun e w'=>e=.returned (.bool false)/\InS g w' (wr ⟨m,full⟩ (pr m 1) m.ra).m (wr ⟨m,full⟩ (pr m 1) m.ra).full:=by
 obtain ⟨u,hu,hI,HI,k0,k2,HLX⟩:=stq (c:=18) (imm:=imm) h
 have bd:=pr_bd hg 1
 have c1:Hid (∀ W,InS g W m full->Calls prog 91 #[.pointer (some ⟨g.X,0,none⟩),.int .i64 1,.bool false] W fun e w'=>e=.returned (.int .i64 (pr m 1))/\Below W.heap.size W w'):=fun W hi=>pairS g m full 1 W hi hg (by omega) (by omega)
 have c2:Hid (∀ W,InS g W m full->Calls prog 85 #[.pointer (some ⟨g.X,0,none⟩),.int .i64 (pr m 1),.int .i64 m.ra] W fun e w'=>e=.returned (.tuple #[])/\InS g w' (wr ⟨m,full⟩ (pr m 1) m.ra).m (wr ⟨m,full⟩ (pr m 1) m.ra).full):=fun W hi=>writeS g m full _ _ W hi hg.rt bd.1 hg.a.1 hg.a.2
 have g1:=wr_good (s:=⟨m,full⟩) hg (pr m 1) m.ra hg.a.1 hg.a.2
 generalize wr ⟨m,full⟩ (pr m 1) m.ra=t at *
 generalize pr m 1=x1 at *
 clear bd g1
 clear h hg hI i0 i1
 go_enter func68,ntmps68
 go_wp2_with fail
 rw [<- hu]
 clear hu k0 k2
 refine Calls.mono (c1.out _ HI.out) ?_
 rintro e w1 ⟨rfl,hb1⟩
 have H1:=zHd (HI.out.below hb1)
 clear hb1 HI c1
 have q0:=H1.out.cell 0 _ rfl
 go_wp2_with fail
 refine Calls.mono (c2.out _ H1.out) ?_
 rintro e w2 ⟨rfl,hi1⟩
 have H2:Hid (InS g w2 t.m t.full):=hi1
 clear hi1 H1 c2
 clear q0
 go_wp2
 go_ret
 exact ⟨rfl,H2.out⟩
theorem low_26 (g:SG) (m:M) (full:Bool) (imm:Int) (i0:0<=imm) (i1:imm<=65535) (w:World) (h:InS g w m full) (hg:Stpq.Good m) :
  Calls prog 68 #[.pointer (some ⟨g.X,0,none⟩),.agg #[.int .i64 26,.bool false,.int .i64 imm]] w fun e w'=>e=.returned (.bool false)/\InS g w' (⟨{ m with ra:=rd m (pr m 1) },full⟩ : S).m (⟨{ m with ra:=rd m (pr m 1) },full⟩ : S).full:=by
 obtain ⟨u,hu,hI,HI,k0,k2,HLX⟩:=stq (c:=26) (imm:=imm) h
 have bd:=pr_bd hg 1
 have c1:Hid (∀ W,InS g W m full->Calls prog 91 #[.pointer (some ⟨g.X,0,none⟩),.int .i64 1,.bool false] W fun e w'=>e=.returned (.int .i64 (pr m 1))/\Below W.heap.size W w'):=fun W hi=>pairS g m full 1 W hi hg (by omega) (by omega)
 have CR:Hid (∀ po cap W,Calls prog 29 #[.agg (cellsM m po cap),.int .i64 (pr m 1)] W fun e w'=>e=.returned (.int .i64 (rd m (pr m 1)))/\Below W.heap.size W w'):=fun po cap W=>l6Read_M m po cap _ W hg.rt bd.1
 have rb:=rd_bd m (pr m 1)
 generalize rd m (pr m 1)=rv at *
 generalize pr m 1=x1 at *
 clear bd rb
 clear h hg hI i0 i1
 go_enter func68,ntmps68
 go_wp2_with fail
 rw [<- hu]
 clear hu k0 k2
 refine Calls.mono (c1.out _ HI.out) ?_
 rintro e w1 ⟨rfl,hb1⟩
 have H1:=zHd (HI.out.below hb1)
 clear hb1 HI c1
 obtain ⟨po,cap,hA⟩:=H1.out
 have hl:=hA.load (W':=w1) rfl
 have CR2:=fun W=>CR.out po cap W
 generalize cellsM m po cap=cM at *
 clear hA CR
 go_upto_region 21 with fail
 refine wp_region_list ?_
 refine wpList_plain rfl (fun K hK=>?_)
 go_simp
 refine hK _ _ ?_
 clear hK
 refine wpList_plain rfl (fun K hK=>?_)
 go_simp
 refine hK _ _ ?_
 clear hK
 refine wpList_plain rfl (fun K hK=>?_)
 go_simp
 refine hK _ _ ?_
 clear hK
 refine wpList_plain rfl (fun K hK=>?_)
 go_simp
 refine hK _ _ ?_
 clear hK
 refine wpList_load_any rfl 30 _ rfl ⟨g.X,0,none⟩ rfl _ hl ?_
 go_wp2_with fail
 refine Calls.mono (CR2 _) ?_
 rintro e w2 ⟨rfl,hb2⟩
 have H2:=zHd (H1.out.below hb2)
 clear hb2 H1 CR2 hl
 have q_ra:=H2.out.cell 0 _ rfl
 have f_ra:=H2.out.fro 0
 have HF:Hid (InS g (w2.setCell ⟨g.X,0,none⟩ (.int .i64 rv)) { m with ra:=rv } full):=H2.out.s_ra rv
 clear H2
 go_wp2
 go_ret
 exact ⟨rfl,HF.out⟩
theorem low_34 (g:SG) (m:M) (full:Bool) (imm:Int) (i0:0<=imm) (i1:imm<=65535) (w:World) (h:InS g w m full) (hg:Stpq.Good m) :
  Calls prog 68 #[.pointer (some ⟨g.X,0,none⟩),.agg #[.int .i64 34,.bool false,.int .i64 imm]] w fun e w'=>e=.returned (.bool false)/\InS g w' (⟨setP (wr ⟨m,full⟩ (pr m 2) m.ra).m 2 ((pr m 2+1)%65536),(wr ⟨m,full⟩ (pr m 2) m.ra).full⟩ : S).m (⟨setP (wr ⟨m,full⟩ (pr m 2) m.ra).m 2 ((pr m 2+1)%65536),(wr ⟨m,full⟩ (pr m 2) m.ra).full⟩ : S).full:=by
 obtain ⟨u,hu,hI,HI,k0,k2,HLX⟩:=stq (c:=34) (imm:=imm) h
 have bd:=pr_bd hg 2
 have d1:IntKind.i64.wrap (pr m 2+1)=pr m 2+1:=by rw [IntKind.wrap_i64];omega
 have d2:(pr m 2+1).tmod 65536=(pr m 2+1)%65536:=Int.tmod_eq_emod_of_nonneg (by omega)
 have c1:Hid (∀ W,InS g W m full->Calls prog 91 #[.pointer (some ⟨g.X,0,none⟩),.int .i64 2,.bool false] W fun e w'=>e=.returned (.int .i64 (pr m 2))/\Below W.heap.size W w'):=fun W hi=>pairS g m full 2 W hi hg (by omega) (by omega)
 have c2:Hid (∀ W,InS g W m full->Calls prog 85 #[.pointer (some ⟨g.X,0,none⟩),.int .i64 (pr m 2),.int .i64 m.ra] W fun e w'=>e=.returned (.tuple #[])/\InS g w' (wr ⟨m,full⟩ (pr m 2) m.ra).m (wr ⟨m,full⟩ (pr m 2) m.ra).full):=fun W hi=>writeS g m full _ _ W hi hg.rt bd.1 hg.a.1 hg.a.2
 have g1:=wr_good (s:=⟨m,full⟩) hg (pr m 2) m.ra hg.a.1 hg.a.2
 generalize wr ⟨m,full⟩ (pr m 2) m.ra=t at *
 have c3:Hid (∀ W,InS g W t.m t.full->Calls prog 88 #[.pointer (some ⟨g.X,0,none⟩),.int .i64 2,.int .i64 ((pr m 2+1)%65536),.bool false] W fun e w'=>e=.returned (.tuple #[])/\InS g w' (⟨setP t.m 2 ((pr m 2+1)%65536),t.full⟩ : S).m (⟨setP t.m 2 ((pr m 2+1)%65536),t.full⟩ : S).full):=fun W hi=>setPairS g t.m t.full 2 _ W hi g1 (by omega) (by omega) (by omega) (by omega)
 generalize (⟨setP t.m 2 ((pr m 2+1)%65536),t.full⟩ : S)=t2 at *
 generalize (pr m 2+1)%65536=vv at *
 generalize pr m 2=x1 at *
 clear bd g1
 clear h hg hI i0 i1
 go_enter func68,ntmps68
 go_wp2_with fail
 rw [<- hu]
 clear hu k0 k2
 refine Calls.mono (c1.out _ HI.out) ?_
 rintro e w1 ⟨rfl,hb1⟩
 have H1:=zHd (HI.out.below hb1)
 clear hb1 HI c1
 have q0:=H1.out.cell 0 _ rfl
 go_wp2_with fail
 refine Calls.mono (c2.out _ H1.out) ?_
 rintro e w2 ⟨rfl,hi1⟩
 have H2:Hid (InS g w2 t.m t.full):=hi1
 clear hi1 H1 c2
 clear q0
 go_wp2_with fail
 refine Calls.mono (c3.out _ (H2.out.below (by repeat (with_reducible first|exact zRf|refine zGr ?_ _|refine below_drewN ?_ _|refine Below.drew ?_)))) ?_
 rintro e w3 ⟨rfl,hi1⟩
 have H3:Hid (InS g w3 t2.m t2.full):=hi1
 clear hi1 H2 c3
 go_wp2
 go_ret
 exact ⟨rfl,H3.out⟩
theorem low_42 (g:SG) (m:M) (full:Bool) (imm:Int) (i0:0<=imm) (i1:imm<=65535) (w:World) (h:InS g w m full) (hg:Stpq.Good m) :
  Calls prog 68 #[.pointer (some ⟨g.X,0,none⟩),.agg #[.int .i64 42,.bool false,.int .i64 imm]] w fun e w'=>e=.returned (.bool false)/\InS g w' (⟨setP { m with ra:=rd m (pr m 2) } 2 ((pr m 2+1)%65536),full⟩ : S).m (⟨setP { m with ra:=rd m (pr m 2) } 2 ((pr m 2+1)%65536),full⟩ : S).full:=by
 obtain ⟨u,hu,hI,HI,k0,k2,HLX⟩:=stq (c:=42) (imm:=imm) h
 have bd:=pr_bd hg 2
 have d1:IntKind.i64.wrap (pr m 2+1)=pr m 2+1:=by rw [IntKind.wrap_i64];omega
 have d2:(pr m 2+1).tmod 65536=(pr m 2+1)%65536:=Int.tmod_eq_emod_of_nonneg (by omega)
 have c1:Hid (∀ W,InS g W m full->Calls prog 91 #[.pointer (some ⟨g.X,0,none⟩),.int .i64 2,.bool false] W fun e w'=>e=.returned (.int .i64 (pr m 2))/\Below W.heap.size W w'):=fun W hi=>pairS g m full 2 W hi hg (by omega) (by omega)
 have CR:Hid (∀ po cap W,Calls prog 29 #[.agg (cellsM m po cap),.int .i64 (pr m 2)] W fun e w'=>e=.returned (.int .i64 (rd m (pr m 2)))/\Below W.heap.size W w'):=fun po cap W=>l6Read_M m po cap _ W hg.rt bd.1
 have rb:=rd_bd m (pr m 2)
 generalize rd m (pr m 2)=rv at *
 have g1:=good_a hg rv rb.1 rb.2
 have c3:Hid (∀ W,InS g W { m with ra:=rv } full->Calls prog 88 #[.pointer (some ⟨g.X,0,none⟩),.int .i64 2,.int .i64 ((pr m 2+1)%65536),.bool false] W fun e w'=>e=.returned (.tuple #[])/\InS g w' (⟨setP { m with ra:=rv } 2 ((pr m 2+1)%65536),full⟩ : S).m (⟨setP { m with ra:=rv } 2 ((pr m 2+1)%65536),full⟩ : S).full):=fun W hi=>setPairS g { m with ra:=rv } full 2 _ W hi g1 (by omega) (by omega) (by omega) (by omega)
 generalize (⟨setP { m with ra:=rv } 2 ((pr m 2+1)%65536),full⟩ : S)=t2 at *
 generalize (pr m 2+1)%65536=vv at *
 clear g1
 generalize pr m 2=x1 at *
 clear bd rb
 clear h hg hI i0 i1
 go_enter func68,ntmps68
 go_wp2_with fail
 rw [<- hu]
 clear hu k0 k2
 refine Calls.mono (c1.out _ HI.out) ?_
 rintro e w1 ⟨rfl,hb1⟩
 have H1:=zHd (HI.out.below hb1)
 clear hb1 HI c1
 obtain ⟨po,cap,hA⟩:=H1.out
 have hl:=hA.load (W':=w1) rfl
 have CR2:=fun W=>CR.out po cap W
 generalize cellsM m po cap=cM at *
 clear hA CR
 go_upto_region 21 with fail
 refine wp_region_list ?_
 refine wpList_plain rfl (fun K hK=>?_)
 go_simp
 refine hK _ _ ?_
 clear hK
 refine wpList_plain rfl (fun K hK=>?_)
 go_simp
 refine hK _ _ ?_
 clear hK
 refine wpList_plain rfl (fun K hK=>?_)
 go_simp
 refine hK _ _ ?_
 clear hK
 refine wpList_plain rfl (fun K hK=>?_)
 go_simp
 refine hK _ _ ?_
 clear hK
 refine wpList_load_any rfl 30 _ rfl ⟨g.X,0,none⟩ rfl _ hl ?_
 go_wp2_with fail
 refine Calls.mono (CR2 _) ?_
 rintro e w2 ⟨rfl,hb2⟩
 have H2:=zHd (H1.out.below hb2)
 clear hb2 H1 CR2 hl
 have q_ra:=H2.out.cell 0 _ rfl
 have f_ra:=H2.out.fro 0
 have HF:Hid (InS g (w2.setCell ⟨g.X,0,none⟩ (.int .i64 rv)) { m with ra:=rv } full):=H2.out.s_ra rv
 clear H2
 go_wp2_with fail
 refine Calls.mono (c3.out _ (HF.out.below (by repeat (with_reducible first|exact zRf|refine zGr ?_ _|refine below_drewN ?_ _|refine Below.drew ?_)))) ?_
 rintro e w3 ⟨rfl,hi1⟩
 have H3:Hid (InS g w3 t2.m t2.full):=hi1
 clear hi1 HF c3
 go_wp2
 go_ret
 exact ⟨rfl,H3.out⟩
theorem low_50 (g:SG) (m:M) (full:Bool) (imm:Int) (i0:0<=imm) (i1:imm<=65535) (w:World) (h:InS g w m full) (hg:Stpq.Good m) :
  Calls prog 68 #[.pointer (some ⟨g.X,0,none⟩),.agg #[.int .i64 50,.bool false,.int .i64 imm]] w fun e w'=>e=.returned (.bool false)/\InS g w' (⟨setP (wr ⟨m,full⟩ (pr m 2) m.ra).m 2 ((pr m 2+65535)%65536),(wr ⟨m,full⟩ (pr m 2) m.ra).full⟩ : S).m (⟨setP (wr ⟨m,full⟩ (pr m 2) m.ra).m 2 ((pr m 2+65535)%65536),(wr ⟨m,full⟩ (pr m 2) m.ra).full⟩ : S).full:=by
 obtain ⟨u,hu,hI,HI,k0,k2,HLX⟩:=stq (c:=50) (imm:=imm) h
 have bd:=pr_bd hg 2
 have d1:IntKind.i64.wrap (pr m 2+65535)=pr m 2+65535:=by rw [IntKind.wrap_i64];omega
 have d2:(pr m 2+65535).tmod 65536=(pr m 2+65535)%65536:=Int.tmod_eq_emod_of_nonneg (by omega)
 have c1:Hid (∀ W,InS g W m full->Calls prog 91 #[.pointer (some ⟨g.X,0,none⟩),.int .i64 2,.bool false] W fun e w'=>e=.returned (.int .i64 (pr m 2))/\Below W.heap.size W w'):=fun W hi=>pairS g m full 2 W hi hg (by omega) (by omega)
 have c2:Hid (∀ W,InS g W m full->Calls prog 85 #[.pointer (some ⟨g.X,0,none⟩),.int .i64 (pr m 2),.int .i64 m.ra] W fun e w'=>e=.returned (.tuple #[])/\InS g w' (wr ⟨m,full⟩ (pr m 2) m.ra).m (wr ⟨m,full⟩ (pr m 2) m.ra).full):=fun W hi=>writeS g m full _ _ W hi hg.rt bd.1 hg.a.1 hg.a.2
 have g1:=wr_good (s:=⟨m,full⟩) hg (pr m 2) m.ra hg.a.1 hg.a.2
 generalize wr ⟨m,full⟩ (pr m 2) m.ra=t at *
 have c3:Hid (∀ W,InS g W t.m t.full->Calls prog 88 #[.pointer (some ⟨g.X,0,none⟩),.int .i64 2,.int .i64 ((pr m 2+65535)%65536),.bool false] W fun e w'=>e=.returned (.tuple #[])/\InS g w' (⟨setP t.m 2 ((pr m 2+65535)%65536),t.full⟩ : S).m (⟨setP t.m 2 ((pr m 2+65535)%65536),t.full⟩ : S).full):=fun W hi=>setPairS g t.m t.full 2 _ W hi g1 (by omega) (by omega) (by omega) (by omega)
 generalize (⟨setP t.m 2 ((pr m 2+65535)%65536),t.full⟩ : S)=t2 at *
 generalize (pr m 2+65535)%65536=vv at *
 generalize pr m 2=x1 at *
 clear bd g1
 clear h hg hI i0 i1
 go_enter func68,ntmps68
 go_wp2_with fail
 rw [<- hu]
 clear hu k0 k2
 refine Calls.mono (c1.out _ HI.out) ?_
 rintro e w1 ⟨rfl,hb1⟩
 have H1:=zHd (HI.out.below hb1)
 clear hb1 HI c1
 have q0:=H1.out.cell 0 _ rfl
 go_wp2_with fail
 refine Calls.mono (c2.out _ H1.out) ?_
 rintro e w2 ⟨rfl,hi1⟩
 have H2:Hid (InS g w2 t.m t.full):=hi1
 clear hi1 H1 c2
 clear q0
 go_wp2_with fail
 refine Calls.mono (c3.out _ (H2.out.below (by repeat (with_reducible first|exact zRf|refine zGr ?_ _|refine below_drewN ?_ _|refine Below.drew ?_)))) ?_
 rintro e w3 ⟨rfl,hi1⟩
 have H3:Hid (InS g w3 t2.m t2.full):=hi1
 clear hi1 H2 c3
 go_wp2
 go_ret
 exact ⟨rfl,H3.out⟩
theorem low_58 (g:SG) (m:M) (full:Bool) (imm:Int) (i0:0<=imm) (i1:imm<=65535) (w:World) (h:InS g w m full) (hg:Stpq.Good m) :
  Calls prog 68 #[.pointer (some ⟨g.X,0,none⟩),.agg #[.int .i64 58,.bool false,.int .i64 imm]] w fun e w'=>e=.returned (.bool false)/\InS g w' (⟨setP { m with ra:=rd m (pr m 2) } 2 ((pr m 2+65535)%65536),full⟩ : S).m (⟨setP { m with ra:=rd m (pr m 2) } 2 ((pr m 2+65535)%65536),full⟩ : S).full:=by
 obtain ⟨u,hu,hI,HI,k0,k2,HLX⟩:=stq (c:=58) (imm:=imm) h
 have bd:=pr_bd hg 2
 have d1:IntKind.i64.wrap (pr m 2+65535)=pr m 2+65535:=by rw [IntKind.wrap_i64];omega
 have d2:(pr m 2+65535).tmod 65536=(pr m 2+65535)%65536:=Int.tmod_eq_emod_of_nonneg (by omega)
 have c1:Hid (∀ W,InS g W m full->Calls prog 91 #[.pointer (some ⟨g.X,0,none⟩),.int .i64 2,.bool false] W fun e w'=>e=.returned (.int .i64 (pr m 2))/\Below W.heap.size W w'):=fun W hi=>pairS g m full 2 W hi hg (by omega) (by omega)
 have CR:Hid (∀ po cap W,Calls prog 29 #[.agg (cellsM m po cap),.int .i64 (pr m 2)] W fun e w'=>e=.returned (.int .i64 (rd m (pr m 2)))/\Below W.heap.size W w'):=fun po cap W=>l6Read_M m po cap _ W hg.rt bd.1
 have rb:=rd_bd m (pr m 2)
 generalize rd m (pr m 2)=rv at *
 have g1:=good_a hg rv rb.1 rb.2
 have c3:Hid (∀ W,InS g W { m with ra:=rv } full->Calls prog 88 #[.pointer (some ⟨g.X,0,none⟩),.int .i64 2,.int .i64 ((pr m 2+65535)%65536),.bool false] W fun e w'=>e=.returned (.tuple #[])/\InS g w' (⟨setP { m with ra:=rv } 2 ((pr m 2+65535)%65536),full⟩ : S).m (⟨setP { m with ra:=rv } 2 ((pr m 2+65535)%65536),full⟩ : S).full):=fun W hi=>setPairS g { m with ra:=rv } full 2 _ W hi g1 (by omega) (by omega) (by omega) (by omega)
 generalize (⟨setP { m with ra:=rv } 2 ((pr m 2+65535)%65536),full⟩ : S)=t2 at *
 generalize (pr m 2+65535)%65536=vv at *
 clear g1
 generalize pr m 2=x1 at *
 clear bd rb
 clear h hg hI i0 i1
 go_enter func68,ntmps68
 go_wp2_with fail
 rw [<- hu]
 clear hu k0 k2
 refine Calls.mono (c1.out _ HI.out) ?_
 rintro e w1 ⟨rfl,hb1⟩
 have H1:=zHd (HI.out.below hb1)
 clear hb1 HI c1
 obtain ⟨po,cap,hA⟩:=H1.out
 have hl:=hA.load (W':=w1) rfl
 have CR2:=fun W=>CR.out po cap W
 generalize cellsM m po cap=cM at *
 clear hA CR
 go_upto_region 21 with fail
 refine wp_region_list ?_
 refine wpList_plain rfl (fun K hK=>?_)
 go_simp
 refine hK _ _ ?_
 clear hK
 refine wpList_plain rfl (fun K hK=>?_)
 go_simp
 refine hK _ _ ?_
 clear hK
 refine wpList_plain rfl (fun K hK=>?_)
 go_simp
 refine hK _ _ ?_
 clear hK
 refine wpList_plain rfl (fun K hK=>?_)
 go_simp
 refine hK _ _ ?_
 clear hK
 refine wpList_load_any rfl 30 _ rfl ⟨g.X,0,none⟩ rfl _ hl ?_
 go_wp2_with fail
 refine Calls.mono (CR2 _) ?_
 rintro e w2 ⟨rfl,hb2⟩
 have H2:=zHd (H1.out.below hb2)
 clear hb2 H1 CR2 hl
 have q_ra:=H2.out.cell 0 _ rfl
 have f_ra:=H2.out.fro 0
 have HF:Hid (InS g (w2.setCell ⟨g.X,0,none⟩ (.int .i64 rv)) { m with ra:=rv } full):=H2.out.s_ra rv
 clear H2
 go_wp2_with fail
 refine Calls.mono (c3.out _ (HF.out.below (by repeat (with_reducible first|exact zRf|refine zGr ?_ _|refine below_drewN ?_ _|refine Below.drew ?_)))) ?_
 rintro e w3 ⟨rfl,hi1⟩
 have H3:Hid (InS g w3 t2.m t2.full):=hi1
 clear hi1 HF c3
 go_wp2
 go_ret
 exact ⟨rfl,H3.out⟩
end Stcp
namespace Stpo
open Signed (inB sgn)
open Reck ReckS ReckM ReckD TurnS
open Busw (M wrM Rt)
open Stpp Stpq Stpt Stpc Stph
open ReadI (byteAt lenC immV readI readN)
def insOf (m:M):Int × Bool × Int:=if byteAt (fetch m) 0=203 then (byteAt (fetch m) 1,true,0) else (byteAt (fetch m) 0,false,immV (fetch m) 0 (lenC (byteAt (fetch m) 0)))
def lenOf (m:M):Int:=readN (fetch m) 0
def nextOf (m:M):M:={ m with pc:=(m.pc+lenOf m)%65536 }
def semOf (m:M):S × Bool:=sem (insOf m).1 (insOf m).2.1 (insOf m).2.2 ⟨nextOf m,false⟩
def cycOf (m:M):Int:=m.cyc+CycX.cyc (insOf m).1 (insOf m).2.1 (semOf m).2
def stepP (m:M):M × Int :=
 if m.hal=true then (m,1) else if lenOf m=0 then (m,2)
 else if (semOf m).1.full=true \/ 1000000000<cycOf m then (m,4) else (cm (cycOf m) (semOf m).1.m,0)
theorem imm_all:∀ k:Fin 256,lenC (k.val:Int)=3->¬ ((k.val:Int)=224 \/ (k.val:Int)=240 \/ (k.val:Int)=232 \/ (k.val:Int)=248 \/ (192<=(k.val:Int)/\(k.val:Int)%8=6))/\((k.val:Int)<64->(k.val:Int)%8=1 \/ ((k.val:Int)%8=0/\(k.val:Int) / 8=1)):=by decide +kernel
theorem byteAt_bd (s:ByteArray) (i:Int):0<=byteAt s i/\byteAt s i<=255:=ReadI.byteAt_bd s i
theorem cb_all:∀ k:Fin 256,(Tmpl.tmplS (k.val:Int) true).size ≠ 0:=by decide +kernel
structure Ins (m:M) (c:Int) (cb:Bool) (imm:Int):Prop where
 cbd:0<=c/\c<=255
 iok:ImmOk c cb imm
 non:LenX.none? c cb=false
 val:readI (fetch m) 0=.agg #[.int .i64 c,.bool cb,.int .i64 imm]
 len:0<=lenOf m/\lenOf m<=3
theorem ins_of (m:M) (h:¬ lenOf m=0):Ins m (insOf m).1 (insOf m).2.1 (insOf m).2.2:=by
 unfold lenOf readN at h
 rw [fetch_size,if_neg (by omega)] at h
 by_cases h2:byteAt (fetch m) 0=203
 ·have e:insOf m=(byteAt (fetch m) 1,true,0):=by unfold insOf;rw [if_pos h2]
  rw [e]
  refine ⟨byteAt_bd (fetch m) 1,.inl rfl,?_,?_,?_⟩
  ·unfold LenX.none?
   rw [show inB (byteAt (fetch m) 1) 0 255=true from decide_eq_true (byteAt_bd (fetch m) 1)]
   obtain ⟨k,hk⟩:=fin_of (byteAt_bd (fetch m) 1).1 (byteAt_bd (fetch m) 1).2
   rw [<- hk]
   have:=cb_all k
   simpa using this
  ·unfold readI
   rw [fetch_size,if_neg (by omega),if_pos h2,if_neg (by omega)]
   rfl
  ·unfold lenOf readN
   rw [fetch_size,if_neg (by omega),if_pos h2,if_neg (by omega)]
   omega
 ·rw [if_neg h2] at h
  have h3:¬ (lenC (byteAt (fetch m) 0)=0 \/ ((3:Nat):Int)-0<lenC (byteAt (fetch m) 0)):=fun h4=>by rw [if_pos h4] at h;exact h rfl
  have e:insOf m=(byteAt (fetch m) 0,false,immV (fetch m) 0 (lenC (byteAt (fetch m) 0))):=by unfold insOf;rw [if_neg h2]
  rw [e]
  have b0:=byteAt_bd (fetch m) 0
  have b1:=byteAt_bd (fetch m) (0+1)
  have b2:=byteAt_bd (fetch m) (0+2)
  obtain ⟨k,hk⟩:=fin_of b0.1 b0.2
  refine ⟨b0,.inr ?_,?_,?_,?_⟩
  ·simp only []
   have h3:¬ (lenC (k.val:Int)=0 \/ ((3:Nat):Int)-0<lenC (k.val:Int)):=by rw [hk];exact h3
   rw [<- hk]
   have hi:=imm_all k
   unfold immV
   rcases ReadI.lenC_cases (k.val:Int) with h5|h5|h5|h5
   ·exact absurd (.inl h5) h3
   ·rw [if_pos h5]
    exact ⟨by omega,by omega,fun _ _ _=>by omega,fun _=>by omega⟩
   ·rw [if_neg (by omega),if_pos h5]
    exact ⟨by omega,by omega,fun _ _ _=>by omega,fun _=>by omega⟩
   ·rw [if_neg (by omega),if_neg (by omega)]
    have h6:=hi h5
    exact ⟨by omega,by omega,fun h7 h8 h9=>by rcases h6.2 h7 with h|h <;> omega,fun h7=>absurd h7 h6.1⟩
  ·have h4:¬ lenC (byteAt (fetch m) 0)=0:=fun h5=>h3 (.inl h5)
   unfold ReadI.lenC LenX.lenV at h4
   cases hn:LenX.none? (byteAt (fetch m) 0) false with
   | false=>rfl
   | true=>rw [hn,if_pos rfl] at h4;exact absurd rfl h4
  ·unfold readI
   rw [fetch_size,if_neg (by omega),if_neg h2,if_neg h3]
  ·unfold lenOf readN
   rw [fetch_size,if_neg (by omega),if_neg h2,if_neg h3]
   have:=ReadI.lenC_cases (byteAt (fetch m) 0)
   omega
end Stpo
namespace Stdf
open Go.Deep
open Signed (inB sgn ret_int ret_bool)
open Busw Busx Busy Stpp Stpq Stps Stph Stpo
structure Fe (w W:World) (cM:Array Value) (v:Value) (k:Nat) (xs:List Value):Prop where
 box:W.heap[w.heap.size]? = some (.cells cM 30)
 res:W.heap[w.heap.size+1]? = some (.cells #[.int .i64 0,.bool false,.int .i64 0] 76)
 bel:Below w.heap.size w W
 own:W.ownsRow (w.heap.size+2) 5 1 v k xs
 sz:w.heap.size+2<=W.heap.size
theorem Fe.below {w W W':World} {cM:Array Value} {v:Value} {k:Nat} {xs:List Value} (h:Fe w W cM v k xs) (hb:Below W.heap.size W W'):Fe w W' cM v k xs :=
 ⟨(hb.block _ (zLo h.box)).trans h.box,(hb.block _ (zLo h.res)).trans h.res,HolI.after h.bel hb,h.own.kept (row:=none) ⟨hb.os,hb.tape,hb.output,hb.size,fun k hk _=>hb.block k hk⟩ (by cases hv:v.ownBlock <;> simp),Nat.le_trans h.sz hb.size⟩
theorem Fe.grown {w W W':World} {cM:Array Value} {v v':Value} {k k':Nat} {xs xs':List Value} (h:Fe w W cM v k xs) (hg:W.grownBy W' v.ownBlock) (ho:W'.ownsRow (w.heap.size+2) 5 1 v' k' xs'):Fe w W' cM v' k' xs':=by
 have hs:=h.sz
 have hne:∀ b,b<w.heap.size+2->some b ≠ v.ownBlock:=fun b hb e=>by have:=(h.own.lt b e.symm).1;omega
 exact ⟨(hg.block _ (by omega) (hne _ (by omega))).trans h.box,(hg.block _ (by omega) (hne _ (by omega))).trans h.res,⟨hg.os.trans h.bel.os,hg.tape.trans h.bel.tape,hg.output.trans h.bel.output,Nat.le_trans h.bel.size hg.size,fun k hk=>(hg.block k (by have:=h.bel.size;omega) (hne k (by omega))).trans (h.bel.block k hk)⟩,ho,Nat.le_trans hs hg.size⟩
theorem info5:(prog.info? 5).map (fun i=>(i.zero,i.size,i.bytes))=some (some (.int .u8 0),1,1):=by kernel_rfl
theorem Fe.str {w W:World} {cM:Array Value} {v:Value} {a b c:UInt8} (h:Fe w W cM v 3 [.int .u8 (a.toNat:Int),.int .u8 (b.toNat:Int),.int .u8 (c.toNat:Int)]):(convert 22 9 v).run prog W=.ok (.string ⟨#[a,b,c]⟩) W:=by
 rcases h.own.2 with ⟨_,h0⟩|⟨g,cap,cur,rfl,_,hg,hcap,_,hsz,htake⟩
 ·cases h0
 ·refine run_convert_bytes_back (P:=prog) W 22 9 5 ⟨g,0,none⟩ cap [a,b,c] underlying22 underlying5 underlying9 (fun j hj=>?_)
  have ea:(⟨g,0,none⟩ : Addr).add j=⟨g,j,none⟩:=by unfold Addr.add;split <;> simp_all
  rw [ea,cell_of_row W g j _ _ _ hg]
  have hj3:j<3:=hj
  have e1:cur[j]? = cur.toList[j]?:=by simp
  have e2:cur.toList[j]? = (cur.toList.take (3*1))[j]?:=by rw [List.getElem?_take,if_pos (by omega)]
  rw [e1,e2,htake]
  match j,hj with
  | 0,_=>rfl
  | 1,_=>rfl
  | 2,_=>rfl
theorem fetchS (m:M) (po:Option Addr) (cap:Nat) (w:World) (hr:Rt m) (hp:0<=m.pc/\m.pc<=65535) :
  Calls prog 66 #[.agg (cellsM m po cap)] w fun e w'=>e=.returned (.tuple #[ReadI.readI (fetch m) 0,.int .i64 (ReadI.readN (fetch m) 0)])/\Below w.heap.size w w':=by
 obtain ⟨i0,hi,hz0,hz1,hz2⟩:=Busw.info_parts info5
 have CR:Hid (∀ W a,0<=a->Calls prog 29 #[.agg (cellsM m po cap),.int .i64 a] W fun e w'=>e=.returned (.int .i64 (rd m a))/\Below W.heap.size W w'):=fun W a ha=>l6Read_M m po cap a W hr ha
 have e0:=u_eq m 0
 have e1:=u_eq m 1
 have e2:=u_eq m 2
 rw [show m.pc+0=m.pc by omega] at e0
 obtain ⟨c,cb,imm,hI⟩:=ReadJ.readI_agg (fetch m) 0
 have CI:Hid (∀ W,Calls prog 81 #[.string (fetch m),.int .i64 0] W fun e w'=>e=.returned (.tuple #[.agg #[.int .i64 c,.bool cb,.int .i64 imm],.int .i64 (ReadI.readN (fetch m) 0)])/\Below W.heap.size W w'):=fun W=>by
  have h:=ReadI.specRead_any (fetch m) 0 W (by rw [fetch_size];decide) (by decide)
  unfold ReadI.Tup at h
  rw [hI] at h
  exact h
 rw [hI]
 generalize ReadI.readN (fetch m) 0=n at *
 have hF:fetch m=⟨#[u m 0,u m 1,u m 2]⟩:=rfl
 rw [hF] at CI
 have b0:=(u m 0).toNat_lt
 have b1:=(u m 1).toNat_lt
 have b2:=(u m 2).toNat_lt
 generalize u m 0=u0 at *
 generalize u m 1=u1 at *
 generalize u m 2=u2 at *
 have z0:IntKind.u8.wrap (u0.toNat:Int)=u0.toNat:=by rw [IntKind.wrap_u8];omega
 have z1:IntKind.u8.wrap (u1.toNat:Int)=u1.toNat:=by rw [IntKind.wrap_u8];omega
 have z2:IntKind.u8.wrap (u2.toNat:Int)=u2.toNat:=by rw [IntKind.wrap_u8];omega
 have d0:IntKind.i64.wrap m.pc=m.pc:=by rw [IntKind.wrap_i64];omega
 have d0':wrap64 m.pc=m.pc:=by unfold wrap64;omega
 have d1:IntKind.i64.wrap (m.pc+1)=m.pc+1:=by rw [IntKind.wrap_i64];omega
 have d2:IntKind.i64.wrap (m.pc+2)=m.pc+2:=by rw [IntKind.wrap_i64];omega
 have t0:m.pc.tmod 65536=m.pc%65536:=Int.tmod_eq_emod_of_nonneg hp.1
 have t1:(m.pc+1).tmod 65536=(m.pc+1)%65536:=Int.tmod_eq_emod_of_nonneg (by omega)
 have t2:(m.pc+2).tmod 65536=(m.pc+2)%65536:=Int.tmod_eq_emod_of_nonneg (by omega)
 have H0:Hid (∀ W,Calls prog 29 #[.agg (cellsM m po cap),.int .i64 (m.pc%65536)] W fun e w'=>e=.returned (.int .i64 (u0.toNat:Int))/\Below W.heap.size W w'):=fun W=>by rw [e0];exact CR.out W _ (by omega)
 have H1:Hid (∀ W,Calls prog 29 #[.agg (cellsM m po cap),.int .i64 ((m.pc+1)%65536)] W fun e w'=>e=.returned (.int .i64 (u1.toNat:Int))/\Below W.heap.size W w'):=fun W=>by rw [e1];exact CR.out W _ (by omega)
 have H2:Hid (∀ W,Calls prog 29 #[.agg (cellsM m po cap),.int .i64 ((m.pc+2)%65536)] W fun e w'=>e=.returned (.int .i64 (u2.toNat:Int))/\Below W.heap.size W w'):=fun W=>by rw [e2];exact CR.out W _ (by omega)
 obtain ⟨cM,hcM⟩ : ∃ c,c=cellsM m po cap:=⟨_,rfl⟩
 have HIM:Hid ((prog.info? 30).map (·.size)=some cM.size):=hcM ▸ infoMs m po cap
 have HPC:Hid (∀ (W:World),W.heap[w.heap.size]? = some (.cells cM 30)->W.cell? ⟨w.heap.size,9,none⟩=some (.int .i64 m.pc)):=fun W h=>by rw [hcM] at h;exact celM h 9 _ rfl
 rw [<- hcM] at H0 H1 H2 |-
 obtain ⟨W0,hW0⟩ : ∃ u,u=((w.alloc (.cells cM 30)).alloc (.cells #[.int .i64 0,.bool false,.int .i64 0] 76)).alloc (.cells #[] 5):=⟨_,rfl⟩
 have F0:Hid (Fe w W0 cM (.slice (some ⟨w.heap.size+2,0,none⟩) 0 0) 0 []):=by
  have hs1:((w.alloc (.cells cM 30)).alloc (.cells #[.int .i64 0,.bool false,.int .i64 0] 76)).heap.size=w.heap.size+2:=by simp
  have ho:=World.ownsRow_lit (base:=w.heap.size+2) (e:=5) (size:=1) ((w.alloc (.cells cM 30)).alloc (.cells #[.int .i64 0,.bool false,.int .i64 0] 76)) #[] 0 (by rw [hs1];exact Nat.le_refl _) (Nat.zero_le _) rfl
  rw [hs1] at ho
  have h2:=heap_alloc_last (w.alloc (.cells cM 30)) (.cells #[.int .i64 0,.bool false,.int .i64 0] 76)
  simp only [World.size_alloc] at h2
  rw [hW0]
  exact ⟨by rw [alloc_kept _ _ (by simp;omega),alloc_kept _ _ (by simp)];exact heap_alloc_last w _,by rw [alloc_kept _ _ (by simp)];exact h2,by repeat (with_reducible first|exact zRf|refine zGr ?_ _|refine below_drewN ?_ _|refine Below.drew ?_),ho,by simp⟩
 clear hcM hp hr CR e0 e1 e2 b0 b1 b2 hI hF
 go_enter func66,ntmps66
 go_wp2_with fail
 rw [<- hW0]
 clear hW0
 refine wp_loop_rounds 4 ?_
 rw [rounds_succ]
 have q9:=HPC.out _ F0.out.box
 go_upto_region 5 with fail
 refine wp_region_list ?_
 refine wpList_plain rfl (fun K hK=>?_)
 go_simp
 refine hK _ _ ?_
 clear hK
 refine wpList_load_row rfl 30 _ rfl w.heap.size rfl _ _ (0,0) _ F0.out.box underlying30 rfl HIM.out ?_
 go_wp2_with fail
 refine Calls.mono (H0.out _) ?_
 rintro e x0 ⟨rfl,hb⟩
 have G0:=zHd (F0.out.below hb)
 have GA0:Hid (Fe w (x0.alloc (.cells #[.int .u8 (u0.toNat:Int)] 5)) cM (.slice (some ⟨w.heap.size+2,0,none⟩) 0 0) 0 []):=G0.out.below (zAl _ _)
 clear hb F0 H0 q9 G0
 go_wp2_with (at_builtin;refine wpList_append_own _ rfl _ _ 22 rfl (w.heap.size+2) 5 i0 (.int .u8 0) 1 1 underlying22 hi hz0 hz1 hz2 rfl (by decide) _ _ _ rfl GA0.out.own ⟨x0.heap.size,0,none⟩ 1 1 [.int .u8 (u0.toNat:Int)] rfl rfl ?a0 ?b0 ?c0 ?d0 ?e0 ?_)
 case a0 =>
  intro j uu hj
  match j,hj with
  | 0,hj=>simp at hj;subst hj;simp [Addr.add]
 case b0=>intro uu hu;simp at hu;subst hu;rfl
 case c0=>unfold maxLen;omega
 case d0=>omega
 case e0=>exact GA0.out.sz
 intro v1 W1 hown hgrow _
 have F1:Hid (Fe w W1 cM v1 1 [.int .u8 (u0.toNat:Int)]):=GA0.out.grown hgrow hown
 clear hown hgrow GA0
 go_wp2_with fail
 rw [rounds_succ]
 have q9:=HPC.out _ F1.out.box
 go_upto_region 5 with fail
 refine wp_region_list ?_
 refine wpList_plain rfl (fun K hK=>?_)
 go_simp
 refine hK _ _ ?_
 clear hK
 refine wpList_load_row rfl 30 _ rfl w.heap.size rfl _ _ (0,0) _ F1.out.box underlying30 rfl HIM.out ?_
 go_wp2_with fail
 refine Calls.mono (H1.out _) ?_
 rintro e x1 ⟨rfl,hb⟩
 have G1:=zHd (F1.out.below hb)
 have GA1:Hid (Fe w (x1.alloc (.cells #[.int .u8 (u1.toNat:Int)] 5)) cM v1 1 [.int .u8 (u0.toNat:Int)]):=G1.out.below (zAl _ _)
 clear hb F1 H1 q9 G1
 go_wp2_with (at_builtin;refine wpList_append_own _ rfl _ _ 22 rfl (w.heap.size+2) 5 i0 (.int .u8 0) 1 1 underlying22 hi hz0 hz1 hz2 rfl (by decide) _ _ _ rfl GA1.out.own ⟨x1.heap.size,0,none⟩ 1 1 [.int .u8 (u1.toNat:Int)] rfl rfl ?a1 ?b1 ?c1 ?d1 ?e1 ?_)
 case a1 =>
  intro j uu hj
  match j,hj with
  | 0,hj=>simp at hj;subst hj;simp [Addr.add]
 case b1=>intro uu hu;simp at hu;subst hu;rfl
 case c1=>unfold maxLen;omega
 case d1=>omega
 case e1=>exact GA1.out.sz
 intro v2 W2 hown hgrow _
 have F2:Hid (Fe w W2 cM v2 2 [.int .u8 (u0.toNat:Int),.int .u8 (u1.toNat:Int)]):=GA1.out.grown hgrow hown
 clear hown hgrow GA1
 go_wp2_with fail
 rw [rounds_succ]
 have q9:=HPC.out _ F2.out.box
 go_upto_region 5 with fail
 refine wp_region_list ?_
 refine wpList_plain rfl (fun K hK=>?_)
 go_simp
 refine hK _ _ ?_
 clear hK
 refine wpList_load_row rfl 30 _ rfl w.heap.size rfl _ _ (0,0) _ F2.out.box underlying30 rfl HIM.out ?_
 go_wp2_with fail
 refine Calls.mono (H2.out _) ?_
 rintro e x2 ⟨rfl,hb⟩
 have G2:=zHd (F2.out.below hb)
 have GA2:Hid (Fe w (x2.alloc (.cells #[.int .u8 (u2.toNat:Int)] 5)) cM v2 2 [.int .u8 (u0.toNat:Int),.int .u8 (u1.toNat:Int)]):=G2.out.below (zAl _ _)
 clear hb F2 H2 q9 G2
 go_wp2_with (at_builtin;refine wpList_append_own _ rfl _ _ 22 rfl (w.heap.size+2) 5 i0 (.int .u8 0) 1 1 underlying22 hi hz0 hz1 hz2 rfl (by decide) _ _ _ rfl GA2.out.own ⟨x2.heap.size,0,none⟩ 1 1 [.int .u8 (u2.toNat:Int)] rfl rfl ?a2 ?b2 ?c2 ?d2 ?e2 ?_)
 case a2 =>
  intro j uu hj
  match j,hj with
  | 0,hj=>simp at hj;subst hj;simp [Addr.add]
 case b2=>intro uu hu;simp at hu;subst hu;rfl
 case c2=>unfold maxLen;omega
 case d2=>omega
 case e2=>exact GA2.out.sz
 intro v3 W3 hown hgrow _
 have F3:Hid (Fe w W3 cM v3 3 [.int .u8 (u0.toNat:Int),.int .u8 (u1.toNat:Int),.int .u8 (u2.toNat:Int)]):=GA2.out.grown hgrow hown
 clear hown hgrow GA2
 go_wp2_with fail
 rw [rounds_succ]
 have hs:=F3.out.str
 go_wp2_with fail
 refine Calls.mono (CI.out _) ?_
 rintro e w4 ⟨rfl,hb⟩
 have F4:=F3.out.below hb
 have hR:=F4.res
 have r0:=(cell_of_row w4 (w.heap.size+1) 0 _ _ _ hR).trans rfl
 have r1:=(cell_of_row w4 (w.heap.size+1) 1 _ _ _ hR).trans rfl
 have r2:=(cell_of_row w4 (w.heap.size+1) 2 _ _ _ hR).trans rfl
 have g0:=frozen_of_row w4 (w.heap.size+1) 0 _ _ hR
 have g1:=frozen_of_row w4 (w.heap.size+1) 1 _ _ hR
 have g2:=frozen_of_row w4 (w.heap.size+1) 2 _ _ hR
 have lR:w.heap.size+1<w4.heap.size:=(zLo hR)
 have B4:Hid (Below w.heap.size w w4):=F4.bel
 clear hR hb F4 F3 CI hs
 go_wp2_with fail
 refine bodyPost_ret (v:=.tuple #[.agg #[.int .i64 c,.bool cb,.int .i64 imm],.int .i64 n]) (by simp [results,results66,go_sem,r0,r1,r2,lR]) rfl ⟨rfl,?_⟩
 exact ((B4.out.setCell (by simp) _).setCell (by simp) _).setCell (by simp) _
end Stdf
namespace Ista
open Go.Deep
open Signed (inB sgn ret_int ret_bool)
open Busw Busx Stpp Stpq Stpo
open MachT (heap_row heap_row_other below_row)
theorem own_nil (w:World) (base:Nat) (h:base<=w.heap.size):w.ownsRow base 2 1 (.slice none Z0.out.length 0) Z0.out.length (outC Z0.out):=⟨rfl,.inl ⟨rfl,rfl⟩⟩
end Ista
end Go.Proofs.YtfpecdgcapfgfaaGreat
