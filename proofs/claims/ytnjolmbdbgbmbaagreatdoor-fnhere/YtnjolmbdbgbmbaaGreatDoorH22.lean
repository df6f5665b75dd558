import Derived.Test.YtnjolmbdbgbmbaaGreatDoorH21
import Derived.Test.YtnjolmbdbgbmbaaGreatDoorH20
set_option linter.all false
set_option maxRecDepth 20000
set_option maxHeartbeats 8000000
open Go.ChangeShapes Go.WideShapes Go.ChangeAt Go.RowKit
open Go.Proofs.Tryz
namespace Go.Proofs.YtnjolmbdbgbmbaaGreatDoor
namespace Stck
open Go.Deep
open Signed (inB sgn ret_int ret_bool)
open Reck ReckS ReckM ReckD TurnS
open Busw Busx Busy Stpp Stpq Stps Sta Stb
theorem z_eq {f:Int} (h0:0<=f) (h1:f<=255):decide (128<=f)=zB f:=by
 unfold zB
 by_cases h:128<=f
 ·rw [decide_eq_true h,decide_eq_true (by omega)]
 ·rw [decide_eq_false h,decide_eq_false (by omega)]
theorem odd_4 (g:SG) (m:M) (full:Bool) (w:World) (h:InS g w m full) (hg:Stpq.Good m) :
  Calls prog 130 #[.pointer (some ⟨g.X,0,none⟩),.int .i64 4] w fun e w'=>e=.returned (.tuple #[])/\InS g w' { m with ra:=(daaR m.ra m.rf).1,rf:=(daaR m.ra m.rf).2 } full:=by
 have hf:=hg.f
 have ha:=hg.a
 have cc:=fun w=>l4Carry_any m.rf w hf.1 hf.2
 have tc:(cy m.rf == 1)=cB m.rf:=by unfold cB;by_cases h:cy m.rf=1 <;> simp [h]
 have tz:=z_eq hf.1 hf.2
 have cd:=fun w=>specDaa_any m.ra m.rf w
 rw [show daa m.ra m.rf=daaR m.ra m.rf by unfold daa;rw [show inB m.ra 0 255=true from decide_eq_true ha,show inB m.rf 0 255=true from decide_eq_true hf];rfl] at cd
 generalize (daaR m.ra m.rf).1=v1 at *
 generalize (daaR m.ra m.rf).2=v2 at *
 have HF:Hid (∀ o,InS g (((w.setCell ⟨g.X,0,none⟩ (.int .i64 v1)).setCell ⟨g.X,1,none⟩ (.int .i64 v2)).alloc o) { m with ra:=v1,rf:=v2 } full):=fun o=>((h.s_ra v1).s_rf v2).below (zRf.alloc (Nat.le_refl _) o)
 have q_ra:=h.cell 0 _ rfl
 have q_rf:=h.cell 1 _ rfl
 have q_rB:=h.cell 2 _ rfl
 have q_rC:=h.cell 3 _ rfl
 have q_rD:=h.cell 4 _ rfl
 have q_rE:=h.cell 5 _ rfl
 have q_rH:=h.cell 6 _ rfl
 have q_rL:=h.cell 7 _ rfl
 have q_sp:=h.cell 8 _ rfl
 have q_pc:=h.cell 9 _ rfl
 have q_ime:=h.cell 10 _ rfl
 have q_hal:=h.cell 11 _ rfl
 have f0:=h.fro 0
 have f1:=h.fro 1
 have hlt:=h.lt
 generalize zB m.rf=zb at *
 generalize cB m.rf=cb at *
 clear h hg hf ha
 go_enter func130,ntmps130
 go_wp2_with first|(go_at_call 121;refine (cc _).mono ?_;rintro e w' ⟨rfl,hw'⟩;have hw':=hw'.symm;subst hw')|(go_at_call 120;refine (l4Flags_any _ _ _ _ _).mono ?_;rintro e w' ⟨rfl,hw'⟩;have hw':=hw'.symm;subst hw')|(go_at_call 151;refine (cd _).mono ?_;rintro e w' ⟨rfl,hw'⟩;have hw':=hw'.symm;subst hw')
 go_end0
 exact ⟨rfl,HF.out _⟩
theorem odd_5 (g:SG) (m:M) (full:Bool) (w:World) (h:InS g w m full) (hg:Stpq.Good m) :
  Calls prog 130 #[.pointer (some ⟨g.X,0,none⟩),.int .i64 5] w fun e w'=>e=.returned (.tuple #[])/\InS g w' { m with ra:=255-m.ra,rf:=fl (zB m.rf) true true (cB m.rf) } full:=by
 have hf:=hg.f
 have ha:=hg.a
 have cc:=fun w=>l4Carry_any m.rf w hf.1 hf.2
 have tc:(cy m.rf == 1)=cB m.rf:=by unfold cB;by_cases h:cy m.rf=1 <;> simp [h]
 have tz:=z_eq hf.1 hf.2
 have d1:IntKind.i64.wrap (255-m.ra)=255-m.ra:=by rw [IntKind.wrap_i64];omega
 generalize zB m.rf=zb at *
 generalize cB m.rf=cb at *
 have HF:Hid (∀ o,InS g (((w.setCell ⟨g.X,0,none⟩ (.int .i64 (255-m.ra))).setCell ⟨g.X,1,none⟩ (.int .i64 (fl zb true true cb))).alloc o) { m with ra:=255-m.ra,rf:=fl zb true true cb } full):=fun o=>((h.s_ra (255-m.ra)).s_rf (fl zb true true cb)).below (zRf.alloc (Nat.le_refl _) o)
 have q_ra:=h.cell 0 _ rfl
 have q_rf:=h.cell 1 _ rfl
 have q_rB:=h.cell 2 _ rfl
 have q_rC:=h.cell 3 _ rfl
 have q_rD:=h.cell 4 _ rfl
 have q_rE:=h.cell 5 _ rfl
 have q_rH:=h.cell 6 _ rfl
 have q_rL:=h.cell 7 _ rfl
 have q_sp:=h.cell 8 _ rfl
 have q_pc:=h.cell 9 _ rfl
 have q_ime:=h.cell 10 _ rfl
 have q_hal:=h.cell 11 _ rfl
 have f0:=h.fro 0
 have f1:=h.fro 1
 have hlt:=h.lt
 clear h hg hf ha
 go_enter func130,ntmps130
 go_wp2_with first|(go_at_call 121;refine (cc _).mono ?_;rintro e w' ⟨rfl,hw'⟩;have hw':=hw'.symm;subst hw')|(go_at_call 120;refine (l4Flags_any _ _ _ _ _).mono ?_;rintro e w' ⟨rfl,hw'⟩;have hw':=hw'.symm;subst hw')
 go_end0
 exact ⟨rfl,HF.out _⟩
theorem odd_6 (g:SG) (m:M) (full:Bool) (w:World) (h:InS g w m full) (hg:Stpq.Good m) :
  Calls prog 130 #[.pointer (some ⟨g.X,0,none⟩),.int .i64 6] w fun e w'=>e=.returned (.tuple #[])/\InS g w' { m with rf:=fl (zB m.rf) false false true } full:=by
 have hf:=hg.f
 have ha:=hg.a
 have cc:=fun w=>l4Carry_any m.rf w hf.1 hf.2
 have tc:(cy m.rf == 1)=cB m.rf:=by unfold cB;by_cases h:cy m.rf=1 <;> simp [h]
 have tz:=z_eq hf.1 hf.2
 generalize zB m.rf=zb at *
 generalize cB m.rf=cb at *
 have HF:Hid (∀ o,InS g ((w.setCell ⟨g.X,1,none⟩ (.int .i64 (fl zb false false true))).alloc o) { m with rf:=fl zb false false true } full):=fun o=>(h.s_rf (fl zb false false true)).below (zRf.alloc (Nat.le_refl _) o)
 have q_ra:=h.cell 0 _ rfl
 have q_rf:=h.cell 1 _ rfl
 have q_rB:=h.cell 2 _ rfl
 have q_rC:=h.cell 3 _ rfl
 have q_rD:=h.cell 4 _ rfl
 have q_rE:=h.cell 5 _ rfl
 have q_rH:=h.cell 6 _ rfl
 have q_rL:=h.cell 7 _ rfl
 have q_sp:=h.cell 8 _ rfl
 have q_pc:=h.cell 9 _ rfl
 have q_ime:=h.cell 10 _ rfl
 have q_hal:=h.cell 11 _ rfl
 have f0:=h.fro 0
 have f1:=h.fro 1
 have hlt:=h.lt
 clear h hg hf ha
 go_enter func130,ntmps130
 go_wp2_with first|(go_at_call 121;refine (cc _).mono ?_;rintro e w' ⟨rfl,hw'⟩;have hw':=hw'.symm;subst hw')|(go_at_call 120;refine (l4Flags_any _ _ _ _ _).mono ?_;rintro e w' ⟨rfl,hw'⟩;have hw':=hw'.symm;subst hw')
 go_end0
 exact ⟨rfl,HF.out _⟩
theorem odd_7 (g:SG) (m:M) (full:Bool) (w:World) (h:InS g w m full) (hg:Stpq.Good m) :
  Calls prog 130 #[.pointer (some ⟨g.X,0,none⟩),.int .i64 7] w fun e w'=>e=.returned (.tuple #[])/\InS g w' { m with rf:=fl (zB m.rf) false false (!cB m.rf) } full:=by
 have hf:=hg.f
 have ha:=hg.a
 have cc:=fun w=>l4Carry_any m.rf w hf.1 hf.2
 have tc:(cy m.rf == 1)=cB m.rf:=by unfold cB;by_cases h:cy m.rf=1 <;> simp [h]
 have tz:=z_eq hf.1 hf.2
 generalize zB m.rf=zb at *
 generalize cB m.rf=cb at *
 have HF:Hid (∀ o,InS g ((w.setCell ⟨g.X,1,none⟩ (.int .i64 (fl zb false false (!cb)))).alloc o) { m with rf:=fl zb false false (!cb) } full):=fun o=>(h.s_rf (fl zb false false (!cb))).below (zRf.alloc (Nat.le_refl _) o)
 have q_ra:=h.cell 0 _ rfl
 have q_rf:=h.cell 1 _ rfl
 have q_rB:=h.cell 2 _ rfl
 have q_rC:=h.cell 3 _ rfl
 have q_rD:=h.cell 4 _ rfl
 have q_rE:=h.cell 5 _ rfl
 have q_rH:=h.cell 6 _ rfl
 have q_rL:=h.cell 7 _ rfl
 have q_sp:=h.cell 8 _ rfl
 have q_pc:=h.cell 9 _ rfl
 have q_ime:=h.cell 10 _ rfl
 have q_hal:=h.cell 11 _ rfl
 have f0:=h.fro 0
 have f1:=h.fro 1
 have hlt:=h.lt
 clear h hg hf ha
 go_enter func130,ntmps130
 go_wp2_with first|(go_at_call 121;refine (cc _).mono ?_;rintro e w' ⟨rfl,hw'⟩;have hw':=hw'.symm;subst hw')|(go_at_call 120;refine (l4Flags_any _ _ _ _ _).mono ?_;rintro e w' ⟨rfl,hw'⟩;have hw':=hw'.symm;subst hw')
 go_end0
 exact ⟨rfl,HF.out _⟩
theorem odd_t (g:SG) (m:M) (full:Bool) (y:Int) (y0:0<=y) (y1:y<=3) (w:World) (h:InS g w m full) (hg:Stpq.Good m) :
  Calls prog 130 #[.pointer (some ⟨g.X,0,none⟩),.int .i64 y] w fun e w'=>e=.returned (.tuple #[])/\InS g w' { m with ra:=(trnR y m.ra m.rf).1,rf:=fl false false false (cB (trnR y m.ra m.rf).2) } full:=by
 have hf:=hg.f
 have ha:=hg.a
 have cc:=fun w=>l4Carry_any m.rf w hf.1 hf.2
 have tc:(cy m.rf == 1)=cB m.rf:=by unfold cB;by_cases h:cy m.rf=1 <;> simp [h]
 have tz:=z_eq hf.1 hf.2
 have ct:=fun w=>l4Turned_any y m.ra m.rf w y0 (by omega) ha.1 ha.2 hf.1 hf.2
 have bt:=trn_bd (op:=y) (f:=m.rf) ha.1 ha.2
 generalize (trnR y m.ra m.rf).1=v1 at *
 generalize (trnR y m.ra m.rf).2=v2 at *
 have cc2:=fun w=>l4Carry_any v2 w bt.2.2.1 bt.2.2.2.1
 have tc2:(cy v2 == 1)=cB v2:=by unfold cB;by_cases h:cy v2=1 <;> simp [h]
 generalize cB v2=cb2 at *
 have e4:¬ y=4:=by omega
 have e5:¬ y=5:=by omega
 have e6:¬ y=6:=by omega
 have e7:¬ y=7:=by omega
 clear bt
 have HF:Hid (∀ o,InS g (((w.setCell ⟨g.X,0,none⟩ (.int .i64 (v1))).setCell ⟨g.X,1,none⟩ (.int .i64 (fl false false false cb2))).alloc o) { m with ra:=v1,rf:=fl false false false cb2 } full):=fun o=>((h.s_ra (v1)).s_rf (fl false false false cb2)).below (zRf.alloc (Nat.le_refl _) o)
 have q_ra:=h.cell 0 _ rfl
 have q_rf:=h.cell 1 _ rfl
 have q_rB:=h.cell 2 _ rfl
 have q_rC:=h.cell 3 _ rfl
 have q_rD:=h.cell 4 _ rfl
 have q_rE:=h.cell 5 _ rfl
 have q_rH:=h.cell 6 _ rfl
 have q_rL:=h.cell 7 _ rfl
 have q_sp:=h.cell 8 _ rfl
 have q_pc:=h.cell 9 _ rfl
 have q_ime:=h.cell 10 _ rfl
 have q_hal:=h.cell 11 _ rfl
 have f0:=h.fro 0
 have f1:=h.fro 1
 have hlt:=h.lt
 generalize zB m.rf=zb at *
 generalize cB m.rf=cb at *
 clear h hg hf ha
 go_enter func130,ntmps130
 go_wp2_with first|(go_at_call 121;refine (cc _).mono ?_;rintro e w' ⟨rfl,hw'⟩;have hw':=hw'.symm;subst hw')|(go_at_call 120;refine (l4Flags_any _ _ _ _ _).mono ?_;rintro e w' ⟨rfl,hw'⟩;have hw':=hw'.symm;subst hw')|(go_at_call 119;refine (ct _).mono ?_;rintro e w' ⟨rfl,hw'⟩;have hw':=hw'.symm;subst hw')|(go_at_call 121;refine (cc2 _).mono ?_;rintro e w' ⟨rfl,hw'⟩;have hw':=hw'.symm;subst hw')
 go_end0
 exact ⟨rfl,HF.out _⟩
theorem oddS (g:SG) (m:M) (full:Bool) (y:Int) (w:World) (h:InS g w m full) (hg:Stpq.Good m) (y0:0<=y) (y1:y<=7) :
  Calls prog 130 #[.pointer (some ⟨g.X,0,none⟩),.int .i64 y] w fun e w'=>e=.returned (.tuple #[])/\InS g w' (oddE y ⟨m,full⟩).m (oddE y ⟨m,full⟩).full:=by
 unfold oddE
 by_cases h4:y=4
 ·subst h4;exact odd_4 g m full w h hg
 rw [if_neg h4]
 by_cases h5:y=5
 ·subst h5;exact odd_5 g m full w h hg
 rw [if_neg h5]
 by_cases h6:y=6
 ·subst h6;exact odd_6 g m full w h hg
 rw [if_neg h6]
 by_cases h7:y=7
 ·subst h7;exact odd_7 g m full w h hg
 rw [if_neg h7]
 exact odd_t g m full y y0 (by omega) w h hg
theorem cb_0 (g:SG) (m:M) (full:Bool) (c imm y z:Int) (c0:0<=c) (hx:c / 64=0) (hy:c / 8%8=y) (hz:c%8=z) (y0:0<=y) (y1:y<=7) (z0:0<=z) (z1:z<=7) (w:World) (h:InS g w m full) (hg:Stpq.Good m) :
  Calls prog 85 #[.pointer (some ⟨g.X,0,none⟩),.agg #[.int .i64 c,.bool true,.int .i64 imm]] w fun e w'=>e=.returned (.tuple #[])/\InS g w' (F (put ⟨m,full⟩ z (trnR y (Stpp.get m z) m.rf).1) (trnR y (Stpp.get m z) m.rf).2).m (F (put ⟨m,full⟩ z (trnR y (Stpp.get m z) m.rf).1) (trnR y (Stpp.get m z) m.rf).2).full:=by
 have gb:=get_bd hg z
 have HR:Hid (∀ W,Below w.heap.size w W->Calls prog 88 #[.pointer (some ⟨g.X,0,none⟩),.int .i64 z] W fun e w'=>e=.returned (.int .i64 (Stpp.get m z))/\Below W.heap.size W w'):=fun W hb=>regS g m full z W (h.below hb) hg z0 z1
 have HI:Hid (∀ W,Below w.heap.size w W->InS g W m full):=fun W hb=>h.below hb
 have t1:c.tdiv 8=c / 8:=Int.tdiv_eq_ediv_of_nonneg c0
 have t2:(c / 8).tmod 8=y:=by rw [Int.tmod_eq_emod_of_nonneg (by omega)];exact hy
 have t3:c.tmod 8=z:=by rw [Int.tmod_eq_emod_of_nonneg c0];exact hz
 have t4:c.tdiv 64=0:=by rw [Int.tdiv_eq_ediv_of_nonneg c0];exact hx
 have t5:IntKind.i64.wrap (c / 8)=c / 8:=by rw [IntKind.wrap_i64];omega
 have t6:IntKind.u64.wrap y=y:=by rw [IntKind.wrap_u64];omega
 have t7:IntKind.i64.wrap (2 ^ y.toNat)=bitV y:=by
  have hn:y=0 \/ y=1 \/ y=2 \/ y=3 \/ y=4 \/ y=5 \/ y=6 \/ y=7:=by omega
  rcases hn with rfl|rfl|rfl|rfl|rfl|rfl|rfl|rfl
  all_goals decide +kernel
 have hf:=hg.f
 have ct:=fun w=>l4Turned_any y (Stpp.get m z) m.rf w y0 y1 gb.1 gb.2 hf.1 hf.2
 have bd:=trn_bd (op:=y) (f:=m.rf) gb.1 gb.2
 generalize (trnR y (Stpp.get m z) m.rf).1=v1 at *
 generalize (trnR y (Stpp.get m z) m.rf).2=v2 at *
 have c3:Hid (∀ W,InS g W m full->Calls prog 87 #[.pointer (some ⟨g.X,0,none⟩),.int .i64 z,.int .i64 v1] W fun e w'=>e=.returned (.tuple #[])/\InS g w' (put ⟨m,full⟩ z v1).m (put ⟨m,full⟩ z v1).full):=fun W hi=>setS g m full _ _ W hi hg z0 z1 bd.1 bd.2.1
 generalize put ⟨m,full⟩ z v1=t at *
 clear bd hf
 clear h hg gb hx hy hz
 generalize Stpp.get m z=v at *
 generalize bitV y=bt at *
 go_enter func85,ntmps85
 go_wp2_with fail
 refine Calls.mono (HR.out _ (by repeat (with_reducible first|exact zRf|refine zGr ?_ _|refine below_drewN ?_ _|refine Below.drew ?_))) ?_
 rintro e w1 ⟨rfl,hb1⟩
 have k0:=HolI.box hb1 0 _ rfl
 have H1:Hid (InS g w1 m full):=HI.out _ (HolI.unbox hb1)
 clear hb1 HR HI
 have q1:=H1.out.cell 1 _ rfl
 go_wp2_with (go_at_call 119;refine (ct _).mono ?_;rintro e w' ⟨rfl,hw'⟩;have hw':=hw'.symm;subst hw')
 refine Calls.mono (c3.out _ H1.out) ?_
 rintro e w2 ⟨rfl,hi2⟩
 have H2:Hid (InS g w2 t.m t.full):=hi2
 clear hi2 H1 c3 q1
 have q_rf:=H2.out.cell 1 _ rfl
 have f_rf:=H2.out.fro 1
 have HF:Hid (InS g (w2.setCell ⟨g.X,1,none⟩ (.int .i64 v2)) { t.m with rf:=v2 } t.full):=H2.out.s_rf v2
 clear H2
 go_wp2
 go_end0
 exact ⟨rfl,HF.out⟩
theorem cb_1 (g:SG) (m:M) (full:Bool) (c imm y z:Int) (c0:0<=c) (hx:c / 64=1) (hy:c / 8%8=y) (hz:c%8=z) (y0:0<=y) (y1:y<=7) (z0:0<=z) (z1:z<=7) (w:World) (h:InS g w m full) (hg:Stpq.Good m) :
  Calls prog 85 #[.pointer (some ⟨g.X,0,none⟩),.agg #[.int .i64 c,.bool true,.int .i64 imm]] w fun e w'=>e=.returned (.tuple #[])/\InS g w' (F ⟨m,full⟩ (fl (decide (bits .and .i64 (Stpp.get m z) (bitV y)=0)) false true (cB m.rf))).m (F ⟨m,full⟩ (fl (decide (bits .and .i64 (Stpp.get m z) (bitV y)=0)) false true (cB m.rf))).full:=by
 have gb:=get_bd hg z
 have HR:Hid (∀ W,Below w.heap.size w W->Calls prog 88 #[.pointer (some ⟨g.X,0,none⟩),.int .i64 z] W fun e w'=>e=.returned (.int .i64 (Stpp.get m z))/\Below W.heap.size W w'):=fun W hb=>regS g m full z W (h.below hb) hg z0 z1
 have HI:Hid (∀ W,Below w.heap.size w W->InS g W m full):=fun W hb=>h.below hb
 have t1:c.tdiv 8=c / 8:=Int.tdiv_eq_ediv_of_nonneg c0
 have t2:(c / 8).tmod 8=y:=by rw [Int.tmod_eq_emod_of_nonneg (by omega)];exact hy
 have t3:c.tmod 8=z:=by rw [Int.tmod_eq_emod_of_nonneg c0];exact hz
 have t4:c.tdiv 64=1:=by rw [Int.tdiv_eq_ediv_of_nonneg c0];exact hx
 have t5:IntKind.i64.wrap (c / 8)=c / 8:=by rw [IntKind.wrap_i64];omega
 have t6:IntKind.u64.wrap y=y:=by rw [IntKind.wrap_u64];omega
 have t7:IntKind.i64.wrap (2 ^ y.toNat)=bitV y:=by
  have hn:y=0 \/ y=1 \/ y=2 \/ y=3 \/ y=4 \/ y=5 \/ y=6 \/ y=7:=by omega
  rcases hn with rfl|rfl|rfl|rfl|rfl|rfl|rfl|rfl
  all_goals decide +kernel
 have hf:=hg.f
 have cc:=fun w=>l4Carry_any m.rf w hf.1 hf.2
 have tc:(cy m.rf == 1)=cB m.rf:=by unfold cB;by_cases h:cy m.rf=1 <;> simp [h]
 generalize cB m.rf=cb at *
 obtain ⟨vb,hvb⟩ : ∃ x,bits .and .i64 (Stpp.get m z) (bitV y)=x:=⟨_,rfl⟩
 rw [hvb]
 have hzz:(vb == 0)=decide (vb=0):=by by_cases h:vb=0 <;> simp [h]
 generalize decide (vb=0)=db at *
 clear hf
 clear h hg gb hx hy hz
 generalize Stpp.get m z=v at *
 generalize bitV y=bt at *
 go_enter func85,ntmps85
 go_wp2_with fail
 refine Calls.mono (HR.out _ (by repeat (with_reducible first|exact zRf|refine zGr ?_ _|refine below_drewN ?_ _|refine Below.drew ?_))) ?_
 rintro e w1 ⟨rfl,hb1⟩
 have k0:=HolI.box hb1 0 _ rfl
 have H1:Hid (InS g w1 m full):=HI.out _ (HolI.unbox hb1)
 clear hb1 HR HI
 have q1:=H1.out.cell 1 _ rfl
 have q_rf:=H1.out.cell 1 _ rfl
 have f_rf:=H1.out.fro 1
 have HF:Hid (InS g (w1.setCell ⟨g.X,1,none⟩ (.int .i64 (fl db false true cb))) { m with rf:=(fl db false true cb) } full):=H1.out.s_rf (fl db false true cb)
 clear H1
 go_wp2_with first|(go_at_call 121;refine (cc _).mono ?_;rintro e w' ⟨rfl,hw'⟩;have hw':=hw'.symm;subst hw')|(go_at_call 120;refine (l4Flags_any _ _ _ _ _).mono ?_;rintro e w' ⟨rfl,hw'⟩;have hw':=hw'.symm;subst hw')
 go_end0
 exact ⟨rfl,HF.out⟩
theorem cb_2 (g:SG) (m:M) (full:Bool) (c imm y z:Int) (c0:0<=c) (hx:c / 64=2) (hy:c / 8%8=y) (hz:c%8=z) (y0:0<=y) (y1:y<=7) (z0:0<=z) (z1:z<=7) (w:World) (h:InS g w m full) (hg:Stpq.Good m) :
  Calls prog 85 #[.pointer (some ⟨g.X,0,none⟩),.agg #[.int .i64 c,.bool true,.int .i64 imm]] w fun e w'=>e=.returned (.tuple #[])/\InS g w' (put ⟨m,full⟩ z (bits .andNot .i64 (Stpp.get m z) (bitV y))).m (put ⟨m,full⟩ z (bits .andNot .i64 (Stpp.get m z) (bitV y))).full:=by
 have gb:=get_bd hg z
 have HR:Hid (∀ W,Below w.heap.size w W->Calls prog 88 #[.pointer (some ⟨g.X,0,none⟩),.int .i64 z] W fun e w'=>e=.returned (.int .i64 (Stpp.get m z))/\Below W.heap.size W w'):=fun W hb=>regS g m full z W (h.below hb) hg z0 z1
 have HI:Hid (∀ W,Below w.heap.size w W->InS g W m full):=fun W hb=>h.below hb
 have t1:c.tdiv 8=c / 8:=Int.tdiv_eq_ediv_of_nonneg c0
 have t2:(c / 8).tmod 8=y:=by rw [Int.tmod_eq_emod_of_nonneg (by omega)];exact hy
 have t3:c.tmod 8=z:=by rw [Int.tmod_eq_emod_of_nonneg c0];exact hz
 have t4:c.tdiv 64=2:=by rw [Int.tdiv_eq_ediv_of_nonneg c0];exact hx
 have t5:IntKind.i64.wrap (c / 8)=c / 8:=by rw [IntKind.wrap_i64];omega
 have t6:IntKind.u64.wrap y=y:=by rw [IntKind.wrap_u64];omega
 have t7:IntKind.i64.wrap (2 ^ y.toNat)=bitV y:=by
  have hn:y=0 \/ y=1 \/ y=2 \/ y=3 \/ y=4 \/ y=5 \/ y=6 \/ y=7:=by omega
  rcases hn with rfl|rfl|rfl|rfl|rfl|rfl|rfl|rfl
  all_goals decide +kernel
 have bd:=andNot_bd gb.1 gb.2 y
 have c3:Hid (∀ W,InS g W m full->Calls prog 87 #[.pointer (some ⟨g.X,0,none⟩),.int .i64 z,.int .i64 (bits .andNot .i64 (Stpp.get m z) (bitV y))] W fun e w'=>e=.returned (.tuple #[])/\InS g w' (put ⟨m,full⟩ z (bits .andNot .i64 (Stpp.get m z) (bitV y))).m (put ⟨m,full⟩ z (bits .andNot .i64 (Stpp.get m z) (bitV y))).full):=fun W hi=>setS g m full _ _ W hi hg z0 z1 bd.1 bd.2
 generalize put ⟨m,full⟩ z (bits .andNot .i64 (Stpp.get m z) (bitV y))=t at *
 clear bd
 clear h hg gb hx hy hz
 generalize Stpp.get m z=v at *
 generalize bitV y=bt at *
 go_enter func85,ntmps85
 go_wp2_with fail
 refine Calls.mono (HR.out _ (by repeat (with_reducible first|exact zRf|refine zGr ?_ _|refine below_drewN ?_ _|refine Below.drew ?_))) ?_
 rintro e w1 ⟨rfl,hb1⟩
 have k0:=HolI.box hb1 0 _ rfl
 have H1:Hid (InS g w1 m full):=HI.out _ (HolI.unbox hb1)
 clear hb1 HR HI
 go_wp2_with fail
 refine Calls.mono (c3.out _ H1.out) ?_
 rintro e w2 ⟨rfl,hi2⟩
 have H2:Hid (InS g w2 t.m t.full):=hi2
 clear hi2 H1 c3
 go_wp2
 go_end0
 exact ⟨rfl,H2.out⟩
theorem cb_3 (g:SG) (m:M) (full:Bool) (c imm y z:Int) (c0:0<=c) (hx:c / 64=3) (hy:c / 8%8=y) (hz:c%8=z) (y0:0<=y) (y1:y<=7) (z0:0<=z) (z1:z<=7) (w:World) (h:InS g w m full) (hg:Stpq.Good m) :
  Calls prog 85 #[.pointer (some ⟨g.X,0,none⟩),.agg #[.int .i64 c,.bool true,.int .i64 imm]] w fun e w'=>e=.returned (.tuple #[])/\InS g w' (put ⟨m,full⟩ z (bits .or .i64 (Stpp.get m z) (bitV y))).m (put ⟨m,full⟩ z (bits .or .i64 (Stpp.get m z) (bitV y))).full:=by
 have gb:=get_bd hg z
 have HR:Hid (∀ W,Below w.heap.size w W->Calls prog 88 #[.pointer (some ⟨g.X,0,none⟩),.int .i64 z] W fun e w'=>e=.returned (.int .i64 (Stpp.get m z))/\Below W.heap.size W w'):=fun W hb=>regS g m full z W (h.below hb) hg z0 z1
 have HI:Hid (∀ W,Below w.heap.size w W->InS g W m full):=fun W hb=>h.below hb
 have t1:c.tdiv 8=c / 8:=Int.tdiv_eq_ediv_of_nonneg c0
 have t2:(c / 8).tmod 8=y:=by rw [Int.tmod_eq_emod_of_nonneg (by omega)];exact hy
 have t3:c.tmod 8=z:=by rw [Int.tmod_eq_emod_of_nonneg c0];exact hz
 have t4:c.tdiv 64=3:=by rw [Int.tdiv_eq_ediv_of_nonneg c0];exact hx
 have t5:IntKind.i64.wrap (c / 8)=c / 8:=by rw [IntKind.wrap_i64];omega
 have t6:IntKind.u64.wrap y=y:=by rw [IntKind.wrap_u64];omega
 have t7:IntKind.i64.wrap (2 ^ y.toNat)=bitV y:=by
  have hn:y=0 \/ y=1 \/ y=2 \/ y=3 \/ y=4 \/ y=5 \/ y=6 \/ y=7:=by omega
  rcases hn with rfl|rfl|rfl|rfl|rfl|rfl|rfl|rfl
  all_goals decide +kernel
 have bd:=orBit_bd gb.1 gb.2 y
 have c3:Hid (∀ W,InS g W m full->Calls prog 87 #[.pointer (some ⟨g.X,0,none⟩),.int .i64 z,.int .i64 (bits .or .i64 (Stpp.get m z) (bitV y))] W fun e w'=>e=.returned (.tuple #[])/\InS g w' (put ⟨m,full⟩ z (bits .or .i64 (Stpp.get m z) (bitV y))).m (put ⟨m,full⟩ z (bits .or .i64 (Stpp.get m z) (bitV y))).full):=fun W hi=>setS g m full _ _ W hi hg z0 z1 bd.1 bd.2
 generalize put ⟨m,full⟩ z (bits .or .i64 (Stpp.get m z) (bitV y))=t at *
 clear bd
 clear h hg gb hx hy hz
 generalize Stpp.get m z=v at *
 generalize bitV y=bt at *
 go_enter func85,ntmps85
 go_wp2_with fail
 refine Calls.mono (HR.out _ (by repeat (with_reducible first|exact zRf|refine zGr ?_ _|refine below_drewN ?_ _|refine Below.drew ?_))) ?_
 rintro e w1 ⟨rfl,hb1⟩
 have k0:=HolI.box hb1 0 _ rfl
 have H1:Hid (InS g w1 m full):=HI.out _ (HolI.unbox hb1)
 clear hb1 HR HI
 go_wp2_with fail
 refine Calls.mono (c3.out _ H1.out) ?_
 rintro e w2 ⟨rfl,hi2⟩
 have H2:Hid (InS g w2 t.m t.full):=hi2
 clear hi2 H1 c3
 go_wp2
 go_end0
 exact ⟨rfl,H2.out⟩
theorem cbS (g:SG) (m:M) (full:Bool) (c imm:Int) (c0:0<=c) (c1:c<=255) (w:World) (h:InS g w m full) (hg:Stpq.Good m) :
  Calls prog 85 #[.pointer (some ⟨g.X,0,none⟩),.agg #[.int .i64 c,.bool true,.int .i64 imm]] w fun e w'=>e=.returned (.tuple #[])/\InS g w' (cbE c ⟨m,full⟩).m (cbE c ⟨m,full⟩).full:=by
 unfold cbE
 by_cases h0:c / 64=0
 ·rw [if_pos h0];exact cb_0 g m full c imm _ _ c0 h0 rfl rfl (by omega) (by omega) (by omega) (by omega) w h hg
 rw [if_neg h0]
 by_cases h1:c / 64=1
 ·rw [if_pos h1];exact cb_1 g m full c imm _ _ c0 h1 rfl rfl (by omega) (by omega) (by omega) (by omega) w h hg
 rw [if_neg h1]
 by_cases h2:c / 64=2
 ·rw [if_pos h2];exact cb_2 g m full c imm _ _ c0 h2 rfl rfl (by omega) (by omega) (by omega) (by omega) w h hg
 rw [if_neg h2]
 exact cb_3 g m full c imm _ _ c0 (by omega) rfl rfl (by omega) (by omega) (by omega) (by omega) w h hg
theorem stq {g:SG} {w:World} {m:M} {full:Bool} {c imm:Int} (h:InS g w m full):∃ u,u=w.alloc (.cells #[.int .i64 c,.bool false,.int .i64 imm] 59)/\InS g u m full/\Hid (InS g u m full)/\u.cell? ⟨w.heap.size,0,none⟩=some (.int .i64 c)/\u.cell? ⟨w.heap.size,2,none⟩=some (.int .i64 imm)/\Hid (w.heap.size<u.heap.size/\¬ w.heap.size=g.X):=by
 have hI:=h.below (zAl w (.cells #[.int .i64 c,.bool false,.int .i64 imm] 59))
 exact ⟨_,rfl,hI,hI,by rw [World.cell?_alloc_new];rfl,by rw [World.cell?_alloc_new];rfl,by simp,by have:=h.lt;omega⟩
end Stck
namespace Stcz
open Go.Deep
open Signed (inB sgn ret_int ret_bool)
open Reck ReckS ReckM ReckD TurnS
open Busw Busx Busy Stpp Stpq Stps Sta Stb Stck
theorem inT {n lo hi:Int} (h:lo<=n/\n<=hi):inB n lo hi=true:=decide_eq_true h
theorem st8_in {v f:Int} {d:Bool} (h1:0<=v/\v<=255) (h3:0<=f/\f<=255):st8 v f d=st8R v f d:=by unfold st8;rw [inT h1,inT h3];rfl
theorem aw_in {a b f:Int} (h1:0<=a/\a<=65535) (h2:0<=b/\b<=65535) (h3:0<=f/\f<=255):aw a b f=awR a b f:=by unfold aw;rw [inT h1,inT h2,inT h3];rfl
theorem asg_in {a b:Int} (h1:0<=a/\a<=65535) (h2:0<=b/\b<=255):asg a b=asR a b:=by unfold asg;rw [inT h1,inT h2];rfl
theorem rebase {g:SG} {W:World} {m:M} {full:Bool} (h:InS g W m full):InS ⟨W,g.X⟩ W m full:=by
 obtain ⟨po,cap,h⟩:=h
 exact ⟨po,cap,h.box,h.sl,h.ne,⟨rfl,rfl,rfl,Nat.le_refl _,fun _ _ _=>rfl⟩⟩
theorem back {g:SG} {W W':World} {m m':M} {full full':Bool} (h:InS g W m full) (h2:InS ⟨W,g.X⟩ W' m' full'):InS g W' m' full'/\W.grownBy W' (some g.X):=by
 obtain ⟨po,cap,h⟩:=h
 obtain ⟨po',cap',h2⟩:=h2
 exact ⟨⟨po',cap',h2.box,h2.sl,h2.ne,grown_trans h.grown h2.grown⟩,h2.grown⟩
theorem both {g:SG} {f:FuncId} {args:Array Value} {W:World} {m m':M} {full full':Bool} {v:Value} (h:InS g W m full) (hc:∀ g':SG,g'.X=g.X->InS g' W m full->Calls prog f args W fun e w'=>e=.returned v/\InS g' w' m' full'):Calls prog f args W fun e w'=>e=.returned v/\InS g w' m' full'/\W.grownBy w' (some g.X) :=
 (hc ⟨W,g.X⟩ rfl (rebase h)).mono fun e w' h'=>⟨h'.1,(back h h'.2).1,(back h h'.2).2⟩
theorem kept_cell {w w':World} {X b i:Nat} {v:Value} (h:w.grownBy w' (some X)) (hb:b<w.heap.size) (hx:¬ b=X) (hv:w.cell? ⟨b,i,none⟩=some v):w'.cell? ⟨b,i,none⟩=some v :=
 (World.cell?_of_block (a:=⟨b,i,none⟩) (h.block b hb (fun e=>hx (Option.some.inj e)))).trans hv
end Stcz
namespace Stcp
open Go.Deep
open Signed (inB sgn ret_int ret_bool)
open Reck ReckS ReckM ReckD TurnS
open Busw Busx Busy Stpp Stpq Stps Sta Stb Stck Stcz
theorem low_2 (g:SG) (m:M) (full:Bool) (imm:Int) (i0:0<=imm) (i1:imm<=65535) (w:World) (h:InS g w m full) (hg:Stpq.Good m) :
  Calls prog 86 #[.pointer (some ⟨g.X,0,none⟩),.agg #[.int .i64 2,.bool false,.int .i64 imm]] w fun e w'=>e=.returned (.bool false)/\InS g w' (wr ⟨m,full⟩ (pr m 0) m.ra).m (wr ⟨m,full⟩ (pr m 0) m.ra).full:=by
 obtain ⟨u,hu,hI,HI,k0,k2,HLX⟩:=stq (c:=2) (imm:=imm) h
 have bd:=pr_bd hg 0
 have c1:Hid (∀ W,InS g W m full->Calls prog 128 #[.pointer (some ⟨g.X,0,none⟩),.int .i64 0,.bool false] W fun e w'=>e=.returned (.int .i64 (pr m 0))/\Below W.heap.size W w'):=fun W hi=>pairS g m full 0 W hi hg (by omega) (by omega)
 have c2:Hid (∀ W,InS g W m full->Calls prog 122 #[.pointer (some ⟨g.X,0,none⟩),.int .i64 (pr m 0),.int .i64 m.ra] W fun e w'=>e=.returned (.tuple #[])/\InS g w' (wr ⟨m,full⟩ (pr m 0) m.ra).m (wr ⟨m,full⟩ (pr m 0) m.ra).full):=fun W hi=>writeS g m full _ _ W hi hg.rt bd.1 hg.a.1 hg.a.2
 have g1:=wr_good (s:=⟨m,full⟩) hg (pr m 0) m.ra hg.a.1 hg.a.2
 generalize wr ⟨m,full⟩ (pr m 0) m.ra=t at *
 generalize pr m 0=x1 at *
 clear bd g1
 clear h hg hI i0 i1
 go_enter func86,ntmps86
 go_wp2_with fail
 rw [<- hu]
 clear hu k0 k2
 refine Calls.mono (c1.out _ HI.out) ?_
 rintro e w1 ⟨rfl,hb1⟩
 have H1:=zHd (HI.out.below hb1)
 clear hb1 HI c1
 have q0:=H1.out.cell 0 _ rfl
 go_wp2_with fail
 refine Calls.mono (c2.out _ H1.out) ?_
 rintro e w2 ⟨rfl,hi1⟩
 have H2:Hid (InS g w2 t.m t.full):=hi1
 clear hi1 H1 c2
 clear q0
 go_wp2
 go_ret
 exact ⟨rfl,H2.out⟩
theorem low_10 (g:SG) (m:M) (full:Bool) (imm:Int) (i0:0<=imm) (i1:imm<=65535) (w:World) (h:InS g w m full) (hg:Stpq.Good m) :
  Calls prog 86 #[.pointer (some ⟨g.X,0,none⟩),.agg #[.int .i64 10,.bool false,.int .i64 imm]] w fun e w'=>e=.returned (.bool false)/\InS g w' (⟨{ m with ra:=rd m (pr m 0) },full⟩ : S).m (⟨{ m with ra:=rd m (pr m 0) },full⟩ : S).full:=by
 obtain ⟨u,hu,hI,HI,k0,k2,HLX⟩:=stq (c:=10) (imm:=imm) h
 have bd:=pr_bd hg 0
 have c1:Hid (∀ W,InS g W m full->Calls prog 128 #[.pointer (some ⟨g.X,0,none⟩),.int .i64 0,.bool false] W fun e w'=>e=.returned (.int .i64 (pr m 0))/\Below W.heap.size W w'):=fun W hi=>pairS g m full 0 W hi hg (by omega) (by omega)
 have CR:Hid (∀ po cap W,Calls prog 117 #[.agg (cellsM m po cap),.int .i64 (pr m 0)] W fun e w'=>e=.returned (.int .i64 (rd m (pr m 0)))/\Below W.heap.size W w'):=fun po cap W=>l6Read_M m po cap _ W hg.rt bd.1
 have rb:=rd_bd m (pr m 0)
 generalize rd m (pr m 0)=rv at *
 generalize pr m 0=x1 at *
 clear bd rb
 clear h hg hI i0 i1
 go_enter func86,ntmps86
 go_wp2_with fail
 rw [<- hu]
 clear hu k0 k2
 refine Calls.mono (c1.out _ HI.out) ?_
 rintro e w1 ⟨rfl,hb1⟩
 have H1:=zHd (HI.out.below hb1)
 clear hb1 HI c1
 obtain ⟨po,cap,hA⟩:=H1.out
 have hl:=hA.load (W':=w1) rfl
 have CR2:=fun W=>CR.out po cap W
 generalize cellsM m po cap=cM at *
 clear hA CR
 go_upto_region 21 with fail
 refine wp_region_list ?_
 refine wpList_plain rfl (fun K hK=>?_)
 go_simp
 refine hK _ _ ?_
 clear hK
 refine wpList_plain rfl (fun K hK=>?_)
 go_simp
 refine hK _ _ ?_
 clear hK
 refine wpList_plain rfl (fun K hK=>?_)
 go_simp
 refine hK _ _ ?_
 clear hK
 refine wpList_plain rfl (fun K hK=>?_)
 go_simp
 refine hK _ _ ?_
 clear hK
 refine wpList_load_any rfl 33 _ rfl ⟨g.X,0,none⟩ rfl _ hl ?_
 go_wp2_with fail
 refine Calls.mono (CR2 _) ?_
 rintro e w2 ⟨rfl,hb2⟩
 have H2:=zHd (H1.out.below hb2)
 clear hb2 H1 CR2 hl
 have q_ra:=H2.out.cell 0 _ rfl
 have f_ra:=H2.out.fro 0
 have HF:Hid (InS g (w2.setCell ⟨g.X,0,none⟩ (.int .i64 rv)) { m with ra:=rv } full):=H2.out.s_ra rv
 clear H2
 go_wp2
 go_ret
 exact ⟨rfl,HF.out⟩
theorem low_18 (g:SG) (m:M) (full:Bool) (imm:Int) (i0:0<=imm) (i1:imm<=65535) (w:World) (h:InS g w m full) (hg:Stpq.Good m) :
  Calls prog 86 #[.pointer (some ⟨g.X,0,none⟩),.agg #[.int .i64 18,.bool false,.int .i64 imm]] w fun e w'=>e=.returned (.bool false)/\InS g w' (wr ⟨m,full⟩ (pr m 1) m.ra).m (wr ⟨m,full⟩ (pr m 1) m.ra).full:=by
 obtain ⟨u,hu,hI,HI,k0,k2,HLX⟩:=stq (c:=18) (imm:=imm) h
 have bd:=pr_bd hg 1
 have c1:Hid (∀ W,InS g W m full->Calls prog 128 #[.pointer (some ⟨g.X,0,none⟩),.int .i64 1,.bool false] W fun e w'=>e=.returned (.int .i64 (pr m 1))/\Below W.heap.size W w'):=fun W hi=>pairS g m full 1 W hi hg (by omega) (by omega)
 have c2:Hid (∀ W,InS g W m full->Calls prog 122 #[.pointer (some ⟨g.X,0,none⟩),.int .i64 (pr m 1),.int .i64 m.ra] W fun e w'=>e=.returned (.tuple #[])/\InS g w' (wr ⟨m,full⟩ (pr m 1) m.ra).m (wr ⟨m,full⟩ (pr m 1) m.ra).full):=fun W hi=>writeS g m full _ _ W hi hg.rt bd.1 hg.a.1 hg.a.2
 have g1:=wr_good (s:=⟨m,full⟩) hg (pr m 1) m.ra hg.a.1 hg.a.2
 generalize wr ⟨m,full⟩ (pr m 1) m.ra=t at *
 generalize pr m 1=x1 at *
 clear bd g1
 clear h hg hI i0 i1
 go_enter func86,ntmps86
 go_wp2_with fail
 rw [<- hu]
 clear hu k0 k2
 refine Calls.mono (c1.out _ HI.out) ?_
 rintro e w1 ⟨rfl,hb1⟩
 have H1:=zHd (HI.out.below hb1)
 clear hb1 HI c1
 have q0:=H1.out.cell 0 _ rfl
 go_wp2_with fail
 refine Calls.mono (c2.out _ H1.out) ?_
 rintro e w2 ⟨rfl,hi1⟩
 have H2:Hid (InS g w2 t.m t.full):=hi1
 clear hi1 H1 c2
 clear q0
 go_wp2
 go_ret
 exact ⟨rfl,H2.out⟩
theorem low_26 (g:SG) (m:M) (full:Bool) (imm:Int) (i0:0<=imm) (i1:imm<=65535) (w:World) (h:InS g w m full) (hg:Stpq.Good m) :
  Calls prog 86 #[.pointer (some ⟨g.X,0,none⟩),.agg #[.int .i64 26,.bool false,.int .i64 imm]] w fun e w'=>e=.returned (.bool false)/\InS g w' (⟨{ m with ra:=rd m (pr m 1) },full⟩ : S).m (⟨{ m with ra:=rd m (pr m 1) },full⟩ : S).full:=by
 obtain ⟨u,hu,hI,HI,k0,k2,HLX⟩:=stq (c:=26) (imm:=imm) h
 have bd:=pr_bd hg 1
 have c1:Hid (∀ W,InS g W m full->Calls prog 128 #[.pointer (some ⟨g.X,0,none⟩),.int .i64 1,.bool false] W fun e w'=>e=.returned (.int .i64 (pr m 1))/\Below W.heap.size W w'):=fun W hi=>pairS g m full 1 W hi hg (by omega) (by omega)
 have CR:Hid (∀ po cap W,Calls prog 117 #[.agg (cellsM m po cap),.int .i64 (pr m 1)] W fun e w'=>e=.returned (.int .i64 (rd m (pr m 1)))/\Below W.heap.size W w'):=fun po cap W=>l6Read_M m po cap _ W hg.rt bd.1
 have rb:=rd_bd m (pr m 1)
 generalize rd m (pr m 1)=rv at *
 generalize pr m 1=x1 at *
 clear bd rb
 clear h hg hI i0 i1
 go_enter func86,ntmps86
 go_wp2_with fail
 rw [<- hu]
 clear hu k0 k2
 refine Calls.mono (c1.out _ HI.out) ?_
 rintro e w1 ⟨rfl,hb1⟩
 have H1:=zHd (HI.out.below hb1)
 clear hb1 HI c1
 obtain ⟨po,cap,hA⟩:=H1.out
 have hl:=hA.load (W':=w1) rfl
 have CR2:=fun W=>CR.out po cap W
 generalize cellsM m po cap=cM at *
 clear hA CR
 go_upto_region 21 with fail
 refine wp_region_list ?_
 refine wpList_plain rfl (fun K hK=>?_)
 go_simp
 refine hK _ _ ?_
 clear hK
 refine wpList_plain rfl (fun K hK=>?_)
 go_simp
 refine hK _ _ ?_
 clear hK
 refine wpList_plain rfl (fun K hK=>?_)
 go_simp
 refine hK _ _ ?_
 clear hK
 refine wpList_plain rfl (fun K hK=>?_)
 go_simp
 refine hK _ _ ?_
 clear hK
 refine wpList_load_any rfl 33 _ rfl ⟨g.X,0,none⟩ rfl _ hl ?_
 go_wp2_with fail
 refine Calls.mono (CR2 _) ?_
 rintro e w2 ⟨rfl,hb2⟩
 have H2:=zHd (H1.out.below hb2)
 clear hb2 H1 CR2 hl
 have q_ra:=H2.out.cell 0 _ rfl
 have f_ra:=H2.out.fro 0
 have HF:Hid (InS g (w2.setCell ⟨g.X,0,none⟩ (.int .i64 rv)) { m with ra:=rv } full):=H2.out.s_ra rv
 clear H2
 go_wp2
 go_ret
 exact ⟨rfl,HF.out⟩
theorem low_34 (g:SG) (m:M) (full:Bool) (imm:Int) (i0:0<=imm) (i1:imm<=65535) (w:World) (h:InS g w m full) (hg:Stpq.Good m) :
  Calls prog 86 #[.pointer (some ⟨g.X,0,none⟩),.agg #[.int .i64 34,.bool false,.int .i64 imm]] w fun e w'=>e=.returned (.bool false)/\InS g w' (⟨setP (wr ⟨m,full⟩ (pr m 2) m.ra).m 2 ((pr m 2+1)%65536),(wr ⟨m,full⟩ (pr m 2) m.ra).full⟩ : S).m (⟨setP (wr ⟨m,full⟩ (pr m 2) m.ra).m 2 ((pr m 2+1)%65536),(wr ⟨m,full⟩ (pr m 2) m.ra).full⟩ : S).full:=by
 obtain ⟨u,hu,hI,HI,k0,k2,HLX⟩:=stq (c:=34) (imm:=imm) h
 have bd:=pr_bd hg 2
 have d1:IntKind.i64.wrap (pr m 2+1)=pr m 2+1:=by rw [IntKind.wrap_i64];omega
 have d2:(pr m 2+1).tmod 65536=(pr m 2+1)%65536:=Int.tmod_eq_emod_of_nonneg (by omega)
 have c1:Hid (∀ W,InS g W m full->Calls prog 128 #[.pointer (some ⟨g.X,0,none⟩),.int .i64 2,.bool false] W fun e w'=>e=.returned (.int .i64 (pr m 2))/\Below W.heap.size W w'):=fun W hi=>pairS g m full 2 W hi hg (by omega) (by omega)
 have c2:Hid (∀ W,InS g W m full->Calls prog 122 #[.pointer (some ⟨g.X,0,none⟩),.int .i64 (pr m 2),.int .i64 m.ra] W fun e w'=>e=.returned (.tuple #[])/\InS g w' (wr ⟨m,full⟩ (pr m 2) m.ra).m (wr ⟨m,full⟩ (pr m 2) m.ra).full):=fun W hi=>writeS g m full _ _ W hi hg.rt bd.1 hg.a.1 hg.a.2
 have g1:=wr_good (s:=⟨m,full⟩) hg (pr m 2) m.ra hg.a.1 hg.a.2
 generalize wr ⟨m,full⟩ (pr m 2) m.ra=t at *
 have c3:Hid (∀ W,InS g W t.m t.full->Calls prog 125 #[.pointer (some ⟨g.X,0,none⟩),.int .i64 2,.int .i64 ((pr m 2+1)%65536),.bool false] W fun e w'=>e=.returned (.tuple #[])/\InS g w' (⟨setP t.m 2 ((pr m 2+1)%65536),t.full⟩ : S).m (⟨setP t.m 2 ((pr m 2+1)%65536),t.full⟩ : S).full):=fun W hi=>setPairS g t.m t.full 2 _ W hi g1 (by omega) (by omega) (by omega) (by omega)
 generalize (⟨setP t.m 2 ((pr m 2+1)%65536),t.full⟩ : S)=t2 at *
 generalize (pr m 2+1)%65536=vv at *
 generalize pr m 2=x1 at *
 clear bd g1
 clear h hg hI i0 i1
 go_enter func86,ntmps86
 go_wp2_with fail
 rw [<- hu]
 clear hu k0 k2
 refine Calls.mono (c1.out _ HI.out) ?_
 rintro e w1 ⟨rfl,hb1⟩
 have H1:=zHd (HI.out.below hb1)
 clear hb1 HI c1
 have q0:=H1.out.cell 0 _ rfl
 go_wp2_with fail
 refine Calls.mono (c2.out _ H1.out) ?_
 rintro e w2 ⟨rfl,hi1⟩
 have H2:Hid (InS g w2 t.m t.full):=hi1
 clear hi1 H1 c2
 clear q0
 go_wp2_with fail
 refine Calls.mono (c3.out _ (H2.out.below (by repeat (with_reducible first|exact zRf|refine zGr ?_ _|refine below_drewN ?_ _|refine Below.drew ?_)))) ?_
 rintro e w3 ⟨rfl,hi1⟩
 have H3:Hid (InS g w3 t2.m t2.full):=hi1
 clear hi1 H2 c3
 go_wp2
 go_ret
 exact ⟨rfl,H3.out⟩
theorem low_42 (g:SG) (m:M) (full:Bool) (imm:Int) (i0:0<=imm) (i1:imm<=65535) (w:World) (h:InS g w m full) (hg:Stpq.Good m) :
  Calls prog 86 #[.pointer (some ⟨g.X,0,none⟩),.agg #[.int .i64 42,.bool false,.int .i64 imm]] w fun e w'=>e=.returned (.bool false)/\InS g w' (⟨setP { m with ra:=rd m (pr m 2) } 2 ((pr m 2+1)%65536),full⟩ : S).m (⟨setP { m with ra:=rd m (pr m 2) } 2 ((pr m 2+1)%65536),full⟩ : S).full:=by
 obtain ⟨u,hu,hI,HI,k0,k2,HLX⟩:=stq (c:=42) (imm:=imm) h
 have bd:=pr_bd hg 2
 have d1:IntKind.i64.wrap (pr m 2+1)=pr m 2+1:=by rw [IntKind.wrap_i64];omega
 have d2:(pr m 2+1).tmod 65536=(pr m 2+1)%65536:=Int.tmod_eq_emod_of_nonneg (by omega)
 have c1:Hid (∀ W,InS g W m full->Calls prog 128 #[.pointer (some ⟨g.X,0,none⟩),.int .i64 2,.bool false] W fun e w'=>e=.returned (.int .i64 (pr m 2))/\Below W.heap.size W w'):=fun W hi=>pairS g m full 2 W hi hg (by omega) (by omega)
 have CR:Hid (∀ po cap W,Calls prog 117 #[.agg (cellsM m po cap),.int .i64 (pr m 2)] W fun e w'=>e=.returned (.int .i64 (rd m (pr m 2)))/\Below W.heap.size W w'):=fun po cap W=>l6Read_M m po cap _ W hg.rt bd.1
 have rb:=rd_bd m (pr m 2)
 generalize rd m (pr m 2)=rv at *
 have g1:=good_a hg rv rb.1 rb.2
 have c3:Hid (∀ W,InS g W { m with ra:=rv } full->Calls prog 125 #[.pointer (some ⟨g.X,0,none⟩),.int .i64 2,.int .i64 ((pr m 2+1)%65536),.bool false] W fun e w'=>e=.returned (.tuple #[])/\InS g w' (⟨setP { m with ra:=rv } 2 ((pr m 2+1)%65536),full⟩ : S).m (⟨setP { m with ra:=rv } 2 ((pr m 2+1)%65536),full⟩ : S).full):=fun W hi=>setPairS g { m with ra:=rv } full 2 _ W hi g1 (by omega) (by omega) (by omega) (by omega)
 generalize (⟨setP { m with ra:=rv } 2 ((pr m 2+1)%65536),full⟩ : S)=t2 at *
 generalize (pr m 2+1)%65536=vv at *
 clear g1
 generalize pr m 2=x1 at *
 clear bd rb
 clear h hg hI i0 i1
 go_enter func86,ntmps86
 go_wp2_with fail
 rw [<- hu]
 clear hu k0 k2
 refine Calls.mono (c1.out _ HI.out) ?_
 rintro e w1 ⟨rfl,hb1⟩
 have H1:=zHd (HI.out.below hb1)
 clear hb1 HI c1
 obtain ⟨po,cap,hA⟩:=H1.out
 have hl:=hA.load (W':=w1) rfl
 have CR2:=fun W=>CR.out po cap W
 generalize cellsM m po cap=cM at *
 clear hA CR
 go_upto_region 21 with fail
 refine wp_region_list ?_
 refine wpList_plain rfl (fun K hK=>?_)
 go_simp
 refine hK _ _ ?_
 clear hK
 refine wpList_plain rfl (fun K hK=>?_)
 go_simp
 refine hK _ _ ?_
 clear hK
 refine wpList_plain rfl (fun K hK=>?_)
 go_simp
 refine hK _ _ ?_
 clear hK
 refine wpList_plain rfl (fun K hK=>?_)
 go_simp
 refine hK _ _ ?_
 clear hK
 refine wpList_load_any rfl 33 _ rfl ⟨g.X,0,none⟩ rfl _ hl ?_
 go_wp2_with fail
 refine Calls.mono (CR2 _) ?_
 rintro e w2 ⟨rfl,hb2⟩
 have H2:=zHd (H1.out.below hb2)
 clear hb2 H1 CR2 hl
 have q_ra:=H2.out.cell 0 _ rfl
 have f_ra:=H2.out.fro 0
 have HF:Hid (InS g (w2.setCell ⟨g.X,0,none⟩ (.int .i64 rv)) { m with ra:=rv } full):=H2.out.s_ra rv
 clear H2
 go_wp2_with fail
 refine Calls.mono (c3.out _ (HF.out.below (by repeat (with_reducible first|exact zRf|refine zGr ?_ _|refine below_drewN ?_ _|refine Below.drew ?_)))) ?_
 rintro e w3 ⟨rfl,hi1⟩
 have H3:Hid (InS g w3 t2.m t2.full):=hi1
 clear hi1 HF c3
 go_wp2
 go_ret
 exact ⟨rfl,H3.out⟩
theorem low_50 (g:SG) (m:M) (full:Bool) (imm:Int) (i0:0<=imm) (i1:imm<=65535) (w:World) (h:InS g w m full) (hg:Stpq.Good m) :
  Calls prog 86 #[.pointer (some ⟨g.X,0,none⟩),.agg #[.int .i64 50,.bool false,.int .i64 imm]] w fun e w'=>e=.returned (.bool false)/\InS g w' (⟨setP (wr ⟨m,full⟩ (pr m 2) m.ra).m 2 ((pr m 2+65535)%65536),(wr ⟨m,full⟩ (pr m 2) m.ra).full⟩ : S).m (⟨setP (wr ⟨m,full⟩ (pr m 2) m.ra).m 2 ((pr m 2+65535)%65536),(wr ⟨m,full⟩ (pr m 2) m.ra).full⟩ : S).full:=by
 obtain ⟨u,hu,hI,HI,k0,k2,HLX⟩:=stq (c:=50) (imm:=imm) h
 have bd:=pr_bd hg 2
 have d1:IntKind.i64.wrap (pr m 2+65535)=pr m 2+65535:=by rw [IntKind.wrap_i64];omega
 have d2:(pr m 2+65535).tmod 65536=(pr m 2+65535)%65536:=Int.tmod_eq_emod_of_nonneg (by omega)
 have c1:Hid (∀ W,InS g W m full->Calls prog 128 #[.pointer (some ⟨g.X,0,none⟩),.int .i64 2,.bool false] W fun e w'=>e=.returned (.int .i64 (pr m 2))/\Below W.heap.size W w'):=fun W hi=>pairS g m full 2 W hi hg (by omega) (by omega)
 have c2:Hid (∀ W,InS g W m full->Calls prog 122 #[.pointer (some ⟨g.X,0,none⟩),.int .i64 (pr m 2),.int .i64 m.ra] W fun e w'=>e=.returned (.tuple #[])/\InS g w' (wr ⟨m,full⟩ (pr m 2) m.ra).m (wr ⟨m,full⟩ (pr m 2) m.ra).full):=fun W hi=>writeS g m full _ _ W hi hg.rt bd.1 hg.a.1 hg.a.2
 have g1:=wr_good (s:=⟨m,full⟩) hg (pr m 2) m.ra hg.a.1 hg.a.2
 generalize wr ⟨m,full⟩ (pr m 2) m.ra=t at *
 have c3:Hid (∀ W,InS g W t.m t.full->Calls prog 125 #[.pointer (some ⟨g.X,0,none⟩),.int .i64 2,.int .i64 ((pr m 2+65535)%65536),.bool false] W fun e w'=>e=.returned (.tuple #[])/\InS g w' (⟨setP t.m 2 ((pr m 2+65535)%65536),t.full⟩ : S).m (⟨setP t.m 2 ((pr m 2+65535)%65536),t.full⟩ : S).full):=fun W hi=>setPairS g t.m t.full 2 _ W hi g1 (by omega) (by omega) (by omega) (by omega)
 generalize (⟨setP t.m 2 ((pr m 2+65535)%65536),t.full⟩ : S)=t2 at *
 generalize (pr m 2+65535)%65536=vv at *
 generalize pr m 2=x1 at *
 clear bd g1
 clear h hg hI i0 i1
 go_enter func86,ntmps86
 go_wp2_with fail
 rw [<- hu]
 clear hu k0 k2
 refine Calls.mono (c1.out _ HI.out) ?_
 rintro e w1 ⟨rfl,hb1⟩
 have H1:=zHd (HI.out.below hb1)
 clear hb1 HI c1
 have q0:=H1.out.cell 0 _ rfl
 go_wp2_with fail
 refine Calls.mono (c2.out _ H1.out) ?_
 rintro e w2 ⟨rfl,hi1⟩
 have H2:Hid (InS g w2 t.m t.full):=hi1
 clear hi1 H1 c2
 clear q0
 go_wp2_with fail
 refine Calls.mono (c3.out _ (H2.out.below (by repeat (with_reducible first|exact zRf|refine zGr ?_ _|refine below_drewN ?_ _|refine Below.drew ?_)))) ?_
 rintro e w3 ⟨rfl,hi1⟩
 have H3:Hid (InS g w3 t2.m t2.full):=hi1
 clear hi1 H2 c3
 go_wp2
 go_ret
 exact ⟨rfl,H3.out⟩
theorem low_58 (g:SG) (m:M) (full:Bool) (imm:Int) (i0:0<=imm) (i1:imm<=65535) (w:World) (h:InS g w m full) (hg:Stpq.Good m) :
  Calls prog 86 #[.pointer (some ⟨g.X,0,none⟩),.agg #[.int .i64 58,.bool false,.int .i64 imm]] w fun e w'=>e=.returned (.bool false)/\InS g w' (⟨setP { m with ra:=rd m (pr m 2) } 2 ((pr m 2+65535)%65536),full⟩ : S).m (⟨setP { m with ra:=rd m (pr m 2) } 2 ((pr m 2+65535)%65536),full⟩ : S).full:=by
 obtain ⟨u,hu,hI,HI,k0,k2,HLX⟩:=stq (c:=58) (imm:=imm) h
 have bd:=pr_bd hg 2
 have d1:IntKind.i64.wrap (pr m 2+65535)=pr m 2+65535:=by rw [IntKind.wrap_i64];omega
 have d2:(pr m 2+65535).tmod 65536=(pr m 2+65535)%65536:=Int.tmod_eq_emod_of_nonneg (by omega)
 have c1:Hid (∀ W,InS g W m full->Calls prog 128 #[.pointer (some ⟨g.X,0,none⟩),.int .i64 2,.bool false] W fun e w'=>e=.returned (.int .i64 (pr m 2))/\Below W.heap.size W w'):=fun W hi=>pairS g m full 2 W hi hg (by omega) (by omega)
 have CR:Hid (∀ po cap W,Calls prog 117 #[.agg (cellsM m po cap),.int .i64 (pr m 2)] W fun e w'=>e=.returned (.int .i64 (rd m (pr m 2)))/\Below W.heap.size W w'):=fun po cap W=>l6Read_M m po cap _ W hg.rt bd.1
 have rb:=rd_bd m (pr m 2)
 generalize rd m (pr m 2)=rv at *
 have g1:=good_a hg rv rb.1 rb.2
 have c3:Hid (∀ W,InS g W { m with ra:=rv } full->Calls prog 125 #[.pointer (some ⟨g.X,0,none⟩),.int .i64 2,.int .i64 ((pr m 2+65535)%65536),.bool false] W fun e w'=>e=.returned (.tuple #[])/\InS g w' (⟨setP { m with ra:=rv } 2 ((pr m 2+65535)%65536),full⟩ : S).m (⟨setP { m with ra:=rv } 2 ((pr m 2+65535)%65536),full⟩ : S).full):=fun W hi=>setPairS g { m with ra:=rv } full 2 _ W hi g1 (by omega) (by omega) (by omega) (by omega)
 generalize (⟨setP { m with ra:=rv } 2 ((pr m 2+65535)%65536),full⟩ : S)=t2 at *
 generalize (pr m 2+65535)%65536=vv at *
 clear g1
 generalize pr m 2=x1 at *
 clear bd rb
 clear h hg hI i0 i1
 go_enter func86,ntmps86
 go_wp2_with fail
 rw [<- hu]
 clear hu k0 k2
 refine Calls.mono (c1.out _ HI.out) ?_
 rintro e w1 ⟨rfl,hb1⟩
 have H1:=zHd (HI.out.below hb1)
 clear hb1 HI c1
 obtain ⟨po,cap,hA⟩:=H1.out
 have hl:=hA.load (W':=w1) rfl
 have CR2:=fun W=>CR.out po cap W
 generalize cellsM m po cap=cM at *
 clear hA CR
 go_upto_region 21 with fail
 refine wp_region_list ?_
 refine wpList_plain rfl (fun K hK=>?_)
 go_simp
 refine hK _ _ ?_
 clear hK
 refine wpList_plain rfl (fun K hK=>?_)
 go_simp
 refine hK _ _ ?_
 clear hK
 refine wpList_plain rfl (fun K hK=>?_)
 go_simp
 refine hK _ _ ?_
 clear hK
 refine wpList_plain rfl (fun K hK=>?_)
 go_simp
 refine hK _ _ ?_
 clear hK
 refine wpList_load_any rfl 33 _ rfl ⟨g.X,0,none⟩ rfl _ hl ?_
 go_wp2_with fail
 refine Calls.mono (CR2 _) ?_
 rintro e w2 ⟨rfl,hb2⟩
 have H2:=zHd (H1.out.below hb2)
 clear hb2 H1 CR2 hl
 have q_ra:=H2.out.cell 0 _ rfl
 have f_ra:=H2.out.fro 0
 have HF:Hid (InS g (w2.setCell ⟨g.X,0,none⟩ (.int .i64 rv)) { m with ra:=rv } full):=H2.out.s_ra rv
 clear H2
 go_wp2_with fail
 refine Calls.mono (c3.out _ (HF.out.below (by repeat (with_reducible first|exact zRf|refine zGr ?_ _|refine below_drewN ?_ _|refine Below.drew ?_)))) ?_
 rintro e w3 ⟨rfl,hi1⟩
 have H3:Hid (InS g w3 t2.m t2.full):=hi1
 clear hi1 HF c3
 go_wp2
 go_ret
 exact ⟨rfl,H3.out⟩
end Stcp
namespace Stcr
open Go.Deep
open Signed (inB sgn ret_int ret_bool)
open Reck ReckS ReckM ReckD TurnS
open Busw Busx Busy Stpp Stpq Stps Sta Stb Stck Stcz
theorem low_z4 (g:SG) (m:M) (full:Bool) (imm:Int) (c y:Int) (c0:0<=c) (hy:c / 8=y) (y0:0<=y) (y1:y<=7) (hz:c%8=4) (i0:0<=imm) (i1:imm<=65535) (w:World) (h:InS g w m full) (hg:Stpq.Good m) :
  Calls prog 86 #[.pointer (some ⟨g.X,0,none⟩),.agg #[.int .i64 c,.bool false,.int .i64 imm]] w fun e w'=>e=.returned (.bool false)/\InS g w' (F (put ⟨m,full⟩ y (st8R (Stpp.get m y) m.rf false).1) (st8R (Stpp.get m y) m.rf false).2).m (F (put ⟨m,full⟩ y (st8R (Stpp.get m y) m.rf false).1) (st8R (Stpp.get m y) m.rf false).2).full:=by
 obtain ⟨u,hu,hI,HI,k0,k2,HLX⟩:=stq (c:=c) (imm:=imm) h
 have t1:c.tdiv 8=y:=by rw [Int.tdiv_eq_ediv_of_nonneg c0];exact hy
 have t2:c.tmod 8=4:=by rw [Int.tmod_eq_emod_of_nonneg c0];exact hz
 have t3:IntKind.i64.wrap y=y:=by rw [IntKind.wrap_i64];omega
 have t4:y.tdiv 2=y / 2:=Int.tdiv_eq_ediv_of_nonneg y0
 have t5:IntKind.i64.wrap (y / 2)=y / 2:=by rw [IntKind.wrap_i64];omega
 have c1:Rg 88 #[.pointer (some ⟨g.X,0,none⟩),.int .i64 y] u (.int .i64 (Stpp.get m y)):=rg fun W hb=>regS g m full y W (hI.below hb) hg y0 y1
 have c2:Rg 129 #[.int .i64 (Stpp.get m y),.int .i64 m.rf,.bool false] u (.tuple #[.int .i64 (st8R (Stpp.get m y) m.rf false).1,.int .i64 (st8R (Stpp.get m y) m.rf false).2]):=rg fun W hb=>(specStepped8_any (Stpp.get m y) m.rf false W).mono fun e w' h=>⟨by rw [<- st8_in (get_bd hg y) hg.f];exact h.1,by rw [h.2];exact zRf⟩
 have bd:=st8_bd (v:=Stpp.get m y) (f:=m.rf) false
 generalize (st8R (Stpp.get m y) m.rf false).1=v1 at *
 generalize (st8R (Stpp.get m y) m.rf false).2=v2 at *
 have c3:Hid (∀ W,InS g W m full->Calls prog 87 #[.pointer (some ⟨g.X,0,none⟩),.int .i64 y,.int .i64 v1] W fun e w'=>e=.returned (.tuple #[])/\InS g w' (put ⟨m,full⟩ y v1).m (put ⟨m,full⟩ y v1).full):=fun W hi=>setS g m full _ _ W hi hg y0 y1 bd.1 bd.2.1
 generalize put ⟨m,full⟩ y v1=t at *
 generalize Stpp.get m y=x1 at *
 have r0:=cell_regrown (hI.cell 1 _ rfl)
 clear bd
 clear h hg hI i0 i1 hy hz y0 y1 c0
 go_enter func86,ntmps86
 go_upto_region 27 with fail
 rw [<- hu]
 clear hu
 refine wp_region_quiet_below (by kernel_rfl) (by kernel_rfl) ?_
 repeat (first|(go_big_quiet_step (first|with_reducible exact c1 _ _|with_reducible exact c2 _ _))|(refine wpQuiet_load (by rfl) 33 _ rfl ⟨g.X,0,none⟩ rfl _ (fun W hW=>by obtain ⟨⟨d,o⟩,rfl⟩:=hW;exact hld d o) ?_;simp only [Act.put,List.setIfInBounds_toArray,List.set_cons_succ,List.set_cons_zero]))
 refine wpQuiet_nil ?_
 intro _ hw'
 obtain ⟨⟨dq,osq⟩,hw''⟩:=hw'
 subst hw''
 have H2:=zHd (HI.out.below (below_regrown u dq osq))
 have hbg:=below_regrown u dq osq
 generalize Go.Sort.grow (redrawn u dq) osq=W2 at *
 clear HI r0 c1 c2
 go_wp2_with fail
 refine Calls.mono (c3.out _ H2.out) ?_
 rintro e w3 ⟨rfl,hi1⟩
 have H3:Hid (InS g w3 t.m t.full):=hi1
 clear hi1 H2 c3
 have q_rf:=H3.out.cell 1 _ rfl
 have f_rf:=H3.out.fro 1
 have HF:Hid (InS g (w3.setCell ⟨g.X,1,none⟩ (.int .i64 v2)) { t.m with rf:=v2 } t.full):=H3.out.s_rf v2
 clear H3
 go_wp2
 go_ret
 exact ⟨rfl,HF.out⟩
theorem low_z5 (g:SG) (m:M) (full:Bool) (imm:Int) (c y:Int) (c0:0<=c) (hy:c / 8=y) (y0:0<=y) (y1:y<=7) (hz:c%8=5) (i0:0<=imm) (i1:imm<=65535) (w:World) (h:InS g w m full) (hg:Stpq.Good m) :
  Calls prog 86 #[.pointer (some ⟨g.X,0,none⟩),.agg #[.int .i64 c,.bool false,.int .i64 imm]] w fun e w'=>e=.returned (.bool false)/\InS g w' (F (put ⟨m,full⟩ y (st8R (Stpp.get m y) m.rf true).1) (st8R (Stpp.get m y) m.rf true).2).m (F (put ⟨m,full⟩ y (st8R (Stpp.get m y) m.rf true).1) (st8R (Stpp.get m y) m.rf true).2).full:=by
 obtain ⟨u,hu,hI,HI,k0,k2,HLX⟩:=stq (c:=c) (imm:=imm) h
 have t1:c.tdiv 8=y:=by rw [Int.tdiv_eq_ediv_of_nonneg c0];exact hy
 have t2:c.tmod 8=5:=by rw [Int.tmod_eq_emod_of_nonneg c0];exact hz
 have t3:IntKind.i64.wrap y=y:=by rw [IntKind.wrap_i64];omega
 have t4:y.tdiv 2=y / 2:=Int.tdiv_eq_ediv_of_nonneg y0
 have t5:IntKind.i64.wrap (y / 2)=y / 2:=by rw [IntKind.wrap_i64];omega
 have c1:Rg 88 #[.pointer (some ⟨g.X,0,none⟩),.int .i64 y] u (.int .i64 (Stpp.get m y)):=rg fun W hb=>regS g m full y W (hI.below hb) hg y0 y1
 have c2:Rg 129 #[.int .i64 (Stpp.get m y),.int .i64 m.rf,.bool true] u (.tuple #[.int .i64 (st8R (Stpp.get m y) m.rf true).1,.int .i64 (st8R (Stpp.get m y) m.rf true).2]):=rg fun W hb=>(specStepped8_any (Stpp.get m y) m.rf true W).mono fun e w' h=>⟨by rw [<- st8_in (get_bd hg y) hg.f];exact h.1,by rw [h.2];exact zRf⟩
 have bd:=st8_bd (v:=Stpp.get m y) (f:=m.rf) true
 generalize (st8R (Stpp.get m y) m.rf true).1=v1 at *
 generalize (st8R (Stpp.get m y) m.rf true).2=v2 at *
 have c3:Hid (∀ W,InS g W m full->Calls prog 87 #[.pointer (some ⟨g.X,0,none⟩),.int .i64 y,.int .i64 v1] W fun e w'=>e=.returned (.tuple #[])/\InS g w' (put ⟨m,full⟩ y v1).m (put ⟨m,full⟩ y v1).full):=fun W hi=>setS g m full _ _ W hi hg y0 y1 bd.1 bd.2.1
 generalize put ⟨m,full⟩ y v1=t at *
 generalize Stpp.get m y=x1 at *
 have r0:=cell_regrown (hI.cell 1 _ rfl)
 clear bd
 clear h hg hI i0 i1 hy hz y0 y1 c0
 go_enter func86,ntmps86
 go_upto_region 27 with fail
 rw [<- hu]
 clear hu
 refine wp_region_quiet_below (by kernel_rfl) (by kernel_rfl) ?_
 repeat (first|(go_big_quiet_step (first|with_reducible exact c1 _ _|with_reducible exact c2 _ _))|(refine wpQuiet_load (by rfl) 33 _ rfl ⟨g.X,0,none⟩ rfl _ (fun W hW=>by obtain ⟨⟨d,o⟩,rfl⟩:=hW;exact hld d o) ?_;simp only [Act.put,List.setIfInBounds_toArray,List.set_cons_succ,List.set_cons_zero]))
 refine wpQuiet_nil ?_
 intro _ hw'
 obtain ⟨⟨dq,osq⟩,hw''⟩:=hw'
 subst hw''
 have H2:=zHd (HI.out.below (below_regrown u dq osq))
 have hbg:=below_regrown u dq osq
 generalize Go.Sort.grow (redrawn u dq) osq=W2 at *
 clear HI r0 c1 c2
 go_wp2_with fail
 refine Calls.mono (c3.out _ H2.out) ?_
 rintro e w3 ⟨rfl,hi1⟩
 have H3:Hid (InS g w3 t.m t.full):=hi1
 clear hi1 H2 c3
 have q_rf:=H3.out.cell 1 _ rfl
 have f_rf:=H3.out.fro 1
 have HF:Hid (InS g (w3.setCell ⟨g.X,1,none⟩ (.int .i64 v2)) { t.m with rf:=v2 } t.full):=H3.out.s_rf v2
 clear H3
 go_wp2
 go_ret
 exact ⟨rfl,HF.out⟩
theorem low_z6 (g:SG) (m:M) (full:Bool) (imm:Int) (c y:Int) (c0:0<=c) (hy:c / 8=y) (y0:0<=y) (y1:y<=7) (hz:c%8=6) (ib:imm<=255) (i0:0<=imm) (i1:imm<=65535) (w:World) (h:InS g w m full) (hg:Stpq.Good m) :
  Calls prog 86 #[.pointer (some ⟨g.X,0,none⟩),.agg #[.int .i64 c,.bool false,.int .i64 imm]] w fun e w'=>e=.returned (.bool false)/\InS g w' (put ⟨m,full⟩ y imm).m (put ⟨m,full⟩ y imm).full:=by
 obtain ⟨u,hu,hI,HI,k0,k2,HLX⟩:=stq (c:=c) (imm:=imm) h
 have t1:c.tdiv 8=y:=by rw [Int.tdiv_eq_ediv_of_nonneg c0];exact hy
 have t2:c.tmod 8=6:=by rw [Int.tmod_eq_emod_of_nonneg c0];exact hz
 have t3:IntKind.i64.wrap y=y:=by rw [IntKind.wrap_i64];omega
 have t4:y.tdiv 2=y / 2:=Int.tdiv_eq_ediv_of_nonneg y0
 have t5:IntKind.i64.wrap (y / 2)=y / 2:=by rw [IntKind.wrap_i64];omega
 have c3:Hid (∀ W,InS g W m full->Calls prog 87 #[.pointer (some ⟨g.X,0,none⟩),.int .i64 y,.int .i64 imm] W fun e w'=>e=.returned (.tuple #[])/\InS g w' (put ⟨m,full⟩ y imm).m (put ⟨m,full⟩ y imm).full):=fun W hi=>setS g m full _ _ W hi hg y0 y1 i0 ib
 generalize put ⟨m,full⟩ y imm=t at *
 clear h hg hI i0 i1 hy hz y0 y1 c0
 go_enter func86,ntmps86
 go_wp2_with fail
 rw [<- hu]
 clear hu k0 k2
 refine Calls.mono (c3.out _ HI.out) ?_
 rintro e w3 ⟨rfl,hi1⟩
 have H3:Hid (InS g w3 t.m t.full):=hi1
 clear hi1 HI c3
 go_wp2
 go_ret
 exact ⟨rfl,H3.out⟩
theorem low_z7 (g:SG) (m:M) (full:Bool) (imm:Int) (c y:Int) (c0:0<=c) (hy:c / 8=y) (y0:0<=y) (y1:y<=7) (hz:c%8=7) (i0:0<=imm) (i1:imm<=65535) (w:World) (h:InS g w m full) (hg:Stpq.Good m) :
  Calls prog 86 #[.pointer (some ⟨g.X,0,none⟩),.agg #[.int .i64 c,.bool false,.int .i64 imm]] w fun e w'=>e=.returned (.bool false)/\InS g w' (oddE y ⟨m,full⟩).m (oddE y ⟨m,full⟩).full:=by
 obtain ⟨u,hu,hI,HI,k0,k2,HLX⟩:=stq (c:=c) (imm:=imm) h
 have t1:c.tdiv 8=y:=by rw [Int.tdiv_eq_ediv_of_nonneg c0];exact hy
 have t2:c.tmod 8=7:=by rw [Int.tmod_eq_emod_of_nonneg c0];exact hz
 have t3:IntKind.i64.wrap y=y:=by rw [IntKind.wrap_i64];omega
 have t4:y.tdiv 2=y / 2:=Int.tdiv_eq_ediv_of_nonneg y0
 have t5:IntKind.i64.wrap (y / 2)=y / 2:=by rw [IntKind.wrap_i64];omega
 have c3:Hid (∀ W,InS g W m full->Calls prog 130 #[.pointer (some ⟨g.X,0,none⟩),.int .i64 y] W fun e w'=>e=.returned (.tuple #[])/\InS g w' (oddE y ⟨m,full⟩).m (oddE y ⟨m,full⟩).full):=fun W hi=>oddS g m full _ W hi hg y0 y1
 generalize oddE y ⟨m,full⟩=t at *
 clear h hg hI i0 i1 hy hz y0 y1 c0
 go_enter func86,ntmps86
 go_wp2_with fail
 rw [<- hu]
 clear hu k0 k2
 refine Calls.mono (c3.out _ HI.out) ?_
 rintro e w3 ⟨rfl,hi1⟩
 have H3:Hid (InS g w3 t.m t.full):=hi1
 clear hi1 HI c3
 go_wp2
 go_ret
 exact ⟨rfl,H3.out⟩
end Stcr
namespace Stpk
open Go.Deep
open Signed (inB sgn ret_int ret_bool)
open Busw Busx Stpp Stpi Stpj Stpr
theorem word_two (p q:Addr) (a b:Int) (w:World) (c1:w.cell? p=some (.int .i64 a)) (c2:w.cell? q=some (.int .i64 b)) (a0:0<=a) (a1:a<=255) (b0:0<=b) (b1:b<=255) :
  Calls prog 162 #[.agg #[.pointer (some p),.pointer (some q)]] w fun e w'=>e=.returned (.int .i64 (256*a+b))/\Below w.heap.size w w':=by
 have l1:=World.block_lt_of_cell? w p c1
 have l2:=World.block_lt_of_cell? w q c2
 go_enter func162,ntmps162
 go_wp2_with fail
 go_quiet (fail)
 go_wp2
 go_ret
 exact ⟨ret_int (by omega),by repeat (with_reducible first|exact zRf|refine zGr ?_ _|refine below_drewN ?_ _|refine Below.drew ?_)⟩
theorem word_one (q:Addr) (b:Int) (w:World) (c2:w.cell? q=some (.int .i64 b)) :
  Calls prog 162 #[.agg #[.pointer none,.pointer (some q)]] w fun e w'=>e=.returned (.int .i64 b)/\Below w.heap.size w w':=by
 have l2:=World.block_lt_of_cell? w q c2
 go_enter func162,ntmps162
 go_wp2
 go_ret
 exact ⟨rfl,by repeat (with_reducible first|exact zRf|refine zGr ?_ _|refine below_drewN ?_ _|refine Below.drew ?_)⟩
theorem pput_bc (g:G) (m:M) (full:Bool) (v:Int) (w:World) (h:In g w m full) :
  Calls prog 159 #[.agg #[.pointer (some ⟨g.B,2,none⟩),.pointer (some ⟨g.B,3,none⟩)],.int .i64 v] w fun e w'=>e=.returned (.tuple #[])/\In g w' { m with rB:=v%65536 / 256,rC:=v%65536%256 } full:=by
 have c1:=fun w=>wrapped_any v w
 obtain ⟨q,hq⟩ : ∃ q,q=v%65536:=⟨_,rfl⟩
 have hq2:=word_bd v
 rw [<- hq] at c1 hq2 |-
 obtain ⟨q0,q1⟩:=hq2
 have e1:=h.cell 2 _ rfl
 have e2:=h.cell 3 _ rfl
 have f1:=h.fro 2
 have f2:=h.fro 3
 have l1:=h.ltB
 have t1:q.tdiv 256=q / 256:=Int.tdiv_eq_ediv_of_nonneg q0
 have t2:q.tmod 256=q%256:=Int.tmod_eq_emod_of_nonneg q0
 have t3:IntKind.i64.wrap (q / 256)=q / 256:=by rw [IntKind.wrap_i64];omega
 have HE:Hid (∀ o,In g ((((w.setCell ⟨g.B,2,none⟩ (.int .i64 (q / 256))).setCell ⟨g.B,3,none⟩ (.int .i64 (q%256))).alloc o).drew) { m with rB:=q / 256,rC:=q%256 } full):=fun o=>(((h.s_rB _).s_rC _).below (zRf.alloc (Nat.le_refl _) o).drew)
 clear h hq
 go_enter func159,ntmps159
 go_wp2_with (go_at_call 94;refine (c1 _).mono ?_;rintro e w' ⟨rfl,hw'⟩;have hw':=hw'.symm;subst hw')
 go_region_with (fail)
 all_goals go_wp2
 all_goals go_end0
 all_goals exact ⟨rfl,HE.out _⟩
theorem pput_de (g:G) (m:M) (full:Bool) (v:Int) (w:World) (h:In g w m full) :
  Calls prog 159 #[.agg #[.pointer (some ⟨g.B,4,none⟩),.pointer (some ⟨g.B,5,none⟩)],.int .i64 v] w fun e w'=>e=.returned (.tuple #[])/\In g w' { m with rD:=v%65536 / 256,rE:=v%65536%256 } full:=by
 have c1:=fun w=>wrapped_any v w
 obtain ⟨q,hq⟩ : ∃ q,q=v%65536:=⟨_,rfl⟩
 have hq2:=word_bd v
 rw [<- hq] at c1 hq2 |-
 obtain ⟨q0,q1⟩:=hq2
 have e1:=h.cell 4 _ rfl
 have e2:=h.cell 5 _ rfl
 have f1:=h.fro 4
 have f2:=h.fro 5
 have l1:=h.ltB
 have t1:q.tdiv 256=q / 256:=Int.tdiv_eq_ediv_of_nonneg q0
 have t2:q.tmod 256=q%256:=Int.tmod_eq_emod_of_nonneg q0
 have t3:IntKind.i64.wrap (q / 256)=q / 256:=by rw [IntKind.wrap_i64];omega
 have HE:Hid (∀ o,In g ((((w.setCell ⟨g.B,4,none⟩ (.int .i64 (q / 256))).setCell ⟨g.B,5,none⟩ (.int .i64 (q%256))).alloc o).drew) { m with rD:=q / 256,rE:=q%256 } full):=fun o=>(((h.s_rD _).s_rE _).below (zRf.alloc (Nat.le_refl _) o).drew)
 clear h hq
 go_enter func159,ntmps159
 go_wp2_with (go_at_call 94;refine (c1 _).mono ?_;rintro e w' ⟨rfl,hw'⟩;have hw':=hw'.symm;subst hw')
 go_region_with (fail)
 all_goals go_wp2
 all_goals go_end0
 all_goals exact ⟨rfl,HE.out _⟩
theorem pput_hl (g:G) (m:M) (full:Bool) (v:Int) (w:World) (h:In g w m full) :
  Calls prog 159 #[.agg #[.pointer (some ⟨g.B,6,none⟩),.pointer (some ⟨g.B,7,none⟩)],.int .i64 v] w fun e w'=>e=.returned (.tuple #[])/\In g w' { m with rH:=v%65536 / 256,rL:=v%65536%256 } full:=by
 have c1:=fun w=>wrapped_any v w
 obtain ⟨q,hq⟩ : ∃ q,q=v%65536:=⟨_,rfl⟩
 have hq2:=word_bd v
 rw [<- hq] at c1 hq2 |-
 obtain ⟨q0,q1⟩:=hq2
 have e1:=h.cell 6 _ rfl
 have e2:=h.cell 7 _ rfl
 have f1:=h.fro 6
 have f2:=h.fro 7
 have l1:=h.ltB
 have t1:q.tdiv 256=q / 256:=Int.tdiv_eq_ediv_of_nonneg q0
 have t2:q.tmod 256=q%256:=Int.tmod_eq_emod_of_nonneg q0
 have t3:IntKind.i64.wrap (q / 256)=q / 256:=by rw [IntKind.wrap_i64];omega
 have HE:Hid (∀ o,In g ((((w.setCell ⟨g.B,6,none⟩ (.int .i64 (q / 256))).setCell ⟨g.B,7,none⟩ (.int .i64 (q%256))).alloc o).drew) { m with rH:=q / 256,rL:=q%256 } full):=fun o=>(((h.s_rH _).s_rL _).below (zRf.alloc (Nat.le_refl _) o).drew)
 clear h hq
 go_enter func159,ntmps159
 go_wp2_with (go_at_call 94;refine (c1 _).mono ?_;rintro e w' ⟨rfl,hw'⟩;have hw':=hw'.symm;subst hw')
 go_region_with (fail)
 all_goals go_wp2
 all_goals go_end0
 all_goals exact ⟨rfl,HE.out _⟩
theorem pput_af (g:G) (m:M) (full:Bool) (v:Int) (w:World) (h:In g w m full) :
  Calls prog 159 #[.agg #[.pointer (some ⟨g.B,0,none⟩),.pointer (some ⟨g.B,1,none⟩)],.int .i64 v] w fun e w'=>e=.returned (.tuple #[])/\In g w' { m with ra:=v%65536 / 256,rf:=v%65536%256 } full:=by
 have c1:=fun w=>wrapped_any v w
 obtain ⟨q,hq⟩ : ∃ q,q=v%65536:=⟨_,rfl⟩
 have hq2:=word_bd v
 rw [<- hq] at c1 hq2 |-
 obtain ⟨q0,q1⟩:=hq2
 have e1:=h.cell 0 _ rfl
 have e2:=h.cell 1 _ rfl
 have f1:=h.fro 0
 have f2:=h.fro 1
 have l1:=h.ltB
 have t1:q.tdiv 256=q / 256:=Int.tdiv_eq_ediv_of_nonneg q0
 have t2:q.tmod 256=q%256:=Int.tmod_eq_emod_of_nonneg q0
 have t3:IntKind.i64.wrap (q / 256)=q / 256:=by rw [IntKind.wrap_i64];omega
 have HE:Hid (∀ o,In g ((((w.setCell ⟨g.B,0,none⟩ (.int .i64 (q / 256))).setCell ⟨g.B,1,none⟩ (.int .i64 (q%256))).alloc o).drew) { m with ra:=q / 256,rf:=q%256 } full):=fun o=>(((h.s_ra _).s_rf _).below (zRf.alloc (Nat.le_refl _) o).drew)
 clear h hq
 go_enter func159,ntmps159
 go_wp2_with (go_at_call 94;refine (c1 _).mono ?_;rintro e w' ⟨rfl,hw'⟩;have hw':=hw'.symm;subst hw')
 go_region_with (fail)
 all_goals go_wp2
 all_goals go_end0
 all_goals exact ⟨rfl,HE.out _⟩
theorem pput_sp (g:G) (m:M) (full:Bool) (v:Int) (w:World) (h:In g w m full) :
  Calls prog 159 #[.agg #[.pointer none,.pointer (some ⟨g.B,8,none⟩)],.int .i64 v] w fun e w'=>e=.returned (.tuple #[])/\In g w' { m with sp:=v%65536 } full:=by
 have c1:=fun w=>wrapped_any v w
 obtain ⟨q,hq⟩ : ∃ q,q=v%65536:=⟨_,rfl⟩
 rw [<- hq] at c1 |-
 have e1:=h.cell 8 _ rfl
 have f1:=h.fro 8
 have l1:=h.ltB
 have HE:Hid (∀ o,In g ((w.setCell ⟨g.B,8,none⟩ (.int .i64 q)).alloc o) { m with sp:=q } full):=fun o=>(h.s_sp _).below (zRf.alloc (Nat.le_refl _) o)
 clear h hq
 go_enter func159,ntmps159
 go_wp2_with (go_at_call 94;refine (c1 _).mono ?_;rintro e w' ⟨rfl,hw'⟩;have hw':=hw'.symm;subst hw')
 refine bodyPost_ret (results_none rfl _ _ _) rfl ?_
 exact ⟨rfl,HE.out _⟩
theorem hl_any (g:G) (w:World) (k1:w.cell? ⟨g.K,1,none⟩=some (.pointer (some ⟨g.B,0,none⟩))) :
  Calls prog 161 #[.pointer (some ⟨g.K,0,none⟩)] w fun e w'=>e=.returned (.agg #[.pointer (some ⟨g.B,6,none⟩),.pointer (some ⟨g.B,7,none⟩)])/\Below w.heap.size w w':=by
 have l1:=World.block_lt_of_cell? w _ k1
 go_enter func161,ntmps161
 go_wp2_with fail
 go_region_with (fail)
 all_goals go_wp2
 all_goals refine bodyPost_ret (v:=.agg #[.pointer (some ⟨g.B,6,none⟩),.pointer (some ⟨g.B,7,none⟩)]) (by simp [results,results161,go_sem]) rfl ⟨rfl,by repeat (with_reducible first|exact zRf|refine zGr ?_ _|refine below_drewN ?_ _|refine Below.drew ?_)⟩
end Stpk
end Go.Proofs.YtnjolmbdbgbmbaaGreatDoor
