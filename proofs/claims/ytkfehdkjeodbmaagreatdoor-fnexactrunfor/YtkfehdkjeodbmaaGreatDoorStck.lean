/-
  Contracts of ours for the specification's instructions behind a prefix, and for those that have neither a register nor a place.
-/
import Derived.Test.YtkfehdkjeodbmaaGreatDoorStb
import Derived.Test.YtkfehdkjeodbmaaGreatDoorHolI
namespace Go.Proofs.YtkfehdkjeodbmaaGreatDoor.Stck
open Go.ChangeShapes Go.WideShapes Go.ChangeAt Go.RowKit Go.Deep
set_option linter.unusedVariables false
set_option linter.unusedSimpArgs false
set_option maxRecDepth 20000
open Signed (inB sgn ret_int ret_bool)
open Reck ReckS ReckM ReckD TurnS
open Busw Busx Busy Stpp Stpq Stps Sta Stb
theorem z_eq {f : Int} (h0 : 0 ≤ f) (h1 : f ≤ 255) : decide (128 ≤ f) = zB f := by
  unfold zB
  by_cases h : 128 ≤ f
  · rw [decide_eq_true h, decide_eq_true (by omega)]
  · rw [decide_eq_false h, decide_eq_false (by omega)]
set_option maxHeartbeats 1000000 in
theorem odd_4 (g : SG) (m : M) (full : Bool) (w : World) (h : InS g w m full) (hg : Stpq.Good m) :
    Calls Tryz.prog 83 #[.pointer (some ⟨g.X, 0, none⟩), .int .i64 4] w fun e w' => e = .returned (.tuple #[]) ∧ InS g w' { m with ra := (daaR m.ra m.rf).1, rf := (daaR m.ra m.rf).2 } full := by
  have hf := hg.f
  have ha := hg.a
  have cc := fun w => l4Carry_any m.rf w hf.1 hf.2
  have tc : (cy m.rf == 1) = cB m.rf := by unfold cB; by_cases h : cy m.rf = 1 <;> simp [h]
  have tz := z_eq hf.1 hf.2
  have cd := fun w => specDaa_any m.ra m.rf w
  rw [show daa m.ra m.rf = daaR m.ra m.rf by unfold daa; rw [show inB m.ra 0 255 = true from decide_eq_true ha, show inB m.rf 0 255 = true from decide_eq_true hf]; rfl] at cd
  generalize (daaR m.ra m.rf).1 = v1 at *
  generalize (daaR m.ra m.rf).2 = v2 at *
  have HF : Hid (∀ o, InS g (((w.setCell ⟨g.X, 0, none⟩ (.int .i64 v1)).setCell ⟨g.X, 1, none⟩ (.int .i64 v2)).alloc o) { m with ra := v1, rf := v2 } full) := fun o => ((h.s_ra v1).s_rf v2).below ((Below.refl _ _).alloc (Nat.le_refl _) o)
  have q_ra := h.cell 0 _ rfl
  have q_rf := h.cell 1 _ rfl
  have q_rB := h.cell 2 _ rfl
  have q_rC := h.cell 3 _ rfl
  have q_rD := h.cell 4 _ rfl
  have q_rE := h.cell 5 _ rfl
  have q_rH := h.cell 6 _ rfl
  have q_rL := h.cell 7 _ rfl
  have q_sp := h.cell 8 _ rfl
  have q_pc := h.cell 9 _ rfl
  have q_ime := h.cell 10 _ rfl
  have q_hal := h.cell 11 _ rfl
  have f0 := h.fro 0
  have f1 := h.fro 1
  have hlt := h.lt
  generalize zB m.rf = zb at *
  generalize cB m.rf = cb at *
  clear h hg hf ha
  go_enter Tryz.func83, Tryz.ntmps83
  go_wp2_with first | (go_at_call 74; refine (cc _).mono ?_; rintro e w' ⟨rfl, hw'⟩; have hw' := hw'.symm; subst hw') | (go_at_call 73; refine (l4Flags_any _ _ _ _ _).mono ?_; rintro e w' ⟨rfl, hw'⟩; have hw' := hw'.symm; subst hw') | (go_at_call 111; refine (cd _).mono ?_; rintro e w' ⟨rfl, hw'⟩; have hw' := hw'.symm; subst hw')
  go_end0
  exact ⟨rfl, HF.out _⟩
set_option maxHeartbeats 1000000 in
theorem odd_5 (g : SG) (m : M) (full : Bool) (w : World) (h : InS g w m full) (hg : Stpq.Good m) :
    Calls Tryz.prog 83 #[.pointer (some ⟨g.X, 0, none⟩), .int .i64 5] w fun e w' => e = .returned (.tuple #[]) ∧ InS g w' { m with ra := 255 - m.ra, rf := fl (zB m.rf) true true (cB m.rf) } full := by
  have hf := hg.f
  have ha := hg.a
  have cc := fun w => l4Carry_any m.rf w hf.1 hf.2
  have tc : (cy m.rf == 1) = cB m.rf := by unfold cB; by_cases h : cy m.rf = 1 <;> simp [h]
  have tz := z_eq hf.1 hf.2
  have d1 : IntKind.i64.wrap (255 - m.ra) = 255 - m.ra := by rw [IntKind.wrap_i64]; omega
  generalize zB m.rf = zb at *
  generalize cB m.rf = cb at *
  have HF : Hid (∀ o, InS g (((w.setCell ⟨g.X, 0, none⟩ (.int .i64 (255 - m.ra))).setCell ⟨g.X, 1, none⟩ (.int .i64 (fl zb true true cb))).alloc o) { m with ra := 255 - m.ra, rf := fl zb true true cb } full) := fun o => ((h.s_ra (255 - m.ra)).s_rf (fl zb true true cb)).below ((Below.refl _ _).alloc (Nat.le_refl _) o)
  have q_ra := h.cell 0 _ rfl
  have q_rf := h.cell 1 _ rfl
  have q_rB := h.cell 2 _ rfl
  have q_rC := h.cell 3 _ rfl
  have q_rD := h.cell 4 _ rfl
  have q_rE := h.cell 5 _ rfl
  have q_rH := h.cell 6 _ rfl
  have q_rL := h.cell 7 _ rfl
  have q_sp := h.cell 8 _ rfl
  have q_pc := h.cell 9 _ rfl
  have q_ime := h.cell 10 _ rfl
  have q_hal := h.cell 11 _ rfl
  have f0 := h.fro 0
  have f1 := h.fro 1
  have hlt := h.lt
  clear h hg hf ha
  go_enter Tryz.func83, Tryz.ntmps83
  go_wp2_with first | (go_at_call 74; refine (cc _).mono ?_; rintro e w' ⟨rfl, hw'⟩; have hw' := hw'.symm; subst hw') | (go_at_call 73; refine (l4Flags_any _ _ _ _ _).mono ?_; rintro e w' ⟨rfl, hw'⟩; have hw' := hw'.symm; subst hw')
  go_end0
  exact ⟨rfl, HF.out _⟩
set_option maxHeartbeats 1000000 in
theorem odd_6 (g : SG) (m : M) (full : Bool) (w : World) (h : InS g w m full) (hg : Stpq.Good m) :
    Calls Tryz.prog 83 #[.pointer (some ⟨g.X, 0, none⟩), .int .i64 6] w fun e w' => e = .returned (.tuple #[]) ∧ InS g w' { m with rf := fl (zB m.rf) false false true } full := by
  have hf := hg.f
  have ha := hg.a
  have cc := fun w => l4Carry_any m.rf w hf.1 hf.2
  have tc : (cy m.rf == 1) = cB m.rf := by unfold cB; by_cases h : cy m.rf = 1 <;> simp [h]
  have tz := z_eq hf.1 hf.2
  generalize zB m.rf = zb at *
  generalize cB m.rf = cb at *
  have HF : Hid (∀ o, InS g ((w.setCell ⟨g.X, 1, none⟩ (.int .i64 (fl zb false false true))).alloc o) { m with rf := fl zb false false true } full) := fun o => (h.s_rf (fl zb false false true)).below ((Below.refl _ _).alloc (Nat.le_refl _) o)
  have q_ra := h.cell 0 _ rfl
  have q_rf := h.cell 1 _ rfl
  have q_rB := h.cell 2 _ rfl
  have q_rC := h.cell 3 _ rfl
  have q_rD := h.cell 4 _ rfl
  have q_rE := h.cell 5 _ rfl
  have q_rH := h.cell 6 _ rfl
  have q_rL := h.cell 7 _ rfl
  have q_sp := h.cell 8 _ rfl
  have q_pc := h.cell 9 _ rfl
  have q_ime := h.cell 10 _ rfl
  have q_hal := h.cell 11 _ rfl
  have f0 := h.fro 0
  have f1 := h.fro 1
  have hlt := h.lt
  clear h hg hf ha
  go_enter Tryz.func83, Tryz.ntmps83
  go_wp2_with first | (go_at_call 74; refine (cc _).mono ?_; rintro e w' ⟨rfl, hw'⟩; have hw' := hw'.symm; subst hw') | (go_at_call 73; refine (l4Flags_any _ _ _ _ _).mono ?_; rintro e w' ⟨rfl, hw'⟩; have hw' := hw'.symm; subst hw')
  go_end0
  exact ⟨rfl, HF.out _⟩
set_option maxHeartbeats 1000000 in
theorem odd_7 (g : SG) (m : M) (full : Bool) (w : World) (h : InS g w m full) (hg : Stpq.Good m) :
    Calls Tryz.prog 83 #[.pointer (some ⟨g.X, 0, none⟩), .int .i64 7] w fun e w' => e = .returned (.tuple #[]) ∧ InS g w' { m with rf := fl (zB m.rf) false false (!cB m.rf) } full := by
  have hf := hg.f
  have ha := hg.a
  have cc := fun w => l4Carry_any m.rf w hf.1 hf.2
  have tc : (cy m.rf == 1) = cB m.rf := by unfold cB; by_cases h : cy m.rf = 1 <;> simp [h]
  have tz := z_eq hf.1 hf.2
  generalize zB m.rf = zb at *
  generalize cB m.rf = cb at *
  have HF : Hid (∀ o, InS g ((w.setCell ⟨g.X, 1, none⟩ (.int .i64 (fl zb false false (!cb)))).alloc o) { m with rf := fl zb false false (!cb) } full) := fun o => (h.s_rf (fl zb false false (!cb))).below ((Below.refl _ _).alloc (Nat.le_refl _) o)
  have q_ra := h.cell 0 _ rfl
  have q_rf := h.cell 1 _ rfl
  have q_rB := h.cell 2 _ rfl
  have q_rC := h.cell 3 _ rfl
  have q_rD := h.cell 4 _ rfl
  have q_rE := h.cell 5 _ rfl
  have q_rH := h.cell 6 _ rfl
  have q_rL := h.cell 7 _ rfl
  have q_sp := h.cell 8 _ rfl
  have q_pc := h.cell 9 _ rfl
  have q_ime := h.cell 10 _ rfl
  have q_hal := h.cell 11 _ rfl
  have f0 := h.fro 0
  have f1 := h.fro 1
  have hlt := h.lt
  clear h hg hf ha
  go_enter Tryz.func83, Tryz.ntmps83
  go_wp2_with first | (go_at_call 74; refine (cc _).mono ?_; rintro e w' ⟨rfl, hw'⟩; have hw' := hw'.symm; subst hw') | (go_at_call 73; refine (l4Flags_any _ _ _ _ _).mono ?_; rintro e w' ⟨rfl, hw'⟩; have hw' := hw'.symm; subst hw')
  go_end0
  exact ⟨rfl, HF.out _⟩
set_option maxHeartbeats 1000000 in
theorem odd_t (g : SG) (m : M) (full : Bool) (y : Int) (y0 : 0 ≤ y) (y1 : y ≤ 3) (w : World) (h : InS g w m full) (hg : Stpq.Good m) :
    Calls Tryz.prog 83 #[.pointer (some ⟨g.X, 0, none⟩), .int .i64 y] w fun e w' => e = .returned (.tuple #[]) ∧ InS g w' { m with ra := (trnR y m.ra m.rf).1, rf := fl false false false (cB (trnR y m.ra m.rf).2) } full := by
  have hf := hg.f
  have ha := hg.a
  have cc := fun w => l4Carry_any m.rf w hf.1 hf.2
  have tc : (cy m.rf == 1) = cB m.rf := by unfold cB; by_cases h : cy m.rf = 1 <;> simp [h]
  have tz := z_eq hf.1 hf.2
  have ct := fun w => l4Turned_any y m.ra m.rf w y0 (by omega) ha.1 ha.2 hf.1 hf.2
  have bt := trn_bd (op := y) (f := m.rf) ha.1 ha.2
  generalize (trnR y m.ra m.rf).1 = v1 at *
  generalize (trnR y m.ra m.rf).2 = v2 at *
  have cc2 := fun w => l4Carry_any v2 w bt.2.2.1 bt.2.2.2.1
  have tc2 : (cy v2 == 1) = cB v2 := by unfold cB; by_cases h : cy v2 = 1 <;> simp [h]
  generalize cB v2 = cb2 at *
  have e4 : ¬ y = 4 := by omega
  have e5 : ¬ y = 5 := by omega
  have e6 : ¬ y = 6 := by omega
  have e7 : ¬ y = 7 := by omega
  clear bt
  have HF : Hid (∀ o, InS g (((w.setCell ⟨g.X, 0, none⟩ (.int .i64 (v1))).setCell ⟨g.X, 1, none⟩ (.int .i64 (fl false false false cb2))).alloc o) { m with ra := v1, rf := fl false false false cb2 } full) := fun o => ((h.s_ra (v1)).s_rf (fl false false false cb2)).below ((Below.refl _ _).alloc (Nat.le_refl _) o)
  have q_ra := h.cell 0 _ rfl
  have q_rf := h.cell 1 _ rfl
  have q_rB := h.cell 2 _ rfl
  have q_rC := h.cell 3 _ rfl
  have q_rD := h.cell 4 _ rfl
  have q_rE := h.cell 5 _ rfl
  have q_rH := h.cell 6 _ rfl
  have q_rL := h.cell 7 _ rfl
  have q_sp := h.cell 8 _ rfl
  have q_pc := h.cell 9 _ rfl
  have q_ime := h.cell 10 _ rfl
  have q_hal := h.cell 11 _ rfl
  have f0 := h.fro 0
  have f1 := h.fro 1
  have hlt := h.lt
  generalize zB m.rf = zb at *
  generalize cB m.rf = cb at *
  clear h hg hf ha
  go_enter Tryz.func83, Tryz.ntmps83
  go_wp2_with first | (go_at_call 74; refine (cc _).mono ?_; rintro e w' ⟨rfl, hw'⟩; have hw' := hw'.symm; subst hw') | (go_at_call 73; refine (l4Flags_any _ _ _ _ _).mono ?_; rintro e w' ⟨rfl, hw'⟩; have hw' := hw'.symm; subst hw') | (go_at_call 72; refine (ct _).mono ?_; rintro e w' ⟨rfl, hw'⟩; have hw' := hw'.symm; subst hw') | (go_at_call 74; refine (cc2 _).mono ?_; rintro e w' ⟨rfl, hw'⟩; have hw' := hw'.symm; subst hw')
  go_end0
  exact ⟨rfl, HF.out _⟩
theorem oddS (g : SG) (m : M) (full : Bool) (y : Int) (w : World) (h : InS g w m full) (hg : Stpq.Good m) (y0 : 0 ≤ y) (y1 : y ≤ 7) :
    Calls Tryz.prog 83 #[.pointer (some ⟨g.X, 0, none⟩), .int .i64 y] w fun e w' => e = .returned (.tuple #[]) ∧ InS g w' (oddE y ⟨m, full⟩).m (oddE y ⟨m, full⟩).full := by
  unfold oddE
  by_cases h4 : y = 4
  · subst h4; exact odd_4 g m full w h hg
  rw [if_neg h4]
  by_cases h5 : y = 5
  · subst h5; exact odd_5 g m full w h hg
  rw [if_neg h5]
  by_cases h6 : y = 6
  · subst h6; exact odd_6 g m full w h hg
  rw [if_neg h6]
  by_cases h7 : y = 7
  · subst h7; exact odd_7 g m full w h hg
  rw [if_neg h7]
  exact odd_t g m full y y0 (by omega) w h hg
set_option maxHeartbeats 2000000 in
theorem cb_0 (g : SG) (m : M) (full : Bool) (c imm y z : Int) (c0 : 0 ≤ c) (hx : c / 64 = 0) (hy : c / 8 % 8 = y) (hz : c % 8 = z) (y0 : 0 ≤ y) (y1 : y ≤ 7) (z0 : 0 ≤ z) (z1 : z ≤ 7) (w : World) (h : InS g w m full) (hg : Stpq.Good m) :
    Calls Tryz.prog 48 #[.pointer (some ⟨g.X, 0, none⟩), .agg #[.int .i64 c, .bool true, .int .i64 imm]] w fun e w' => e = .returned (.tuple #[]) ∧ InS g w' (F (put ⟨m, full⟩ z (trnR y (Stpp.get m z) m.rf).1) (trnR y (Stpp.get m z) m.rf).2).m (F (put ⟨m, full⟩ z (trnR y (Stpp.get m z) m.rf).1) (trnR y (Stpp.get m z) m.rf).2).full := by
  have gb := get_bd hg z
  have HR : Hid (∀ W, Below w.heap.size w W → Calls Tryz.prog 51 #[.pointer (some ⟨g.X, 0, none⟩), .int .i64 z] W fun e w' => e = .returned (.int .i64 (Stpp.get m z)) ∧ Below W.heap.size W w') := fun W hb => regS g m full z W (h.below hb) hg z0 z1
  have HI : Hid (∀ W, Below w.heap.size w W → InS g W m full) := fun W hb => h.below hb
  have t1 : c.tdiv 8 = c / 8 := Int.tdiv_eq_ediv_of_nonneg c0
  have t2 : (c / 8).tmod 8 = y := by rw [Int.tmod_eq_emod_of_nonneg (by omega)]; exact hy
  have t3 : c.tmod 8 = z := by rw [Int.tmod_eq_emod_of_nonneg c0]; exact hz
  have t4 : c.tdiv 64 = 0 := by rw [Int.tdiv_eq_ediv_of_nonneg c0]; exact hx
  have t5 : IntKind.i64.wrap (c / 8) = c / 8 := by rw [IntKind.wrap_i64]; omega
  have t6 : IntKind.u64.wrap y = y := by rw [IntKind.wrap_u64]; omega
  have t7 : IntKind.i64.wrap (2 ^ y.toNat) = bitV y := by
    have hn : y = 0 ∨ y = 1 ∨ y = 2 ∨ y = 3 ∨ y = 4 ∨ y = 5 ∨ y = 6 ∨ y = 7 := by omega
    rcases hn with rfl | rfl | rfl | rfl | rfl | rfl | rfl | rfl
    all_goals decide +kernel
  have hf := hg.f
  have ct := fun w => l4Turned_any y (Stpp.get m z) m.rf w y0 y1 gb.1 gb.2 hf.1 hf.2
  have bd := trn_bd (op := y) (f := m.rf) gb.1 gb.2
  generalize (trnR y (Stpp.get m z) m.rf).1 = v1 at *
  generalize (trnR y (Stpp.get m z) m.rf).2 = v2 at *
  have c3 : Hid (∀ W, InS g W m full → Calls Tryz.prog 50 #[.pointer (some ⟨g.X, 0, none⟩), .int .i64 z, .int .i64 v1] W fun e w' => e = .returned (.tuple #[]) ∧ InS g w' (put ⟨m, full⟩ z v1).m (put ⟨m, full⟩ z v1).full) := fun W hi => setS g m full _ _ W hi hg z0 z1 bd.1 bd.2.1
  generalize put ⟨m, full⟩ z v1 = t at *
  clear bd hf
  clear h hg gb hx hy hz
  generalize Stpp.get m z = v at *
  generalize bitV y = bt at *
  go_enter Tryz.func48, Tryz.ntmps48
  go_wp2_with fail
  refine Calls.mono (HR.out _ (by repeat (with_reducible first | exact Below.refl _ _ | refine CartL.grow ?_ _ | refine below_drewN ?_ _ | refine Below.drew ?_))) ?_
  rintro e w1 ⟨rfl, hb1⟩
  have k0 := HolI.box hb1 0 _ rfl
  have H1 : Hid (InS g w1 m full) := HI.out _ (HolI.unbox hb1)
  clear hb1 HR HI
  have q1 := H1.out.cell 1 _ rfl
  go_wp2_with (go_at_call 72; refine (ct _).mono ?_; rintro e w' ⟨rfl, hw'⟩; have hw' := hw'.symm; subst hw')
  refine Calls.mono (c3.out _ H1.out) ?_
  rintro e w2 ⟨rfl, hi2⟩
  have H2 : Hid (InS g w2 t.m t.full) := hi2
  clear hi2 H1 c3 q1
  have q_rf := H2.out.cell 1 _ rfl
  have f_rf := H2.out.fro 1
  have HF : Hid (InS g (w2.setCell ⟨g.X, 1, none⟩ (.int .i64 v2)) { t.m with rf := v2 } t.full) := H2.out.s_rf v2
  clear H2
  go_wp2
  go_end0
  exact ⟨rfl, HF.out⟩
set_option maxHeartbeats 2000000 in
theorem cb_1 (g : SG) (m : M) (full : Bool) (c imm y z : Int) (c0 : 0 ≤ c) (hx : c / 64 = 1) (hy : c / 8 % 8 = y) (hz : c % 8 = z) (y0 : 0 ≤ y) (y1 : y ≤ 7) (z0 : 0 ≤ z) (z1 : z ≤ 7) (w : World) (h : InS g w m full) (hg : Stpq.Good m) :
    Calls Tryz.prog 48 #[.pointer (some ⟨g.X, 0, none⟩), .agg #[.int .i64 c, .bool true, .int .i64 imm]] w fun e w' => e = .returned (.tuple #[]) ∧ InS g w' (F ⟨m, full⟩ (fl (decide (bits .and .i64 (Stpp.get m z) (bitV y) = 0)) false true (cB m.rf))).m (F ⟨m, full⟩ (fl (decide (bits .and .i64 (Stpp.get m z) (bitV y) = 0)) false true (cB m.rf))).full := by
  have gb := get_bd hg z
  have HR : Hid (∀ W, Below w.heap.size w W → Calls Tryz.prog 51 #[.pointer (some ⟨g.X, 0, none⟩), .int .i64 z] W fun e w' => e = .returned (.int .i64 (Stpp.get m z)) ∧ Below W.heap.size W w') := fun W hb => regS g m full z W (h.below hb) hg z0 z1
  have HI : Hid (∀ W, Below w.heap.size w W → InS g W m full) := fun W hb => h.below hb
  have t1 : c.tdiv 8 = c / 8 := Int.tdiv_eq_ediv_of_nonneg c0
  have t2 : (c / 8).tmod 8 = y := by rw [Int.tmod_eq_emod_of_nonneg (by omega)]; exact hy
  have t3 : c.tmod 8 = z := by rw [Int.tmod_eq_emod_of_nonneg c0]; exact hz
  have t4 : c.tdiv 64 = 1 := by rw [Int.tdiv_eq_ediv_of_nonneg c0]; exact hx
  have t5 : IntKind.i64.wrap (c / 8) = c / 8 := by rw [IntKind.wrap_i64]; omega
  have t6 : IntKind.u64.wrap y = y := by rw [IntKind.wrap_u64]; omega
  have t7 : IntKind.i64.wrap (2 ^ y.toNat) = bitV y := by
    have hn : y = 0 ∨ y = 1 ∨ y = 2 ∨ y = 3 ∨ y = 4 ∨ y = 5 ∨ y = 6 ∨ y = 7 := by omega
    rcases hn with rfl | rfl | rfl | rfl | rfl | rfl | rfl | rfl
    all_goals decide +kernel
  have hf := hg.f
  have cc := fun w => l4Carry_any m.rf w hf.1 hf.2
  have tc : (cy m.rf == 1) = cB m.rf := by unfold cB; by_cases h : cy m.rf = 1 <;> simp [h]
  generalize cB m.rf = cb at *
  obtain ⟨vb, hvb⟩ : ∃ x, bits .and .i64 (Stpp.get m z) (bitV y) = x := ⟨_, rfl⟩
  rw [hvb]
  have hzz : (vb == 0) = decide (vb = 0) := by by_cases h : vb = 0 <;> simp [h]
  generalize decide (vb = 0) = db at *
  clear hf
  clear h hg gb hx hy hz
  generalize Stpp.get m z = v at *
  generalize bitV y = bt at *
  go_enter Tryz.func48, Tryz.ntmps48
  go_wp2_with fail
  refine Calls.mono (HR.out _ (by repeat (with_reducible first | exact Below.refl _ _ | refine CartL.grow ?_ _ | refine below_drewN ?_ _ | refine Below.drew ?_))) ?_
  rintro e w1 ⟨rfl, hb1⟩
  have k0 := HolI.box hb1 0 _ rfl
  have H1 : Hid (InS g w1 m full) := HI.out _ (HolI.unbox hb1)
  clear hb1 HR HI
  have q1 := H1.out.cell 1 _ rfl
  have q_rf := H1.out.cell 1 _ rfl
  have f_rf := H1.out.fro 1
  have HF : Hid (InS g (w1.setCell ⟨g.X, 1, none⟩ (.int .i64 (fl db false true cb))) { m with rf := (fl db false true cb) } full) := H1.out.s_rf (fl db false true cb)
  clear H1
  go_wp2_with first | (go_at_call 74; refine (cc _).mono ?_; rintro e w' ⟨rfl, hw'⟩; have hw' := hw'.symm; subst hw') | (go_at_call 73; refine (l4Flags_any _ _ _ _ _).mono ?_; rintro e w' ⟨rfl, hw'⟩; have hw' := hw'.symm; subst hw')
  go_end0
  exact ⟨rfl, HF.out⟩
set_option maxHeartbeats 2000000 in
theorem cb_2 (g : SG) (m : M) (full : Bool) (c imm y z : Int) (c0 : 0 ≤ c) (hx : c / 64 = 2) (hy : c / 8 % 8 = y) (hz : c % 8 = z) (y0 : 0 ≤ y) (y1 : y ≤ 7) (z0 : 0 ≤ z) (z1 : z ≤ 7) (w : World) (h : InS g w m full) (hg : Stpq.Good m) :
    Calls Tryz.prog 48 #[.pointer (some ⟨g.X, 0, none⟩), .agg #[.int .i64 c, .bool true, .int .i64 imm]] w fun e w' => e = .returned (.tuple #[]) ∧ InS g w' (put ⟨m, full⟩ z (bits .andNot .i64 (Stpp.get m z) (bitV y))).m (put ⟨m, full⟩ z (bits .andNot .i64 (Stpp.get m z) (bitV y))).full := by
  have gb := get_bd hg z
  have HR : Hid (∀ W, Below w.heap.size w W → Calls Tryz.prog 51 #[.pointer (some ⟨g.X, 0, none⟩), .int .i64 z] W fun e w' => e = .returned (.int .i64 (Stpp.get m z)) ∧ Below W.heap.size W w') := fun W hb => regS g m full z W (h.below hb) hg z0 z1
  have HI : Hid (∀ W, Below w.heap.size w W → InS g W m full) := fun W hb => h.below hb
  have t1 : c.tdiv 8 = c / 8 := Int.tdiv_eq_ediv_of_nonneg c0
  have t2 : (c / 8).tmod 8 = y := by rw [Int.tmod_eq_emod_of_nonneg (by omega)]; exact hy
  have t3 : c.tmod 8 = z := by rw [Int.tmod_eq_emod_of_nonneg c0]; exact hz
  have t4 : c.tdiv 64 = 2 := by rw [Int.tdiv_eq_ediv_of_nonneg c0]; exact hx
  have t5 : IntKind.i64.wrap (c / 8) = c / 8 := by rw [IntKind.wrap_i64]; omega
  have t6 : IntKind.u64.wrap y = y := by rw [IntKind.wrap_u64]; omega
  have t7 : IntKind.i64.wrap (2 ^ y.toNat) = bitV y := by
    have hn : y = 0 ∨ y = 1 ∨ y = 2 ∨ y = 3 ∨ y = 4 ∨ y = 5 ∨ y = 6 ∨ y = 7 := by omega
    rcases hn with rfl | rfl | rfl | rfl | rfl | rfl | rfl | rfl
    all_goals decide +kernel
  have bd := andNot_bd gb.1 gb.2 y
  have c3 : Hid (∀ W, InS g W m full → Calls Tryz.prog 50 #[.pointer (some ⟨g.X, 0, none⟩), .int .i64 z, .int .i64 (bits .andNot .i64 (Stpp.get m z) (bitV y))] W fun e w' => e = .returned (.tuple #[]) ∧ InS g w' (put ⟨m, full⟩ z (bits .andNot .i64 (Stpp.get m z) (bitV y))).m (put ⟨m, full⟩ z (bits .andNot .i64 (Stpp.get m z) (bitV y))).full) := fun W hi => setS g m full _ _ W hi hg z0 z1 bd.1 bd.2
  generalize put ⟨m, full⟩ z (bits .andNot .i64 (Stpp.get m z) (bitV y)) = t at *
  clear bd
  clear h hg gb hx hy hz
  generalize Stpp.get m z = v at *
  generalize bitV y = bt at *
  go_enter Tryz.func48, Tryz.ntmps48
  go_wp2_with fail
  refine Calls.mono (HR.out _ (by repeat (with_reducible first | exact Below.refl _ _ | refine CartL.grow ?_ _ | refine below_drewN ?_ _ | refine Below.drew ?_))) ?_
  rintro e w1 ⟨rfl, hb1⟩
  have k0 := HolI.box hb1 0 _ rfl
  have H1 : Hid (InS g w1 m full) := HI.out _ (HolI.unbox hb1)
  clear hb1 HR HI
  go_wp2_with fail
  refine Calls.mono (c3.out _ H1.out) ?_
  rintro e w2 ⟨rfl, hi2⟩
  have H2 : Hid (InS g w2 t.m t.full) := hi2
  clear hi2 H1 c3
  go_wp2
  go_end0
  exact ⟨rfl, H2.out⟩
set_option maxHeartbeats 2000000 in
theorem cb_3 (g : SG) (m : M) (full : Bool) (c imm y z : Int) (c0 : 0 ≤ c) (hx : c / 64 = 3) (hy : c / 8 % 8 = y) (hz : c % 8 = z) (y0 : 0 ≤ y) (y1 : y ≤ 7) (z0 : 0 ≤ z) (z1 : z ≤ 7) (w : World) (h : InS g w m full) (hg : Stpq.Good m) :
    Calls Tryz.prog 48 #[.pointer (some ⟨g.X, 0, none⟩), .agg #[.int .i64 c, .bool true, .int .i64 imm]] w fun e w' => e = .returned (.tuple #[]) ∧ InS g w' (put ⟨m, full⟩ z (bits .or .i64 (Stpp.get m z) (bitV y))).m (put ⟨m, full⟩ z (bits .or .i64 (Stpp.get m z) (bitV y))).full := by
  have gb := get_bd hg z
  have HR : Hid (∀ W, Below w.heap.size w W → Calls Tryz.prog 51 #[.pointer (some ⟨g.X, 0, none⟩), .int .i64 z] W fun e w' => e = .returned (.int .i64 (Stpp.get m z)) ∧ Below W.heap.size W w') := fun W hb => regS g m full z W (h.below hb) hg z0 z1
  have HI : Hid (∀ W, Below w.heap.size w W → InS g W m full) := fun W hb => h.below hb
  have t1 : c.tdiv 8 = c / 8 := Int.tdiv_eq_ediv_of_nonneg c0
  have t2 : (c / 8).tmod 8 = y := by rw [Int.tmod_eq_emod_of_nonneg (by omega)]; exact hy
  have t3 : c.tmod 8 = z := by rw [Int.tmod_eq_emod_of_nonneg c0]; exact hz
  have t4 : c.tdiv 64 = 3 := by rw [Int.tdiv_eq_ediv_of_nonneg c0]; exact hx
  have t5 : IntKind.i64.wrap (c / 8) = c / 8 := by rw [IntKind.wrap_i64]; omega
  have t6 : IntKind.u64.wrap y = y := by rw [IntKind.wrap_u64]; omega
  have t7 : IntKind.i64.wrap (2 ^ y.toNat) = bitV y := by
    have hn : y = 0 ∨ y = 1 ∨ y = 2 ∨ y = 3 ∨ y = 4 ∨ y = 5 ∨ y = 6 ∨ y = 7 := by omega
    rcases hn with rfl | rfl | rfl | rfl | rfl | rfl | rfl | rfl
    all_goals decide +kernel
  have bd := orBit_bd gb.1 gb.2 y
  have c3 : Hid (∀ W, InS g W m full → Calls Tryz.prog 50 #[.pointer (some ⟨g.X, 0, none⟩), .int .i64 z, .int .i64 (bits .or .i64 (Stpp.get m z) (bitV y))] W fun e w' => e = .returned (.tuple #[]) ∧ InS g w' (put ⟨m, full⟩ z (bits .or .i64 (Stpp.get m z) (bitV y))).m (put ⟨m, full⟩ z (bits .or .i64 (Stpp.get m z) (bitV y))).full) := fun W hi => setS g m full _ _ W hi hg z0 z1 bd.1 bd.2
  generalize put ⟨m, full⟩ z (bits .or .i64 (Stpp.get m z) (bitV y)) = t at *
  clear bd
  clear h hg gb hx hy hz
  generalize Stpp.get m z = v at *
  generalize bitV y = bt at *
  go_enter Tryz.func48, Tryz.ntmps48
  go_wp2_with fail
  refine Calls.mono (HR.out _ (by repeat (with_reducible first | exact Below.refl _ _ | refine CartL.grow ?_ _ | refine below_drewN ?_ _ | refine Below.drew ?_))) ?_
  rintro e w1 ⟨rfl, hb1⟩
  have k0 := HolI.box hb1 0 _ rfl
  have H1 : Hid (InS g w1 m full) := HI.out _ (HolI.unbox hb1)
  clear hb1 HR HI
  go_wp2_with fail
  refine Calls.mono (c3.out _ H1.out) ?_
  rintro e w2 ⟨rfl, hi2⟩
  have H2 : Hid (InS g w2 t.m t.full) := hi2
  clear hi2 H1 c3
  go_wp2
  go_end0
  exact ⟨rfl, H2.out⟩
theorem cbS (g : SG) (m : M) (full : Bool) (c imm : Int) (c0 : 0 ≤ c) (c1 : c ≤ 255) (w : World) (h : InS g w m full) (hg : Stpq.Good m) :
    Calls Tryz.prog 48 #[.pointer (some ⟨g.X, 0, none⟩), .agg #[.int .i64 c, .bool true, .int .i64 imm]] w fun e w' => e = .returned (.tuple #[]) ∧ InS g w' (cbE c ⟨m, full⟩).m (cbE c ⟨m, full⟩).full := by
  unfold cbE
  by_cases h0 : c / 64 = 0
  · rw [if_pos h0]; exact cb_0 g m full c imm _ _ c0 h0 rfl rfl (by omega) (by omega) (by omega) (by omega) w h hg
  rw [if_neg h0]
  by_cases h1 : c / 64 = 1
  · rw [if_pos h1]; exact cb_1 g m full c imm _ _ c0 h1 rfl rfl (by omega) (by omega) (by omega) (by omega) w h hg
  rw [if_neg h1]
  by_cases h2 : c / 64 = 2
  · rw [if_pos h2]; exact cb_2 g m full c imm _ _ c0 h2 rfl rfl (by omega) (by omega) (by omega) (by omega) w h hg
  rw [if_neg h2]
  exact cb_3 g m full c imm _ _ c0 (by omega) rfl rfl (by omega) (by omega) (by omega) (by omega) w h hg
end Go.Proofs.YtkfehdkjeodbmaaGreatDoor.Stck
