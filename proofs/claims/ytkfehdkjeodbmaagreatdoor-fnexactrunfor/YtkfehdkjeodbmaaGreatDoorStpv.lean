/-
  Contracts of ours for impl's reckonings, each at a machine in the midst of an instruction.
-/
import Derived.Test.YtkfehdkjeodbmaaGreatDoorStpu
import Derived.Test.YtkfehdkjeodbmaaGreatDoorAluI
import Derived.Test.YtkfehdkjeodbmaaGreatDoorTurnI
import Derived.Test.YtkfehdkjeodbmaaGreatDoorReckD
import Derived.Lib.QuietBelow
import Derived.BigQuiet
namespace Go.Proofs.YtkfehdkjeodbmaaGreatDoor.Stpv
open Go.ChangeShapes Go.WideShapes Go.ChangeAt Go.RowKit Go.Deep
set_option linter.unusedVariables false
set_option linter.unusedSimpArgs false
set_option maxRecDepth 20000
open Signed (inB sgn ret_int ret_bool)
open Busw Busx Stpp Stpq Stpi Stpj Stpr Stpk Stpm Stpn Stpu
open Reck ReckS ReckM ReckD TurnS
theorem alu_in {o a b f : Int} (h0 : 0 ≤ o ∧ o ≤ 7) (h1 : 0 ≤ a ∧ a ≤ 255) (h2 : 0 ≤ b ∧ b ≤ 255) (h3 : 0 ≤ f ∧ f ≤ 255) : alu o a b f = aluR o a b f := by unfold alu; rw [inT h0, inT h1, inT h2, inT h3]; rfl
theorem st8_in {v f : Int} {d : Bool} (h1 : 0 ≤ v ∧ v ≤ 255) (h3 : 0 ≤ f ∧ f ≤ 255) : st8 v f d = st8R v f d := by unfold st8; rw [inT h1, inT h3]; rfl
theorem aw_in {a b f : Int} (h1 : 0 ≤ a ∧ a ≤ 65535) (h2 : 0 ≤ b ∧ b ≤ 65535) (h3 : 0 ≤ f ∧ f ≤ 255) : aw a b f = awR a b f := by unfold aw; rw [inT h1, inT h2, inT h3]; rfl
theorem daa_in {a f : Int} (h1 : 0 ≤ a ∧ a ≤ 255) (h3 : 0 ≤ f ∧ f ≤ 255) : daa a f = daaR a f := by unfold daa; rw [inT h1, inT h3]; rfl
theorem trn_in {o v f : Int} (h0 : 0 ≤ o ∧ o ≤ 7) (h1 : 0 ≤ v ∧ v ≤ 255) (h3 : 0 ≤ f ∧ f ≤ 255) : trn o v f = trnR o v f := by unfold trn; rw [inT h0, inT h1, inT h3]; rfl
set_option maxHeartbeats 1000000 in
theorem reckon (g : G) (m : M) (full : Bool) (v : Int) (v0 : 0 ≤ v) (v1 : v ≤ 255) (w : World) (h : In g w m full) (hg : Stpq.Good m) (hp : Pt g) :
    Calls Tryz.prog 141 #[.pointer (some ⟨g.K, 0, none⟩), .int .i64 v] w fun e w' => e = .returned (.tuple #[]) ∧ In g w' (⟨{ m with ra := (aluR g.y m.ra v m.rf).1, rf := (aluR g.y m.ra v m.rf).2 }, full⟩ : S).m (⟨{ m with ra := (aluR g.y m.ra v m.rf).1, rf := (aluR g.y m.ra v m.rf).2 }, full⟩ : S).full := by
  have c1 : Rg 186 #[.int .i64 g.y, .int .i64 m.ra, .int .i64 v, .int .i64 m.rf] w (.tuple #[.int .i64 (aluR g.y m.ra v m.rf).1, .int .i64 (aluR g.y m.ra v m.rf).2]) := rg fun W hb => (AluI.implAlu_any g.y m.ra v m.rf W).mono fun e w' h => ⟨by rw [← alu_in hp.y hg.a ⟨v0, v1⟩ hg.f]; exact h.1, h.2⟩
  generalize (aluR g.y m.ra v m.rf).1 = a1 at *
  generalize (aluR g.y m.ra v m.rf).2 = f1 at *
  have r0 := cell_regrown (h.k_cpu)
  have r1 := cell_regrown (h.k_y)
  have r2 := cell_regrown (h.c_ra)
  have r3 := cell_regrown (h.c_rf)
  have HI : Hid (In g w m full) := h
  clear h hg hp v0 v1
  go_enter Tryz.func141, Tryz.ntmps141
  go_wp2_with fail
  refine Qflo.tail_late 31 32 (by kernel_rfl) (by kernel_rfl) (fun _ _ _ _ _ h => h) ?_
  simp only [List.take_succ_cons, List.take_zero, List.drop_succ_cons, List.drop_zero]
  repeat (go_big_quiet_step (first | with_reducible exact c1 _ _))
  refine wpQuiet_nil ?_
  intro _ hw'
  obtain ⟨⟨dq, osq⟩, hw''⟩ := hw'
  subst hw''
  have H2 : Hid (In g (Go.Sort.grow (redrawn w dq) osq) m full) := HI.out.below (below_regrown w dq osq)
  generalize Go.Sort.grow (redrawn w dq) osq = W2 at *
  clear HI r0 r1 r2 r3 c1
  have q_k_cpu := H2.out.k_cpu
  have q_c_ra := H2.out.c_ra
  have q_c_rf := H2.out.c_rf
  have f_ra := H2.out.fro 0
  have f_rf := H2.out.fro 1
  have lB := H2.out.ltB
  have HF : Hid (In g ((W2.setCell ⟨g.B, 0, none⟩ (.int .i64 a1)).setCell ⟨g.B, 1, none⟩ (.int .i64 f1)) { m with ra := a1, rf := f1 } full) := (H2.out.s_ra a1).s_rf f1
  clear H2
  go_wp2
  go_end0
  exact ⟨rfl, HF.out⟩
set_option maxHeartbeats 1000000 in
theorem rk1 (g : G) (m : M) (full : Bool)  (w : World) (h : In g w m full) (hg : Stpq.Good m) (hp : Pt g) :
    Calls Tryz.prog 140 #[.pointer (some ⟨g.K, 0, none⟩)] w fun e w' => e = .returned (.tuple #[]) ∧ In g w' (⟨{ m with ra := (aluR g.y m.ra (Stpp.get m g.z) m.rf).1, rf := (aluR g.y m.ra (Stpp.get m g.z) m.rf).2 }, full⟩ : S).m (⟨{ m with ra := (aluR g.y m.ra (Stpp.get m g.z) m.rf).1, rf := (aluR g.y m.ra (Stpp.get m g.z) m.rf).2 }, full⟩ : S).full := by
  have c1 : Hid (∀ W, In g W m full → Calls Tryz.prog 120 #[.pointer (some ⟨g.K, 0, none⟩), .int .i64 g.z] W fun e w' => e = .returned (.int .i64 (Stpp.get m g.z)) ∧ Below W.heap.size W w') := fun W hi => get_any g m full g.z W hi hg hp.z.1 hp.z.2
  have bd := get_bd hg g.z
  have c2 : Hid (∀ W, In g W m full → Calls Tryz.prog 141 #[.pointer (some ⟨g.K, 0, none⟩), .int .i64 (Stpp.get m g.z)] W fun e w' => e = .returned (.tuple #[]) ∧ In g w' (⟨{ m with ra := (aluR g.y m.ra (Stpp.get m g.z) m.rf).1, rf := (aluR g.y m.ra (Stpp.get m g.z) m.rf).2 }, full⟩ : S).m (⟨{ m with ra := (aluR g.y m.ra (Stpp.get m g.z) m.rf).1, rf := (aluR g.y m.ra (Stpp.get m g.z) m.rf).2 }, full⟩ : S).full) := fun W hi => reckon g m full _ bd.1 bd.2 W hi hg hp
  generalize (⟨{ m with ra := (aluR g.y m.ra (Stpp.get m g.z) m.rf).1, rf := (aluR g.y m.ra (Stpp.get m g.z) m.rf).2 }, full⟩ : S) = t at *
  generalize Stpp.get m g.z = v at *
  have q_z := h.k_z
  have HI : Hid (In g w m full) := h
  clear h hg hp bd
  go_enter Tryz.func140, Tryz.ntmps140
  go_wp2_with fail
  refine Calls.mono (c1.out _ HI.out) ?_
  rintro e w1 ⟨rfl, hb1⟩
  have H1 : Hid (In g w1 m full) := HI.out.below hb1
  clear hb1 HI c1
  go_wp2_with fail
  refine Calls.mono (c2.out _ H1.out) ?_
  rintro e w2 ⟨rfl, hi1⟩
  have H3 : Hid (In g w2 t.m t.full) := hi1
  clear hi1 H1 c2
  go_wp2
  go_end0
  exact ⟨rfl, H3.out⟩
set_option maxHeartbeats 1000000 in
theorem rk2 (g : G) (m : M) (full : Bool) (i0 : 0 ≤ g.imm) (i1 : g.imm ≤ 255) (w : World) (h : In g w m full) (hg : Stpq.Good m) (hp : Pt g) :
    Calls Tryz.prog 142 #[.pointer (some ⟨g.K, 0, none⟩)] w fun e w' => e = .returned (.tuple #[]) ∧ In g w' (⟨{ m with ra := (aluR g.y m.ra g.imm m.rf).1, rf := (aluR g.y m.ra g.imm m.rf).2 }, full⟩ : S).m (⟨{ m with ra := (aluR g.y m.ra g.imm m.rf).1, rf := (aluR g.y m.ra g.imm m.rf).2 }, full⟩ : S).full := by
  have c2 : Hid (∀ W, In g W m full → Calls Tryz.prog 141 #[.pointer (some ⟨g.K, 0, none⟩), .int .i64 g.imm] W fun e w' => e = .returned (.tuple #[]) ∧ In g w' (⟨{ m with ra := (aluR g.y m.ra g.imm m.rf).1, rf := (aluR g.y m.ra g.imm m.rf).2 }, full⟩ : S).m (⟨{ m with ra := (aluR g.y m.ra g.imm m.rf).1, rf := (aluR g.y m.ra g.imm m.rf).2 }, full⟩ : S).full) := fun W hi => reckon g m full _ i0 i1 W hi hg hp
  generalize (⟨{ m with ra := (aluR g.y m.ra g.imm m.rf).1, rf := (aluR g.y m.ra g.imm m.rf).2 }, full⟩ : S) = t at *
  have q_i := h.k_imm
  have HI : Hid (In g w m full) := h
  clear h hg hp i0 i1
  go_enter Tryz.func142, Tryz.ntmps142
  go_wp2_with fail
  refine Calls.mono (c2.out _ HI.out) ?_
  rintro e w2 ⟨rfl, hi1⟩
  have H3 : Hid (In g w2 t.m t.full) := hi1
  clear hi1 HI c2
  go_wp2
  go_end0
  exact ⟨rfl, H3.out⟩
set_option maxHeartbeats 1000000 in
theorem stepByte (g : G) (m : M) (full : Bool) (down : Bool) (w : World) (h : In g w m full) (hg : Stpq.Good m) (hp : Pt g) :
    Calls Tryz.prog 144 #[.pointer (some ⟨g.K, 0, none⟩), .bool down] w fun e w' => e = .returned (.tuple #[]) ∧ In g w' (F (put ⟨m, full⟩ g.y (st8R (Stpp.get m g.y) m.rf down).1) (st8R (Stpp.get m g.y) m.rf down).2).m (F (put ⟨m, full⟩ g.y (st8R (Stpp.get m g.y) m.rf down).1) (st8R (Stpp.get m g.y) m.rf down).2).full := by
  have c1 : Rg 120 #[.pointer (some ⟨g.K, 0, none⟩), .int .i64 g.y] w (.int .i64 (Stpp.get m g.y)) := rg fun W hb => get_any g m full g.y W (h.below hb) hg hp.y.1 hp.y.2
  have c2 : Rg 187 #[.int .i64 (Stpp.get m g.y), .int .i64 m.rf, .bool down] w (.tuple #[.int .i64 (st8R (Stpp.get m g.y) m.rf down).1, .int .i64 (st8R (Stpp.get m g.y) m.rf down).2]) := rg fun W hb => (implStepped8_any (Stpp.get m g.y) m.rf down W).mono fun e w' h => ⟨by rw [← st8_in (get_bd hg g.y) hg.f]; exact h.1, by rw [h.2]; exact Below.refl _ _⟩
  have bd := st8_bd (v := Stpp.get m g.y) (f := m.rf) down
  generalize (st8R (Stpp.get m g.y) m.rf down).1 = v at *
  generalize (st8R (Stpp.get m g.y) m.rf down).2 = f at *
  generalize Stpp.get m g.y = x at *
  have c3 : Hid (∀ W, In g W m full → Calls Tryz.prog 119 #[.pointer (some ⟨g.K, 0, none⟩), .int .i64 g.y, .int .i64 v] W fun e w' => e = .returned (.tuple #[]) ∧ In g w' (put ⟨m, full⟩ g.y v).m (put ⟨m, full⟩ g.y v).full) := fun W hi => put_any g m full _ _ W hi hg hp.y.1 hp.y.2 bd.1 bd.2.1
  generalize put ⟨m, full⟩ g.y v = t at *
  have r0 := cell_regrown (h.k_cpu)
  have r1 := cell_regrown (h.k_y)
  have r2 := cell_regrown (h.c_rf)
  have HI : Hid (In g w m full) := h
  clear h hg hp bd
  go_enter Tryz.func144, Tryz.ntmps144
  go_wp2_with fail
  refine wp_region_quiet_below (by kernel_rfl) (by kernel_rfl) ?_
  repeat (go_big_quiet_step (first | with_reducible exact c1 _ _ | with_reducible exact c2 _ _))
  refine wpQuiet_nil ?_
  intro _ hw'
  obtain ⟨⟨dq, osq⟩, hw''⟩ := hw'
  subst hw''
  have H2 : Hid (In g (Go.Sort.grow (redrawn w dq) osq) m full) := HI.out.below (below_regrown w dq osq)
  generalize Go.Sort.grow (redrawn w dq) osq = W2 at *
  clear HI r0 r1 r2 c1 c2
  have q_y := H2.out.k_y
  go_wp2_with fail
  refine Calls.mono (c3.out _ H2.out) ?_
  rintro e w1 ⟨rfl, hi1⟩
  have H3' : Hid (In g w1 t.m t.full) := hi1
  clear hi1 H2 c3
  have q_k_cpu := H3'.out.k_cpu
  have q_c_rf := H3'.out.c_rf
  have f_rf := H3'.out.fro 1
  have H3 := H3'.out.s_rf f
  have HF : Hid (In g (w1.setCell ⟨g.B, 1, none⟩ (.int .i64 f)) { t.m with rf := f } t.full) := H3
  clear H3 H3'
  go_wp2
  go_end0
  exact ⟨rfl, HF.out⟩
set_option maxHeartbeats 1000000 in
theorem rk3 (g : G) (m : M) (full : Bool)  (w : World) (h : In g w m full) (hg : Stpq.Good m) (hp : Pt g) :
    Calls Tryz.prog 143 #[.pointer (some ⟨g.K, 0, none⟩)] w fun e w' => e = .returned (.tuple #[]) ∧ In g w' (F (put ⟨m, full⟩ g.y (st8R (Stpp.get m g.y) m.rf false).1) (st8R (Stpp.get m g.y) m.rf false).2).m (F (put ⟨m, full⟩ g.y (st8R (Stpp.get m g.y) m.rf false).1) (st8R (Stpp.get m g.y) m.rf false).2).full := by
  have c2 : Hid (∀ W, In g W m full → Calls Tryz.prog 144 #[.pointer (some ⟨g.K, 0, none⟩), .bool false] W fun e w' => e = .returned (.tuple #[]) ∧ In g w' (F (put ⟨m, full⟩ g.y (st8R (Stpp.get m g.y) m.rf false).1) (st8R (Stpp.get m g.y) m.rf false).2).m (F (put ⟨m, full⟩ g.y (st8R (Stpp.get m g.y) m.rf false).1) (st8R (Stpp.get m g.y) m.rf false).2).full) := fun W hi => stepByte g m full false W hi hg hp
  generalize F (put ⟨m, full⟩ g.y (st8R (Stpp.get m g.y) m.rf false).1) (st8R (Stpp.get m g.y) m.rf false).2 = t at *
  have HI : Hid (In g w m full) := h
  clear h hg hp
  go_enter Tryz.func143, Tryz.ntmps143
  go_wp2_with fail
  refine Calls.mono (c2.out _ HI.out) ?_
  rintro e w2 ⟨rfl, hi1⟩
  have H3 : Hid (In g w2 t.m t.full) := hi1
  clear hi1 HI c2
  go_wp2
  go_end0
  exact ⟨rfl, H3.out⟩
set_option maxHeartbeats 1000000 in
theorem rk4 (g : G) (m : M) (full : Bool)  (w : World) (h : In g w m full) (hg : Stpq.Good m) (hp : Pt g) :
    Calls Tryz.prog 145 #[.pointer (some ⟨g.K, 0, none⟩)] w fun e w' => e = .returned (.tuple #[]) ∧ In g w' (F (put ⟨m, full⟩ g.y (st8R (Stpp.get m g.y) m.rf true).1) (st8R (Stpp.get m g.y) m.rf true).2).m (F (put ⟨m, full⟩ g.y (st8R (Stpp.get m g.y) m.rf true).1) (st8R (Stpp.get m g.y) m.rf true).2).full := by
  have c2 : Hid (∀ W, In g W m full → Calls Tryz.prog 144 #[.pointer (some ⟨g.K, 0, none⟩), .bool true] W fun e w' => e = .returned (.tuple #[]) ∧ In g w' (F (put ⟨m, full⟩ g.y (st8R (Stpp.get m g.y) m.rf true).1) (st8R (Stpp.get m g.y) m.rf true).2).m (F (put ⟨m, full⟩ g.y (st8R (Stpp.get m g.y) m.rf true).1) (st8R (Stpp.get m g.y) m.rf true).2).full) := fun W hi => stepByte g m full true W hi hg hp
  generalize F (put ⟨m, full⟩ g.y (st8R (Stpp.get m g.y) m.rf true).1) (st8R (Stpp.get m g.y) m.rf true).2 = t at *
  have HI : Hid (In g w m full) := h
  clear h hg hp
  go_enter Tryz.func145, Tryz.ntmps145
  go_wp2_with fail
  refine Calls.mono (c2.out _ HI.out) ?_
  rintro e w2 ⟨rfl, hi1⟩
  have H3 : Hid (In g w2 t.m t.full) := hi1
  clear hi1 HI c2
  go_wp2
  go_end0
  exact ⟨rfl, H3.out⟩
end Go.Proofs.YtkfehdkjeodbmaaGreatDoor.Stpv
