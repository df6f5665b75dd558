/-
  Contracts of ours for the specification's instructions with a code below 64.
-/
import Derived.Test.YtkfehdkjeodbmaaGreatDoorStcz
namespace Go.Proofs.YtkfehdkjeodbmaaGreatDoor.Stcr
open Go.ChangeShapes Go.WideShapes Go.ChangeAt Go.RowKit Go.Deep
set_option linter.unusedVariables false
set_option linter.unusedSimpArgs false
set_option maxRecDepth 20000
open Signed (inB sgn ret_int ret_bool)
open Reck ReckS ReckM ReckD TurnS
open Busw Busx Busy Stpp Stpq Stps Sta Stb Stck Stcz
set_option maxHeartbeats 1000000 in
theorem low_z4 (g : SG) (m : M) (full : Bool) (imm : Int) (c y : Int) (c0 : 0 ≤ c) (hy : c / 8 = y) (y0 : 0 ≤ y) (y1 : y ≤ 7) (hz : c % 8 = 4) (i0 : 0 ≤ imm) (i1 : imm ≤ 65535) (w : World) (h : InS g w m full) (hg : Stpq.Good m) :
    Calls Tryz.prog 49 #[.pointer (some ⟨g.X, 0, none⟩), .agg #[.int .i64 c, .bool false, .int .i64 imm]] w fun e w' => e = .returned (.bool false) ∧ InS g w' (F (put ⟨m, full⟩ y (st8R (Stpp.get m y) m.rf false).1) (st8R (Stpp.get m y) m.rf false).2).m (F (put ⟨m, full⟩ y (st8R (Stpp.get m y) m.rf false).1) (st8R (Stpp.get m y) m.rf false).2).full := by
  obtain ⟨u, hu⟩ : ∃ u, u = w.alloc (.cells #[.int .i64 c, .bool false, .int .i64 imm] 77) := ⟨_, rfl⟩
  have hI : InS g u m full := by rw [hu]; exact h.below ((Below.refl _ _).alloc (Nat.le_refl _) _)
  have HI : Hid (InS g u m full) := hI
  have k0 : u.cell? ⟨w.heap.size, 0, none⟩ = some (.int .i64 c) := by rw [hu, World.cell?_alloc_new]; rfl
  have k2 : u.cell? ⟨w.heap.size, 2, none⟩ = some (.int .i64 imm) := by rw [hu, World.cell?_alloc_new]; rfl
  have HLX : Hid (w.heap.size < u.heap.size ∧ ¬ w.heap.size = g.X) := ⟨by rw [hu]; simp, by have := h.lt; omega⟩
  have t1 : c.tdiv 8 = y := by rw [Int.tdiv_eq_ediv_of_nonneg c0]; exact hy
  have t2 : c.tmod 8 = 4 := by rw [Int.tmod_eq_emod_of_nonneg c0]; exact hz
  have t3 : IntKind.i64.wrap y = y := by rw [IntKind.wrap_i64]; omega
  have t4 : y.tdiv 2 = y / 2 := Int.tdiv_eq_ediv_of_nonneg y0
  have t5 : IntKind.i64.wrap (y / 2) = y / 2 := by rw [IntKind.wrap_i64]; omega
  have c1 : Rg 51 #[.pointer (some ⟨g.X, 0, none⟩), .int .i64 y] u (.int .i64 (Stpp.get m y)) := rg fun W hb => regS g m full y W (hI.below hb) hg y0 y1
  have c2 : Rg 82 #[.int .i64 (Stpp.get m y), .int .i64 m.rf, .bool false] u (.tuple #[.int .i64 (st8R (Stpp.get m y) m.rf false).1, .int .i64 (st8R (Stpp.get m y) m.rf false).2]) := rg fun W hb => (specStepped8_any (Stpp.get m y) m.rf false W).mono fun e w' h => ⟨by rw [← st8_in (get_bd hg y) hg.f]; exact h.1, by rw [h.2]; exact Below.refl _ _⟩
  have bd := st8_bd (v := Stpp.get m y) (f := m.rf) false
  generalize (st8R (Stpp.get m y) m.rf false).1 = v1 at *
  generalize (st8R (Stpp.get m y) m.rf false).2 = v2 at *
  have c3 : Hid (∀ W, InS g W m full → Calls Tryz.prog 50 #[.pointer (some ⟨g.X, 0, none⟩), .int .i64 y, .int .i64 v1] W fun e w' => e = .returned (.tuple #[]) ∧ InS g w' (put ⟨m, full⟩ y v1).m (put ⟨m, full⟩ y v1).full) := fun W hi => setS g m full _ _ W hi hg y0 y1 bd.1 bd.2.1
  generalize put ⟨m, full⟩ y v1 = t at *
  generalize Stpp.get m y = x1 at *
  have r0 := cell_regrown (hI.cell 1 _ rfl)
  clear bd
  clear h hg hI i0 i1 hy hz y0 y1 c0
  go_enter Tryz.func49, Tryz.ntmps49
  go_upto_region 27 with fail
  rw [← hu]
  clear hu
  refine wp_region_quiet_below (by kernel_rfl) (by kernel_rfl) ?_
  repeat (first | (go_big_quiet_step (first | with_reducible exact c1 _ _ | with_reducible exact c2 _ _)) | (refine wpQuiet_load (by rfl) 33 _ rfl ⟨g.X, 0, none⟩ rfl _ (fun W hW => by obtain ⟨⟨d, o⟩, rfl⟩ := hW; exact hld d o) ?_; simp only [Act.put, List.setIfInBounds_toArray, List.set_cons_succ, List.set_cons_zero]))
  refine wpQuiet_nil ?_
  intro _ hw'
  obtain ⟨⟨dq, osq⟩, hw''⟩ := hw'
  subst hw''
  have H2 : Hid (InS g (Go.Sort.grow (redrawn u dq) osq) m full) := HI.out.below (below_regrown u dq osq)
  have hbg : Below u.heap.size u (Go.Sort.grow (redrawn u dq) osq) := below_regrown u dq osq
  generalize Go.Sort.grow (redrawn u dq) osq = W2 at *
  clear HI r0 c1 c2
  go_wp2_with fail
  refine Calls.mono (c3.out _ H2.out) ?_
  rintro e w3 ⟨rfl, hi1⟩
  have H3 : Hid (InS g w3 t.m t.full) := hi1
  clear hi1 H2 c3
  have q_rf := H3.out.cell 1 _ rfl
  have f_rf := H3.out.fro 1
  have HF : Hid (InS g (w3.setCell ⟨g.X, 1, none⟩ (.int .i64 v2)) { t.m with rf := v2 } t.full) := H3.out.s_rf v2
  clear H3
  go_wp2
  go_ret
  exact ⟨rfl, HF.out⟩
set_option maxHeartbeats 1000000 in
theorem low_z5 (g : SG) (m : M) (full : Bool) (imm : Int) (c y : Int) (c0 : 0 ≤ c) (hy : c / 8 = y) (y0 : 0 ≤ y) (y1 : y ≤ 7) (hz : c % 8 = 5) (i0 : 0 ≤ imm) (i1 : imm ≤ 65535) (w : World) (h : InS g w m full) (hg : Stpq.Good m) :
    Calls Tryz.prog 49 #[.pointer (some ⟨g.X, 0, none⟩), .agg #[.int .i64 c, .bool false, .int .i64 imm]] w fun e w' => e = .returned (.bool false) ∧ InS g w' (F (put ⟨m, full⟩ y (st8R (Stpp.get m y) m.rf true).1) (st8R (Stpp.get m y) m.rf true).2).m (F (put ⟨m, full⟩ y (st8R (Stpp.get m y) m.rf true).1) (st8R (Stpp.get m y) m.rf true).2).full := by
  obtain ⟨u, hu⟩ : ∃ u, u = w.alloc (.cells #[.int .i64 c, .bool false, .int .i64 imm] 77) := ⟨_, rfl⟩
  have hI : InS g u m full := by rw [hu]; exact h.below ((Below.refl _ _).alloc (Nat.le_refl _) _)
  have HI : Hid (InS g u m full) := hI
  have k0 : u.cell? ⟨w.heap.size, 0, none⟩ = some (.int .i64 c) := by rw [hu, World.cell?_alloc_new]; rfl
  have k2 : u.cell? ⟨w.heap.size, 2, none⟩ = some (.int .i64 imm) := by rw [hu, World.cell?_alloc_new]; rfl
  have HLX : Hid (w.heap.size < u.heap.size ∧ ¬ w.heap.size = g.X) := ⟨by rw [hu]; simp, by have := h.lt; omega⟩
  have t1 : c.tdiv 8 = y := by rw [Int.tdiv_eq_ediv_of_nonneg c0]; exact hy
  have t2 : c.tmod 8 = 5 := by rw [Int.tmod_eq_emod_of_nonneg c0]; exact hz
  have t3 : IntKind.i64.wrap y = y := by rw [IntKind.wrap_i64]; omega
  have t4 : y.tdiv 2 = y / 2 := Int.tdiv_eq_ediv_of_nonneg y0
  have t5 : IntKind.i64.wrap (y / 2) = y / 2 := by rw [IntKind.wrap_i64]; omega
  have c1 : Rg 51 #[.pointer (some ⟨g.X, 0, none⟩), .int .i64 y] u (.int .i64 (Stpp.get m y)) := rg fun W hb => regS g m full y W (hI.below hb) hg y0 y1
  have c2 : Rg 82 #[.int .i64 (Stpp.get m y), .int .i64 m.rf, .bool true] u (.tuple #[.int .i64 (st8R (Stpp.get m y) m.rf true).1, .int .i64 (st8R (Stpp.get m y) m.rf true).2]) := rg fun W hb => (specStepped8_any (Stpp.get m y) m.rf true W).mono fun e w' h => ⟨by rw [← st8_in (get_bd hg y) hg.f]; exact h.1, by rw [h.2]; exact Below.refl _ _⟩
  have bd := st8_bd (v := Stpp.get m y) (f := m.rf) true
  generalize (st8R (Stpp.get m y) m.rf true).1 = v1 at *
  generalize (st8R (Stpp.get m y) m.rf true).2 = v2 at *
  have c3 : Hid (∀ W, InS g W m full → Calls Tryz.prog 50 #[.pointer (some ⟨g.X, 0, none⟩), .int .i64 y, .int .i64 v1] W fun e w' => e = .returned (.tuple #[]) ∧ InS g w' (put ⟨m, full⟩ y v1).m (put ⟨m, full⟩ y v1).full) := fun W hi => setS g m full _ _ W hi hg y0 y1 bd.1 bd.2.1
  generalize put ⟨m, full⟩ y v1 = t at *
  generalize Stpp.get m y = x1 at *
  have r0 := cell_regrown (hI.cell 1 _ rfl)
  clear bd
  clear h hg hI i0 i1 hy hz y0 y1 c0
  go_enter Tryz.func49, Tryz.ntmps49
  go_upto_region 27 with fail
  rw [← hu]
  clear hu
  refine wp_region_quiet_below (by kernel_rfl) (by kernel_rfl) ?_
  repeat (first | (go_big_quiet_step (first | with_reducible exact c1 _ _ | with_reducible exact c2 _ _)) | (refine wpQuiet_load (by rfl) 33 _ rfl ⟨g.X, 0, none⟩ rfl _ (fun W hW => by obtain ⟨⟨d, o⟩, rfl⟩ := hW; exact hld d o) ?_; simp only [Act.put, List.setIfInBounds_toArray, List.set_cons_succ, List.set_cons_zero]))
  refine wpQuiet_nil ?_
  intro _ hw'
  obtain ⟨⟨dq, osq⟩, hw''⟩ := hw'
  subst hw''
  have H2 : Hid (InS g (Go.Sort.grow (redrawn u dq) osq) m full) := HI.out.below (below_regrown u dq osq)
  have hbg : Below u.heap.size u (Go.Sort.grow (redrawn u dq) osq) := below_regrown u dq osq
  generalize Go.Sort.grow (redrawn u dq) osq = W2 at *
  clear HI r0 c1 c2
  go_wp2_with fail
  refine Calls.mono (c3.out _ H2.out) ?_
  rintro e w3 ⟨rfl, hi1⟩
  have H3 : Hid (InS g w3 t.m t.full) := hi1
  clear hi1 H2 c3
  have q_rf := H3.out.cell 1 _ rfl
  have f_rf := H3.out.fro 1
  have HF : Hid (InS g (w3.setCell ⟨g.X, 1, none⟩ (.int .i64 v2)) { t.m with rf := v2 } t.full) := H3.out.s_rf v2
  clear H3
  go_wp2
  go_ret
  exact ⟨rfl, HF.out⟩
set_option maxHeartbeats 1000000 in
theorem low_z6 (g : SG) (m : M) (full : Bool) (imm : Int) (c y : Int) (c0 : 0 ≤ c) (hy : c / 8 = y) (y0 : 0 ≤ y) (y1 : y ≤ 7) (hz : c % 8 = 6) (ib : imm ≤ 255) (i0 : 0 ≤ imm) (i1 : imm ≤ 65535) (w : World) (h : InS g w m full) (hg : Stpq.Good m) :
    Calls Tryz.prog 49 #[.pointer (some ⟨g.X, 0, none⟩), .agg #[.int .i64 c, .bool false, .int .i64 imm]] w fun e w' => e = .returned (.bool false) ∧ InS g w' (put ⟨m, full⟩ y imm).m (put ⟨m, full⟩ y imm).full := by
  obtain ⟨u, hu⟩ : ∃ u, u = w.alloc (.cells #[.int .i64 c, .bool false, .int .i64 imm] 77) := ⟨_, rfl⟩
  have hI : InS g u m full := by rw [hu]; exact h.below ((Below.refl _ _).alloc (Nat.le_refl _) _)
  have HI : Hid (InS g u m full) := hI
  have k0 : u.cell? ⟨w.heap.size, 0, none⟩ = some (.int .i64 c) := by rw [hu, World.cell?_alloc_new]; rfl
  have k2 : u.cell? ⟨w.heap.size, 2, none⟩ = some (.int .i64 imm) := by rw [hu, World.cell?_alloc_new]; rfl
  have HLX : Hid (w.heap.size < u.heap.size ∧ ¬ w.heap.size = g.X) := ⟨by rw [hu]; simp, by have := h.lt; omega⟩
  have t1 : c.tdiv 8 = y := by rw [Int.tdiv_eq_ediv_of_nonneg c0]; exact hy
  have t2 : c.tmod 8 = 6 := by rw [Int.tmod_eq_emod_of_nonneg c0]; exact hz
  have t3 : IntKind.i64.wrap y = y := by rw [IntKind.wrap_i64]; omega
  have t4 : y.tdiv 2 = y / 2 := Int.tdiv_eq_ediv_of_nonneg y0
  have t5 : IntKind.i64.wrap (y / 2) = y / 2 := by rw [IntKind.wrap_i64]; omega
  have c3 : Hid (∀ W, InS g W m full → Calls Tryz.prog 50 #[.pointer (some ⟨g.X, 0, none⟩), .int .i64 y, .int .i64 imm] W fun e w' => e = .returned (.tuple #[]) ∧ InS g w' (put ⟨m, full⟩ y imm).m (put ⟨m, full⟩ y imm).full) := fun W hi => setS g m full _ _ W hi hg y0 y1 i0 ib
  generalize put ⟨m, full⟩ y imm = t at *
  clear h hg hI i0 i1 hy hz y0 y1 c0
  go_enter Tryz.func49, Tryz.ntmps49
  go_wp2_with fail
  rw [← hu]
  clear hu k0 k2
  refine Calls.mono (c3.out _ HI.out) ?_
  rintro e w3 ⟨rfl, hi1⟩
  have H3 : Hid (InS g w3 t.m t.full) := hi1
  clear hi1 HI c3
  go_wp2
  go_ret
  exact ⟨rfl, H3.out⟩
set_option maxHeartbeats 1000000 in
theorem low_z7 (g : SG) (m : M) (full : Bool) (imm : Int) (c y : Int) (c0 : 0 ≤ c) (hy : c / 8 = y) (y0 : 0 ≤ y) (y1 : y ≤ 7) (hz : c % 8 = 7) (i0 : 0 ≤ imm) (i1 : imm ≤ 65535) (w : World) (h : InS g w m full) (hg : Stpq.Good m) :
    Calls Tryz.prog 49 #[.pointer (some ⟨g.X, 0, none⟩), .agg #[.int .i64 c, .bool false, .int .i64 imm]] w fun e w' => e = .returned (.bool false) ∧ InS g w' (oddE y ⟨m, full⟩).m (oddE y ⟨m, full⟩).full := by
  obtain ⟨u, hu⟩ : ∃ u, u = w.alloc (.cells #[.int .i64 c, .bool false, .int .i64 imm] 77) := ⟨_, rfl⟩
  have hI : InS g u m full := by rw [hu]; exact h.below ((Below.refl _ _).alloc (Nat.le_refl _) _)
  have HI : Hid (InS g u m full) := hI
  have k0 : u.cell? ⟨w.heap.size, 0, none⟩ = some (.int .i64 c) := by rw [hu, World.cell?_alloc_new]; rfl
  have k2 : u.cell? ⟨w.heap.size, 2, none⟩ = some (.int .i64 imm) := by rw [hu, World.cell?_alloc_new]; rfl
  have HLX : Hid (w.heap.size < u.heap.size ∧ ¬ w.heap.size = g.X) := ⟨by rw [hu]; simp, by have := h.lt; omega⟩
  have t1 : c.tdiv 8 = y := by rw [Int.tdiv_eq_ediv_of_nonneg c0]; exact hy
  have t2 : c.tmod 8 = 7 := by rw [Int.tmod_eq_emod_of_nonneg c0]; exact hz
  have t3 : IntKind.i64.wrap y = y := by rw [IntKind.wrap_i64]; omega
  have t4 : y.tdiv 2 = y / 2 := Int.tdiv_eq_ediv_of_nonneg y0
  have t5 : IntKind.i64.wrap (y / 2) = y / 2 := by rw [IntKind.wrap_i64]; omega
  have c3 : Hid (∀ W, InS g W m full → Calls Tryz.prog 83 #[.pointer (some ⟨g.X, 0, none⟩), .int .i64 y] W fun e w' => e = .returned (.tuple #[]) ∧ InS g w' (oddE y ⟨m, full⟩).m (oddE y ⟨m, full⟩).full) := fun W hi => oddS g m full _ W hi hg y0 y1
  generalize oddE y ⟨m, full⟩ = t at *
  clear h hg hI i0 i1 hy hz y0 y1 c0
  go_enter Tryz.func49, Tryz.ntmps49
  go_wp2_with fail
  rw [← hu]
  clear hu k0 k2
  refine Calls.mono (c3.out _ HI.out) ?_
  rintro e w3 ⟨rfl, hi1⟩
  have H3 : Hid (InS g w3 t.m t.full) := hi1
  clear hi1 HI c3
  go_wp2
  go_ret
  exact ⟨rfl, H3.out⟩
end Go.Proofs.YtkfehdkjeodbmaaGreatDoor.Stcr
