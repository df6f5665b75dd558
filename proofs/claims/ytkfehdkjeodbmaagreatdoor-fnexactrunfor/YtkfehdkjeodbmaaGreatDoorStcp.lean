/-
  Contracts of ours for the specification's instructions with a code below 64.
-/
import Derived.Test.YtkfehdkjeodbmaaGreatDoorStcz
namespace Go.Proofs.YtkfehdkjeodbmaaGreatDoor.Stcp
open Go.ChangeShapes Go.WideShapes Go.ChangeAt Go.RowKit Go.Deep
set_option linter.unusedVariables false
set_option linter.unusedSimpArgs false
set_option maxRecDepth 20000
open Signed (inB sgn ret_int ret_bool)
open Reck ReckS ReckM ReckD TurnS
open Busw Busx Busy Stpp Stpq Stps Sta Stb Stck Stcz
set_option maxHeartbeats 1000000 in
theorem low_2 (g : SG) (m : M) (full : Bool) (imm : Int) (i0 : 0 ≤ imm) (i1 : imm ≤ 65535) (w : World) (h : InS g w m full) (hg : Stpq.Good m) :
    Calls Tryz.prog 49 #[.pointer (some ⟨g.X, 0, none⟩), .agg #[.int .i64 2, .bool false, .int .i64 imm]] w fun e w' => e = .returned (.bool false) ∧ InS g w' (wr ⟨m, full⟩ (pr m 0) m.ra).m (wr ⟨m, full⟩ (pr m 0) m.ra).full := by
  obtain ⟨u, hu⟩ : ∃ u, u = w.alloc (.cells #[.int .i64 2, .bool false, .int .i64 imm] 77) := ⟨_, rfl⟩
  have hI : InS g u m full := by rw [hu]; exact h.below ((Below.refl _ _).alloc (Nat.le_refl _) _)
  have HI : Hid (InS g u m full) := hI
  have k0 : u.cell? ⟨w.heap.size, 0, none⟩ = some (.int .i64 2) := by rw [hu, World.cell?_alloc_new]; rfl
  have k2 : u.cell? ⟨w.heap.size, 2, none⟩ = some (.int .i64 imm) := by rw [hu, World.cell?_alloc_new]; rfl
  have HLX : Hid (w.heap.size < u.heap.size ∧ ¬ w.heap.size = g.X) := ⟨by rw [hu]; simp, by have := h.lt; omega⟩
  have bd := pr_bd hg 0
  have c1 : Hid (∀ W, InS g W m full → Calls Tryz.prog 81 #[.pointer (some ⟨g.X, 0, none⟩), .int .i64 0, .bool false] W fun e w' => e = .returned (.int .i64 (pr m 0)) ∧ Below W.heap.size W w') := fun W hi => pairS g m full 0 W hi hg (by omega) (by omega)
  have c2 : Hid (∀ W, InS g W m full → Calls Tryz.prog 75 #[.pointer (some ⟨g.X, 0, none⟩), .int .i64 (pr m 0), .int .i64 m.ra] W fun e w' => e = .returned (.tuple #[]) ∧ InS g w' (wr ⟨m, full⟩ (pr m 0) m.ra).m (wr ⟨m, full⟩ (pr m 0) m.ra).full) := fun W hi => writeS g m full _ _ W hi hg.rt bd.1 hg.a.1 hg.a.2
  have g1 := wr_good (s := ⟨m, full⟩) hg (pr m 0) m.ra hg.a.1 hg.a.2
  generalize wr ⟨m, full⟩ (pr m 0) m.ra = t at *
  generalize pr m 0 = x1 at *
  clear bd g1
  clear h hg hI i0 i1
  go_enter Tryz.func49, Tryz.ntmps49
  go_wp2_with fail
  rw [← hu]
  clear hu k0 k2
  refine Calls.mono (c1.out _ HI.out) ?_
  rintro e w1 ⟨rfl, hb1⟩
  have H1 : Hid (InS g w1 m full) := HI.out.below hb1
  clear hb1 HI c1
  have q0 := H1.out.cell 0 _ rfl
  go_wp2_with fail
  refine Calls.mono (c2.out _ H1.out) ?_
  rintro e w2 ⟨rfl, hi1⟩
  have H2 : Hid (InS g w2 t.m t.full) := hi1
  clear hi1 H1 c2
  clear q0
  go_wp2
  go_ret
  exact ⟨rfl, H2.out⟩
set_option maxHeartbeats 1000000 in
theorem low_10 (g : SG) (m : M) (full : Bool) (imm : Int) (i0 : 0 ≤ imm) (i1 : imm ≤ 65535) (w : World) (h : InS g w m full) (hg : Stpq.Good m) :
    Calls Tryz.prog 49 #[.pointer (some ⟨g.X, 0, none⟩), .agg #[.int .i64 10, .bool false, .int .i64 imm]] w fun e w' => e = .returned (.bool false) ∧ InS g w' (⟨{ m with ra := rd m (pr m 0) }, full⟩ : S).m (⟨{ m with ra := rd m (pr m 0) }, full⟩ : S).full := by
  obtain ⟨u, hu⟩ : ∃ u, u = w.alloc (.cells #[.int .i64 10, .bool false, .int .i64 imm] 77) := ⟨_, rfl⟩
  have hI : InS g u m full := by rw [hu]; exact h.below ((Below.refl _ _).alloc (Nat.le_refl _) _)
  have HI : Hid (InS g u m full) := hI
  have k0 : u.cell? ⟨w.heap.size, 0, none⟩ = some (.int .i64 10) := by rw [hu, World.cell?_alloc_new]; rfl
  have k2 : u.cell? ⟨w.heap.size, 2, none⟩ = some (.int .i64 imm) := by rw [hu, World.cell?_alloc_new]; rfl
  have HLX : Hid (w.heap.size < u.heap.size ∧ ¬ w.heap.size = g.X) := ⟨by rw [hu]; simp, by have := h.lt; omega⟩
  have bd := pr_bd hg 0
  have c1 : Hid (∀ W, InS g W m full → Calls Tryz.prog 81 #[.pointer (some ⟨g.X, 0, none⟩), .int .i64 0, .bool false] W fun e w' => e = .returned (.int .i64 (pr m 0)) ∧ Below W.heap.size W w') := fun W hi => pairS g m full 0 W hi hg (by omega) (by omega)
  have CR : Hid (∀ po cap W, Calls Tryz.prog 70 #[.agg (cellsM m po cap), .int .i64 (pr m 0)] W fun e w' => e = .returned (.int .i64 (rd m (pr m 0))) ∧ Below W.heap.size W w') := fun po cap W => l6Read_M m po cap _ W hg.rt bd.1
  have rb := rd_bd m (pr m 0)
  generalize rd m (pr m 0) = rv at *
  generalize pr m 0 = x1 at *
  clear bd rb
  clear h hg hI i0 i1
  go_enter Tryz.func49, Tryz.ntmps49
  go_wp2_with fail
  rw [← hu]
  clear hu k0 k2
  refine Calls.mono (c1.out _ HI.out) ?_
  rintro e w1 ⟨rfl, hb1⟩
  have H1 : Hid (InS g w1 m full) := HI.out.below hb1
  clear hb1 HI c1
  obtain ⟨po, cap, hA⟩ := H1.out
  have hl := hA.load (W' := w1) rfl
  have CR2 := fun W => CR.out po cap W
  generalize cellsM m po cap = cM at *
  clear hA CR
  go_upto_region 21 with fail
  refine wp_region_list ?_
  refine wpList_plain rfl (fun K hK => ?_)
  go_simp
  refine hK _ _ ?_
  clear hK
  refine wpList_plain rfl (fun K hK => ?_)
  go_simp
  refine hK _ _ ?_
  clear hK
  refine wpList_plain rfl (fun K hK => ?_)
  go_simp
  refine hK _ _ ?_
  clear hK
  refine wpList_plain rfl (fun K hK => ?_)
  go_simp
  refine hK _ _ ?_
  clear hK
  refine wpList_load_any rfl 33 _ rfl ⟨g.X, 0, none⟩ rfl _ hl ?_
  go_wp2_with fail
  refine Calls.mono (CR2 _) ?_
  rintro e w2 ⟨rfl, hb2⟩
  have H2 : Hid (InS g w2 m full) := H1.out.below hb2
  clear hb2 H1 CR2 hl
  have q_ra := H2.out.cell 0 _ rfl
  have f_ra := H2.out.fro 0
  have HF : Hid (InS g (w2.setCell ⟨g.X, 0, none⟩ (.int .i64 rv)) { m with ra := rv } full) := H2.out.s_ra rv
  clear H2
  go_wp2
  go_ret
  exact ⟨rfl, HF.out⟩
set_option maxHeartbeats 1000000 in
theorem low_18 (g : SG) (m : M) (full : Bool) (imm : Int) (i0 : 0 ≤ imm) (i1 : imm ≤ 65535) (w : World) (h : InS g w m full) (hg : Stpq.Good m) :
    Calls Tryz.prog 49 #[.pointer (some ⟨g.X, 0, none⟩), .agg #[.int .i64 18, .bool false, .int .i64 imm]] w fun e w' => e = .returned (.bool false) ∧ InS g w' (wr ⟨m, full⟩ (pr m 1) m.ra).m (wr ⟨m, full⟩ (pr m 1) m.ra).full := by
  obtain ⟨u, hu⟩ : ∃ u, u = w.alloc (.cells #[.int .i64 18, .bool false, .int .i64 imm] 77) := ⟨_, rfl⟩
  have hI : InS g u m full := by rw [hu]; exact h.below ((Below.refl _ _).alloc (Nat.le_refl _) _)
  have HI : Hid (InS g u m full) := hI
  have k0 : u.cell? ⟨w.heap.size, 0, none⟩ = some (.int .i64 18) := by rw [hu, World.cell?_alloc_new]; rfl
  have k2 : u.cell? ⟨w.heap.size, 2, none⟩ = some (.int .i64 imm) := by rw [hu, World.cell?_alloc_new]; rfl
  have HLX : Hid (w.heap.size < u.heap.size ∧ ¬ w.heap.size = g.X) := ⟨by rw [hu]; simp, by have := h.lt; omega⟩
  have bd := pr_bd hg 1
  have c1 : Hid (∀ W, InS g W m full → Calls Tryz.prog 81 #[.pointer (some ⟨g.X, 0, none⟩), .int .i64 1, .bool false] W fun e w' => e = .returned (.int .i64 (pr m 1)) ∧ Below W.heap.size W w') := fun W hi => pairS g m full 1 W hi hg (by omega) (by omega)
  have c2 : Hid (∀ W, InS g W m full → Calls Tryz.prog 75 #[.pointer (some ⟨g.X, 0, none⟩), .int .i64 (pr m 1), .int .i64 m.ra] W fun e w' => e = .returned (.tuple #[]) ∧ InS g w' (wr ⟨m, full⟩ (pr m 1) m.ra).m (wr ⟨m, full⟩ (pr m 1) m.ra).full) := fun W hi => writeS g m full _ _ W hi hg.rt bd.1 hg.a.1 hg.a.2
  have g1 := wr_good (s := ⟨m, full⟩) hg (pr m 1) m.ra hg.a.1 hg.a.2
  generalize wr ⟨m, full⟩ (pr m 1) m.ra = t at *
  generalize pr m 1 = x1 at *
  clear bd g1
  clear h hg hI i0 i1
  go_enter Tryz.func49, Tryz.ntmps49
  go_wp2_with fail
  rw [← hu]
  clear hu k0 k2
  refine Calls.mono (c1.out _ HI.out) ?_
  rintro e w1 ⟨rfl, hb1⟩
  have H1 : Hid (InS g w1 m full) := HI.out.below hb1
  clear hb1 HI c1
  have q0 := H1.out.cell 0 _ rfl
  go_wp2_with fail
  refine Calls.mono (c2.out _ H1.out) ?_
  rintro e w2 ⟨rfl, hi1⟩
  have H2 : Hid (InS g w2 t.m t.full) := hi1
  clear hi1 H1 c2
  clear q0
  go_wp2
  go_ret
  exact ⟨rfl, H2.out⟩
set_option maxHeartbeats 1000000 in
theorem low_26 (g : SG) (m : M) (full : Bool) (imm : Int) (i0 : 0 ≤ imm) (i1 : imm ≤ 65535) (w : World) (h : InS g w m full) (hg : Stpq.Good m) :
    Calls Tryz.prog 49 #[.pointer (some ⟨g.X, 0, none⟩), .agg #[.int .i64 26, .bool false, .int .i64 imm]] w fun e w' => e = .returned (.bool false) ∧ InS g w' (⟨{ m with ra := rd m (pr m 1) }, full⟩ : S).m (⟨{ m with ra := rd m (pr m 1) }, full⟩ : S).full := by
  obtain ⟨u, hu⟩ : ∃ u, u = w.alloc (.cells #[.int .i64 26, .bool false, .int .i64 imm] 77) := ⟨_, rfl⟩
  have hI : InS g u m full := by rw [hu]; exact h.below ((Below.refl _ _).alloc (Nat.le_refl _) _)
  have HI : Hid (InS g u m full) := hI
  have k0 : u.cell? ⟨w.heap.size, 0, none⟩ = some (.int .i64 26) := by rw [hu, World.cell?_alloc_new]; rfl
  have k2 : u.cell? ⟨w.heap.size, 2, none⟩ = some (.int .i64 imm) := by rw [hu, World.cell?_alloc_new]; rfl
  have HLX : Hid (w.heap.size < u.heap.size ∧ ¬ w.heap.size = g.X) := ⟨by rw [hu]; simp, by have := h.lt; omega⟩
  have bd := pr_bd hg 1
  have c1 : Hid (∀ W, InS g W m full → Calls Tryz.prog 81 #[.pointer (some ⟨g.X, 0, none⟩), .int .i64 1, .bool false] W fun e w' => e = .returned (.int .i64 (pr m 1)) ∧ Below W.heap.size W w') := fun W hi => pairS g m full 1 W hi hg (by omega) (by omega)
  have CR : Hid (∀ po cap W, Calls Tryz.prog 70 #[.agg (cellsM m po cap), .int .i64 (pr m 1)] W fun e w' => e = .returned (.int .i64 (rd m (pr m 1))) ∧ Below W.heap.size W w') := fun po cap W => l6Read_M m po cap _ W hg.rt bd.1
  have rb := rd_bd m (pr m 1)
  generalize rd m (pr m 1) = rv at *
  generalize pr m 1 = x1 at *
  clear bd rb
  clear h hg hI i0 i1
  go_enter Tryz.func49, Tryz.ntmps49
  go_wp2_with fail
  rw [← hu]
  clear hu k0 k2
  refine Calls.mono (c1.out _ HI.out) ?_
  rintro e w1 ⟨rfl, hb1⟩
  have H1 : Hid (InS g w1 m full) := HI.out.below hb1
  clear hb1 HI c1
  obtain ⟨po, cap, hA⟩ := H1.out
  have hl := hA.load (W' := w1) rfl
  have CR2 := fun W => CR.out po cap W
  generalize cellsM m po cap = cM at *
  clear hA CR
  go_upto_region 21 with fail
  refine wp_region_list ?_
  refine wpList_plain rfl (fun K hK => ?_)
  go_simp
  refine hK _ _ ?_
  clear hK
  refine wpList_plain rfl (fun K hK => ?_)
  go_simp
  refine hK _ _ ?_
  clear hK
  refine wpList_plain rfl (fun K hK => ?_)
  go_simp
  refine hK _ _ ?_
  clear hK
  refine wpList_plain rfl (fun K hK => ?_)
  go_simp
  refine hK _ _ ?_
  clear hK
  refine wpList_load_any rfl 33 _ rfl ⟨g.X, 0, none⟩ rfl _ hl ?_
  go_wp2_with fail
  refine Calls.mono (CR2 _) ?_
  rintro e w2 ⟨rfl, hb2⟩
  have H2 : Hid (InS g w2 m full) := H1.out.below hb2
  clear hb2 H1 CR2 hl
  have q_ra := H2.out.cell 0 _ rfl
  have f_ra := H2.out.fro 0
  have HF : Hid (InS g (w2.setCell ⟨g.X, 0, none⟩ (.int .i64 rv)) { m with ra := rv } full) := H2.out.s_ra rv
  clear H2
  go_wp2
  go_ret
  exact ⟨rfl, HF.out⟩
set_option maxHeartbeats 1000000 in
theorem low_34 (g : SG) (m : M) (full : Bool) (imm : Int) (i0 : 0 ≤ imm) (i1 : imm ≤ 65535) (w : World) (h : InS g w m full) (hg : Stpq.Good m) :
    Calls Tryz.prog 49 #[.pointer (some ⟨g.X, 0, none⟩), .agg #[.int .i64 34, .bool false, .int .i64 imm]] w fun e w' => e = .returned (.bool false) ∧ InS g w' (⟨setP (wr ⟨m, full⟩ (pr m 2) m.ra).m 2 ((pr m 2 + 1) % 65536), (wr ⟨m, full⟩ (pr m 2) m.ra).full⟩ : S).m (⟨setP (wr ⟨m, full⟩ (pr m 2) m.ra).m 2 ((pr m 2 + 1) % 65536), (wr ⟨m, full⟩ (pr m 2) m.ra).full⟩ : S).full := by
  obtain ⟨u, hu⟩ : ∃ u, u = w.alloc (.cells #[.int .i64 34, .bool false, .int .i64 imm] 77) := ⟨_, rfl⟩
  have hI : InS g u m full := by rw [hu]; exact h.below ((Below.refl _ _).alloc (Nat.le_refl _) _)
  have HI : Hid (InS g u m full) := hI
  have k0 : u.cell? ⟨w.heap.size, 0, none⟩ = some (.int .i64 34) := by rw [hu, World.cell?_alloc_new]; rfl
  have k2 : u.cell? ⟨w.heap.size, 2, none⟩ = some (.int .i64 imm) := by rw [hu, World.cell?_alloc_new]; rfl
  have HLX : Hid (w.heap.size < u.heap.size ∧ ¬ w.heap.size = g.X) := ⟨by rw [hu]; simp, by have := h.lt; omega⟩
  have bd := pr_bd hg 2
  have d1 : IntKind.i64.wrap (pr m 2 + 1) = pr m 2 + 1 := by rw [IntKind.wrap_i64]; omega
  have d2 : (pr m 2 + 1).tmod 65536 = (pr m 2 + 1) % 65536 := Int.tmod_eq_emod_of_nonneg (by omega)
  have c1 : Hid (∀ W, InS g W m full → Calls Tryz.prog 81 #[.pointer (some ⟨g.X, 0, none⟩), .int .i64 2, .bool false] W fun e w' => e = .returned (.int .i64 (pr m 2)) ∧ Below W.heap.size W w') := fun W hi => pairS g m full 2 W hi hg (by omega) (by omega)
  have c2 : Hid (∀ W, InS g W m full → Calls Tryz.prog 75 #[.pointer (some ⟨g.X, 0, none⟩), .int .i64 (pr m 2), .int .i64 m.ra] W fun e w' => e = .returned (.tuple #[]) ∧ InS g w' (wr ⟨m, full⟩ (pr m 2) m.ra).m (wr ⟨m, full⟩ (pr m 2) m.ra).full) := fun W hi => writeS g m full _ _ W hi hg.rt bd.1 hg.a.1 hg.a.2
  have g1 := wr_good (s := ⟨m, full⟩) hg (pr m 2) m.ra hg.a.1 hg.a.2
  generalize wr ⟨m, full⟩ (pr m 2) m.ra = t at *
  have c3 : Hid (∀ W, InS g W t.m t.full → Calls Tryz.prog 78 #[.pointer (some ⟨g.X, 0, none⟩), .int .i64 2, .int .i64 ((pr m 2 + 1) % 65536), .bool false] W fun e w' => e = .returned (.tuple #[]) ∧ InS g w' (⟨setP t.m 2 ((pr m 2 + 1) % 65536), t.full⟩ : S).m (⟨setP t.m 2 ((pr m 2 + 1) % 65536), t.full⟩ : S).full) := fun W hi => setPairS g t.m t.full 2 _ W hi g1 (by omega) (by omega) (by omega) (by omega)
  generalize (⟨setP t.m 2 ((pr m 2 + 1) % 65536), t.full⟩ : S) = t2 at *
  generalize (pr m 2 + 1) % 65536 = vv at *
  generalize pr m 2 = x1 at *
  clear bd g1
  clear h hg hI i0 i1
  go_enter Tryz.func49, Tryz.ntmps49
  go_wp2_with fail
  rw [← hu]
  clear hu k0 k2
  refine Calls.mono (c1.out _ HI.out) ?_
  rintro e w1 ⟨rfl, hb1⟩
  have H1 : Hid (InS g w1 m full) := HI.out.below hb1
  clear hb1 HI c1
  have q0 := H1.out.cell 0 _ rfl
  go_wp2_with fail
  refine Calls.mono (c2.out _ H1.out) ?_
  rintro e w2 ⟨rfl, hi1⟩
  have H2 : Hid (InS g w2 t.m t.full) := hi1
  clear hi1 H1 c2
  clear q0
  go_wp2_with fail
  refine Calls.mono (c3.out _ (H2.out.below (by repeat (with_reducible first | exact Below.refl _ _ | refine CartL.grow ?_ _ | refine below_drewN ?_ _ | refine Below.drew ?_)))) ?_
  rintro e w3 ⟨rfl, hi1⟩
  have H3 : Hid (InS g w3 t2.m t2.full) := hi1
  clear hi1 H2 c3
  go_wp2
  go_ret
  exact ⟨rfl, H3.out⟩
set_option maxHeartbeats 1000000 in
theorem low_42 (g : SG) (m : M) (full : Bool) (imm : Int) (i0 : 0 ≤ imm) (i1 : imm ≤ 65535) (w : World) (h : InS g w m full) (hg : Stpq.Good m) :
    Calls Tryz.prog 49 #[.pointer (some ⟨g.X, 0, none⟩), .agg #[.int .i64 42, .bool false, .int .i64 imm]] w fun e w' => e = .returned (.bool false) ∧ InS g w' (⟨setP { m with ra := rd m (pr m 2) } 2 ((pr m 2 + 1) % 65536), full⟩ : S).m (⟨setP { m with ra := rd m (pr m 2) } 2 ((pr m 2 + 1) % 65536), full⟩ : S).full := by
  obtain ⟨u, hu⟩ : ∃ u, u = w.alloc (.cells #[.int .i64 42, .bool false, .int .i64 imm] 77) := ⟨_, rfl⟩
  have hI : InS g u m full := by rw [hu]; exact h.below ((Below.refl _ _).alloc (Nat.le_refl _) _)
  have HI : Hid (InS g u m full) := hI
  have k0 : u.cell? ⟨w.heap.size, 0, none⟩ = some (.int .i64 42) := by rw [hu, World.cell?_alloc_new]; rfl
  have k2 : u.cell? ⟨w.heap.size, 2, none⟩ = some (.int .i64 imm) := by rw [hu, World.cell?_alloc_new]; rfl
  have HLX : Hid (w.heap.size < u.heap.size ∧ ¬ w.heap.size = g.X) := ⟨by rw [hu]; simp, by have := h.lt; omega⟩
  have bd := pr_bd hg 2
  have d1 : IntKind.i64.wrap (pr m 2 + 1) = pr m 2 + 1 := by rw [IntKind.wrap_i64]; omega
  have d2 : (pr m 2 + 1).tmod 65536 = (pr m 2 + 1) % 65536 := Int.tmod_eq_emod_of_nonneg (by omega)
  have c1 : Hid (∀ W, InS g W m full → Calls Tryz.prog 81 #[.pointer (some ⟨g.X, 0, none⟩), .int .i64 2, .bool false] W fun e w' => e = .returned (.int .i64 (pr m 2)) ∧ Below W.heap.size W w') := fun W hi => pairS g m full 2 W hi hg (by omega) (by omega)
  have CR : Hid (∀ po cap W, Calls Tryz.prog 70 #[.agg (cellsM m po cap), .int .i64 (pr m 2)] W fun e w' => e = .returned (.int .i64 (rd m (pr m 2))) ∧ Below W.heap.size W w') := fun po cap W => l6Read_M m po cap _ W hg.rt bd.1
  have rb := rd_bd m (pr m 2)
  generalize rd m (pr m 2) = rv at *
  have g1 := good_a hg rv rb.1 rb.2
  have c3 : Hid (∀ W, InS g W { m with ra := rv } full → Calls Tryz.prog 78 #[.pointer (some ⟨g.X, 0, none⟩), .int .i64 2, .int .i64 ((pr m 2 + 1) % 65536), .bool false] W fun e w' => e = .returned (.tuple #[]) ∧ InS g w' (⟨setP { m with ra := rv } 2 ((pr m 2 + 1) % 65536), full⟩ : S).m (⟨setP { m with ra := rv } 2 ((pr m 2 + 1) % 65536), full⟩ : S).full) := fun W hi => setPairS g { m with ra := rv } full 2 _ W hi g1 (by omega) (by omega) (by omega) (by omega)
  generalize (⟨setP { m with ra := rv } 2 ((pr m 2 + 1) % 65536), full⟩ : S) = t2 at *
  generalize (pr m 2 + 1) % 65536 = vv at *
  clear g1
  generalize pr m 2 = x1 at *
  clear bd rb
  clear h hg hI i0 i1
  go_enter Tryz.func49, Tryz.ntmps49
  go_wp2_with fail
  rw [← hu]
  clear hu k0 k2
  refine Calls.mono (c1.out _ HI.out) ?_
  rintro e w1 ⟨rfl, hb1⟩
  have H1 : Hid (InS g w1 m full) := HI.out.below hb1
  clear hb1 HI c1
  obtain ⟨po, cap, hA⟩ := H1.out
  have hl := hA.load (W' := w1) rfl
  have CR2 := fun W => CR.out po cap W
  generalize cellsM m po cap = cM at *
  clear hA CR
  go_upto_region 21 with fail
  refine wp_region_list ?_
  refine wpList_plain rfl (fun K hK => ?_)
  go_simp
  refine hK _ _ ?_
  clear hK
  refine wpList_plain rfl (fun K hK => ?_)
  go_simp
  refine hK _ _ ?_
  clear hK
  refine wpList_plain rfl (fun K hK => ?_)
  go_simp
  refine hK _ _ ?_
  clear hK
  refine wpList_plain rfl (fun K hK => ?_)
  go_simp
  refine hK _ _ ?_
  clear hK
  refine wpList_load_any rfl 33 _ rfl ⟨g.X, 0, none⟩ rfl _ hl ?_
  go_wp2_with fail
  refine Calls.mono (CR2 _) ?_
  rintro e w2 ⟨rfl, hb2⟩
  have H2 : Hid (InS g w2 m full) := H1.out.below hb2
  clear hb2 H1 CR2 hl
  have q_ra := H2.out.cell 0 _ rfl
  have f_ra := H2.out.fro 0
  have HF : Hid (InS g (w2.setCell ⟨g.X, 0, none⟩ (.int .i64 rv)) { m with ra := rv } full) := H2.out.s_ra rv
  clear H2
  go_wp2_with fail
  refine Calls.mono (c3.out _ (HF.out.below (by repeat (with_reducible first | exact Below.refl _ _ | refine CartL.grow ?_ _ | refine below_drewN ?_ _ | refine Below.drew ?_)))) ?_
  rintro e w3 ⟨rfl, hi1⟩
  have H3 : Hid (InS g w3 t2.m t2.full) := hi1
  clear hi1 HF c3
  go_wp2
  go_ret
  exact ⟨rfl, H3.out⟩
set_option maxHeartbeats 1000000 in
theorem low_50 (g : SG) (m : M) (full : Bool) (imm : Int) (i0 : 0 ≤ imm) (i1 : imm ≤ 65535) (w : World) (h : InS g w m full) (hg : Stpq.Good m) :
    Calls Tryz.prog 49 #[.pointer (some ⟨g.X, 0, none⟩), .agg #[.int .i64 50, .bool false, .int .i64 imm]] w fun e w' => e = .returned (.bool false) ∧ InS g w' (⟨setP (wr ⟨m, full⟩ (pr m 2) m.ra).m 2 ((pr m 2 + 65535) % 65536), (wr ⟨m, full⟩ (pr m 2) m.ra).full⟩ : S).m (⟨setP (wr ⟨m, full⟩ (pr m 2) m.ra).m 2 ((pr m 2 + 65535) % 65536), (wr ⟨m, full⟩ (pr m 2) m.ra).full⟩ : S).full := by
  obtain ⟨u, hu⟩ : ∃ u, u = w.alloc (.cells #[.int .i64 50, .bool false, .int .i64 imm] 77) := ⟨_, rfl⟩
  have hI : InS g u m full := by rw [hu]; exact h.below ((Below.refl _ _).alloc (Nat.le_refl _) _)
  have HI : Hid (InS g u m full) := hI
  have k0 : u.cell? ⟨w.heap.size, 0, none⟩ = some (.int .i64 50) := by rw [hu, World.cell?_alloc_new]; rfl
  have k2 : u.cell? ⟨w.heap.size, 2, none⟩ = some (.int .i64 imm) := by rw [hu, World.cell?_alloc_new]; rfl
  have HLX : Hid (w.heap.size < u.heap.size ∧ ¬ w.heap.size = g.X) := ⟨by rw [hu]; simp, by have := h.lt; omega⟩
  have bd := pr_bd hg 2
  have d1 : IntKind.i64.wrap (pr m 2 + 65535) = pr m 2 + 65535 := by rw [IntKind.wrap_i64]; omega
  have d2 : (pr m 2 + 65535).tmod 65536 = (pr m 2 + 65535) % 65536 := Int.tmod_eq_emod_of_nonneg (by omega)
  have c1 : Hid (∀ W, InS g W m full → Calls Tryz.prog 81 #[.pointer (some ⟨g.X, 0, none⟩), .int .i64 2, .bool false] W fun e w' => e = .returned (.int .i64 (pr m 2)) ∧ Below W.heap.size W w') := fun W hi => pairS g m full 2 W hi hg (by omega) (by omega)
  have c2 : Hid (∀ W, InS g W m full → Calls Tryz.prog 75 #[.pointer (some ⟨g.X, 0, none⟩), .int .i64 (pr m 2), .int .i64 m.ra] W fun e w' => e = .returned (.tuple #[]) ∧ InS g w' (wr ⟨m, full⟩ (pr m 2) m.ra).m (wr ⟨m, full⟩ (pr m 2) m.ra).full) := fun W hi => writeS g m full _ _ W hi hg.rt bd.1 hg.a.1 hg.a.2
  have g1 := wr_good (s := ⟨m, full⟩) hg (pr m 2) m.ra hg.a.1 hg.a.2
  generalize wr ⟨m, full⟩ (pr m 2) m.ra = t at *
  have c3 : Hid (∀ W, InS g W t.m t.full → Calls Tryz.prog 78 #[.pointer (some ⟨g.X, 0, none⟩), .int .i64 2, .int .i64 ((pr m 2 + 65535) % 65536), .bool false] W fun e w' => e = .returned (.tuple #[]) ∧ InS g w' (⟨setP t.m 2 ((pr m 2 + 65535) % 65536), t.full⟩ : S).m (⟨setP t.m 2 ((pr m 2 + 65535) % 65536), t.full⟩ : S).full) := fun W hi => setPairS g t.m t.full 2 _ W hi g1 (by omega) (by omega) (by omega) (by omega)
  generalize (⟨setP t.m 2 ((pr m 2 + 65535) % 65536), t.full⟩ : S) = t2 at *
  generalize (pr m 2 + 65535) % 65536 = vv at *
  generalize pr m 2 = x1 at *
  clear bd g1
  clear h hg hI i0 i1
  go_enter Tryz.func49, Tryz.ntmps49
  go_wp2_with fail
  rw [← hu]
  clear hu k0 k2
  refine Calls.mono (c1.out _ HI.out) ?_
  rintro e w1 ⟨rfl, hb1⟩
  have H1 : Hid (InS g w1 m full) := HI.out.below hb1
  clear hb1 HI c1
  have q0 := H1.out.cell 0 _ rfl
  go_wp2_with fail
  refine Calls.mono (c2.out _ H1.out) ?_
  rintro e w2 ⟨rfl, hi1⟩
  have H2 : Hid (InS g w2 t.m t.full) := hi1
  clear hi1 H1 c2
  clear q0
  go_wp2_with fail
  refine Calls.mono (c3.out _ (H2.out.below (by repeat (with_reducible first | exact Below.refl _ _ | refine CartL.grow ?_ _ | refine below_drewN ?_ _ | refine Below.drew ?_)))) ?_
  rintro e w3 ⟨rfl, hi1⟩
  have H3 : Hid (InS g w3 t2.m t2.full) := hi1
  clear hi1 H2 c3
  go_wp2
  go_ret
  exact ⟨rfl, H3.out⟩
set_option maxHeartbeats 1000000 in
theorem low_58 (g : SG) (m : M) (full : Bool) (imm : Int) (i0 : 0 ≤ imm) (i1 : imm ≤ 65535) (w : World) (h : InS g w m full) (hg : Stpq.Good m) :
    Calls Tryz.prog 49 #[.pointer (some ⟨g.X, 0, none⟩), .agg #[.int .i64 58, .bool false, .int .i64 imm]] w fun e w' => e = .returned (.bool false) ∧ InS g w' (⟨setP { m with ra := rd m (pr m 2) } 2 ((pr m 2 + 65535) % 65536), full⟩ : S).m (⟨setP { m with ra := rd m (pr m 2) } 2 ((pr m 2 + 65535) % 65536), full⟩ : S).full := by
  obtain ⟨u, hu⟩ : ∃ u, u = w.alloc (.cells #[.int .i64 58, .bool false, .int .i64 imm] 77) := ⟨_, rfl⟩
  have hI : InS g u m full := by rw [hu]; exact h.below ((Below.refl _ _).alloc (Nat.le_refl _) _)
  have HI : Hid (InS g u m full) := hI
  have k0 : u.cell? ⟨w.heap.size, 0, none⟩ = some (.int .i64 58) := by rw [hu, World.cell?_alloc_new]; rfl
  have k2 : u.cell? ⟨w.heap.size, 2, none⟩ = some (.int .i64 imm) := by rw [hu, World.cell?_alloc_new]; rfl
  have HLX : Hid (w.heap.size < u.heap.size ∧ ¬ w.heap.size = g.X) := ⟨by rw [hu]; simp, by have := h.lt; omega⟩
  have bd := pr_bd hg 2
  have d1 : IntKind.i64.wrap (pr m 2 + 65535) = pr m 2 + 65535 := by rw [IntKind.wrap_i64]; omega
  have d2 : (pr m 2 + 65535).tmod 65536 = (pr m 2 + 65535) % 65536 := Int.tmod_eq_emod_of_nonneg (by omega)
  have c1 : Hid (∀ W, InS g W m full → Calls Tryz.prog 81 #[.pointer (some ⟨g.X, 0, none⟩), .int .i64 2, .bool false] W fun e w' => e = .returned (.int .i64 (pr m 2)) ∧ Below W.heap.size W w') := fun W hi => pairS g m full 2 W hi hg (by omega) (by omega)
  have CR : Hid (∀ po cap W, Calls Tryz.prog 70 #[.agg (cellsM m po cap), .int .i64 (pr m 2)] W fun e w' => e = .returned (.int .i64 (rd m (pr m 2))) ∧ Below W.heap.size W w') := fun po cap W => l6Read_M m po cap _ W hg.rt bd.1
  have rb := rd_bd m (pr m 2)
  generalize rd m (pr m 2) = rv at *
  have g1 := good_a hg rv rb.1 rb.2
  have c3 : Hid (∀ W, InS g W { m with ra := rv } full → Calls Tryz.prog 78 #[.pointer (some ⟨g.X, 0, none⟩), .int .i64 2, .int .i64 ((pr m 2 + 65535) % 65536), .bool false] W fun e w' => e = .returned (.tuple #[]) ∧ InS g w' (⟨setP { m with ra := rv } 2 ((pr m 2 + 65535) % 65536), full⟩ : S).m (⟨setP { m with ra := rv } 2 ((pr m 2 + 65535) % 65536), full⟩ : S).full) := fun W hi => setPairS g { m with ra := rv } full 2 _ W hi g1 (by omega) (by omega) (by omega) (by omega)
  generalize (⟨setP { m with ra := rv } 2 ((pr m 2 + 65535) % 65536), full⟩ : S) = t2 at *
  generalize (pr m 2 + 65535) % 65536 = vv at *
  clear g1
  generalize pr m 2 = x1 at *
  clear bd rb
  clear h hg hI i0 i1
  go_enter Tryz.func49, Tryz.ntmps49
  go_wp2_with fail
  rw [← hu]
  clear hu k0 k2
  refine Calls.mono (c1.out _ HI.out) ?_
  rintro e w1 ⟨rfl, hb1⟩
  have H1 : Hid (InS g w1 m full) := HI.out.below hb1
  clear hb1 HI c1
  obtain ⟨po, cap, hA⟩ := H1.out
  have hl := hA.load (W' := w1) rfl
  have CR2 := fun W => CR.out po cap W
  generalize cellsM m po cap = cM at *
  clear hA CR
  go_upto_region 21 with fail
  refine wp_region_list ?_
  refine wpList_plain rfl (fun K hK => ?_)
  go_simp
  refine hK _ _ ?_
  clear hK
  refine wpList_plain rfl (fun K hK => ?_)
  go_simp
  refine hK _ _ ?_
  clear hK
  refine wpList_plain rfl (fun K hK => ?_)
  go_simp
  refine hK _ _ ?_
  clear hK
  refine wpList_plain rfl (fun K hK => ?_)
  go_simp
  refine hK _ _ ?_
  clear hK
  refine wpList_load_any rfl 33 _ rfl ⟨g.X, 0, none⟩ rfl _ hl ?_
  go_wp2_with fail
  refine Calls.mono (CR2 _) ?_
  rintro e w2 ⟨rfl, hb2⟩
  have H2 : Hid (InS g w2 m full) := H1.out.below hb2
  clear hb2 H1 CR2 hl
  have q_ra := H2.out.cell 0 _ rfl
  have f_ra := H2.out.fro 0
  have HF : Hid (InS g (w2.setCell ⟨g.X, 0, none⟩ (.int .i64 rv)) { m with ra := rv } full) := H2.out.s_ra rv
  clear H2
  go_wp2_with fail
  refine Calls.mono (c3.out _ (HF.out.below (by repeat (with_reducible first | exact Below.refl _ _ | refine CartL.grow ?_ _ | refine below_drewN ?_ _ | refine Below.drew ?_)))) ?_
  rintro e w3 ⟨rfl, hi1⟩
  have H3 : Hid (InS g w3 t2.m t2.full) := hi1
  clear hi1 HF c3
  go_wp2
  go_ret
  exact ⟨rfl, H3.out⟩
end Go.Proofs.YtkfehdkjeodbmaaGreatDoor.Stcp
