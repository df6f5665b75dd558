/-
  Contracts of ours for impl's registers and pairs of them.
-/
import Derived.Test.YtkfehdkjeodbmaaGreatDoorStpr
import Derived.Lib.QuietBelow
import Derived.BigQuiet
import Derived.Laws.Pointers
namespace Go.Proofs.YtkfehdkjeodbmaaGreatDoor.Stpk
open Go.ChangeShapes Go.WideShapes Go.ChangeAt Go.RowKit Go.Deep
set_option linter.unusedVariables false
set_option linter.unusedSimpArgs false
set_option maxRecDepth 20000
open Signed (inB sgn ret_int ret_bool)
open Busw Busx Stpp Stpi Stpj Stpr
set_option maxHeartbeats 1000000 in
theorem word_two (p q : Addr) (a b : Int) (w : World) (c1 : w.cell? p = some (.int .i64 a)) (c2 : w.cell? q = some (.int .i64 b)) (a0 : 0 ≤ a) (a1 : a ≤ 255) (b0 : 0 ≤ b) (b1 : b ≤ 255) :
    Calls Tryz.prog 127 #[.agg #[.pointer (some p), .pointer (some q)]] w fun e w' => e = .returned (.int .i64 (256 * a + b)) ∧ Below w.heap.size w w' := by
  have l1 := World.block_lt_of_cell? w p c1
  have l2 := World.block_lt_of_cell? w q c2
  go_enter Tryz.func127, Tryz.ntmps127
  go_wp2_with fail
  go_quiet (fail)
  go_wp2
  go_ret
  exact ⟨ret_int (by omega), by repeat (with_reducible first | exact Below.refl _ _ | refine CartL.grow ?_ _ | refine below_drewN ?_ _ | refine Below.drew ?_)⟩
set_option maxHeartbeats 1000000 in
theorem word_one (q : Addr) (b : Int) (w : World) (c2 : w.cell? q = some (.int .i64 b)) :
    Calls Tryz.prog 127 #[.agg #[.pointer none, .pointer (some q)]] w fun e w' => e = .returned (.int .i64 b) ∧ Below w.heap.size w w' := by
  have l2 := World.block_lt_of_cell? w q c2
  go_enter Tryz.func127, Tryz.ntmps127
  go_wp2
  go_ret
  exact ⟨rfl, by repeat (with_reducible first | exact Below.refl _ _ | refine CartL.grow ?_ _ | refine below_drewN ?_ _ | refine Below.drew ?_)⟩
set_option maxHeartbeats 1000000 in
theorem pput_bc (g : G) (m : M) (full : Bool) (v : Int) (w : World) (h : In g w m full) :
    Calls Tryz.prog 124 #[.agg #[.pointer (some ⟨g.B, 2, none⟩), .pointer (some ⟨g.B, 3, none⟩)], .int .i64 v] w fun e w' => e = .returned (.tuple #[]) ∧ In g w' { m with rB := v % 65536 / 256, rC := v % 65536 % 256 } full := by
  have c1 := fun w => wrapped_any v w
  obtain ⟨q, hq⟩ : ∃ q, q = v % 65536 := ⟨_, rfl⟩
  have hq2 := word_bd v
  rw [← hq] at c1 hq2 ⊢
  obtain ⟨q0, q1⟩ := hq2
  have e1 := h.cell 2 _ rfl
  have e2 := h.cell 3 _ rfl
  have f1 := h.fro 2
  have f2 := h.fro 3
  have l1 := h.ltB
  have t1 : q.tdiv 256 = q / 256 := Int.tdiv_eq_ediv_of_nonneg q0
  have t2 : q.tmod 256 = q % 256 := Int.tmod_eq_emod_of_nonneg q0
  have t3 : IntKind.i64.wrap (q / 256) = q / 256 := by rw [IntKind.wrap_i64]; omega
  have HE : Hid (∀ o, In g ((((w.setCell ⟨g.B, 2, none⟩ (.int .i64 (q / 256))).setCell ⟨g.B, 3, none⟩ (.int .i64 (q % 256))).alloc o).drew) { m with rB := q / 256, rC := q % 256 } full) := fun o => (((h.s_rB _).s_rC _).below ((Below.refl _ _).alloc (Nat.le_refl _) o).drew)
  clear h hq
  go_enter Tryz.func124, Tryz.ntmps124
  go_wp2_with (go_at_call 61; refine (c1 _).mono ?_; rintro e w' ⟨rfl, hw'⟩; have hw' := hw'.symm; subst hw')
  go_region_with (fail)
  all_goals go_wp2
  all_goals go_end0
  all_goals exact ⟨rfl, HE.out _⟩
set_option maxHeartbeats 1000000 in
theorem pput_de (g : G) (m : M) (full : Bool) (v : Int) (w : World) (h : In g w m full) :
    Calls Tryz.prog 124 #[.agg #[.pointer (some ⟨g.B, 4, none⟩), .pointer (some ⟨g.B, 5, none⟩)], .int .i64 v] w fun e w' => e = .returned (.tuple #[]) ∧ In g w' { m with rD := v % 65536 / 256, rE := v % 65536 % 256 } full := by
  have c1 := fun w => wrapped_any v w
  obtain ⟨q, hq⟩ : ∃ q, q = v % 65536 := ⟨_, rfl⟩
  have hq2 := word_bd v
  rw [← hq] at c1 hq2 ⊢
  obtain ⟨q0, q1⟩ := hq2
  have e1 := h.cell 4 _ rfl
  have e2 := h.cell 5 _ rfl
  have f1 := h.fro 4
  have f2 := h.fro 5
  have l1 := h.ltB
  have t1 : q.tdiv 256 = q / 256 := Int.tdiv_eq_ediv_of_nonneg q0
  have t2 : q.tmod 256 = q % 256 := Int.tmod_eq_emod_of_nonneg q0
  have t3 : IntKind.i64.wrap (q / 256) = q / 256 := by rw [IntKind.wrap_i64]; omega
  have HE : Hid (∀ o, In g ((((w.setCell ⟨g.B, 4, none⟩ (.int .i64 (q / 256))).setCell ⟨g.B, 5, none⟩ (.int .i64 (q % 256))).alloc o).drew) { m with rD := q / 256, rE := q % 256 } full) := fun o => (((h.s_rD _).s_rE _).below ((Below.refl _ _).alloc (Nat.le_refl _) o).drew)
  clear h hq
  go_enter Tryz.func124, Tryz.ntmps124
  go_wp2_with (go_at_call 61; refine (c1 _).mono ?_; rintro e w' ⟨rfl, hw'⟩; have hw' := hw'.symm; subst hw')
  go_region_with (fail)
  all_goals go_wp2
  all_goals go_end0
  all_goals exact ⟨rfl, HE.out _⟩
set_option maxHeartbeats 1000000 in
theorem pput_hl (g : G) (m : M) (full : Bool) (v : Int) (w : World) (h : In g w m full) :
    Calls Tryz.prog 124 #[.agg #[.pointer (some ⟨g.B, 6, none⟩), .pointer (some ⟨g.B, 7, none⟩)], .int .i64 v] w fun e w' => e = .returned (.tuple #[]) ∧ In g w' { m with rH := v % 65536 / 256, rL := v % 65536 % 256 } full := by
  have c1 := fun w => wrapped_any v w
  obtain ⟨q, hq⟩ : ∃ q, q = v % 65536 := ⟨_, rfl⟩
  have hq2 := word_bd v
  rw [← hq] at c1 hq2 ⊢
  obtain ⟨q0, q1⟩ := hq2
  have e1 := h.cell 6 _ rfl
  have e2 := h.cell 7 _ rfl
  have f1 := h.fro 6
  have f2 := h.fro 7
  have l1 := h.ltB
  have t1 : q.tdiv 256 = q / 256 := Int.tdiv_eq_ediv_of_nonneg q0
  have t2 : q.tmod 256 = q % 256 := Int.tmod_eq_emod_of_nonneg q0
  have t3 : IntKind.i64.wrap (q / 256) = q / 256 := by rw [IntKind.wrap_i64]; omega
  have HE : Hid (∀ o, In g ((((w.setCell ⟨g.B, 6, none⟩ (.int .i64 (q / 256))).setCell ⟨g.B, 7, none⟩ (.int .i64 (q % 256))).alloc o).drew) { m with rH := q / 256, rL := q % 256 } full) := fun o => (((h.s_rH _).s_rL _).below ((Below.refl _ _).alloc (Nat.le_refl _) o).drew)
  clear h hq
  go_enter Tryz.func124, Tryz.ntmps124
  go_wp2_with (go_at_call 61; refine (c1 _).mono ?_; rintro e w' ⟨rfl, hw'⟩; have hw' := hw'.symm; subst hw')
  go_region_with (fail)
  all_goals go_wp2
  all_goals go_end0
  all_goals exact ⟨rfl, HE.out _⟩
set_option maxHeartbeats 1000000 in
theorem pput_af (g : G) (m : M) (full : Bool) (v : Int) (w : World) (h : In g w m full) :
    Calls Tryz.prog 124 #[.agg #[.pointer (some ⟨g.B, 0, none⟩), .pointer (some ⟨g.B, 1, none⟩)], .int .i64 v] w fun e w' => e = .returned (.tuple #[]) ∧ In g w' { m with ra := v % 65536 / 256, rf := v % 65536 % 256 } full := by
  have c1 := fun w => wrapped_any v w
  obtain ⟨q, hq⟩ : ∃ q, q = v % 65536 := ⟨_, rfl⟩
  have hq2 := word_bd v
  rw [← hq] at c1 hq2 ⊢
  obtain ⟨q0, q1⟩ := hq2
  have e1 := h.cell 0 _ rfl
  have e2 := h.cell 1 _ rfl
  have f1 := h.fro 0
  have f2 := h.fro 1
  have l1 := h.ltB
  have t1 : q.tdiv 256 = q / 256 := Int.tdiv_eq_ediv_of_nonneg q0
  have t2 : q.tmod 256 = q % 256 := Int.tmod_eq_emod_of_nonneg q0
  have t3 : IntKind.i64.wrap (q / 256) = q / 256 := by rw [IntKind.wrap_i64]; omega
  have HE : Hid (∀ o, In g ((((w.setCell ⟨g.B, 0, none⟩ (.int .i64 (q / 256))).setCell ⟨g.B, 1, none⟩ (.int .i64 (q % 256))).alloc o).drew) { m with ra := q / 256, rf := q % 256 } full) := fun o => (((h.s_ra _).s_rf _).below ((Below.refl _ _).alloc (Nat.le_refl _) o).drew)
  clear h hq
  go_enter Tryz.func124, Tryz.ntmps124
  go_wp2_with (go_at_call 61; refine (c1 _).mono ?_; rintro e w' ⟨rfl, hw'⟩; have hw' := hw'.symm; subst hw')
  go_region_with (fail)
  all_goals go_wp2
  all_goals go_end0
  all_goals exact ⟨rfl, HE.out _⟩
set_option maxHeartbeats 1000000 in
theorem pput_sp (g : G) (m : M) (full : Bool) (v : Int) (w : World) (h : In g w m full) :
    Calls Tryz.prog 124 #[.agg #[.pointer none, .pointer (some ⟨g.B, 8, none⟩)], .int .i64 v] w fun e w' => e = .returned (.tuple #[]) ∧ In g w' { m with sp := v % 65536 } full := by
  have c1 := fun w => wrapped_any v w
  obtain ⟨q, hq⟩ : ∃ q, q = v % 65536 := ⟨_, rfl⟩
  rw [← hq] at c1 ⊢
  have e1 := h.cell 8 _ rfl
  have f1 := h.fro 8
  have l1 := h.ltB
  have HE : Hid (∀ o, In g ((w.setCell ⟨g.B, 8, none⟩ (.int .i64 q)).alloc o) { m with sp := q } full) := fun o => (h.s_sp _).below ((Below.refl _ _).alloc (Nat.le_refl _) o)
  clear h hq
  go_enter Tryz.func124, Tryz.ntmps124
  go_wp2_with (go_at_call 61; refine (c1 _).mono ?_; rintro e w' ⟨rfl, hw'⟩; have hw' := hw'.symm; subst hw')
  refine bodyPost_ret (results_none rfl _ _ _) rfl ?_
  exact ⟨rfl, HE.out _⟩
set_option maxHeartbeats 1000000 in
theorem hl_any (g : G) (w : World) (k1 : w.cell? ⟨g.K, 1, none⟩ = some (.pointer (some ⟨g.B, 0, none⟩))) :
    Calls Tryz.prog 126 #[.pointer (some ⟨g.K, 0, none⟩)] w fun e w' => e = .returned (.agg #[.pointer (some ⟨g.B, 6, none⟩), .pointer (some ⟨g.B, 7, none⟩)]) ∧ Below w.heap.size w w' := by
  have l1 := World.block_lt_of_cell? w _ k1
  go_enter Tryz.func126, Tryz.ntmps126
  go_wp2_with fail
  go_region_with (fail)
  all_goals go_wp2
  all_goals refine bodyPost_ret (v := .agg #[.pointer (some ⟨g.B, 6, none⟩), .pointer (some ⟨g.B, 7, none⟩)]) (by simp [results, Tryz.results126, go_sem]) rfl ⟨rfl, by repeat (with_reducible first | exact Below.refl _ _ | refine CartL.grow ?_ _ | refine below_drewN ?_ _ | refine Below.drew ?_)⟩
end Go.Proofs.YtkfehdkjeodbmaaGreatDoor.Stpk
