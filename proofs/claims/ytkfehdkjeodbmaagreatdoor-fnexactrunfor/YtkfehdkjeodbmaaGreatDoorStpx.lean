/-
  Contracts of ours for impl's places that step, and what is stored and loaded there.
-/
import Derived.Test.YtkfehdkjeodbmaaGreatDoorStpu
import Derived.Lib.QuietBelow
import Derived.BigQuiet
namespace Go.Proofs.YtkfehdkjeodbmaaGreatDoor.Stpx
open Go.ChangeShapes Go.WideShapes Go.ChangeAt Go.RowKit Go.Deep
set_option linter.unusedVariables false
set_option linter.unusedSimpArgs false
set_option maxRecDepth 20000
open Signed (inB sgn ret_int ret_bool)
open Busw Busx Stpp Stpq Stpi Stpj Stpr Stpk Stpm Stpn Stpu
theorem ixs_0 (w : World) : (Instr.index 166 (.agg #[.int .i64 0, .int .i64 0, .int .i64 1, .int .i64 (-1)]) (.int .i64 0)).run Tryz.prog w = .ok (.int .i64 (0)) w := by kernel_rfl
set_option maxHeartbeats 1000000 in
theorem step_0 (g : G) (m : M) (full : Bool) (w : World) (h : In g w m full) (hg : Stpq.Good m) (hk : g.p = 0) :
    Calls Tryz.prog 131 #[.pointer (some ⟨g.K, 0, none⟩)] w fun e w' => e = .returned (.int .i64 (pr m 0)) ∧ In g w' (setP m 0 ((pr m 0 + 0) % 65536)) full := by
  have hi := ixs_0
  have c1 : Hid (∀ W, In g W m full → Calls Tryz.prog 123 #[.pointer (some ⟨g.K, 0, none⟩), .int .i64 0] W fun e w' => e = .returned (.agg #[.pointer (some ⟨g.B, 2, none⟩), .pointer (some ⟨g.B, 3, none⟩)]) ∧ Below W.heap.size W w') := fun W hi => pairOf_0 g W hi.k_cpu
  have c2 : Hid (∀ W, In g W m full → Calls Tryz.prog 127 #[.agg #[.pointer (some ⟨g.B, 2, none⟩), .pointer (some ⟨g.B, 3, none⟩)]] W fun e w' => e = .returned (.int .i64 (pr m 0)) ∧ Below W.heap.size W w') := fun W hi => word_any g m full 0 W hi hg (by omega) (by omega)
  have bd := pr_bd hg 0
  have c3 : Hid (∀ W, In g W m full → Calls Tryz.prog 124 #[.agg #[.pointer (some ⟨g.B, 2, none⟩), .pointer (some ⟨g.B, 3, none⟩)], .int .i64 (pr m 0)] W fun e w' => e = .returned (.tuple #[]) ∧ In g w' (setP m 0 ((pr m 0 + 0) % 65536)) full) := fun W hi => by have h := pput_any g m full 0 (pr m 0) W hi (by omega) (by omega); rw [show pr m 0 + 0 = pr m 0 by omega]; exact h
  generalize setP m 0 ((pr m 0 + 0) % 65536) = t at *
  generalize pr m 0 = v at *
  have d1 : IntKind.i64.wrap (v) = v := by rw [IntKind.wrap_i64]; omega
  have q_p := h.k_p
  rw [hk] at q_p
  have HI : Hid (In g w m full) := h
  clear h hg bd
  go_enter Tryz.func131, Tryz.ntmps131
  go_wp2_with fail
  refine Calls.mono (c1.out _ HI.out) ?_
  rintro e w1 ⟨rfl, hb1⟩
  have H1 : Hid (In g w1 m full) := HI.out.below hb1
  clear hb1 HI c1
  go_wp2_with fail
  have hA : Below w1.heap.size w1 (w1.alloc (.cells #[.pointer (some ⟨g.B, 2, none⟩), .pointer (some ⟨g.B, 3, none⟩)] 149)) := (Below.refl _ _).alloc (Nat.le_refl _) _
  refine Calls.mono (c2.out _ (H1.out.below hA)) ?_
  rintro e w2 ⟨rfl, hb2⟩
  have hx2 : w2.heap[w1.heap.size]? = some (.cells #[.pointer (some ⟨g.B, 2, none⟩), .pointer (some ⟨g.B, 3, none⟩)] 149) := (hb2.block _ (by simp)).trans (heap_alloc_new w1 _)
  have H2 : Hid (In g w2 m full) := (H1.out.below hA).below hb2
  obtain ⟨bx, hbx⟩ : ∃ b, b = w1.heap.size := ⟨_, rfl⟩
  rw [← hbx] at hx2 ⊢
  clear hbx hA hb2 H1 c2 q_p
  have r0 := cell_regrown ((cell_of_row w2 bx 0 _ _ _ hx2).trans rfl)
  have r1 := cell_regrown ((cell_of_row w2 bx 1 _ _ _ hx2).trans rfl)
  have r2 := cell_regrown (H2.out.k_p)
  rw [hk] at r2
  clear hx2
  go_wp2_with fail
  refine Qtail.tail_below 10 (by kernel_rfl) (by kernel_rfl) ?_
  simp only [List.take_succ_cons, List.take_zero, List.drop_succ_cons, List.drop_zero]
  repeat (go_big_quiet_step (first | fail))
  refine wpQuiet_nil ?_
  intro _ hw'
  obtain ⟨⟨dq, osq⟩, hw''⟩ := hw'
  subst hw''
  have H3 : Hid (In g (Go.Sort.grow (redrawn w2 dq) osq) m full) := H2.out.below (below_regrown w2 dq osq)
  generalize Go.Sort.grow (redrawn w2 dq) osq = W3 at *
  clear H2 r0 r1 r2
  go_wp2_with fail
  refine Calls.mono (c3.out _ H3.out) ?_
  rintro e w4 ⟨rfl, hi1⟩
  have H4 : Hid (In g w4 t full) := hi1
  clear hi1 H3 c3
  go_wp2
  go_ret
  exact ⟨rfl, H4.out⟩
theorem ixs_1 (w : World) : (Instr.index 166 (.agg #[.int .i64 0, .int .i64 0, .int .i64 1, .int .i64 (-1)]) (.int .i64 1)).run Tryz.prog w = .ok (.int .i64 (0)) w := by kernel_rfl
set_option maxHeartbeats 1000000 in
theorem step_1 (g : G) (m : M) (full : Bool) (w : World) (h : In g w m full) (hg : Stpq.Good m) (hk : g.p = 1) :
    Calls Tryz.prog 131 #[.pointer (some ⟨g.K, 0, none⟩)] w fun e w' => e = .returned (.int .i64 (pr m 1)) ∧ In g w' (setP m 1 ((pr m 1 + 0) % 65536)) full := by
  have hi := ixs_1
  have c1 : Hid (∀ W, In g W m full → Calls Tryz.prog 123 #[.pointer (some ⟨g.K, 0, none⟩), .int .i64 1] W fun e w' => e = .returned (.agg #[.pointer (some ⟨g.B, 4, none⟩), .pointer (some ⟨g.B, 5, none⟩)]) ∧ Below W.heap.size W w') := fun W hi => pairOf_1 g W hi.k_cpu
  have c2 : Hid (∀ W, In g W m full → Calls Tryz.prog 127 #[.agg #[.pointer (some ⟨g.B, 4, none⟩), .pointer (some ⟨g.B, 5, none⟩)]] W fun e w' => e = .returned (.int .i64 (pr m 1)) ∧ Below W.heap.size W w') := fun W hi => word_any g m full 1 W hi hg (by omega) (by omega)
  have bd := pr_bd hg 1
  have c3 : Hid (∀ W, In g W m full → Calls Tryz.prog 124 #[.agg #[.pointer (some ⟨g.B, 4, none⟩), .pointer (some ⟨g.B, 5, none⟩)], .int .i64 (pr m 1)] W fun e w' => e = .returned (.tuple #[]) ∧ In g w' (setP m 1 ((pr m 1 + 0) % 65536)) full) := fun W hi => by have h := pput_any g m full 1 (pr m 1) W hi (by omega) (by omega); rw [show pr m 1 + 0 = pr m 1 by omega]; exact h
  generalize setP m 1 ((pr m 1 + 0) % 65536) = t at *
  generalize pr m 1 = v at *
  have d1 : IntKind.i64.wrap (v) = v := by rw [IntKind.wrap_i64]; omega
  have q_p := h.k_p
  rw [hk] at q_p
  have HI : Hid (In g w m full) := h
  clear h hg bd
  go_enter Tryz.func131, Tryz.ntmps131
  go_wp2_with fail
  refine Calls.mono (c1.out _ HI.out) ?_
  rintro e w1 ⟨rfl, hb1⟩
  have H1 : Hid (In g w1 m full) := HI.out.below hb1
  clear hb1 HI c1
  go_wp2_with fail
  have hA : Below w1.heap.size w1 (w1.alloc (.cells #[.pointer (some ⟨g.B, 4, none⟩), .pointer (some ⟨g.B, 5, none⟩)] 149)) := (Below.refl _ _).alloc (Nat.le_refl _) _
  refine Calls.mono (c2.out _ (H1.out.below hA)) ?_
  rintro e w2 ⟨rfl, hb2⟩
  have hx2 : w2.heap[w1.heap.size]? = some (.cells #[.pointer (some ⟨g.B, 4, none⟩), .pointer (some ⟨g.B, 5, none⟩)] 149) := (hb2.block _ (by simp)).trans (heap_alloc_new w1 _)
  have H2 : Hid (In g w2 m full) := (H1.out.below hA).below hb2
  obtain ⟨bx, hbx⟩ : ∃ b, b = w1.heap.size := ⟨_, rfl⟩
  rw [← hbx] at hx2 ⊢
  clear hbx hA hb2 H1 c2 q_p
  have r0 := cell_regrown ((cell_of_row w2 bx 0 _ _ _ hx2).trans rfl)
  have r1 := cell_regrown ((cell_of_row w2 bx 1 _ _ _ hx2).trans rfl)
  have r2 := cell_regrown (H2.out.k_p)
  rw [hk] at r2
  clear hx2
  go_wp2_with fail
  refine Qtail.tail_below 10 (by kernel_rfl) (by kernel_rfl) ?_
  simp only [List.take_succ_cons, List.take_zero, List.drop_succ_cons, List.drop_zero]
  repeat (go_big_quiet_step (first | fail))
  refine wpQuiet_nil ?_
  intro _ hw'
  obtain ⟨⟨dq, osq⟩, hw''⟩ := hw'
  subst hw''
  have H3 : Hid (In g (Go.Sort.grow (redrawn w2 dq) osq) m full) := H2.out.below (below_regrown w2 dq osq)
  generalize Go.Sort.grow (redrawn w2 dq) osq = W3 at *
  clear H2 r0 r1 r2
  go_wp2_with fail
  refine Calls.mono (c3.out _ H3.out) ?_
  rintro e w4 ⟨rfl, hi1⟩
  have H4 : Hid (In g w4 t full) := hi1
  clear hi1 H3 c3
  go_wp2
  go_ret
  exact ⟨rfl, H4.out⟩
theorem ixs_2 (w : World) : (Instr.index 166 (.agg #[.int .i64 0, .int .i64 0, .int .i64 1, .int .i64 (-1)]) (.int .i64 2)).run Tryz.prog w = .ok (.int .i64 (1)) w := by kernel_rfl
set_option maxHeartbeats 1000000 in
theorem step_2 (g : G) (m : M) (full : Bool) (w : World) (h : In g w m full) (hg : Stpq.Good m) (hk : g.p = 2) :
    Calls Tryz.prog 131 #[.pointer (some ⟨g.K, 0, none⟩)] w fun e w' => e = .returned (.int .i64 (pr m 2)) ∧ In g w' (setP m 2 ((pr m 2 + 1) % 65536)) full := by
  have hi := ixs_2
  have c1 : Hid (∀ W, In g W m full → Calls Tryz.prog 123 #[.pointer (some ⟨g.K, 0, none⟩), .int .i64 2] W fun e w' => e = .returned (.agg #[.pointer (some ⟨g.B, 6, none⟩), .pointer (some ⟨g.B, 7, none⟩)]) ∧ Below W.heap.size W w') := fun W hi => pairOf_2 g W hi.k_cpu
  have c2 : Hid (∀ W, In g W m full → Calls Tryz.prog 127 #[.agg #[.pointer (some ⟨g.B, 6, none⟩), .pointer (some ⟨g.B, 7, none⟩)]] W fun e w' => e = .returned (.int .i64 (pr m 2)) ∧ Below W.heap.size W w') := fun W hi => word_any g m full 2 W hi hg (by omega) (by omega)
  have bd := pr_bd hg 2
  have c3 : Hid (∀ W, In g W m full → Calls Tryz.prog 124 #[.agg #[.pointer (some ⟨g.B, 6, none⟩), .pointer (some ⟨g.B, 7, none⟩)], .int .i64 (pr m 2 + 1)] W fun e w' => e = .returned (.tuple #[]) ∧ In g w' (setP m 2 ((pr m 2 + 1) % 65536)) full) := fun W hi => pput_any g m full 2 _ W hi (by omega) (by omega)
  generalize setP m 2 ((pr m 2 + 1) % 65536) = t at *
  generalize pr m 2 = v at *
  have d1 : IntKind.i64.wrap (v + 1) = v + 1 := by rw [IntKind.wrap_i64]; omega
  have q_p := h.k_p
  rw [hk] at q_p
  have HI : Hid (In g w m full) := h
  clear h hg bd
  go_enter Tryz.func131, Tryz.ntmps131
  go_wp2_with fail
  refine Calls.mono (c1.out _ HI.out) ?_
  rintro e w1 ⟨rfl, hb1⟩
  have H1 : Hid (In g w1 m full) := HI.out.below hb1
  clear hb1 HI c1
  go_wp2_with fail
  have hA : Below w1.heap.size w1 (w1.alloc (.cells #[.pointer (some ⟨g.B, 6, none⟩), .pointer (some ⟨g.B, 7, none⟩)] 149)) := (Below.refl _ _).alloc (Nat.le_refl _) _
  refine Calls.mono (c2.out _ (H1.out.below hA)) ?_
  rintro e w2 ⟨rfl, hb2⟩
  have hx2 : w2.heap[w1.heap.size]? = some (.cells #[.pointer (some ⟨g.B, 6, none⟩), .pointer (some ⟨g.B, 7, none⟩)] 149) := (hb2.block _ (by simp)).trans (heap_alloc_new w1 _)
  have H2 : Hid (In g w2 m full) := (H1.out.below hA).below hb2
  obtain ⟨bx, hbx⟩ : ∃ b, b = w1.heap.size := ⟨_, rfl⟩
  rw [← hbx] at hx2 ⊢
  clear hbx hA hb2 H1 c2 q_p
  have r0 := cell_regrown ((cell_of_row w2 bx 0 _ _ _ hx2).trans rfl)
  have r1 := cell_regrown ((cell_of_row w2 bx 1 _ _ _ hx2).trans rfl)
  have r2 := cell_regrown (H2.out.k_p)
  rw [hk] at r2
  clear hx2
  go_wp2_with fail
  refine Qtail.tail_below 10 (by kernel_rfl) (by kernel_rfl) ?_
  simp only [List.take_succ_cons, List.take_zero, List.drop_succ_cons, List.drop_zero]
  repeat (go_big_quiet_step (first | fail))
  refine wpQuiet_nil ?_
  intro _ hw'
  obtain ⟨⟨dq, osq⟩, hw''⟩ := hw'
  subst hw''
  have H3 : Hid (In g (Go.Sort.grow (redrawn w2 dq) osq) m full) := H2.out.below (below_regrown w2 dq osq)
  generalize Go.Sort.grow (redrawn w2 dq) osq = W3 at *
  clear H2 r0 r1 r2
  go_wp2_with fail
  refine Calls.mono (c3.out _ H3.out) ?_
  rintro e w4 ⟨rfl, hi1⟩
  have H4 : Hid (In g w4 t full) := hi1
  clear hi1 H3 c3
  go_wp2
  go_ret
  exact ⟨rfl, H4.out⟩
theorem ixs_3 (w : World) : (Instr.index 166 (.agg #[.int .i64 0, .int .i64 0, .int .i64 1, .int .i64 (-1)]) (.int .i64 3)).run Tryz.prog w = .ok (.int .i64 (-1)) w := by kernel_rfl
set_option maxHeartbeats 1000000 in
theorem step_3 (g : G) (m : M) (full : Bool) (w : World) (h : In g w m full) (hg : Stpq.Good m) (hk : g.p = 3) :
    Calls Tryz.prog 131 #[.pointer (some ⟨g.K, 0, none⟩)] w fun e w' => e = .returned (.int .i64 (pr m 2)) ∧ In g w' (setP m 2 ((pr m 2 + -1) % 65536)) full := by
  have hi := ixs_3
  have c1 : Hid (∀ W, In g W m full → Calls Tryz.prog 123 #[.pointer (some ⟨g.K, 0, none⟩), .int .i64 2] W fun e w' => e = .returned (.agg #[.pointer (some ⟨g.B, 6, none⟩), .pointer (some ⟨g.B, 7, none⟩)]) ∧ Below W.heap.size W w') := fun W hi => pairOf_2 g W hi.k_cpu
  have c2 : Hid (∀ W, In g W m full → Calls Tryz.prog 127 #[.agg #[.pointer (some ⟨g.B, 6, none⟩), .pointer (some ⟨g.B, 7, none⟩)]] W fun e w' => e = .returned (.int .i64 (pr m 2)) ∧ Below W.heap.size W w') := fun W hi => word_any g m full 2 W hi hg (by omega) (by omega)
  have bd := pr_bd hg 2
  have c3 : Hid (∀ W, In g W m full → Calls Tryz.prog 124 #[.agg #[.pointer (some ⟨g.B, 6, none⟩), .pointer (some ⟨g.B, 7, none⟩)], .int .i64 (pr m 2 + -1)] W fun e w' => e = .returned (.tuple #[]) ∧ In g w' (setP m 2 ((pr m 2 + -1) % 65536)) full) := fun W hi => pput_any g m full 2 _ W hi (by omega) (by omega)
  generalize setP m 2 ((pr m 2 + -1) % 65536) = t at *
  generalize pr m 2 = v at *
  have d1 : IntKind.i64.wrap (v + -1) = v + -1 := by rw [IntKind.wrap_i64]; omega
  have q_p := h.k_p
  rw [hk] at q_p
  have HI : Hid (In g w m full) := h
  clear h hg bd
  go_enter Tryz.func131, Tryz.ntmps131
  go_wp2_with fail
  refine Calls.mono (c1.out _ HI.out) ?_
  rintro e w1 ⟨rfl, hb1⟩
  have H1 : Hid (In g w1 m full) := HI.out.below hb1
  clear hb1 HI c1
  go_wp2_with fail
  have hA : Below w1.heap.size w1 (w1.alloc (.cells #[.pointer (some ⟨g.B, 6, none⟩), .pointer (some ⟨g.B, 7, none⟩)] 149)) := (Below.refl _ _).alloc (Nat.le_refl _) _
  refine Calls.mono (c2.out _ (H1.out.below hA)) ?_
  rintro e w2 ⟨rfl, hb2⟩
  have hx2 : w2.heap[w1.heap.size]? = some (.cells #[.pointer (some ⟨g.B, 6, none⟩), .pointer (some ⟨g.B, 7, none⟩)] 149) := (hb2.block _ (by simp)).trans (heap_alloc_new w1 _)
  have H2 : Hid (In g w2 m full) := (H1.out.below hA).below hb2
  obtain ⟨bx, hbx⟩ : ∃ b, b = w1.heap.size := ⟨_, rfl⟩
  rw [← hbx] at hx2 ⊢
  clear hbx hA hb2 H1 c2 q_p
  have r0 := cell_regrown ((cell_of_row w2 bx 0 _ _ _ hx2).trans rfl)
  have r1 := cell_regrown ((cell_of_row w2 bx 1 _ _ _ hx2).trans rfl)
  have r2 := cell_regrown (H2.out.k_p)
  rw [hk] at r2
  clear hx2
  go_wp2_with fail
  refine Qtail.tail_below 10 (by kernel_rfl) (by kernel_rfl) ?_
  simp only [List.take_succ_cons, List.take_zero, List.drop_succ_cons, List.drop_zero]
  repeat (go_big_quiet_step (first | fail))
  refine wpQuiet_nil ?_
  intro _ hw'
  obtain ⟨⟨dq, osq⟩, hw''⟩ := hw'
  subst hw''
  have H3 : Hid (In g (Go.Sort.grow (redrawn w2 dq) osq) m full) := H2.out.below (below_regrown w2 dq osq)
  generalize Go.Sort.grow (redrawn w2 dq) osq = W3 at *
  clear H2 r0 r1 r2
  go_wp2_with fail
  refine Calls.mono (c3.out _ H3.out) ?_
  rintro e w4 ⟨rfl, hi1⟩
  have H4 : Hid (In g w4 t full) := hi1
  clear hi1 H3 c3
  go_wp2
  go_ret
  exact ⟨rfl, H4.out⟩
end Go.Proofs.YtkfehdkjeodbmaaGreatDoor.Stpx
