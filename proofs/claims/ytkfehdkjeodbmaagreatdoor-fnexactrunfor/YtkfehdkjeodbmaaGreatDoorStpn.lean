/-
  Contracts of ours for impl's pairs of registers by number, and for its stack.
-/
import Derived.Test.YtkfehdkjeodbmaaGreatDoorStpm
namespace Go.Proofs.YtkfehdkjeodbmaaGreatDoor.Stpi
open Busw
theorem In.k_m {g : G} {W : World} {m : M} {full : Bool} (h : In g W m full) : W.cell? ⟨g.K, 0, none⟩ = some (.pointer (some ⟨g.B, 0, none⟩)) := h.kcell 0 _ rfl
theorem In.k_cpu {g : G} {W : World} {m : M} {full : Bool} (h : In g W m full) : W.cell? ⟨g.K, 1, none⟩ = some (.pointer (some ⟨g.B, 0, none⟩)) := h.kcell 1 _ rfl
theorem In.k_code {g : G} {W : World} {m : M} {full : Bool} (h : In g W m full) : W.cell? ⟨g.K, 2, none⟩ = some (.int .i64 g.code) := h.kcell 2 _ rfl
theorem In.k_cb {g : G} {W : World} {m : M} {full : Bool} (h : In g W m full) : W.cell? ⟨g.K, 3, none⟩ = some (.bool g.cb) := h.kcell 3 _ rfl
theorem In.k_imm {g : G} {W : World} {m : M} {full : Bool} (h : In g W m full) : W.cell? ⟨g.K, 4, none⟩ = some (.int .i64 g.imm) := h.kcell 4 _ rfl
theorem In.k_x {g : G} {W : World} {m : M} {full : Bool} (h : In g W m full) : W.cell? ⟨g.K, 5, none⟩ = some (.int .i64 g.x) := h.kcell 5 _ rfl
theorem In.k_y {g : G} {W : World} {m : M} {full : Bool} (h : In g W m full) : W.cell? ⟨g.K, 6, none⟩ = some (.int .i64 g.y) := h.kcell 6 _ rfl
theorem In.k_z {g : G} {W : World} {m : M} {full : Bool} (h : In g W m full) : W.cell? ⟨g.K, 7, none⟩ = some (.int .i64 g.z) := h.kcell 7 _ rfl
theorem In.k_p {g : G} {W : World} {m : M} {full : Bool} (h : In g W m full) : W.cell? ⟨g.K, 8, none⟩ = some (.int .i64 g.p) := h.kcell 8 _ rfl
theorem In.k_q {g : G} {W : World} {m : M} {full : Bool} (h : In g W m full) : W.cell? ⟨g.K, 9, none⟩ = some (.int .i64 g.q) := h.kcell 9 _ rfl
theorem In.k_full {g : G} {W : World} {m : M} {full : Bool} (h : In g W m full) : W.cell? ⟨g.K, 10, none⟩ = some (.bool full) := h.kcell 10 _ rfl
theorem In.c_ra {g : G} {W : World} {m : M} {full : Bool} (h : In g W m full) : W.cell? ⟨g.B, 0, none⟩ = some (.int .i64 m.ra) := h.cell 0 _ rfl
theorem In.c_rf {g : G} {W : World} {m : M} {full : Bool} (h : In g W m full) : W.cell? ⟨g.B, 1, none⟩ = some (.int .i64 m.rf) := h.cell 1 _ rfl
theorem In.c_rB {g : G} {W : World} {m : M} {full : Bool} (h : In g W m full) : W.cell? ⟨g.B, 2, none⟩ = some (.int .i64 m.rB) := h.cell 2 _ rfl
theorem In.c_rC {g : G} {W : World} {m : M} {full : Bool} (h : In g W m full) : W.cell? ⟨g.B, 3, none⟩ = some (.int .i64 m.rC) := h.cell 3 _ rfl
theorem In.c_rD {g : G} {W : World} {m : M} {full : Bool} (h : In g W m full) : W.cell? ⟨g.B, 4, none⟩ = some (.int .i64 m.rD) := h.cell 4 _ rfl
theorem In.c_rE {g : G} {W : World} {m : M} {full : Bool} (h : In g W m full) : W.cell? ⟨g.B, 5, none⟩ = some (.int .i64 m.rE) := h.cell 5 _ rfl
theorem In.c_rH {g : G} {W : World} {m : M} {full : Bool} (h : In g W m full) : W.cell? ⟨g.B, 6, none⟩ = some (.int .i64 m.rH) := h.cell 6 _ rfl
theorem In.c_rL {g : G} {W : World} {m : M} {full : Bool} (h : In g W m full) : W.cell? ⟨g.B, 7, none⟩ = some (.int .i64 m.rL) := h.cell 7 _ rfl
theorem In.c_sp {g : G} {W : World} {m : M} {full : Bool} (h : In g W m full) : W.cell? ⟨g.B, 8, none⟩ = some (.int .i64 m.sp) := h.cell 8 _ rfl
theorem In.c_pc {g : G} {W : World} {m : M} {full : Bool} (h : In g W m full) : W.cell? ⟨g.B, 9, none⟩ = some (.int .i64 m.pc) := h.cell 9 _ rfl
theorem In.c_ime {g : G} {W : World} {m : M} {full : Bool} (h : In g W m full) : W.cell? ⟨g.B, 10, none⟩ = some (.bool m.ime) := h.cell 10 _ rfl
theorem In.c_hal {g : G} {W : World} {m : M} {full : Bool} (h : In g W m full) : W.cell? ⟨g.B, 11, none⟩ = some (.bool m.hal) := h.cell 11 _ rfl
end Go.Proofs.YtkfehdkjeodbmaaGreatDoor.Stpi
namespace Go.Proofs.YtkfehdkjeodbmaaGreatDoor.Stpn
open Go.ChangeShapes Go.WideShapes Go.ChangeAt Go.RowKit Go.Deep
set_option linter.unusedVariables false
set_option linter.unusedSimpArgs false
set_option maxRecDepth 20000
open Signed (inB sgn ret_int ret_bool)
open Busw Busx Stpp Stpq Stpi Stpj Stpr Stpk Stpm
theorem cases4 {n : Int} (n0 : 0 ≤ n) (n1 : n ≤ 3) : n = 0 ∨ n = 1 ∨ n = 2 ∨ n = 3 := by omega
theorem pairOf_any (g : G) (m : M) (full : Bool) (n : Int) (w : World) (h : In g w m full) (n0 : 0 ≤ n) (n1 : n ≤ 3) :
    Calls Tryz.prog 123 #[.pointer (some ⟨g.K, 0, none⟩), .int .i64 n] w fun e w' => e = .returned (pv g n) ∧ Below w.heap.size w w' := by
  have k1 := h.k_cpu
  rcases cases4 n0 n1 with rfl | rfl | rfl | rfl
  · exact pairOf_0 g w k1
  · exact pairOf_1 g w k1
  · exact pairOf_2 g w k1
  · exact pairOf_3 g w k1
theorem word_any (g : G) (m : M) (full : Bool) (n : Int) (w : World) (h : In g w m full) (hg : Stpq.Good m) (n0 : 0 ≤ n) (n1 : n ≤ 3) :
    Calls Tryz.prog 127 #[pv g n] w fun e w' => e = .returned (.int .i64 (pr m n)) ∧ Below w.heap.size w w' := by
  rcases cases4 n0 n1 with rfl | rfl | rfl | rfl
  · exact word_two _ _ _ _ w (h.c_rB) (h.c_rC) hg.b.1 hg.b.2 hg.c.1 hg.c.2
  · exact word_two _ _ _ _ w (h.c_rD) (h.c_rE) hg.d.1 hg.d.2 hg.e.1 hg.e.2
  · exact word_two _ _ _ _ w (h.c_rH) (h.c_rL) hg.h.1 hg.h.2 hg.l.1 hg.l.2
  · exact word_one _ _ w (h.c_sp)
theorem pput_any (g : G) (m : M) (full : Bool) (n v : Int) (w : World) (h : In g w m full) (n0 : 0 ≤ n) (n1 : n ≤ 3) :
    Calls Tryz.prog 124 #[pv g n, .int .i64 v] w fun e w' => e = .returned (.tuple #[]) ∧ In g w' (setP m n (v % 65536)) full := by
  rcases cases4 n0 n1 with rfl | rfl | rfl | rfl
  · exact pput_bc g m full v w h
  · exact pput_de g m full v w h
  · exact pput_hl g m full v w h
  · exact pput_sp g m full v w h
/-- A pair of registers, of the stack's. -/
def qv (g : G) (n : Int) : Value := if n = 3 then .agg #[.pointer (some ⟨g.B, 0, none⟩), .pointer (some ⟨g.B, 1, none⟩)] else pv g n
theorem wordQ_any (g : G) (m : M) (full : Bool) (n : Int) (w : World) (h : In g w m full) (hg : Stpq.Good m) (n0 : 0 ≤ n) (n1 : n ≤ 3) :
    Calls Tryz.prog 127 #[qv g n] w fun e w' => e = .returned (.int .i64 (prQ m n)) ∧ Below w.heap.size w w' := by
  by_cases hn : n = 3
  · subst hn
    exact word_two _ _ _ _ w (h.c_ra) (h.c_rf) hg.a.1 hg.a.2 hg.f.1 hg.f.2
  · unfold qv prQ
    rw [if_neg hn, if_neg hn]
    exact word_any g m full n w h hg n0 n1
/-- What a pair of the stack's becomes, all bits of its flags with it. -/
def setQ0 (m : M) (p v : Int) : M := if p = 3 then { m with ra := v / 256, rf := v % 256 } else setP m p v
theorem pputQ_any (g : G) (m : M) (full : Bool) (n v : Int) (w : World) (h : In g w m full) (n0 : 0 ≤ n) (n1 : n ≤ 3) :
    Calls Tryz.prog 124 #[qv g n, .int .i64 v] w fun e w' => e = .returned (.tuple #[]) ∧ In g w' (setQ0 m n (v % 65536)) full := by
  by_cases hn : n = 3
  · subst hn
    exact pput_af g m full v w h
  · unfold qv setQ0
    rw [if_neg hn, if_neg hn]
    exact pput_any g m full n v w h n0 n1
set_option maxHeartbeats 1000000 in
theorem stack_0 (g : G) (m : M) (full : Bool) (w : World) (h : In g w m full) :
    Calls Tryz.prog 138 #[.pointer (some ⟨g.K, 0, none⟩), .int .i64 0] w fun e w' => e = .returned (.agg #[.pointer (some ⟨g.B, 2, none⟩), .pointer (some ⟨g.B, 3, none⟩)]) ∧ Below w.heap.size w w' := by
  have q : w.cell? ⟨0, 0, none⟩ = some (.string ⟨#[98, 99]⟩) := h.tb.stack 0 (by decide)
  have lq := World.block_lt_of_cell? w _ q
  have HC : Hid (∀ W, Below w.heap.size w W → Calls Tryz.prog 123 #[.pointer (some ⟨g.K, 0, none⟩), .int .i64 0] W fun e w' => e = .returned (.agg #[.pointer (some ⟨g.B, 2, none⟩), .pointer (some ⟨g.B, 3, none⟩)]) ∧ Below W.heap.size W w') := fun W hb => pairOf_0 g W ((h.below hb).k_cpu)
  clear h
  go_enter Tryz.func138, Tryz.ntmps138
  go_wp2_with (go_at_call 123; refine (HC.out _ (by repeat (with_reducible first | exact Below.refl _ _ | refine CartL.grow ?_ _ | refine below_drewN ?_ _ | refine Below.drew ?_))).mono ?_; rintro e w1 ⟨rfl, hb1⟩; have hx1 := (hb1.block w.heap.size (by simp)).trans (heap_alloc_new w _); have hb1 := CartL.after ((Below.refl _ w).alloc (Nat.le_refl _) _) hb1; have k0 := cell_of_row w1 w.heap.size 0 _ _ _ hx1; have k1 := cell_of_row w1 w.heap.size 1 _ _ _ hx1; have f0 := frozen_of_row w1 w.heap.size 0 _ _ hx1; have f1 := frozen_of_row w1 w.heap.size 1 _ _ hx1; have HX : Hid (Below w.heap.size w w1) := hb1; have lx : w.heap.size < w1.heap.size := (Array.getElem?_eq_some_iff.1 hx1).1; clear hx1 hb1; simp at k0 k1)
  refine bodyPost_ret (v := .agg #[.pointer (some ⟨g.B, 2, none⟩), .pointer (some ⟨g.B, 3, none⟩)]) (by simp [results, Tryz.results138, go_sem, k0, k1, lx]) rfl ⟨rfl, ?_⟩
  exact (HX.out.setCell (Nat.le_refl _) _).setCell (Nat.le_refl _) _
set_option maxHeartbeats 1000000 in
theorem stack_1 (g : G) (m : M) (full : Bool) (w : World) (h : In g w m full) :
    Calls Tryz.prog 138 #[.pointer (some ⟨g.K, 0, none⟩), .int .i64 1] w fun e w' => e = .returned (.agg #[.pointer (some ⟨g.B, 4, none⟩), .pointer (some ⟨g.B, 5, none⟩)]) ∧ Below w.heap.size w w' := by
  have q : w.cell? ⟨0, 1, none⟩ = some (.string ⟨#[100, 101]⟩) := h.tb.stack 1 (by decide)
  have lq := World.block_lt_of_cell? w _ q
  have HC : Hid (∀ W, Below w.heap.size w W → Calls Tryz.prog 123 #[.pointer (some ⟨g.K, 0, none⟩), .int .i64 1] W fun e w' => e = .returned (.agg #[.pointer (some ⟨g.B, 4, none⟩), .pointer (some ⟨g.B, 5, none⟩)]) ∧ Below W.heap.size W w') := fun W hb => pairOf_1 g W ((h.below hb).k_cpu)
  clear h
  go_enter Tryz.func138, Tryz.ntmps138
  go_wp2_with (go_at_call 123; refine (HC.out _ (by repeat (with_reducible first | exact Below.refl _ _ | refine CartL.grow ?_ _ | refine below_drewN ?_ _ | refine Below.drew ?_))).mono ?_; rintro e w1 ⟨rfl, hb1⟩; have hx1 := (hb1.block w.heap.size (by simp)).trans (heap_alloc_new w _); have hb1 := CartL.after ((Below.refl _ w).alloc (Nat.le_refl _) _) hb1; have k0 := cell_of_row w1 w.heap.size 0 _ _ _ hx1; have k1 := cell_of_row w1 w.heap.size 1 _ _ _ hx1; have f0 := frozen_of_row w1 w.heap.size 0 _ _ hx1; have f1 := frozen_of_row w1 w.heap.size 1 _ _ hx1; have HX : Hid (Below w.heap.size w w1) := hb1; have lx : w.heap.size < w1.heap.size := (Array.getElem?_eq_some_iff.1 hx1).1; clear hx1 hb1; simp at k0 k1)
  refine bodyPost_ret (v := .agg #[.pointer (some ⟨g.B, 4, none⟩), .pointer (some ⟨g.B, 5, none⟩)]) (by simp [results, Tryz.results138, go_sem, k0, k1, lx]) rfl ⟨rfl, ?_⟩
  exact (HX.out.setCell (Nat.le_refl _) _).setCell (Nat.le_refl _) _
set_option maxHeartbeats 1000000 in
theorem stack_2 (g : G) (m : M) (full : Bool) (w : World) (h : In g w m full) :
    Calls Tryz.prog 138 #[.pointer (some ⟨g.K, 0, none⟩), .int .i64 2] w fun e w' => e = .returned (.agg #[.pointer (some ⟨g.B, 6, none⟩), .pointer (some ⟨g.B, 7, none⟩)]) ∧ Below w.heap.size w w' := by
  have q : w.cell? ⟨0, 2, none⟩ = some (.string ⟨#[104, 108]⟩) := h.tb.stack 2 (by decide)
  have lq := World.block_lt_of_cell? w _ q
  have HC : Hid (∀ W, Below w.heap.size w W → Calls Tryz.prog 123 #[.pointer (some ⟨g.K, 0, none⟩), .int .i64 2] W fun e w' => e = .returned (.agg #[.pointer (some ⟨g.B, 6, none⟩), .pointer (some ⟨g.B, 7, none⟩)]) ∧ Below W.heap.size W w') := fun W hb => pairOf_2 g W ((h.below hb).k_cpu)
  clear h
  go_enter Tryz.func138, Tryz.ntmps138
  go_wp2_with (go_at_call 123; refine (HC.out _ (by repeat (with_reducible first | exact Below.refl _ _ | refine CartL.grow ?_ _ | refine below_drewN ?_ _ | refine Below.drew ?_))).mono ?_; rintro e w1 ⟨rfl, hb1⟩; have hx1 := (hb1.block w.heap.size (by simp)).trans (heap_alloc_new w _); have hb1 := CartL.after ((Below.refl _ w).alloc (Nat.le_refl _) _) hb1; have k0 := cell_of_row w1 w.heap.size 0 _ _ _ hx1; have k1 := cell_of_row w1 w.heap.size 1 _ _ _ hx1; have f0 := frozen_of_row w1 w.heap.size 0 _ _ hx1; have f1 := frozen_of_row w1 w.heap.size 1 _ _ hx1; have HX : Hid (Below w.heap.size w w1) := hb1; have lx : w.heap.size < w1.heap.size := (Array.getElem?_eq_some_iff.1 hx1).1; clear hx1 hb1; simp at k0 k1)
  refine bodyPost_ret (v := .agg #[.pointer (some ⟨g.B, 6, none⟩), .pointer (some ⟨g.B, 7, none⟩)]) (by simp [results, Tryz.results138, go_sem, k0, k1, lx]) rfl ⟨rfl, ?_⟩
  exact (HX.out.setCell (Nat.le_refl _) _).setCell (Nat.le_refl _) _
set_option maxHeartbeats 1000000 in
theorem stack_3 (g : G) (m : M) (full : Bool) (w : World) (h : In g w m full) :
    Calls Tryz.prog 138 #[.pointer (some ⟨g.K, 0, none⟩), .int .i64 3] w fun e w' => e = .returned (.agg #[.pointer (some ⟨g.B, 0, none⟩), .pointer (some ⟨g.B, 1, none⟩)]) ∧ Below w.heap.size w w' := by
  have q : w.cell? ⟨0, 3, none⟩ = some (.string ⟨#[97, 102]⟩) := h.tb.stack 3 (by decide)
  have lq := World.block_lt_of_cell? w _ q
  have q1 := (h.below ((Below.refl _ w).alloc (Nat.le_refl _) (.cells #[.pointer none, .pointer none] 149))).k_cpu
  have r1 := cell_regrown q1
  have HB : Hid (∀ d os, Below w.heap.size w (Go.Sort.grow (redrawn (w.alloc (.cells #[.pointer none, .pointer none] 149)) d) os) ∧ (Go.Sort.grow (redrawn (w.alloc (.cells #[.pointer none, .pointer none] 149)) d) os).heap[w.heap.size]? = some (.cells #[.pointer none, .pointer none] 149)) := fun d os => ⟨CartL.after ((Below.refl _ w).alloc (Nat.le_refl _) _) (below_regrown _ d os), ((below_regrown _ d os).block w.heap.size (by simp)).trans (heap_alloc_new w _)⟩
  clear h q1
  go_enter Tryz.func138, Tryz.ntmps138
  go_wp2_with fail
  refine Qtail.tail_below 13 (by kernel_rfl) (by kernel_rfl) ?_
  simp only [List.take_succ_cons, List.take_zero, List.drop_succ_cons, List.drop_zero]
  repeat (go_big_quiet_step (first | fail))
  refine wpQuiet_nil ?_
  intro _ hw'
  obtain ⟨⟨dq, osq⟩, hw''⟩ := hw'
  subst hw''
  obtain ⟨hb2, hx2⟩ := HB.out dq osq
  generalize Go.Sort.grow (redrawn (w.alloc (.cells #[.pointer none, .pointer none] 149)) dq) osq = W2 at *
  refine wpList_store_row rfl 149 _ _ rfl w.heap.size #[.pointer (some ⟨g.B, 0, none⟩), .pointer (some ⟨g.B, 1, none⟩)] rfl rfl _ _ hx2 (by kernel_rfl) rfl (by simp [Value.oneCell']) ?_
  refine wpList_nil ?_
  have hx3 : (W2.setRow w.heap.size #[.pointer (some ⟨g.B, 0, none⟩), .pointer (some ⟨g.B, 1, none⟩)]).heap[w.heap.size]? = some (.cells #[.pointer (some ⟨g.B, 0, none⟩), .pointer (some ⟨g.B, 1, none⟩)] 149) := MachT.heap_row hx2
  have hb3 : Below w.heap.size w (W2.setRow w.heap.size #[.pointer (some ⟨g.B, 0, none⟩), .pointer (some ⟨g.B, 1, none⟩)]) := MachT.below_row hb2 (Nat.le_refl _)
  generalize W2.setRow w.heap.size #[.pointer (some ⟨g.B, 0, none⟩), .pointer (some ⟨g.B, 1, none⟩)] = W3 at *
  go_wp2
  refine bodyPost_ret (v := .agg #[.pointer (some ⟨g.B, 0, none⟩), .pointer (some ⟨g.B, 1, none⟩)]) (results_cell_row Tryz.results138 _ _ w.heap.size _ _ (0, 0) _ rfl hx3 Tryz.underlying149 rfl (by kernel_rfl)) rfl ⟨rfl, hb3⟩
theorem stack_any (g : G) (m : M) (full : Bool) (n : Int) (w : World) (h : In g w m full) (n0 : 0 ≤ n) (n1 : n ≤ 3) :
    Calls Tryz.prog 138 #[.pointer (some ⟨g.K, 0, none⟩), .int .i64 n] w fun e w' => e = .returned (qv g n) ∧ Below w.heap.size w w' := by
  rcases cases4 n0 n1 with rfl | rfl | rfl | rfl
  · exact stack_0 g m full w h
  · exact stack_1 g m full w h
  · exact stack_2 g m full w h
  · exact stack_3 g m full w h
theorem wr_mod (s : S) (a v : Int) : wr s (a % 65536) v = wr s a v := by
  unfold wr
  rw [Int.emod_emod]
theorem wr_sp (s : S) (a v : Int) : (wr s a v).m.sp = s.m.sp := by rw [← wr_same s a v]; rfl
theorem wr_pc (s : S) (a v : Int) : (wr s a v).m.pc = s.m.pc := by rw [← wr_same s a v]; rfl
theorem wr_ra (s : S) (a v : Int) : (wr s a v).m.ra = s.m.ra := by rw [← wr_same s a v]; rfl
theorem push_eq (m : M) (f : Bool) (v : Int) : wr (wr ⟨{ m with sp := (m.sp - 2) % 65536 }, f⟩ ((m.sp - 2) % 65536 + 1) (v / 256)) ((m.sp - 2) % 65536) (v % 256) = push ⟨m, f⟩ v := by
  have e1 : ((m.sp - 2) % 65536 + 1) % 65536 = (m.sp + 65535) % 65536 := by omega
  have e2 : (m.sp - 2) % 65536 = (m.sp + 65534) % 65536 := by omega
  have a1 : ∀ s u, wr s ((m.sp - 2) % 65536 + 1) u = wr s (m.sp + 65535) u := fun s u => by rw [← wr_mod s ((m.sp - 2) % 65536 + 1), e1, wr_mod]
  have a2 : ∀ s u, wr s ((m.sp - 2) % 65536) u = wr s (m.sp + 65534) u := fun s u => by rw [e2, wr_mod]
  rw [a1, a2, e2]
  have h0 : ({ m with sp := (m.sp + 65534) % 65536 } : M) = withCpu m { m with sp := (m.sp + 65534) % 65536 } := rfl
  rw [h0, wr_cpu, wr_cpu]
  have h1 := wr_same (wr ⟨m, f⟩ (m.sp + 65535) (v / 256)) (m.sp + 65534) (v % 256)
  have h2 := wr_same ⟨m, f⟩ (m.sp + 65535) (v / 256)
  unfold push
  simp only []
  have e3 : (⟨(wr ⟨m, f⟩ (m.sp + 65535) (v / 256)).m, (wr ⟨m, f⟩ (m.sp + 65535) (v / 256)).full⟩ : S) = wr ⟨m, f⟩ (m.sp + 65535) (v / 256) := rfl
  rw [e3]
  generalize wr ⟨m, f⟩ (m.sp + 65535) (v / 256) = s1 at *
  generalize wr s1 (m.sp + 65534) (v % 256) = s2 at *
  rw [← h1, ← h2]
  rfl
set_option maxHeartbeats 1000000 in
theorem push_any (g : G) (m : M) (full : Bool) (v : Int) (w : World) (h : In g w m full) (hg : Stpq.Good m) (v0 : 0 ≤ v) (v1 : v ≤ 65535) :
    Calls Tryz.prog 137 #[.pointer (some ⟨g.K, 0, none⟩), .int .i64 v] w fun e w' => e = .returned (.tuple #[]) ∧ In g w' (push ⟨m, full⟩ v).m (push ⟨m, full⟩ v).full := by
  obtain ⟨s0, s1⟩ := hg.sp
  rw [← push_eq]
  obtain ⟨q, hq⟩ : ∃ q, q = (m.sp - 2) % 65536 := ⟨_, rfl⟩
  have q0 : 0 ≤ q ∧ q ≤ 65535 := by omega
  have c1 : Rg 61 #[.int .i64 (m.sp - 2)] w (.int .i64 q) := rg fun W hb => (wrapped_any (m.sp - 2) W).mono fun e w' h => ⟨by rw [hq]; exact h.1, by rw [h.2]; exact Below.refl _ _⟩
  have g1 : Stpq.Good { m with sp := q } := good_sp hg q q0.1 q0.2
  have g2 : Stpq.Good (wr ⟨{ m with sp := q }, full⟩ (q + 1) (v / 256)).m := wr_good g1 _ _ (by omega) (by omega)
  have p2 : (wr ⟨{ m with sp := q }, full⟩ (q + 1) (v / 256)).m.sp = q := wr_sp _ _ _
  have c2 : Hid (∀ W, In g W { m with sp := q } full → Calls Tryz.prog 182 #[.pointer (some ⟨g.K, 0, none⟩), .int .i64 (q + 1), .int .i64 (v / 256)] W fun e w' => e = .returned (.tuple #[]) ∧ In g w' (wr ⟨{ m with sp := q }, full⟩ (q + 1) (v / 256)).m (wr ⟨{ m with sp := q }, full⟩ (q + 1) (v / 256)).full) := fun W hi => write_any g _ full _ _ W hi g1.rt (by omega) (by omega)
  rw [← hq]
  generalize wr ⟨{ m with sp := q }, full⟩ (q + 1) (v / 256) = t1 at *
  have c3 : Hid (∀ W, In g W t1.m t1.full → Calls Tryz.prog 182 #[.pointer (some ⟨g.K, 0, none⟩), .int .i64 q, .int .i64 (v % 256)] W fun e w' => e = .returned (.tuple #[]) ∧ In g w' (wr t1 q (v % 256)).m (wr t1 q (v % 256)).full) := fun W hi => write_any g _ _ _ _ W hi g2.rt (by omega) (by omega)
  generalize wr t1 q (v % 256) = t2 at *
  have k1 := h.k_cpu
  have r1 := cell_regrown k1
  have r8 := cell_regrown (h.c_sp)
  have HI : Hid (In g w m full) := h
  have d1 : v.tdiv 256 = v / 256 := Int.tdiv_eq_ediv_of_nonneg v0
  have d2 : v.tmod 256 = v % 256 := Int.tmod_eq_emod_of_nonneg v0
  have d3 : IntKind.i64.wrap (m.sp - 2) = m.sp - 2 := by rw [IntKind.wrap_i64]; omega
  have HP : Hid (t1.m.sp = q) := p2
  clear h hq hg g1 g2 p2
  go_enter Tryz.func137, Tryz.ntmps137
  go_wp2_with fail
  refine Qtail.tail_below 15 (by kernel_rfl) (by kernel_rfl) ?_
  simp only [List.take_succ_cons, List.take_zero, List.drop_succ_cons, List.drop_zero]
  repeat (go_big_quiet_step (first | with_reducible exact c1 _ _))
  refine wpQuiet_nil ?_
  intro _ hw'
  obtain ⟨⟨dq, osq⟩, hw''⟩ := hw'
  subst hw''
  have h2 := HI.out.below (below_regrown w dq osq)
  have e8 := h2.c_sp
  have f8 := h2.fro 8
  have lb := h2.ltB
  have h3 := h2.s_sp q
  generalize Go.Sort.grow (redrawn w dq) osq = W2 at *
  have kk := h3.k_cpu
  have k8 := h3.c_sp
  have H3 : Hid (In g (W2.setCell ⟨g.B, 8, none⟩ (.int .i64 q)) { m with sp := q } full) := h3
  clear h2 h3 r1 r8 c1 k1
  go_wp2_with fail
  refine Calls.mono (c2.out _ H3.out) ?_
  rintro e w1 ⟨rfl, hi1⟩
  have kk1 := hi1.k_cpu
  have k81 := hi1.c_sp.trans (by rw [HP.out])
  have H4 : Hid (In g w1 t1.m t1.full) := hi1
  clear hi1 H3 kk k8 e8 f8
  go_wp2_with fail
  refine Calls.mono (c3.out _ H4.out) ?_
  rintro e w2 ⟨rfl, hi2⟩
  have H5 : Hid (In g w2 t2.m t2.full) := hi2
  clear hi2
  go_wp2
  go_end0
  exact ⟨rfl, H5.out⟩
set_option maxHeartbeats 1000000 in
theorem pop_any (g : G) (m : M) (full : Bool) (w : World) (h : In g w m full) (hg : Stpq.Good m) :
    Calls Tryz.prog 168 #[.pointer (some ⟨g.K, 0, none⟩)] w fun e w' => e = .returned (.int .i64 (popV m)) ∧ In g w' (popM m) full := by
  obtain ⟨s0, s1⟩ := hg.sp
  have c1 : Rg 183 #[.pointer (some ⟨g.K, 0, none⟩), .int .i64 m.sp] w (.int .i64 (rd m (m.sp % 65536))) := rg fun W hb => read_any g m full _ W (h.below hb) hg.rt
  have c2 : Rg 183 #[.pointer (some ⟨g.K, 0, none⟩), .int .i64 (m.sp + 1)] w (.int .i64 (rd m ((m.sp + 1) % 65536))) := rg fun W hb => read_any g m full _ W (h.below hb) hg.rt
  have b1 := rd_bd m (m.sp % 65536)
  have b2 := rd_bd m ((m.sp + 1) % 65536)
  have e0 : popV m = rd m (m.sp % 65536) + 256 * rd m ((m.sp + 1) % 65536) := by unfold popV; rw [show m.sp % 65536 = m.sp by omega]
  rw [e0]
  generalize rd m (m.sp % 65536) = a at *
  generalize rd m ((m.sp + 1) % 65536) = b at *
  clear e0
  have r1 := cell_regrown (h.k_cpu)
  have r8 := cell_regrown (h.c_sp)
  have d1 : IntKind.i64.wrap (m.sp + 1) = m.sp + 1 := by rw [IntKind.wrap_i64]; omega
  have d2 : IntKind.i64.wrap (256 * b) = 256 * b := by rw [IntKind.wrap_i64]; omega
  have d3 : IntKind.i64.wrap (a + 256 * b) = a + 256 * b := by rw [IntKind.wrap_i64]; omega
  have d4 : IntKind.i64.wrap (m.sp + 2) = m.sp + 2 := by rw [IntKind.wrap_i64]; omega
  have HI : Hid (In g w m full) := h
  clear h hg
  go_enter Tryz.func168, Tryz.ntmps168
  go_wp2_with fail
  refine wp_region_quiet_below (by kernel_rfl) (by kernel_rfl) ?_
  repeat (go_big_quiet_step (first | with_reducible exact c1 _ _ | with_reducible exact c2 _ _))
  refine wpQuiet_nil ?_
  intro _ hw'
  obtain ⟨⟨dq, osq⟩, hw''⟩ := hw'
  subst hw''
  have h2 := HI.out.below (below_regrown w dq osq)
  generalize Go.Sort.grow (redrawn w dq) osq = W2 at *
  have H2 : Hid (In g W2 m full) := h2
  clear r1 r8 c1 c2 HI
  have r1 := cell_regrown (h2.k_cpu)
  have r8 := cell_regrown (h2.c_sp)
  have c1 : Rg 61 #[.int .i64 (m.sp + 2)] W2 (.int .i64 ((m.sp + 2) % 65536)) := rg fun W hb => (wrapped_any (m.sp + 2) W).mono fun e w' h => ⟨h.1, by rw [h.2]; exact Below.refl _ _⟩
  clear h2
  go_wp2_with fail
  refine Qtail.tail_below 15 (by kernel_rfl) (by kernel_rfl) ?_
  simp only [List.take_succ_cons, List.take_zero, List.drop_succ_cons, List.drop_zero]
  repeat (go_big_quiet_step (first | with_reducible exact c1 _ _))
  refine wpQuiet_nil ?_
  intro _ hw'
  obtain ⟨⟨dr, osr⟩, hw''⟩ := hw'
  subst hw''
  have h3 := H2.out.below (below_regrown W2 dr osr)
  have e8 := h3.c_sp
  have f8 := h3.fro 8
  have h4 := h3.s_sp ((m.sp + 2) % 65536)
  generalize Go.Sort.grow (redrawn W2 dr) osr = W3 at *
  have H4 : Hid (In g (W3.setCell ⟨g.B, 8, none⟩ (.int .i64 ((m.sp + 2) % 65536))) (popM m) full) := h4
  clear h3 h4 r1 r8 c1
  go_wp2
  go_ret
  exact ⟨rfl, H4.out⟩
end Go.Proofs.YtkfehdkjeodbmaaGreatDoor.Stpn
