/-
  Contracts of ours for impl's registers, pairs of them and the stack, by number.
-/
import Derived.Test.YtkfehdkjeodbmaaGreatDoorStpk
import Derived.Test.YtkfehdkjeodbmaaGreatDoorStpq
import Derived.Test.YtkfehdkjeodbmaaGreatDoorQtail
namespace Go.Proofs.YtkfehdkjeodbmaaGreatDoor.Stpm
open Go.ChangeShapes Go.WideShapes Go.ChangeAt Go.RowKit Go.Deep
set_option linter.unusedVariables false
set_option linter.unusedSimpArgs false
set_option maxRecDepth 20000
open Signed (inB sgn ret_int ret_bool)
open Busw Busx Stpp Stpq Stpi Stpj Stpr Stpk
abbrev Rg (f : FuncId) (args : Array Value) (W : World) (v : Value) : Prop := ∀ d os, Calls Tryz.prog f args (Go.Sort.grow (redrawn W d) os) fun e w'' => e = .returned v ∧ ∃ p : Regrown, w'' = Go.Sort.grow (redrawn W p.d) p.os
theorem rg {f : FuncId} {args : Array Value} {W : World} {v : Value} (h : ∀ W', Below W.heap.size W W' → Calls Tryz.prog f args W' fun e w' => e = .returned v ∧ Below W'.heap.size W' w') : Rg f args W v := fun d os => Calls.regrown_of (h _ (below_regrown W d os))
theorem reg_cell {g : G} {w : World} {m : M} {full : Bool} (h : In g w m full) (n : Int) : w.cell? ⟨g.B, regI n, none⟩ = some (.int .i64 (reg m n)) := by
  unfold regI reg
  repeat' split
  all_goals first | exact h.cell 2 _ rfl | exact h.cell 3 _ rfl | exact h.cell 4 _ rfl | exact h.cell 5 _ rfl | exact h.cell 6 _ rfl | exact h.cell 7 _ rfl | exact h.cell 0 _ rfl
theorem reg_set {g : G} {w : World} {m : M} {full : Bool} (h : In g w m full) (n v : Int) : In g (w.setCell ⟨g.B, regI n, none⟩ (.int .i64 v)) (setR m n v) full := by
  unfold regI setR
  repeat' split
  all_goals first | exact h.s_rB v | exact h.s_rC v | exact h.s_rD v | exact h.s_rE v | exact h.s_rH v | exact h.s_rL v | exact h.s_ra v
/-- What 'hl' leads to is read. -/
theorem at_hl (g : G) (m : M) (full : Bool) (w : World) (h : In g w m full) (hg : Stpq.Good m) : Calls Tryz.prog 127 #[.agg #[.pointer (some ⟨g.B, 6, none⟩), .pointer (some ⟨g.B, 7, none⟩)]] w fun e w' => e = .returned (.int .i64 (hl m)) ∧ Below w.heap.size w w' :=
  word_two ⟨g.B, 6, none⟩ ⟨g.B, 7, none⟩ m.rH m.rL w (h.cell 6 _ rfl) (h.cell 7 _ rfl) hg.h.1 hg.h.2 hg.l.1 hg.l.2
set_option maxHeartbeats 1000000 in
theorem get_any (g : G) (m : M) (full : Bool) (n : Int) (w : World) (h : In g w m full) (hg : Stpq.Good m) (n0 : 0 ≤ n) (n1 : n ≤ 7) :
    Calls Tryz.prog 120 #[.pointer (some ⟨g.K, 0, none⟩), .int .i64 n] w fun e w' => e = .returned (.int .i64 (Stpp.get m n)) ∧ Below w.heap.size w w' := by
  have c1 := register_any g m full n w h n0 n1
  by_cases hn : n = 6
  · subst hn
    have HI : Hid (∀ W, Below w.heap.size w W → In g W m full) := fun W hb => h.below hb
    have c2 := fun W (hb : Below w.heap.size w W) => hl_any g W ((h.below hb).kcell 1 _ rfl)
    have c3 := fun W (hb : Below w.heap.size w W) => at_hl g m full W (h.below hb) hg
    have c4 := fun W (hb : Below w.heap.size w W) => read_any g m full (hl m) W (h.below hb) hg.rt
    have e1 : Stpp.get m 6 = rd m (hl m % 65536) := by
      have := hl_bd hg
      show rd m (hl m) = _
      rw [show hl m % 65536 = hl m by omega]
    have e2 : regP g 6 = .pointer none := rfl
    rw [e1]
    rw [e2] at c1
    clear h hg e1 e2
    generalize rd m (hl m % 65536) = r at *
    generalize hl m = a at *
    go_enter Tryz.func120, Tryz.ntmps120
    go_wp2_with first | (go_at_call 181; refine c1.mono ?_; rintro e w1 ⟨rfl, hb1⟩) | (go_at_call 126; refine (c2 _ ‹_›).mono ?_; rintro e w2 ⟨rfl, hb2⟩; have hb2 := CartL.after ‹Below w.heap.size w w1› hb2) | (go_at_call 127; refine (c3 _ ‹Below w.heap.size w w2›).mono ?_; rintro e w3 ⟨rfl, hb3⟩; have hb3 := CartL.after ‹Below w.heap.size w w2› hb3) | (go_at_call 183; refine (c4 _ ‹Below w.heap.size w w3›).mono ?_; rintro e w4 ⟨rfl, hb4⟩; have hb4 := CartL.after ‹Below w.heap.size w w3› hb4)
    go_ret
    exact ⟨rfl, by assumption⟩
  · have e1 : Stpp.get m n = reg m n := by unfold Stpp.get; rw [if_neg hn]
    have e2 : regP g n = .pointer (some ⟨g.B, regI n, none⟩) := by unfold regP; rw [if_neg hn]
    have HI : Hid (∀ W, Below w.heap.size w W → W.cell? ⟨g.B, regI n, none⟩ = some (.int .i64 (reg m n))) := fun W hb => reg_cell (h.below hb) n
    rw [e1]
    rw [e2] at c1
    clear h hg e1 e2
    generalize reg m n = r at *
    generalize regI n = i at *
    go_enter Tryz.func120, Tryz.ntmps120
    go_wp2_with (go_at_call 181; refine c1.mono ?_; rintro e w1 ⟨rfl, hb1⟩; have k := HI.out w1 hb1)
    go_ret
    exact ⟨rfl, by assumption⟩
set_option maxHeartbeats 1000000 in
theorem put_any (g : G) (m : M) (full : Bool) (n v : Int) (w : World) (h : In g w m full) (hg : Stpq.Good m) (n0 : 0 ≤ n) (n1 : n ≤ 7) (v0 : 0 ≤ v) (v1 : v ≤ 255) :
    Calls Tryz.prog 119 #[.pointer (some ⟨g.K, 0, none⟩), .int .i64 n, .int .i64 v] w fun e w' => e = .returned (.tuple #[]) ∧ In g w' (put ⟨m, full⟩ n v).m (put ⟨m, full⟩ n v).full := by
  have c1 := register_any g m full n w h n0 n1
  by_cases hn : n = 6
  · subst hn
    have c2 := fun W (hb : Below w.heap.size w W) => hl_any g W ((h.below hb).kcell 1 _ rfl)
    have c3 := fun W (hb : Below w.heap.size w W) => at_hl g m full W (h.below hb) hg
    have c4 := fun W (hb : Below w.heap.size w W) => write_any g m full (hl m) v W (h.below hb) hg.rt v0 v1
    have e2 : regP g 6 = .pointer none := rfl
    rw [show put ⟨m, full⟩ 6 v = wr ⟨m, full⟩ (hl m) v from rfl]
    rw [e2] at c1
    clear h hg e2 v0 v1
    generalize wr ⟨m, full⟩ (hl m) v = s at *
    generalize hl m = a at *
    go_enter Tryz.func119, Tryz.ntmps119
    go_wp2_with first | (go_at_call 181; refine c1.mono ?_; rintro e w1 ⟨rfl, hb1⟩) | (go_at_call 126; refine (c2 _ ‹_›).mono ?_; rintro e w2 ⟨rfl, hb2⟩; have hb2 := CartL.after ‹Below w.heap.size w w1› hb2) | (go_at_call 127; refine (c3 _ ‹Below w.heap.size w w2›).mono ?_; rintro e w3 ⟨rfl, hb3⟩; have hb3 := CartL.after ‹Below w.heap.size w w2› hb3) | (go_at_call 182; refine (c4 _ ‹Below w.heap.size w w3›).mono ?_; rintro e w4 ⟨rfl, hi4⟩; have HI4 : Hid (In g w4 s.m s.full) := hi4; clear hi4)
    go_end0
    exact ⟨rfl, HI4.out⟩
  · have e2 : regP g n = .pointer (some ⟨g.B, regI n, none⟩) := by unfold regP; rw [if_neg hn]
    have HC : Hid (∀ W, Below w.heap.size w W → W.cell? ⟨g.B, regI n, none⟩ = some (.int .i64 (reg m n)) ∧ W.frozen? ⟨g.B, regI n, none⟩ = false ∧ In g (W.setCell ⟨g.B, regI n, none⟩ (.int .i64 v)) (put ⟨m, full⟩ n v).m (put ⟨m, full⟩ n v).full) := fun W hb => ⟨reg_cell (h.below hb) n, (h.below hb).fro _, by
      unfold put; rw [if_neg hn]; exact reg_set (h.below hb) n v⟩
    rw [e2] at c1
    clear h hg e2 v0 v1
    generalize put ⟨m, full⟩ n v = s at *
    generalize reg m n = r at *
    generalize regI n = i at *
    go_enter Tryz.func119, Tryz.ntmps119
    go_wp2_with (go_at_call 181; refine c1.mono ?_; rintro e w1 ⟨rfl, hb1⟩; obtain ⟨k, f, hi⟩ := HC.out w1 hb1; have HI4 : Hid (In g (w1.setCell ⟨g.B, i, none⟩ (.int .i64 v)) s.m s.full) := hi; clear hi)
    refine bodyPost_ret (results_none rfl _ _ _) rfl ?_
    exact ⟨rfl, HI4.out⟩
/-- A pair of registers. -/
def pv (g : G) (n : Int) : Value := if n = 0 then .agg #[.pointer (some ⟨g.B, 2, none⟩), .pointer (some ⟨g.B, 3, none⟩)] else if n = 1 then .agg #[.pointer (some ⟨g.B, 4, none⟩), .pointer (some ⟨g.B, 5, none⟩)] else if n = 2 then .agg #[.pointer (some ⟨g.B, 6, none⟩), .pointer (some ⟨g.B, 7, none⟩)] else .agg #[.pointer none, .pointer (some ⟨g.B, 8, none⟩)]
theorem ixp_0 (B : Nat) (w : World) : (Instr.index 164 (.agg #[.pointer (some ⟨B, 2, none⟩), .pointer (some ⟨B, 3, none⟩), .pointer (some ⟨B, 4, none⟩), .pointer (some ⟨B, 5, none⟩), .pointer (some ⟨B, 6, none⟩), .pointer (some ⟨B, 7, none⟩), .pointer none, .pointer (some ⟨B, 8, none⟩)]) (.int .i64 0)).run Tryz.prog w = .ok (.agg #[.pointer (some ⟨B, 2, none⟩), .pointer (some ⟨B, 3, none⟩)]) w := by kernel_rfl
set_option maxHeartbeats 1000000 in
theorem pairOf_0 (g : G) (w : World) (k1 : w.cell? ⟨g.K, 1, none⟩ = some (.pointer (some ⟨g.B, 0, none⟩))) :
    Calls Tryz.prog 123 #[.pointer (some ⟨g.K, 0, none⟩), .int .i64 0] w fun e w' => e = .returned (.agg #[.pointer (some ⟨g.B, 2, none⟩), .pointer (some ⟨g.B, 3, none⟩)]) ∧ Below w.heap.size w w' := by
  have hi := ixp_0 g.B
  have l1 := World.block_lt_of_cell? w _ k1
  have q1 : (w.alloc (.cells #[.pointer none, .pointer none] 149)).cell? ⟨g.K, 1, none⟩ = some (.pointer (some ⟨g.B, 0, none⟩)) := by rw [((Below.refl _ w).alloc (Nat.le_refl _) _).cell (p := ⟨g.K, 1, none⟩) l1]; exact k1
  have c1 : Rg 126 #[.pointer (some ⟨g.K, 0, none⟩)] (w.alloc (.cells #[.pointer none, .pointer none] 149)) _ := rg fun W hb => hl_any g W ((hb.cell (p := ⟨g.K, 1, none⟩) (World.block_lt_of_cell? _ _ q1)).trans q1)
  have r1 := cell_regrown q1
  have HB : Hid (∀ d os, Below w.heap.size w (Go.Sort.grow (redrawn (w.alloc (.cells #[.pointer none, .pointer none] 149)) d) os) ∧ (Go.Sort.grow (redrawn (w.alloc (.cells #[.pointer none, .pointer none] 149)) d) os).heap[w.heap.size]? = some (.cells #[.pointer none, .pointer none] 149)) := fun d os => ⟨CartL.after ((Below.refl _ w).alloc (Nat.le_refl _) _) (below_regrown _ d os), ((below_regrown _ d os).block w.heap.size (by simp)).trans (heap_alloc_new w _)⟩
  clear k1 q1
  go_enter Tryz.func123, Tryz.ntmps123
  go_wp2_with fail
  refine Qtail.tail_below 38 (by kernel_rfl) (by kernel_rfl) ?_
  simp only [List.take_succ_cons, List.take_zero, List.drop_succ_cons, List.drop_zero]
  repeat (go_big_quiet_step (first | exact c1 _ _))
  refine wpQuiet_nil ?_
  intro _ hw'
  obtain ⟨⟨dq, osq⟩, hw''⟩ := hw'
  subst hw''
  obtain ⟨hb2, hx2⟩ := HB.out dq osq
  generalize Go.Sort.grow (redrawn (w.alloc (.cells #[.pointer none, .pointer none] 149)) dq) osq = W2 at *
  refine wpList_store_row rfl 149 _ _ rfl w.heap.size #[.pointer (some ⟨g.B, 2, none⟩), .pointer (some ⟨g.B, 3, none⟩)] rfl rfl _ _ hx2 (by kernel_rfl) rfl (by simp [Value.oneCell']) ?_
  refine wpList_nil ?_
  have hx3 : (W2.setRow w.heap.size #[.pointer (some ⟨g.B, 2, none⟩), .pointer (some ⟨g.B, 3, none⟩)]).heap[w.heap.size]? = some (.cells #[.pointer (some ⟨g.B, 2, none⟩), .pointer (some ⟨g.B, 3, none⟩)] 149) := MachT.heap_row hx2
  have hb3 : Below w.heap.size w (W2.setRow w.heap.size #[.pointer (some ⟨g.B, 2, none⟩), .pointer (some ⟨g.B, 3, none⟩)]) := MachT.below_row hb2 (Nat.le_refl _)
  generalize W2.setRow w.heap.size #[.pointer (some ⟨g.B, 2, none⟩), .pointer (some ⟨g.B, 3, none⟩)] = W3 at *
  go_wp2
  refine bodyPost_ret (v := .agg #[.pointer (some ⟨g.B, 2, none⟩), .pointer (some ⟨g.B, 3, none⟩)]) (results_cell_row Tryz.results123 _ _ w.heap.size _ _ (0, 0) _ rfl hx3 Tryz.underlying149 rfl (by kernel_rfl)) rfl ⟨rfl, hb3⟩
theorem ixp_1 (B : Nat) (w : World) : (Instr.index 164 (.agg #[.pointer (some ⟨B, 2, none⟩), .pointer (some ⟨B, 3, none⟩), .pointer (some ⟨B, 4, none⟩), .pointer (some ⟨B, 5, none⟩), .pointer (some ⟨B, 6, none⟩), .pointer (some ⟨B, 7, none⟩), .pointer none, .pointer (some ⟨B, 8, none⟩)]) (.int .i64 1)).run Tryz.prog w = .ok (.agg #[.pointer (some ⟨B, 4, none⟩), .pointer (some ⟨B, 5, none⟩)]) w := by kernel_rfl
set_option maxHeartbeats 1000000 in
theorem pairOf_1 (g : G) (w : World) (k1 : w.cell? ⟨g.K, 1, none⟩ = some (.pointer (some ⟨g.B, 0, none⟩))) :
    Calls Tryz.prog 123 #[.pointer (some ⟨g.K, 0, none⟩), .int .i64 1] w fun e w' => e = .returned (.agg #[.pointer (some ⟨g.B, 4, none⟩), .pointer (some ⟨g.B, 5, none⟩)]) ∧ Below w.heap.size w w' := by
  have hi := ixp_1 g.B
  have l1 := World.block_lt_of_cell? w _ k1
  have q1 : (w.alloc (.cells #[.pointer none, .pointer none] 149)).cell? ⟨g.K, 1, none⟩ = some (.pointer (some ⟨g.B, 0, none⟩)) := by rw [((Below.refl _ w).alloc (Nat.le_refl _) _).cell (p := ⟨g.K, 1, none⟩) l1]; exact k1
  have c1 : Rg 126 #[.pointer (some ⟨g.K, 0, none⟩)] (w.alloc (.cells #[.pointer none, .pointer none] 149)) _ := rg fun W hb => hl_any g W ((hb.cell (p := ⟨g.K, 1, none⟩) (World.block_lt_of_cell? _ _ q1)).trans q1)
  have r1 := cell_regrown q1
  have HB : Hid (∀ d os, Below w.heap.size w (Go.Sort.grow (redrawn (w.alloc (.cells #[.pointer none, .pointer none] 149)) d) os) ∧ (Go.Sort.grow (redrawn (w.alloc (.cells #[.pointer none, .pointer none] 149)) d) os).heap[w.heap.size]? = some (.cells #[.pointer none, .pointer none] 149)) := fun d os => ⟨CartL.after ((Below.refl _ w).alloc (Nat.le_refl _) _) (below_regrown _ d os), ((below_regrown _ d os).block w.heap.size (by simp)).trans (heap_alloc_new w _)⟩
  clear k1 q1
  go_enter Tryz.func123, Tryz.ntmps123
  go_wp2_with fail
  refine Qtail.tail_below 38 (by kernel_rfl) (by kernel_rfl) ?_
  simp only [List.take_succ_cons, List.take_zero, List.drop_succ_cons, List.drop_zero]
  repeat (go_big_quiet_step (first | exact c1 _ _))
  refine wpQuiet_nil ?_
  intro _ hw'
  obtain ⟨⟨dq, osq⟩, hw''⟩ := hw'
  subst hw''
  obtain ⟨hb2, hx2⟩ := HB.out dq osq
  generalize Go.Sort.grow (redrawn (w.alloc (.cells #[.pointer none, .pointer none] 149)) dq) osq = W2 at *
  refine wpList_store_row rfl 149 _ _ rfl w.heap.size #[.pointer (some ⟨g.B, 4, none⟩), .pointer (some ⟨g.B, 5, none⟩)] rfl rfl _ _ hx2 (by kernel_rfl) rfl (by simp [Value.oneCell']) ?_
  refine wpList_nil ?_
  have hx3 : (W2.setRow w.heap.size #[.pointer (some ⟨g.B, 4, none⟩), .pointer (some ⟨g.B, 5, none⟩)]).heap[w.heap.size]? = some (.cells #[.pointer (some ⟨g.B, 4, none⟩), .pointer (some ⟨g.B, 5, none⟩)] 149) := MachT.heap_row hx2
  have hb3 : Below w.heap.size w (W2.setRow w.heap.size #[.pointer (some ⟨g.B, 4, none⟩), .pointer (some ⟨g.B, 5, none⟩)]) := MachT.below_row hb2 (Nat.le_refl _)
  generalize W2.setRow w.heap.size #[.pointer (some ⟨g.B, 4, none⟩), .pointer (some ⟨g.B, 5, none⟩)] = W3 at *
  go_wp2
  refine bodyPost_ret (v := .agg #[.pointer (some ⟨g.B, 4, none⟩), .pointer (some ⟨g.B, 5, none⟩)]) (results_cell_row Tryz.results123 _ _ w.heap.size _ _ (0, 0) _ rfl hx3 Tryz.underlying149 rfl (by kernel_rfl)) rfl ⟨rfl, hb3⟩
theorem ixp_2 (B : Nat) (w : World) : (Instr.index 164 (.agg #[.pointer (some ⟨B, 2, none⟩), .pointer (some ⟨B, 3, none⟩), .pointer (some ⟨B, 4, none⟩), .pointer (some ⟨B, 5, none⟩), .pointer (some ⟨B, 6, none⟩), .pointer (some ⟨B, 7, none⟩), .pointer none, .pointer (some ⟨B, 8, none⟩)]) (.int .i64 2)).run Tryz.prog w = .ok (.agg #[.pointer (some ⟨B, 6, none⟩), .pointer (some ⟨B, 7, none⟩)]) w := by kernel_rfl
set_option maxHeartbeats 1000000 in
theorem pairOf_2 (g : G) (w : World) (k1 : w.cell? ⟨g.K, 1, none⟩ = some (.pointer (some ⟨g.B, 0, none⟩))) :
    Calls Tryz.prog 123 #[.pointer (some ⟨g.K, 0, none⟩), .int .i64 2] w fun e w' => e = .returned (.agg #[.pointer (some ⟨g.B, 6, none⟩), .pointer (some ⟨g.B, 7, none⟩)]) ∧ Below w.heap.size w w' := by
  have hi := ixp_2 g.B
  have l1 := World.block_lt_of_cell? w _ k1
  have q1 : (w.alloc (.cells #[.pointer none, .pointer none] 149)).cell? ⟨g.K, 1, none⟩ = some (.pointer (some ⟨g.B, 0, none⟩)) := by rw [((Below.refl _ w).alloc (Nat.le_refl _) _).cell (p := ⟨g.K, 1, none⟩) l1]; exact k1
  have c1 : Rg 126 #[.pointer (some ⟨g.K, 0, none⟩)] (w.alloc (.cells #[.pointer none, .pointer none] 149)) _ := rg fun W hb => hl_any g W ((hb.cell (p := ⟨g.K, 1, none⟩) (World.block_lt_of_cell? _ _ q1)).trans q1)
  have r1 := cell_regrown q1
  have HB : Hid (∀ d os, Below w.heap.size w (Go.Sort.grow (redrawn (w.alloc (.cells #[.pointer none, .pointer none] 149)) d) os) ∧ (Go.Sort.grow (redrawn (w.alloc (.cells #[.pointer none, .pointer none] 149)) d) os).heap[w.heap.size]? = some (.cells #[.pointer none, .pointer none] 149)) := fun d os => ⟨CartL.after ((Below.refl _ w).alloc (Nat.le_refl _) _) (below_regrown _ d os), ((below_regrown _ d os).block w.heap.size (by simp)).trans (heap_alloc_new w _)⟩
  clear k1 q1
  go_enter Tryz.func123, Tryz.ntmps123
  go_wp2_with fail
  refine Qtail.tail_below 38 (by kernel_rfl) (by kernel_rfl) ?_
  simp only [List.take_succ_cons, List.take_zero, List.drop_succ_cons, List.drop_zero]
  repeat (go_big_quiet_step (first | exact c1 _ _))
  refine wpQuiet_nil ?_
  intro _ hw'
  obtain ⟨⟨dq, osq⟩, hw''⟩ := hw'
  subst hw''
  obtain ⟨hb2, hx2⟩ := HB.out dq osq
  generalize Go.Sort.grow (redrawn (w.alloc (.cells #[.pointer none, .pointer none] 149)) dq) osq = W2 at *
  refine wpList_store_row rfl 149 _ _ rfl w.heap.size #[.pointer (some ⟨g.B, 6, none⟩), .pointer (some ⟨g.B, 7, none⟩)] rfl rfl _ _ hx2 (by kernel_rfl) rfl (by simp [Value.oneCell']) ?_
  refine wpList_nil ?_
  have hx3 : (W2.setRow w.heap.size #[.pointer (some ⟨g.B, 6, none⟩), .pointer (some ⟨g.B, 7, none⟩)]).heap[w.heap.size]? = some (.cells #[.pointer (some ⟨g.B, 6, none⟩), .pointer (some ⟨g.B, 7, none⟩)] 149) := MachT.heap_row hx2
  have hb3 : Below w.heap.size w (W2.setRow w.heap.size #[.pointer (some ⟨g.B, 6, none⟩), .pointer (some ⟨g.B, 7, none⟩)]) := MachT.below_row hb2 (Nat.le_refl _)
  generalize W2.setRow w.heap.size #[.pointer (some ⟨g.B, 6, none⟩), .pointer (some ⟨g.B, 7, none⟩)] = W3 at *
  go_wp2
  refine bodyPost_ret (v := .agg #[.pointer (some ⟨g.B, 6, none⟩), .pointer (some ⟨g.B, 7, none⟩)]) (results_cell_row Tryz.results123 _ _ w.heap.size _ _ (0, 0) _ rfl hx3 Tryz.underlying149 rfl (by kernel_rfl)) rfl ⟨rfl, hb3⟩
theorem ixp_3 (B : Nat) (w : World) : (Instr.index 164 (.agg #[.pointer (some ⟨B, 2, none⟩), .pointer (some ⟨B, 3, none⟩), .pointer (some ⟨B, 4, none⟩), .pointer (some ⟨B, 5, none⟩), .pointer (some ⟨B, 6, none⟩), .pointer (some ⟨B, 7, none⟩), .pointer none, .pointer (some ⟨B, 8, none⟩)]) (.int .i64 3)).run Tryz.prog w = .ok (.agg #[.pointer none, .pointer (some ⟨B, 8, none⟩)]) w := by kernel_rfl
set_option maxHeartbeats 1000000 in
theorem pairOf_3 (g : G) (w : World) (k1 : w.cell? ⟨g.K, 1, none⟩ = some (.pointer (some ⟨g.B, 0, none⟩))) :
    Calls Tryz.prog 123 #[.pointer (some ⟨g.K, 0, none⟩), .int .i64 3] w fun e w' => e = .returned (.agg #[.pointer none, .pointer (some ⟨g.B, 8, none⟩)]) ∧ Below w.heap.size w w' := by
  have hi := ixp_3 g.B
  have l1 := World.block_lt_of_cell? w _ k1
  have q1 : (w.alloc (.cells #[.pointer none, .pointer none] 149)).cell? ⟨g.K, 1, none⟩ = some (.pointer (some ⟨g.B, 0, none⟩)) := by rw [((Below.refl _ w).alloc (Nat.le_refl _) _).cell (p := ⟨g.K, 1, none⟩) l1]; exact k1
  have c1 : Rg 126 #[.pointer (some ⟨g.K, 0, none⟩)] (w.alloc (.cells #[.pointer none, .pointer none] 149)) _ := rg fun W hb => hl_any g W ((hb.cell (p := ⟨g.K, 1, none⟩) (World.block_lt_of_cell? _ _ q1)).trans q1)
  have r1 := cell_regrown q1
  have HB : Hid (∀ d os, Below w.heap.size w (Go.Sort.grow (redrawn (w.alloc (.cells #[.pointer none, .pointer none] 149)) d) os) ∧ (Go.Sort.grow (redrawn (w.alloc (.cells #[.pointer none, .pointer none] 149)) d) os).heap[w.heap.size]? = some (.cells #[.pointer none, .pointer none] 149)) := fun d os => ⟨CartL.after ((Below.refl _ w).alloc (Nat.le_refl _) _) (below_regrown _ d os), ((below_regrown _ d os).block w.heap.size (by simp)).trans (heap_alloc_new w _)⟩
  clear k1 q1
  go_enter Tryz.func123, Tryz.ntmps123
  go_wp2_with fail
  refine Qtail.tail_below 38 (by kernel_rfl) (by kernel_rfl) ?_
  simp only [List.take_succ_cons, List.take_zero, List.drop_succ_cons, List.drop_zero]
  repeat (go_big_quiet_step (first | exact c1 _ _))
  refine wpQuiet_nil ?_
  intro _ hw'
  obtain ⟨⟨dq, osq⟩, hw''⟩ := hw'
  subst hw''
  obtain ⟨hb2, hx2⟩ := HB.out dq osq
  generalize Go.Sort.grow (redrawn (w.alloc (.cells #[.pointer none, .pointer none] 149)) dq) osq = W2 at *
  refine wpList_store_row rfl 149 _ _ rfl w.heap.size #[.pointer none, .pointer (some ⟨g.B, 8, none⟩)] rfl rfl _ _ hx2 (by kernel_rfl) rfl (by simp [Value.oneCell']) ?_
  refine wpList_nil ?_
  have hx3 : (W2.setRow w.heap.size #[.pointer none, .pointer (some ⟨g.B, 8, none⟩)]).heap[w.heap.size]? = some (.cells #[.pointer none, .pointer (some ⟨g.B, 8, none⟩)] 149) := MachT.heap_row hx2
  have hb3 : Below w.heap.size w (W2.setRow w.heap.size #[.pointer none, .pointer (some ⟨g.B, 8, none⟩)]) := MachT.below_row hb2 (Nat.le_refl _)
  generalize W2.setRow w.heap.size #[.pointer none, .pointer (some ⟨g.B, 8, none⟩)] = W3 at *
  go_wp2
  refine bodyPost_ret (v := .agg #[.pointer none, .pointer (some ⟨g.B, 8, none⟩)]) (results_cell_row Tryz.results123 _ _ w.heap.size _ _ (0, 0) _ rfl hx3 Tryz.underlying149 rfl (by kernel_rfl)) rfl ⟨rfl, hb3⟩
end Go.Proofs.YtkfehdkjeodbmaaGreatDoor.Stpm
