/-
  A machine that works, as the specification holds it: what lies where, and what stays; what is read and written.
-/
import Derived.Test.YtkfehdkjeodbmaaGreatDoorStpp
import Derived.Test.YtkfehdkjeodbmaaGreatDoorBusy
import Derived.Lib.QuietBelow
import Derived.BigQuiet
namespace Go.Proofs.YtkfehdkjeodbmaaGreatDoor.Stps
open Go.ChangeShapes Go.WideShapes Go.ChangeAt Go.RowKit Go.Deep
set_option linter.unusedVariables false
set_option linter.unusedSimpArgs false
set_option maxRecDepth 20000
open Signed (inB sgn ret_int ret_bool)
open Busw Busx Busy Stpp
structure SG where
  (W0 : World)
  (X : Nat)
@[irreducible] def cellsW (m : M) (po : Option Addr) (cap : Nat) (full : Bool) : Array Value := (cellsM m po cap).push (.bool full)
theorem cellsW_def (m : M) (po : Option Addr) (cap : Nat) (full : Bool) : cellsW m po cap full = #[.int .i64 m.ra, .int .i64 m.rf, .int .i64 m.rB, .int .i64 m.rC, .int .i64 m.rD, .int .i64 m.rE, .int .i64 m.rH, .int .i64 m.rL, .int .i64 m.sp, .int .i64 m.pc, .bool m.ime, .bool m.hal, .string m.rom, .int .i64 m.kind, .int .i64 m.bank, .string m.ram, .int .i64 m.rb, .bool m.on, .int .i64 m.mode, .string m.work, .string m.high, .slice po m.out.length cap, .int .i64 m.cyc, .bool full] := by unfold cellsW; rw [cells_def]; rfl
theorem cellsW_low {m : M} {po : Option Addr} {cap : Nat} {full : Bool} {j : Nat} {v : Value} (h : (cellsM m po cap).toList[j]? = some v) : (cellsW m po cap full)[j]? = some v := by
  unfold cellsW
  have hj : j < (cellsM m po cap).size := by
    rcases Nat.lt_or_ge j (cellsM m po cap).toList.length with h1 | h1
    · simpa using h1
    · rw [List.getElem?_eq_none h1] at h; cases h
  rw [Array.getElem?_push, if_neg (by omega)]
  simpa using h
structure SAt (g : SG) (W : World) (m : M) (full : Bool) (po : Option Addr) (cap : Nat) : Prop where
  box : W.heap[g.X]? = some (.cells (cellsW m po cap full) 82 (0, 0))
  sl : Sl W po m.out cap
  ne : ∀ p, po = some p → p.block ≠ g.X
  grown : g.W0.grownBy W (some g.X)
def InS (g : SG) (W : World) (m : M) (full : Bool) : Prop := ∃ po cap, SAt g W m full po cap
theorem run_loadVar_part {P : Program} (w : World) (b : Nat) (t ty : TypeId) (cs cs' : Array Value) (fr : Nat × Nat) (d : TypeDesc) (hg : w.heap[b]? = some (.cells cs' t fr)) (hp : ∀ (j : Nat) (v : Value), cs.toList[j]? = some v → cs'[j]? = some v)
    (hu : P.underlying ty = some d) (hd : (match d with | .struct _ | .array _ _ => true | _ => false) = true) (hi : (P.info? ty).map (·.size) = some cs.size) :
    (loadVar ty ⟨b, 0, none⟩).run P w = .ok (.agg cs) w := by
  have hl : (loadCells ⟨b, 0, none⟩ cs.toList.length).run P w = .ok cs.toList.toArray w :=
    run_loadCells_list (P := P) w ⟨b, 0, none⟩ cs.toList (fun j v hv => by
      have hadd : (⟨b, 0, none⟩ : Addr).add j = ⟨b, j, none⟩ := by unfold Addr.add; split <;> simp_all
      rw [hadd, cell_of_row w b j cs' t fr hg]
      exact hp j v hv)
  cases hq : P.info? ty with
  | none => simp [hq] at hi
  | some i =>
    have hs : i.size = cs.size := by simpa [hq] using hi
    have hagg : (isAgg ty).run P w = .ok true w := by
      unfold isAgg
      rw [Sem.run_bind, run_underlying hu w]
      cases d <;> simp_all
    simp only [Array.length_toList, Array.toArray_toList] at hl
    simp [loadVar, Sem.run_bind, hagg, sizeOf, typeInfo, hq, hs, hl]
theorem wpList_load_any {P : Program} {ops : Array Oper} {rest : List Oper} {o : Oper} {a : Act} {w : World} {Q : Exit → Act → World → Prop} (hgd : o.guard = none) (ty : TypeId) (x : Operand) (ho : o.op = .load ty x)
    (p : Addr) (hx : a.eval x = .pointer (some p)) (v : Value) (hl : (loadVar ty p).run P w = .ok v w) (h : wpList P ops Q rest (a.put o.dst v) w) : wpList P ops Q (o :: rest) a w :=
  wpList_plain hgd fun K hK => by
    unfold Oper.wp execOp
    simp only [ho, hx, Instr.loadAt, Instr.sureAddr, Sem.run_bind, Sem.run_pure, Result.andThen_ok, hl]
    exact hK _ _ h
theorem wpQuiet_load {P : Program} {ops : Array Oper} {rest : List Oper} {o : Oper} {a : Act} {C : World → Prop} {Q : Act → Prop} (hgd : Region.wanted o (yielded ops a.tmps) = true) (ty : TypeId) (x : Operand) (ho : o.op = .load ty x)
    (p : Addr) (hx : a.eval x = .pointer (some p)) (v : Value) (hl : ∀ w, C w → (loadVar ty p).run P w = .ok v w) (h : wpQuiet P ops C Q rest (a.put o.dst v)) : wpQuiet P ops C Q (o :: rest) a :=
  wpQuiet_step fun K hK => by
    rw [if_pos hgd]
    refine ⟨v, fun w hw => ?_, hK _ h⟩
    unfold Oper.quietAt execOp
    simp only [ho, hx, Instr.loadAt, Instr.sureAddr, Sem.run_bind, Sem.run_pure, Result.andThen_ok, hl w hw]
    exact ⟨rfl, rfl⟩
theorem run_storeVar_part {P : Program} (w : World) (b : Nat) (t ty : TypeId) (old cells : Array Value) (hg : w.heap[b]? = some (.cells old t (0, 0))) (hi : (P.info? ty).map (·.size) = some cells.size)
    (ho : cells.size ≤ old.size) (h1 : cells.all (·.oneCell') = true) :
    (storeVar ty ⟨b, 0, none⟩ (.agg cells)).run P w = .ok () (w.setRow b (cells.toList ++ old.toList.drop cells.size).toArray) := by
  have := run_storeCells_at P b 0 t cells.toList 0 old w hg (by simpa using ho) (fun v hv => (Array.all_eq_true_iff_forall_mem.1 h1) v (by simpa using hv))
  cases hq : P.info? ty with
  | none => simp [hq] at hi
  | some i =>
    have hs : cells.size = i.size := by simp [hq] at hi; omega
    simp [storeVar, sizeOf, typeInfo, hq, Value.cells, hs] at this ⊢
    rw [← hs] at this ⊢
    simpa using this
theorem wpList_store_part {P : Program} {ops : Array Oper} {rest : List Oper} {o : Oper} {a : Act} {w : World} {Q : Exit → Act → World → Prop} (hgd : o.guard = none) (ty : TypeId) (x y : Operand) (ho : o.op = .store ty x y)
    (b : Nat) (cells : Array Value) (hx : a.eval x = .pointer (some ⟨b, 0, none⟩)) (hy : a.eval y = .agg cells) (t : TypeId) (old : Array Value) (hg : w.heap[b]? = some (.cells old t (0, 0))) (hi : (P.info? ty).map (·.size) = some cells.size)
    (hold : cells.size ≤ old.size) (h1 : cells.all (·.oneCell') = true)
    (h : wpList P ops Q rest (a.put o.dst undef) (w.setRow b (cells.toList ++ old.toList.drop cells.size).toArray)) : wpList P ops Q (o :: rest) a w :=
  wpList_plain hgd fun K hK => by
    unfold Oper.wp execOp
    simp only [ho, hx, hy, Instr.storeAt, Instr.sureAddr, Sem.run_bind, Sem.run_pure, Result.andThen_ok, run_storeVar_part w b t ty old cells hg hi hold h1]
    exact hK _ _ h
theorem part_W (m m' : M) (po po' : Option Addr) (cap cap' : Nat) (full : Bool) : ((cellsM m' po' cap').toList ++ (cellsW m po cap full).toList.drop (cellsM m' po' cap').size).toArray = cellsW m' po' cap' full := by
  rw [size_M, cellsW_def, cellsW_def, cells_def]; rfl
theorem size_W (m : M) (po : Option Addr) (cap : Nat) (full : Bool) : (cellsW m po cap full).size = 24 := by rw [cellsW_def]; rfl
theorem SAt.load {g : SG} {W W' : World} {m : M} {full : Bool} {po : Option Addr} {cap : Nat} (h : SAt g W m full po cap) (hb : W'.heap[g.X]? = W.heap[g.X]?) : (loadVar 33 ⟨g.X, 0, none⟩).run Tryz.prog W' = .ok (.agg (cellsM m po cap)) W' :=
  run_loadVar_part W' g.X _ _ _ _ (0, 0) _ (hb.trans h.box) (fun j v hv => cellsW_low hv) Tryz.underlying33 rfl (infoMs m po cap)
theorem SAt.lt {g : SG} {W : World} {m : M} {full : Bool} {po : Option Addr} {cap : Nat} (h : SAt g W m full po cap) : g.X < W.heap.size := (Array.getElem?_eq_some_iff.1 h.box).1
theorem sl_grown {W W' : World} {po : Option Addr} {L : List Int} {cap X : Nat} (h : Sl W po L cap) (hne : ∀ p, po = some p → p.block ≠ X) (hg : W.grownBy W' (some X)) : Sl W' po L cap := by
  rcases h with h | ⟨b, off, rfl, hc⟩
  · exact .inl h
  · exact .inr ⟨b, off, rfl, fun i hi => ⟨Nat.lt_of_lt_of_le (hc i hi).1 hg.size, (World.cell?_of_block (a := ⟨b, off + i, none⟩) (hg.block b (hc i hi).1 (fun e => hne _ rfl (Option.some.inj e)))).trans (hc i hi).2⟩⟩
theorem grown_trans {w w1 w2 : World} {X : Nat} (h : w.grownBy w1 (some X)) (h2 : w1.grownBy w2 (some X)) : w.grownBy w2 (some X) :=
  ⟨h2.os.trans h.os, h2.tape.trans h.tape, h2.output.trans h.output, Nat.le_trans h.size h2.size, fun k hk hne => (h2.block k (Nat.lt_of_lt_of_le hk h.size) hne).trans (h.block k hk hne)⟩
theorem below_grown {w w' : World} {X : Nat} (h : Below w.heap.size w w') : w.grownBy w' (some X) := ⟨h.os, h.tape, h.output, h.size, fun k hk _ => h.block k hk⟩
theorem InS.below {g : SG} {W W' : World} {m : M} {full : Bool} (h : InS g W m full) (hb : Below W.heap.size W W') : InS g W' m full := by
  obtain ⟨po, cap, h⟩ := h
  exact ⟨po, cap, (hb.block _ h.lt).trans h.box, h.sl.below hb, h.ne, grown_trans h.grown (below_grown hb)⟩
theorem InS.lt {g : SG} {W : World} {m : M} {full : Bool} (h : InS g W m full) : g.X < W.heap.size := by obtain ⟨po, cap, h⟩ := h; exact h.lt
theorem InS.fro {g : SG} {W : World} {m : M} {full : Bool} (h : InS g W m full) (i : Nat) : W.frozen? ⟨g.X, i, none⟩ = false := by
  obtain ⟨po, cap, h⟩ := h
  exact frozen_of_row _ _ _ _ _ h.box
theorem InS.cell {g : SG} {W : World} {m : M} {full : Bool} (h : InS g W m full) (i : Nat) (v : Value) (hv : (#[.int .i64 m.ra, .int .i64 m.rf, .int .i64 m.rB, .int .i64 m.rC, .int .i64 m.rD, .int .i64 m.rE, .int .i64 m.rH, .int .i64 m.rL, .int .i64 m.sp, .int .i64 m.pc, .bool m.ime, .bool m.hal] : Array Value)[i]? = some v) : W.cell? ⟨g.X, i, none⟩ = some v := by
  obtain ⟨po, cap, h⟩ := h
  rw [cell_of_row W g.X i _ _ _ h.box, cellsW_def]
  match i, hv with
  | 0, hv => exact hv
  | 1, hv => exact hv
  | 2, hv => exact hv
  | 3, hv => exact hv
  | 4, hv => exact hv
  | 5, hv => exact hv
  | 6, hv => exact hv
  | 7, hv => exact hv
  | 8, hv => exact hv
  | 9, hv => exact hv
  | 10, hv => exact hv
  | 11, hv => exact hv
  | i + 12, hv => simp at hv
theorem InS.cellFull {g : SG} {W : World} {m : M} {full : Bool} (h : InS g W m full) : W.cell? ⟨g.X, 23, none⟩ = some (.bool full) := by
  obtain ⟨po, cap, h⟩ := h
  rw [cell_of_row W g.X 23 _ _ _ h.box, cellsW_def]; rfl
theorem InS.cellCyc {g : SG} {W : World} {m : M} {full : Bool} (h : InS g W m full) : W.cell? ⟨g.X, 22, none⟩ = some (.int .i64 m.cyc) := by
  obtain ⟨po, cap, h⟩ := h
  rw [cell_of_row W g.X 22 _ _ _ h.box, cellsW_def]; rfl
theorem set_grown1 (w : World) (B i : Nat) (v : Value) : w.grownBy (w.setCell ⟨B, i, none⟩ v) (some B) :=
  ⟨rfl, rfl, rfl, by rw [Busw.size_set]; exact Nat.le_refl _, fun k _ hk => Below.heap_setCell _ _ _ _ (fun e => hk (by rw [e]))⟩
theorem InS.setX {g : SG} {W : World} {m m' : M} {full full' : Bool} (i : Nat) (v : Value) (h : InS g W m full) (ho : m'.out = m.out) (hbox : ∀ po cap, W.heap[g.X]? = some (.cells (cellsW m po cap full) 82 (0, 0)) → (W.setCell ⟨g.X, i, none⟩ v).heap[g.X]? = some (.cells (cellsW m' po cap full') 82 (0, 0))) :
    InS g (W.setCell ⟨g.X, i, none⟩ v) m' full' := by
  obtain ⟨po, cap, h⟩ := h
  have hg := set_grown1 W g.X i v
  exact ⟨po, cap, hbox po cap h.box, by rw [ho]; exact sl_grown h.sl h.ne hg, h.ne, grown_trans h.grown hg⟩
theorem InS.setFull {g : SG} {W : World} {m : M} {full : Bool} (h : InS g W m full) (b : Bool) : InS g (W.setCell ⟨g.X, 23, none⟩ (.bool b)) m b :=
  h.setX 23 _ rfl (fun po cap hb => by rw [cellsW_def] at hb ⊢; exact (heap_setCell_same _ _ _ _ _ _ hb).trans rfl)
theorem InS.s_cyc {g : SG} {W : World} {m : M} {full : Bool} (h : InS g W m full) (v : Int) : InS g (W.setCell ⟨g.X, 22, none⟩ (.int .i64 v)) { m with cyc := v } full :=
  h.setX 22 _ rfl (fun po cap hb => by rw [cellsW_def] at hb ⊢; exact (heap_setCell_same _ _ _ _ _ _ hb).trans rfl)
theorem InS.s_ra {g : SG} {W : World} {m : M} {full : Bool} (h : InS g W m full) (v : Int) : InS g (W.setCell ⟨g.X, 0, none⟩ (.int .i64 v)) { m with ra := v } full :=
  h.setX 0 _ rfl (fun po cap hb => by rw [cellsW_def] at hb ⊢; exact (heap_setCell_same _ _ _ _ _ _ hb).trans rfl)
theorem InS.s_rf {g : SG} {W : World} {m : M} {full : Bool} (h : InS g W m full) (v : Int) : InS g (W.setCell ⟨g.X, 1, none⟩ (.int .i64 v)) { m with rf := v } full :=
  h.setX 1 _ rfl (fun po cap hb => by rw [cellsW_def] at hb ⊢; exact (heap_setCell_same _ _ _ _ _ _ hb).trans rfl)
theorem InS.s_rB {g : SG} {W : World} {m : M} {full : Bool} (h : InS g W m full) (v : Int) : InS g (W.setCell ⟨g.X, 2, none⟩ (.int .i64 v)) { m with rB := v } full :=
  h.setX 2 _ rfl (fun po cap hb => by rw [cellsW_def] at hb ⊢; exact (heap_setCell_same _ _ _ _ _ _ hb).trans rfl)
theorem InS.s_rC {g : SG} {W : World} {m : M} {full : Bool} (h : InS g W m full) (v : Int) : InS g (W.setCell ⟨g.X, 3, none⟩ (.int .i64 v)) { m with rC := v } full :=
  h.setX 3 _ rfl (fun po cap hb => by rw [cellsW_def] at hb ⊢; exact (heap_setCell_same _ _ _ _ _ _ hb).trans rfl)
theorem InS.s_rD {g : SG} {W : World} {m : M} {full : Bool} (h : InS g W m full) (v : Int) : InS g (W.setCell ⟨g.X, 4, none⟩ (.int .i64 v)) { m with rD := v } full :=
  h.setX 4 _ rfl (fun po cap hb => by rw [cellsW_def] at hb ⊢; exact (heap_setCell_same _ _ _ _ _ _ hb).trans rfl)
theorem InS.s_rE {g : SG} {W : World} {m : M} {full : Bool} (h : InS g W m full) (v : Int) : InS g (W.setCell ⟨g.X, 5, none⟩ (.int .i64 v)) { m with rE := v } full :=
  h.setX 5 _ rfl (fun po cap hb => by rw [cellsW_def] at hb ⊢; exact (heap_setCell_same _ _ _ _ _ _ hb).trans rfl)
theorem InS.s_rH {g : SG} {W : World} {m : M} {full : Bool} (h : InS g W m full) (v : Int) : InS g (W.setCell ⟨g.X, 6, none⟩ (.int .i64 v)) { m with rH := v } full :=
  h.setX 6 _ rfl (fun po cap hb => by rw [cellsW_def] at hb ⊢; exact (heap_setCell_same _ _ _ _ _ _ hb).trans rfl)
theorem InS.s_rL {g : SG} {W : World} {m : M} {full : Bool} (h : InS g W m full) (v : Int) : InS g (W.setCell ⟨g.X, 7, none⟩ (.int .i64 v)) { m with rL := v } full :=
  h.setX 7 _ rfl (fun po cap hb => by rw [cellsW_def] at hb ⊢; exact (heap_setCell_same _ _ _ _ _ _ hb).trans rfl)
theorem InS.s_sp {g : SG} {W : World} {m : M} {full : Bool} (h : InS g W m full) (v : Int) : InS g (W.setCell ⟨g.X, 8, none⟩ (.int .i64 v)) { m with sp := v } full :=
  h.setX 8 _ rfl (fun po cap hb => by rw [cellsW_def] at hb ⊢; exact (heap_setCell_same _ _ _ _ _ _ hb).trans rfl)
theorem InS.s_pc {g : SG} {W : World} {m : M} {full : Bool} (h : InS g W m full) (v : Int) : InS g (W.setCell ⟨g.X, 9, none⟩ (.int .i64 v)) { m with pc := v } full :=
  h.setX 9 _ rfl (fun po cap hb => by rw [cellsW_def] at hb ⊢; exact (heap_setCell_same _ _ _ _ _ _ hb).trans rfl)
theorem InS.s_ime {g : SG} {W : World} {m : M} {full : Bool} (h : InS g W m full) (v : Bool) : InS g (W.setCell ⟨g.X, 10, none⟩ (.bool v)) { m with ime := v } full :=
  h.setX 10 _ rfl (fun po cap hb => by rw [cellsW_def] at hb ⊢; exact (heap_setCell_same _ _ _ _ _ _ hb).trans rfl)
theorem InS.s_hal {g : SG} {W : World} {m : M} {full : Bool} (h : InS g W m full) (v : Bool) : InS g (W.setCell ⟨g.X, 11, none⟩ (.bool v)) { m with hal := v } full :=
  h.setX 11 _ rfl (fun po cap hb => by rw [cellsW_def] at hb ⊢; exact (heap_setCell_same _ _ _ _ _ _ hb).trans rfl)
theorem l6Read_M (m : M) (po : Option Addr) (cap : Nat) (addr : Int) (w : World) (hr : Rt m) (a0 : 0 ≤ addr) : Calls Tryz.prog 70 #[.agg (cellsM m po cap), .int .i64 addr] w fun e w' => e = .returned (.int .i64 (rd m addr)) ∧ Below w.heap.size w w' := by
  rw [cells_def]
  exact MachB.l6Read_any m.ra m.rf m.rB m.rC m.rD m.rE m.rH m.rL m.sp m.pc m.ime m.hal m.rom m.kind m.bank m.ram m.rb m.on m.mode m.work m.high po m.out cap m.cyc addr w hr.rom hr.cart hr.work hr.high a0
end Go.Proofs.YtkfehdkjeodbmaaGreatDoor.Stps
